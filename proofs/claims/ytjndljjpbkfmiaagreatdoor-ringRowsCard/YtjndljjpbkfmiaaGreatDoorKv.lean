/- A list that is full, made longer; what stays where a field is changed. -/
import Derived.Test.YtjndljjpbkfmiaaGreatDoorKu
import Derived.Test.YtjndljjpbkfmiaaGreatDoorKw
import Derived.ArgAppend
namespace Go.Proofs.YtjndljjpbkfmiaaGreatDoor
open Go.RowKit
set_option linter.unusedVariables false
set_option linter.unusedSimpArgs false
set_option maxRecDepth 100000

theorem Gx.by {L : Nat → Prop} {w w' : World} {sp : Option Addr} {n : Nat} {f : Nat → Nat} (h : Gx L w w') (hb : By w sp n f) (hs : ∀ a, sp = some a → ¬ L a.block) : By w' sp n f := fun k hk => by
  obtain ⟨a, ha, hc⟩ := hb k hk
  refine ⟨a, ha, ?_⟩
  have e : (a.add k).block = a.block := by unfold Addr.add; split <;> simp_all
  have hlt := cell_lt hc
  rw [e] at hlt
  have hbk := h.block a.block hlt (hs a ha)
  rw [← hc]
  unfold World.cell?
  rw [e, hbk]
theorem by_bysV {w : World} {a : Addr} {n : Nat} {f : Nat → Nat} (h : By w (some a) n f) : ∀ j u, (bysV f n)[j]? = some u → w.cell? (a.add j) = some u := fun j u hu => by
  unfold bysV at hu
  have hj : j < n := by
    rcases Nat.lt_or_ge j n with h1 | h1
    · exact h1
    · rw [List.getElem?_eq_none (by simp; exact h1)] at hu; cases hu
  rw [List.getElem?_map, List.getElem?_range hj] at hu
  simp at hu
  subst hu
  exact h.at hj
set_option maxHeartbeats 1000000 in
theorem longC2 (d m mk : Nat) (hm : m ≤ 1048576) (w : World) (h : By w (some ⟨d, 0, none⟩) m (fun _ => mk)) : Calls Tryz.prog 15 #[.slice (some ⟨d, 0, none⟩) m m, .int .u8 (mk : Nat)] w fun e w' => ∃ r, e = .returned r ∧ w'.ownsRow w.heap.size 5 1 r (m + 40) (bysV (fun _ => mk) (m + 40)) ∧ w.grownBy w' none := by
  obtain ⟨i8, HI8⟩ : ∃ i, Hid (Tryz.prog.info? 5 = some i ∧ i.zero = some (.int .u8 0) ∧ i.size = 1 ∧ i.bytes = 1) := by
    obtain ⟨i, h1, h2, h3, h4⟩ := info_parts info8
    exact ⟨i, h1, h2, h3, h4⟩
  go_enter Tryz.func15, Tryz.ntmps15
  go_wp2
  go_loopw [5, 0] (fun i o wr => ∃ (q : Nat) (ov : Value), ov = o ∧ q ≤ 40 ∧ i = .int .i64 (q : Nat) ∧ w.grownBy wr none ∧ (q = 0 ∧ ov = .slice (some ⟨d, 0, none⟩) m m ∨ 0 < q ∧ wr.ownsRow w.heap.size 5 1 ov (m + q) (bysV (fun _ => mk) (m + q)))) (fun i _ _ => 40 - (intOf i).toNat)
  case atStart => exact ⟨0, _, rfl, Nat.zero_le _, rfl, World.grownBy.refl _ _, .inl ⟨rfl, rfl⟩⟩
  case round =>
    obtain ⟨q, ov, rfl, hq, rfl, gw, hor⟩ := hrel
    by_cases hlt : q < 40
    · have hi1 : (q : Int) < 40 := by omega
      obtain ⟨X2, hX2⟩ : ∃ X2, wr.alloc (.cells #[.int .u8 (mk : Nat)] 5) = X2 := ⟨_, rfl⟩
      have gX2 : wr.grownBy X2 none := by rw [← hX2]; exact World.grownBy_alloc _ _ _
      have nX : ∀ l u, [Value.int .u8 (mk : Nat)][l]? = some u → X2.cell? ((⟨wr.heap.size, 0, none⟩ : Addr).add l) = some u := by rw [← hX2]; exact new1 wr _
      have sX : w.heap.size ≤ X2.heap.size := Nat.le_trans gw.size gX2.size
      rcases hor with ⟨rfl, rfl⟩ | ⟨hq0, hown⟩
      · have hby : By X2 (some ⟨d, 0, none⟩) m (fun _ => mk) := (h.kept gw (by simp)).kept gX2 (by simp)
        go_wp2_with (at_builtin; refine wpList_append_grows _ rfl _ _ 24 rfl 5 i8 (.int .u8 0) 1 1 under8S HI8.out.1 HI8.out.2.1 HI8.out.2.2.1 HI8.out.2.2.2 rfl (by decide) (some ⟨d, 0, none⟩) m m (bysV (fun _ => mk) m) rfl (by simp) (by rw [bysV_len]; omega) (fun b e => by cases e; exact by_bysV hby) ⟨wr.heap.size, 0, none⟩ 1 1 [.int .u8 (mk : Nat)] rfl rfl nX (by intro u hu; simp at hu; subst hu; rfl) (by omega) (by unfold maxLen; omega) (by omega) ?_; intro v' w' own' g')
        go_roundw
        case rel =>
          refine ⟨0 + 1, v', rfl, by omega, by go_num, gb_trans gw (gb_trans gX2 g'), .inr ⟨by omega, ?_⟩⟩
          have e : bysV (fun _ => mk) (m + (0 + 1)) = bysV (fun _ => mk) m ++ [.int .u8 (mk : Nat)] := bysV_succ _ _
          rw [e]; exact own_mono own' sX
        case measure => simp [intOf]
      · have own2 := hown.kept gX2 (Classical.em _)
        clear hown
        go_wp2_with (at_builtin; refine wpList_append_own_at _ rfl _ _ 24 rfl w.heap.size 5 i8 (.int .u8 0) 1 1 under8S HI8.out.1 HI8.out.2.1 HI8.out.2.2.1 HI8.out.2.2.2 rfl (by decide) _ _ _ rfl own2 ⟨wr.heap.size, 0, none⟩ 1 1 [.int .u8 (mk : Nat)] rfl rfl nX (by intro u hu; simp at hu; subst hu; rfl) (by unfold maxLen; omega) (by omega) sX ?_; intro v' w' own' g' hnil' hat')
        go_roundw
        case rel =>
          refine ⟨q + 1, v', rfl, hlt, by go_num, gb_beyond (gb_trans gw gX2) g' (fun i e => (own2.lt _ e).1), .inr ⟨by omega, ?_⟩⟩
          have e : bysV (fun _ => mk) (m + (q + 1)) = bysV (fun _ => mk) (m + q) ++ [.int .u8 (mk : Nat)] := bysV_succ _ _
          rw [e]; exact own'
        case measure => simp [intOf]; omega
    · have hq40 : q = 40 := by omega
      subst q
      rcases hor with ⟨h1, _⟩ | ⟨_, hown⟩
      · omega
      · go_wp2
        go_ret
        exact ⟨ov, rfl, hown, gw⟩
end Go.Proofs.YtjndljjpbkfmiaaGreatDoor
namespace Go.Proofs.YtjndljjpbkfmiaaGreatDoor
open Go.RowKit
set_option linter.unusedVariables false
set_option linter.unusedSimpArgs false
set_option maxRecDepth 100000

theorem by_none (w : World) (f : Nat → Nat) : By w none 0 f := fun k hk => absurd hk (Nat.not_lt_zero _)
/-- A field, or none, whose frame is refused. -/
structure Zf (k x y t z E : Int) (Q : World → Prop) (pf pg : Option Addr) : Prop where
  kept : ∀ X Y, Q X → X.grownBy Y none → Q Y
  ref : ∀ X, Q X → Calls Tryz.prog 10 #[.agg #[.int .u8 k, .int .i64 x, .int .i64 y, .int .u8 t, .int .i64 z], .pointer pg] X fun e Y => e = .returned (.tuple #[.agg #[.int .i64 0, .int .i64 0, .slice none 0 0], .int .i64 E]) ∧ X.grownBy Y none
  prg : ∀ X, Q X → Calls Tryz.prog 11 #[.agg #[.int .u8 k, .int .i64 x, .int .i64 y, .int .u8 t, .int .i64 z], .pointer pf] X fun e Y => e = .returned (.tuple #[.agg #[.int .i64 0, .int .i64 0, .slice none 0 0], .int .i64 E]) ∧ X.grownBy Y none
  sty : ∀ X, Q X → Calls Tryz.prog 13 #[.pointer pf, .pointer pg] X fun e Y => e = .returned (.bool true) ∧ X.grownBy Y none
set_option maxHeartbeats 2000000 in
theorem framesX (k x y t z E : Int) (hE : (E == 0) = false) (x2 y2 s2 : Int) (pk : Bool) (sp : Option Addr) (n c : Nat) (w : World) (hT : Tab w)
    (hgr : ∀ w, Calls Tryz.prog 8 #[.agg #[.int .i64 x2, .int .i64 y2, .int .i64 s2, .bool pk, .slice sp n c]] w fun e w' => e = .returned (.bool false) ∧ w.grownBy w' none)
    (hfield : ∀ w', w.grownBy w' none → Calls Tryz.prog 9 #[.agg #[.int .i64 x2, .int .i64 y2, .int .i64 s2, .bool pk, .slice sp n c]] w' fun e w2 => ∃ pf pg Q, e = .returned (.tuple #[.pointer pf, .pointer pg, .bool true]) ∧ Zf k x y t z E Q pf pg ∧ Q w2 ∧ w'.grownBy w2 none) :
    Calls Tryz.prog 3 #[.agg #[.int .u8 k, .int .i64 x, .int .i64 y, .int .u8 t, .int .i64 z], .agg #[.int .i64 x2, .int .i64 y2, .int .i64 s2, .bool pk, .slice sp n c]] w fun e w' => e = .returned (.bool true) ∧ Below w.heap.size w w' := by
  obtain ⟨W1, hW1, sz1, g1, B1⟩ := boxn w #[.int .u8 k, .int .i64 x, .int .i64 y, .int .u8 t, .int .i64 z] 23
  obtain ⟨W2, hW2, sz2, g2, B2⟩ := boxn W1 #[.int .i64 x2, .int .i64 y2, .int .i64 s2, .bool pk, .slice sp n c] 26
  have B1x := B1.kept g2 (by simp)
  have t0_0 := B1x.cell 0 (v := .int .u8 k) rfl
  have t0_1 := B1x.cell 1 (v := .int .i64 x) rfl
  have t0_2 := B1x.cell 2 (v := .int .i64 y) rfl
  have t0_3 := B1x.cell 3 (v := .int .u8 t) rfl
  have t0_4 := B1x.cell 4 (v := .int .i64 z) rfl
  have k0_0 := B2.cell 0 (v := .int .i64 x2) rfl
  have k0_1 := B2.cell 1 (v := .int .i64 y2) rfl
  have k0_2 := B2.cell 2 (v := .int .i64 s2) rfl
  have k0_3 := B2.cell 3 (v := .bool pk) rfl
  have k0_4 := B2.cell 4 (v := .slice sp n c) rfl
  have hT2 := hT.kept (gb_trans g1 g2)
  have hnone : ∀ {X : World}, By X none 0 (fun _ => 0) := fun {X} => by_none X _
  go_enter Tryz.func3, Tryz.ntmps3
  go_wp2_with (first | (go_at_call 7; refine (aliveC W2 hT2).mono ?_; rintro e V1 ⟨rfl, g3⟩; have tB1 := B1x.kept g3 (by simp); have t1_0 := tB1.cell 0 (v := .int .u8 k) rfl; have t1_1 := tB1.cell 1 (v := .int .i64 x) rfl; have t1_2 := tB1.cell 2 (v := .int .i64 y) rfl; have t1_3 := tB1.cell 3 (v := .int .u8 t) rfl; have t1_4 := tB1.cell 4 (v := .int .i64 z) rfl; have kB1 := B2.kept g3 (by simp); have k1_0 := kB1.cell 0 (v := .int .i64 x2) rfl; have k1_1 := kB1.cell 1 (v := .int .i64 y2) rfl; have k1_2 := kB1.cell 2 (v := .int .i64 s2) rfl; have k1_3 := kB1.cell 3 (v := .bool pk) rfl; have k1_4 := kB1.cell 4 (v := .slice sp n c) rfl) | (go_at_call 8; refine (hgr V1).mono ?_; rintro e V2 ⟨rfl, g4⟩; have tB2 := tB1.kept g4 (by simp); have t2_0 := tB2.cell 0 (v := .int .u8 k) rfl; have t2_1 := tB2.cell 1 (v := .int .i64 x) rfl; have t2_2 := tB2.cell 2 (v := .int .i64 y) rfl; have t2_3 := tB2.cell 3 (v := .int .u8 t) rfl; have t2_4 := tB2.cell 4 (v := .int .i64 z) rfl; have kB2 := kB1.kept g4 (by simp); have k2_0 := kB2.cell 0 (v := .int .i64 x2) rfl; have k2_1 := kB2.cell 1 (v := .int .i64 y2) rfl; have k2_2 := kB2.cell 2 (v := .int .i64 s2) rfl; have k2_3 := kB2.cell 3 (v := .bool pk) rfl; have k2_4 := kB2.cell 4 (v := .slice sp n c) rfl; have hfd := hfield V2 (gb_trans (gb_trans g1 g2) (gb_trans g3 g4))) | (go_at_call 9; refine hfd.mono ?_; rintro e V3 ⟨pf, pg, Q, rfl, ZQ, q3, g5⟩; have tB3 := tB2.kept g5 (by simp); have t3_0 := tB3.cell 0 (v := .int .u8 k) rfl; have t3_1 := tB3.cell 1 (v := .int .i64 x) rfl; have t3_2 := tB3.cell 2 (v := .int .i64 y) rfl; have t3_3 := tB3.cell 3 (v := .int .u8 t) rfl; have t3_4 := tB3.cell 4 (v := .int .i64 z) rfl; have kB3 := kB2.kept g5 (by simp); have k3_0 := kB3.cell 0 (v := .int .i64 x2) rfl; have k3_1 := kB3.cell 1 (v := .int .i64 y2) rfl; have k3_2 := kB3.cell 2 (v := .int .i64 s2) rfl; have k3_3 := kB3.cell 3 (v := .bool pk) rfl; have k3_4 := kB3.cell 4 (v := .slice sp n c) rfl; have hrb := ZQ.ref V3 q3) | (go_at_call 10; refine hrb.mono ?_; rintro e V4 ⟨rfl, g6⟩; obtain ⟨W5, hW5, sz5, g7, BW⟩ := boxn V4 #[.int .i64 0, .int .i64 0, .slice none 0 0] 33; have g67 := gb_trans g6 g7; have tB4 := tB3.kept g67 (by simp); have t4_0 := tB4.cell 0 (v := .int .u8 k) rfl; have t4_1 := tB4.cell 1 (v := .int .i64 x) rfl; have t4_2 := tB4.cell 2 (v := .int .i64 y) rfl; have t4_3 := tB4.cell 3 (v := .int .u8 t) rfl; have t4_4 := tB4.cell 4 (v := .int .i64 z) rfl; have kB4 := kB3.kept g67 (by simp); have k4_0 := kB4.cell 0 (v := .int .i64 x2) rfl; have k4_1 := kB4.cell 1 (v := .int .i64 y2) rfl; have k4_2 := kB4.cell 2 (v := .int .i64 s2) rfl; have k4_3 := kB4.cell 3 (v := .bool pk) rfl; have k4_4 := kB4.cell 4 (v := .slice sp n c) rfl; have q5 := ZQ.kept _ _ q3 g67; have w0_0 := BW.cell 0 (v := .int .i64 0) rfl; have w0_1 := BW.cell 1 (v := .int .i64 0) rfl; have w0_2 := BW.cell 2 (v := .slice none 0 0) rfl; have ws0 := BW.same 0 (v := .int .i64 0) rfl; have ws1 := BW.same 1 (v := .int .i64 0) rfl; have ws2 := BW.same 2 (v := .slice none 0 0) rfl; have wf0 := BW.frozen 0; have wf1 := BW.frozen 1; have wf2 := BW.frozen 2; have hb1 := ZQ.prg W5 q5) | ((fail_if_success (guard_hyp g8)); go_at_call 11; refine hb1.mono ?_; rintro e V6 ⟨rfl, g8⟩; obtain ⟨W7, hW7, sz7, g9, BA⟩ := boxn V6 #[.int .i64 0, .int .i64 0, .slice none 0 0] 33; have g89 := gb_trans g8 g9; have tB5 := tB4.kept g89 (by simp); have t5_0 := tB5.cell 0 (v := .int .u8 k) rfl; have t5_1 := tB5.cell 1 (v := .int .i64 x) rfl; have t5_2 := tB5.cell 2 (v := .int .i64 y) rfl; have t5_3 := tB5.cell 3 (v := .int .u8 t) rfl; have t5_4 := tB5.cell 4 (v := .int .i64 z) rfl; have kB5 := kB4.kept g89 (by simp); have k5_0 := kB5.cell 0 (v := .int .i64 x2) rfl; have k5_1 := kB5.cell 1 (v := .int .i64 y2) rfl; have k5_2 := kB5.cell 2 (v := .int .i64 s2) rfl; have k5_3 := kB5.cell 3 (v := .bool pk) rfl; have k5_4 := kB5.cell 4 (v := .slice sp n c) rfl; have wB5 := BW.kept g89 (by simp); have w5_0 := wB5.cell 0 (v := .int .i64 0) rfl; have w5_1 := wB5.cell 1 (v := .int .i64 0) rfl; have w5_2 := wB5.cell 2 (v := .slice none 0 0) rfl; have q7 := ZQ.kept _ _ q5 g89; have a0_0 := BA.cell 0 (v := .int .i64 0) rfl; have a0_1 := BA.cell 1 (v := .int .i64 0) rfl; have a0_2 := BA.cell 2 (v := .slice none 0 0) rfl; have as0 := BA.same 0 (v := .int .i64 0) rfl; have as1 := BA.same 1 (v := .int .i64 0) rfl; have as2 := BA.same 2 (v := .slice none 0 0) rfl; have af0 := BA.frozen 0; have af1 := BA.frozen 1; have af2 := BA.frozen 2; have hb2 := ZQ.prg W7 q7) | (guard_hyp g8; go_at_call 11; refine hb2.mono ?_; rintro e V8 ⟨rfl, g10⟩; obtain ⟨W9, hW9, sz9, g11, BB⟩ := boxn V8 #[.int .i64 0, .int .i64 0, .slice none 0 0] 33; have g101 := gb_trans g10 g11; have tB6 := tB5.kept g101 (by simp); have t6_0 := tB6.cell 0 (v := .int .u8 k) rfl; have t6_1 := tB6.cell 1 (v := .int .i64 x) rfl; have t6_2 := tB6.cell 2 (v := .int .i64 y) rfl; have t6_3 := tB6.cell 3 (v := .int .u8 t) rfl; have t6_4 := tB6.cell 4 (v := .int .i64 z) rfl; have kB6 := kB5.kept g101 (by simp); have k6_0 := kB6.cell 0 (v := .int .i64 x2) rfl; have k6_1 := kB6.cell 1 (v := .int .i64 y2) rfl; have k6_2 := kB6.cell 2 (v := .int .i64 s2) rfl; have k6_3 := kB6.cell 3 (v := .bool pk) rfl; have k6_4 := kB6.cell 4 (v := .slice sp n c) rfl; have wB6 := wB5.kept g101 (by simp); have w6_0 := wB6.cell 0 (v := .int .i64 0) rfl; have w6_1 := wB6.cell 1 (v := .int .i64 0) rfl; have w6_2 := wB6.cell 2 (v := .slice none 0 0) rfl; have aB6 := BA.kept g101 (by simp); have a6_0 := aB6.cell 0 (v := .int .i64 0) rfl; have a6_1 := aB6.cell 1 (v := .int .i64 0) rfl; have a6_2 := aB6.cell 2 (v := .slice none 0 0) rfl; have q9 := ZQ.kept _ _ q7 g101; have b0_0 := BB.cell 0 (v := .int .i64 0) rfl; have b0_1 := BB.cell 1 (v := .int .i64 0) rfl; have b0_2 := BB.cell 2 (v := .slice none 0 0) rfl; have bs0 := BB.same 0 (v := .int .i64 0) rfl; have bs1 := BB.same 1 (v := .int .i64 0) rfl; have bs2 := BB.same 2 (v := .slice none 0 0) rfl; have bf0 := BB.frozen 0; have bf1 := BB.frozen 1; have bf2 := BB.frozen 2; have hs1 := sameF 0 0 0 0 0 none none (fun _ => 0) (fun _ => by decide) W9 hnone hnone) | ((fail_if_success (guard_hyp g12)); go_at_call 12; refine hs1.mono ?_; rintro e V10 ⟨rfl, g12⟩; have tB7 := tB6.kept g12 (by simp); have t7_0 := tB7.cell 0 (v := .int .u8 k) rfl; have t7_1 := tB7.cell 1 (v := .int .i64 x) rfl; have t7_2 := tB7.cell 2 (v := .int .i64 y) rfl; have t7_3 := tB7.cell 3 (v := .int .u8 t) rfl; have t7_4 := tB7.cell 4 (v := .int .i64 z) rfl; have kB7 := kB6.kept g12 (by simp); have k7_0 := kB7.cell 0 (v := .int .i64 x2) rfl; have k7_1 := kB7.cell 1 (v := .int .i64 y2) rfl; have k7_2 := kB7.cell 2 (v := .int .i64 s2) rfl; have k7_3 := kB7.cell 3 (v := .bool pk) rfl; have k7_4 := kB7.cell 4 (v := .slice sp n c) rfl; have wB7 := wB6.kept g12 (by simp); have w7_0 := wB7.cell 0 (v := .int .i64 0) rfl; have w7_1 := wB7.cell 1 (v := .int .i64 0) rfl; have w7_2 := wB7.cell 2 (v := .slice none 0 0) rfl; have aB7 := aB6.kept g12 (by simp); have a7_0 := aB7.cell 0 (v := .int .i64 0) rfl; have a7_1 := aB7.cell 1 (v := .int .i64 0) rfl; have a7_2 := aB7.cell 2 (v := .slice none 0 0) rfl; have bB7 := BB.kept g12 (by simp); have b7_0 := bB7.cell 0 (v := .int .i64 0) rfl; have b7_1 := bB7.cell 1 (v := .int .i64 0) rfl; have b7_2 := bB7.cell 2 (v := .slice none 0 0) rfl; have q10 := ZQ.kept _ _ q9 g12; have hs2 := sameF 0 0 0 0 0 none none (fun _ => 0) (fun _ => by decide) V10 hnone hnone) | (guard_hyp g12; go_at_call 12; refine hs2.mono ?_; rintro e V11 ⟨rfl, g13⟩; have tB8 := tB7.kept g13 (by simp); have t8_0 := tB8.cell 0 (v := .int .u8 k) rfl; have t8_1 := tB8.cell 1 (v := .int .i64 x) rfl; have t8_2 := tB8.cell 2 (v := .int .i64 y) rfl; have t8_3 := tB8.cell 3 (v := .int .u8 t) rfl; have t8_4 := tB8.cell 4 (v := .int .i64 z) rfl; have kB8 := kB7.kept g13 (by simp); have k8_0 := kB8.cell 0 (v := .int .i64 x2) rfl; have k8_1 := kB8.cell 1 (v := .int .i64 y2) rfl; have k8_2 := kB8.cell 2 (v := .int .i64 s2) rfl; have k8_3 := kB8.cell 3 (v := .bool pk) rfl; have k8_4 := kB8.cell 4 (v := .slice sp n c) rfl; have wB8 := wB7.kept g13 (by simp); have w8_0 := wB8.cell 0 (v := .int .i64 0) rfl; have w8_1 := wB8.cell 1 (v := .int .i64 0) rfl; have w8_2 := wB8.cell 2 (v := .slice none 0 0) rfl; have aB8 := aB7.kept g13 (by simp); have a8_0 := aB8.cell 0 (v := .int .i64 0) rfl; have a8_1 := aB8.cell 1 (v := .int .i64 0) rfl; have a8_2 := aB8.cell 2 (v := .slice none 0 0) rfl; have bB8 := bB7.kept g13 (by simp); have b8_0 := bB8.cell 0 (v := .int .i64 0) rfl; have b8_1 := bB8.cell 1 (v := .int .i64 0) rfl; have b8_2 := bB8.cell 2 (v := .slice none 0 0) rfl; have q11 := ZQ.kept _ _ q10 g13; have hst := ZQ.sty V11 q11) | (go_at_call 13; refine hst.mono ?_; rintro e V12 ⟨rfl, g14⟩; have tB9 := tB8.kept g14 (by simp); have t9_0 := tB9.cell 0 (v := .int .u8 k) rfl; have t9_1 := tB9.cell 1 (v := .int .i64 x) rfl; have t9_2 := tB9.cell 2 (v := .int .i64 y) rfl; have t9_3 := tB9.cell 3 (v := .int .u8 t) rfl; have t9_4 := tB9.cell 4 (v := .int .i64 z) rfl; have kB9 := kB8.kept g14 (by simp); have k9_0 := kB9.cell 0 (v := .int .i64 x2) rfl; have k9_1 := kB9.cell 1 (v := .int .i64 y2) rfl; have k9_2 := kB9.cell 2 (v := .int .i64 s2) rfl; have k9_3 := kB9.cell 3 (v := .bool pk) rfl; have k9_4 := kB9.cell 4 (v := .slice sp n c) rfl; have wB9 := wB8.kept g14 (by simp); have w9_0 := wB9.cell 0 (v := .int .i64 0) rfl; have w9_1 := wB9.cell 1 (v := .int .i64 0) rfl; have w9_2 := wB9.cell 2 (v := .slice none 0 0) rfl; have aB9 := aB8.kept g14 (by simp); have a9_0 := aB9.cell 0 (v := .int .i64 0) rfl; have a9_1 := aB9.cell 1 (v := .int .i64 0) rfl; have a9_2 := aB9.cell 2 (v := .slice none 0 0) rfl; have bB9 := bB8.kept g14 (by simp); have b9_0 := bB9.cell 0 (v := .int .i64 0) rfl; have b9_1 := bB9.cell 1 (v := .int .i64 0) rfl; have b9_2 := bB9.cell 2 (v := .slice none 0 0) rfl))
  go_ret
  exact ⟨rfl, gb_below (gb_trans (gb_trans g1 g2) (gb_trans (gb_trans g3 g4) (gb_trans g5 (gb_trans g67 (gb_trans g89 (gb_trans g101 (gb_trans g12 (gb_trans g13 g14))))))))⟩
end Go.Proofs.YtjndljjpbkfmiaaGreatDoor
namespace Go.Proofs.YtjndljjpbkfmiaaGreatDoor
open Go.RowKit
set_option linter.unusedVariables false
set_option linter.unusedSimpArgs false
set_option maxRecDepth 100000

theorem frV_lt (k t z : Int) (C R : Nat) {g : Nat → Nat} {n : Nat} (h0 : 0 < n) (h : ∀ i, g i < n) (i : Nat) : frV k t z C R g i < n := by
  unfold frV plS
  split
  · exact h _
  · exact h0
theorem row_lt {w : World} {b n : Nat} {t : TypeId} {f : Nat → Value} (h : w.rowIs b t n f) : b < w.heap.size := by
  obtain ⟨c, hc, _⟩ := h
  exact (Array.getElem?_eq_some_iff.1 hc).1
set_option maxHeartbeats 8000000 in
theorem framesY {k t z : Int} {C R S : Nat} (G : Gr k t z C R) (hz : Sz C R S) (hm2 : (C + 2) * (R + 2) ≤ 1000000) (pk : Bool) (hpk : pk = true → S = 2) (sp : Option Addr) (n c : Nat) (f : Nat → Nat) (hn : n ≤ 140737488351232) (h256 : ∀ i, f i < 256) (w : World) (hb : By w sp n f) (hT : Tab w)
    (hgr : ∀ w, Calls Tryz.prog 8 #[.agg #[.int .i64 (C : Nat), .int .i64 (R : Nat), .int .i64 (S : Nat), .bool pk, .slice sp n c]] w fun e w' => e = .returned (.bool false) ∧ w.grownBy w' none) :
    Calls Tryz.prog 3 #[.agg #[.int .u8 k, .int .i64 (C : Nat), .int .i64 (R : Nat), .int .u8 t, .int .i64 z], .agg #[.int .i64 (C : Nat), .int .i64 (R : Nat), .int .i64 (S : Nat), .bool pk, .slice sp n c]] w fun e w' => e = .returned (.bool true) ∧ Below w.heap.size w w' := by
  obtain ⟨W1, hW1, sz1, g1, B1⟩ := boxn w #[.int .u8 k, .int .i64 (C : Nat), .int .i64 (R : Nat), .int .u8 t, .int .i64 z] 23
  obtain ⟨W2, hW2, sz2, g2, B2⟩ := boxn W1 #[.int .i64 (C : Nat), .int .i64 (R : Nat), .int .i64 (S : Nat), .bool pk, .slice sp n c] 26
  have B1x := B1.kept g2 (by simp)
  have t0_0 := B1x.cell 0 (v := .int .u8 k) rfl
  have t0_1 := B1x.cell 1 (v := .int .i64 (C : Nat)) rfl
  have t0_2 := B1x.cell 2 (v := .int .i64 (R : Nat)) rfl
  have t0_3 := B1x.cell 3 (v := .int .u8 t) rfl
  have t0_4 := B1x.cell 4 (v := .int .i64 z) rfl
  have k0_0 := B2.cell 0 (v := .int .i64 (C : Nat)) rfl
  have k0_1 := B2.cell 1 (v := .int .i64 (R : Nat)) rfl
  have k0_2 := B2.cell 2 (v := .int .i64 (S : Nat)) rfl
  have k0_3 := B2.cell 3 (v := .bool pk) rfl
  have k0_4 := B2.cell 4 (v := .slice sp n c) rfl
  have hT2 := hT.kept (gb_trans g1 g2)
  obtain ⟨gK, hgK⟩ : ∃ gK, kpG n f S = gK := ⟨_, rfl⟩
  have HGK : Hid (kpG n f S = gK) := hgK
  have hS0 := hz.s0
  have hS1 := hz.s1
  have HGB : Hid (∀ i, gK i < 256) := fun i => by rw [← hgK]; exact Nat.lt_of_lt_of_le (kpG_lt (by omega) i) hS1
  clear hgK
  have HFR : Hid (∀ i, frV k t z C R gK i < 256) := fun i => frV_lt k t z C R (by decide) HGB.out i
  have HFN : Hid (∀ i, frV k t z C R (fun k => (gK k + 1) % S) i < 256) := fun i => frV_lt k t z C R (by decide) (fun j => Nat.lt_of_lt_of_le (Nat.mod_lt _ (by omega)) hS1) i
  obtain ⟨m, hm⟩ : ∃ m, (C + 2) * (R + 2) = m := ⟨_, rfl⟩
  have HM : Hid ((C + 2) * (R + 2) = m) := hm
  have hm0 : 0 < m := by rw [← hm]; exact Nat.mul_pos (by omega) (by omega)
  rw [hm] at hm2
  clear hm
  go_enter Tryz.func3, Tryz.ntmps3
  go_wp2_with (first | (go_at_call 7; refine (aliveC W2 hT2).mono ?_; rintro e V1 ⟨rfl, g3⟩; have tB1 := B1x.kept g3 (by simp); have t1_0 := tB1.cell 0 (v := .int .u8 k) rfl; have t1_1 := tB1.cell 1 (v := .int .i64 (C : Nat)) rfl; have t1_2 := tB1.cell 2 (v := .int .i64 (R : Nat)) rfl; have t1_3 := tB1.cell 3 (v := .int .u8 t) rfl; have t1_4 := tB1.cell 4 (v := .int .i64 z) rfl; have kB1 := B2.kept g3 (by simp); have k1_0 := kB1.cell 0 (v := .int .i64 (C : Nat)) rfl; have k1_1 := kB1.cell 1 (v := .int .i64 (R : Nat)) rfl; have k1_2 := kB1.cell 2 (v := .int .i64 (S : Nat)) rfl; have k1_3 := kB1.cell 3 (v := .bool pk) rfl; have k1_4 := kB1.cell 4 (v := .slice sp n c) rfl) | (go_at_call 8; refine (hgr V1).mono ?_; rintro e V2 ⟨rfl, g4⟩; have tB2 := tB1.kept g4 (by simp); have t2_0 := tB2.cell 0 (v := .int .u8 k) rfl; have t2_1 := tB2.cell 1 (v := .int .i64 (C : Nat)) rfl; have t2_2 := tB2.cell 2 (v := .int .i64 (R : Nat)) rfl; have t2_3 := tB2.cell 3 (v := .int .u8 t) rfl; have t2_4 := tB2.cell 4 (v := .int .i64 z) rfl; have kB2 := kB1.kept g4 (by simp); have k2_0 := kB2.cell 0 (v := .int .i64 (C : Nat)) rfl; have k2_1 := kB2.cell 1 (v := .int .i64 (R : Nat)) rfl; have k2_2 := kB2.cell 2 (v := .int .i64 (S : Nat)) rfl; have k2_3 := kB2.cell 3 (v := .bool pk) rfl; have k2_4 := kB2.cell 4 (v := .slice sp n c) rfl; have G4 := gb_trans (gb_trans g1 g2) (gb_trans g3 g4); have hfd := keptY C R S pk hz hpk sp n c f hn h256 V2 (hb.kept G4 (by simp)); rw [HGK.out] at hfd) | (go_at_call 9; refine hfd.mono ?_; rintro e V3 ⟨b, M, L, r, d, rfl, F, hM, hRf, hL, lr, ld, hnr, hnd, g5⟩; have tB3 := tB2.kept g5 (by simp); have t3_0 := tB3.cell 0 (v := .int .u8 k) rfl; have t3_1 := tB3.cell 1 (v := .int .i64 (C : Nat)) rfl; have t3_2 := tB3.cell 2 (v := .int .i64 (R : Nat)) rfl; have t3_3 := tB3.cell 3 (v := .int .u8 t) rfl; have t3_4 := tB3.cell 4 (v := .int .i64 z) rfl; have kB3 := kB2.kept g5 (by simp); have k3_0 := kB3.cell 0 (v := .int .i64 (C : Nat)) rfl; have k3_1 := kB3.cell 1 (v := .int .i64 (R : Nat)) rfl; have k3_2 := kB3.cell 2 (v := .int .i64 (S : Nat)) rfl; have k3_3 := kB3.cell 3 (v := .bool pk) rfl; have k3_4 := kB3.cell 4 (v := .slice sp n c) rfl; have hrb := refBytesY G r d S pk gK hz V3 hRf; rw [HM.out] at hrb) | ((fail_if_success (guard_hyp g6)); go_at_call 10; refine hrb.mono ?_; rintro e V4 ⟨p, cp, rfl, hbp, hlp, g6⟩; obtain ⟨W5, hW5, sz5, g7, BW⟩ := boxn V4 #[.int .i64 (C : Nat), .int .i64 (R : Nat), .slice p m cp] 33; have g67 := gb_trans g6 g7; have tB4 := tB3.kept g67 (by simp); have t4_0 := tB4.cell 0 (v := .int .u8 k) rfl; have t4_1 := tB4.cell 1 (v := .int .i64 (C : Nat)) rfl; have t4_2 := tB4.cell 2 (v := .int .i64 (R : Nat)) rfl; have t4_3 := tB4.cell 3 (v := .int .u8 t) rfl; have t4_4 := tB4.cell 4 (v := .int .i64 z) rfl; have kB4 := kB3.kept g67 (by simp); have k4_0 := kB4.cell 0 (v := .int .i64 (C : Nat)) rfl; have k4_1 := kB4.cell 1 (v := .int .i64 (R : Nat)) rfl; have k4_2 := kB4.cell 2 (v := .int .i64 (S : Nat)) rfl; have k4_3 := kB4.cell 3 (v := .bool pk) rfl; have k4_4 := kB4.cell 4 (v := .slice sp n c) rfl; have w0_0 := BW.cell 0 (v := .int .i64 (C : Nat)) rfl; have w0_1 := BW.cell 1 (v := .int .i64 (R : Nat)) rfl; have w0_2 := BW.cell 2 (v := .slice p m cp) rfl; have hM5 := F.grown hM g67; have hbp5 := hbp.kept g7 (by simp); have hb1 := bytesY G (F.fdm gK W5.heap.size (F.lts _ _ hM5)) W5 (Nat.le_refl _) hM5; rw [HM.out] at hb1) | ((fail_if_success (guard_hyp g8)); go_at_call 11; refine hb1.mono ?_; rintro e V6 ⟨d1, rfl, r1, l1, g8⟩; obtain ⟨W7, hW7, sz7, g9, BA⟩ := boxn V6 #[.int .i64 (C : Nat), .int .i64 (R : Nat), .slice (some ⟨d1, 0, none⟩) m m] 33; have g89 := gb_trans g8 g9; have tB5 := tB4.kept g89 (by simp); have t5_0 := tB5.cell 0 (v := .int .u8 k) rfl; have t5_1 := tB5.cell 1 (v := .int .i64 (C : Nat)) rfl; have t5_2 := tB5.cell 2 (v := .int .i64 (R : Nat)) rfl; have t5_3 := tB5.cell 3 (v := .int .u8 t) rfl; have t5_4 := tB5.cell 4 (v := .int .i64 z) rfl; have kB5 := kB4.kept g89 (by simp); have k5_0 := kB5.cell 0 (v := .int .i64 (C : Nat)) rfl; have k5_1 := kB5.cell 1 (v := .int .i64 (R : Nat)) rfl; have k5_2 := kB5.cell 2 (v := .int .i64 (S : Nat)) rfl; have k5_3 := kB5.cell 3 (v := .bool pk) rfl; have k5_4 := kB5.cell 4 (v := .slice sp n c) rfl; have wB5 := BW.kept g89 (by simp); have w5_0 := wB5.cell 0 (v := .int .i64 (C : Nat)) rfl; have w5_1 := wB5.cell 1 (v := .int .i64 (R : Nat)) rfl; have w5_2 := wB5.cell 2 (v := .slice p m cp) rfl; have a0_0 := BA.cell 0 (v := .int .i64 (C : Nat)) rfl; have a0_1 := BA.cell 1 (v := .int .i64 (R : Nat)) rfl; have a0_2 := BA.cell 2 (v := .slice (some ⟨d1, 0, none⟩) m m) rfl; have hM7 := F.grown hM5 g89; have hb2 := bytesY G (F.fdm gK W7.heap.size (F.lts _ _ hM7)) W7 (Nat.le_refl _) hM7; rw [HM.out] at hb2) | ((fail_if_success (guard_hyp g10)); go_at_call 11; refine hb2.mono ?_; rintro e V8 ⟨d2, rfl, r2, l2, g10⟩; obtain ⟨W9, hW9, sz9, g11, BB⟩ := boxn V8 #[.int .i64 (C : Nat), .int .i64 (R : Nat), .slice (some ⟨d2, 0, none⟩) m m] 33; have g101 := gb_trans g10 g11; have tB6 := tB5.kept g101 (by simp); have t6_0 := tB6.cell 0 (v := .int .u8 k) rfl; have t6_1 := tB6.cell 1 (v := .int .i64 (C : Nat)) rfl; have t6_2 := tB6.cell 2 (v := .int .i64 (R : Nat)) rfl; have t6_3 := tB6.cell 3 (v := .int .u8 t) rfl; have t6_4 := tB6.cell 4 (v := .int .i64 z) rfl; have kB6 := kB5.kept g101 (by simp); have k6_0 := kB6.cell 0 (v := .int .i64 (C : Nat)) rfl; have k6_1 := kB6.cell 1 (v := .int .i64 (R : Nat)) rfl; have k6_2 := kB6.cell 2 (v := .int .i64 (S : Nat)) rfl; have k6_3 := kB6.cell 3 (v := .bool pk) rfl; have k6_4 := kB6.cell 4 (v := .slice sp n c) rfl; have wB6 := wB5.kept g101 (by simp); have w6_0 := wB6.cell 0 (v := .int .i64 (C : Nat)) rfl; have w6_1 := wB6.cell 1 (v := .int .i64 (R : Nat)) rfl; have w6_2 := wB6.cell 2 (v := .slice p m cp) rfl; have aB6 := BA.kept g101 (by simp); have a6_0 := aB6.cell 0 (v := .int .i64 (C : Nat)) rfl; have a6_1 := aB6.cell 1 (v := .int .i64 (R : Nat)) rfl; have a6_2 := aB6.cell 2 (v := .slice (some ⟨d1, 0, none⟩) m m) rfl; have b0_0 := BB.cell 0 (v := .int .i64 (C : Nat)) rfl; have b0_1 := BB.cell 1 (v := .int .i64 (R : Nat)) rfl; have b0_2 := BB.cell 2 (v := .slice (some ⟨d2, 0, none⟩) m m) rfl; have g99 := gb_trans g9 g101; have r19 := rowIs_kept r1 g99 (by simp); have r29 := rowIs_kept r2 g11 (by simp); have hp9 := hbp5.kept (gb_trans g89 g101) (by simp); have hs1 := sameF C R m m cp (some ⟨d1, 0, none⟩) p _ HFR.out W9 (rowIs_by r19) hp9) | ((fail_if_success (guard_hyp g12)); go_at_call 12; refine hs1.mono ?_; rintro e V10 ⟨rfl, g12⟩; have tB7 := tB6.kept g12 (by simp); have t7_0 := tB7.cell 0 (v := .int .u8 k) rfl; have t7_1 := tB7.cell 1 (v := .int .i64 (C : Nat)) rfl; have t7_2 := tB7.cell 2 (v := .int .i64 (R : Nat)) rfl; have t7_3 := tB7.cell 3 (v := .int .u8 t) rfl; have t7_4 := tB7.cell 4 (v := .int .i64 z) rfl; have kB7 := kB6.kept g12 (by simp); have k7_0 := kB7.cell 0 (v := .int .i64 (C : Nat)) rfl; have k7_1 := kB7.cell 1 (v := .int .i64 (R : Nat)) rfl; have k7_2 := kB7.cell 2 (v := .int .i64 (S : Nat)) rfl; have k7_3 := kB7.cell 3 (v := .bool pk) rfl; have k7_4 := kB7.cell 4 (v := .slice sp n c) rfl; have wB7 := wB6.kept g12 (by simp); have w7_0 := wB7.cell 0 (v := .int .i64 (C : Nat)) rfl; have w7_1 := wB7.cell 1 (v := .int .i64 (R : Nat)) rfl; have w7_2 := wB7.cell 2 (v := .slice p m cp) rfl; have aB7 := aB6.kept g12 (by simp); have a7_0 := aB7.cell 0 (v := .int .i64 (C : Nat)) rfl; have a7_1 := aB7.cell 1 (v := .int .i64 (R : Nat)) rfl; have a7_2 := aB7.cell 2 (v := .slice (some ⟨d1, 0, none⟩) m m) rfl; have bB7 := BB.kept g12 (by simp); have b7_0 := bB7.cell 0 (v := .int .i64 (C : Nat)) rfl; have b7_1 := bB7.cell 1 (v := .int .i64 (R : Nat)) rfl; have b7_2 := bB7.cell 2 (v := .slice (some ⟨d2, 0, none⟩) m m) rfl; have hs2 := sameF C R m m cp (some ⟨d2, 0, none⟩) p _ HFR.out V10 (rowIs_by (rowIs_kept r29 g12 (by simp))) (hp9.kept g12 (by simp))) | ((fail_if_success (guard_hyp g13)); go_at_call 12; refine hs2.mono ?_; rintro e V11 ⟨rfl, g13⟩; have tB8 := tB7.kept g13 (by simp); have t8_0 := tB8.cell 0 (v := .int .u8 k) rfl; have t8_1 := tB8.cell 1 (v := .int .i64 (C : Nat)) rfl; have t8_2 := tB8.cell 2 (v := .int .i64 (R : Nat)) rfl; have t8_3 := tB8.cell 3 (v := .int .u8 t) rfl; have t8_4 := tB8.cell 4 (v := .int .i64 z) rfl; have kB8 := kB7.kept g13 (by simp); have k8_0 := kB8.cell 0 (v := .int .i64 (C : Nat)) rfl; have k8_1 := kB8.cell 1 (v := .int .i64 (R : Nat)) rfl; have k8_2 := kB8.cell 2 (v := .int .i64 (S : Nat)) rfl; have k8_3 := kB8.cell 3 (v := .bool pk) rfl; have k8_4 := kB8.cell 4 (v := .slice sp n c) rfl; have wB8 := wB7.kept g13 (by simp); have w8_0 := wB8.cell 0 (v := .int .i64 (C : Nat)) rfl; have w8_1 := wB8.cell 1 (v := .int .i64 (R : Nat)) rfl; have w8_2 := wB8.cell 2 (v := .slice p m cp) rfl; have aB8 := aB7.kept g13 (by simp); have a8_0 := aB8.cell 0 (v := .int .i64 (C : Nat)) rfl; have a8_1 := aB8.cell 1 (v := .int .i64 (R : Nat)) rfl; have a8_2 := aB8.cell 2 (v := .slice (some ⟨d1, 0, none⟩) m m) rfl; have bB8 := bB7.kept g13 (by simp); have b8_0 := bB8.cell 0 (v := .int .i64 (C : Nat)) rfl; have b8_1 := bB8.cell 1 (v := .int .i64 (R : Nat)) rfl; have b8_2 := bB8.cell 2 (v := .slice (some ⟨d2, 0, none⟩) m m) rfl; have g3to := gb_trans g67 (gb_trans g89 (gb_trans g101 (gb_trans g12 g13))); have hM11 := F.grown hM g3to; have hR11 := hRf.kept g3to (by simp) (by simp); have hst := staysY F hz r d gK HGB.out V11 hM11 hR11) | ((fail_if_success (guard_hyp g14)); go_at_call 13; refine hst.mono ?_; rintro e V12 ⟨rfl, g14⟩; have tB9 := tB8.kept g14 (by simp); have t9_0 := tB9.cell 0 (v := .int .u8 k) rfl; have t9_1 := tB9.cell 1 (v := .int .i64 (C : Nat)) rfl; have t9_2 := tB9.cell 2 (v := .int .i64 (R : Nat)) rfl; have t9_3 := tB9.cell 3 (v := .int .u8 t) rfl; have t9_4 := tB9.cell 4 (v := .int .i64 z) rfl; have kB9 := kB8.kept g14 (by simp); have k9_0 := kB9.cell 0 (v := .int .i64 (C : Nat)) rfl; have k9_1 := kB9.cell 1 (v := .int .i64 (R : Nat)) rfl; have k9_2 := kB9.cell 2 (v := .int .i64 (S : Nat)) rfl; have k9_3 := kB9.cell 3 (v := .bool pk) rfl; have k9_4 := kB9.cell 4 (v := .slice sp n c) rfl; have wB9 := wB8.kept g14 (by simp); have w9_0 := wB9.cell 0 (v := .int .i64 (C : Nat)) rfl; have w9_1 := wB9.cell 1 (v := .int .i64 (R : Nat)) rfl; have w9_2 := wB9.cell 2 (v := .slice p m cp) rfl; have aB9 := aB8.kept g14 (by simp); have a9_0 := aB9.cell 0 (v := .int .i64 (C : Nat)) rfl; have a9_1 := aB9.cell 1 (v := .int .i64 (R : Nat)) rfl; have a9_2 := aB9.cell 2 (v := .slice (some ⟨d1, 0, none⟩) m m) rfl; have bB9 := bB8.kept g14 (by simp); have b9_0 := bB9.cell 0 (v := .int .i64 (C : Nat)) rfl; have b9_1 := bB9.cell 1 (v := .int .i64 (R : Nat)) rfl; have b9_2 := bB9.cell 2 (v := .slice (some ⟨d2, 0, none⟩) m m) rfl; have g914 := gb_trans g12 (gb_trans g13 g14); have r112 := rowIs_kept r19 g914 (by simp); have own12 : V12.ownsRow W5.heap.size 5 1 (.slice (some ⟨d1, 0, none⟩) m m) m (bysV (frV k t z C R gK) m) := row_own l1 (Nat.le_refl _) (by unfold maxLen; omega) r112 (fun _ _ => rfl); have hfu := fullC W5.heap.size m 251 _ (.slice (some ⟨d1, 0, none⟩) m m) (by omega) V12 own12))
  have zz1 := B1.lt
  have zz2 := B2.lt
  have zz3 := g3.size
  have zz4 := g4.size
  have zz5 := g5.size
  have zz6 := g6.size
  have zz7 := BW.lt
  have zz8 := row_lt r1
  have zz9 := BA.lt
  have zz10 := row_lt r2
  have zz11 := BB.lt
  have zr := hRf.lts
  have nt : some w.heap.size ≠ some d1 := fun e => by cases e; omega
  have nk : some W1.heap.size ≠ some d1 := fun e => by cases e; omega
  have nw : some V4.heap.size ≠ some d1 := fun e => by cases e; omega
  have na : some V6.heap.size ≠ some d1 := fun e => by cases e; omega
  have nb : some V8.heap.size ≠ some d1 := fun e => by cases e; omega
  have nr : some r ≠ some d1 := fun e => by cases e; omega
  have nd : some d ≠ some d1 := fun e => by cases e; omega
  have nd2 : some d2 ≠ some d1 := fun e => by cases e; omega
  have zL : ∀ i, L i → V2.heap.size ≤ i ∧ i < V3.heap.size := fun i hi => ⟨hL i hi, F.lts _ _ hM i hi⟩
  have nL : ∀ i, some d1 = some i → ¬ L i := fun i e hi => by cases e; have := zL d1 hi; omega
  have zp : ∀ a, p = some a → V3.heap.size ≤ a.block ∧ a.block < V4.heap.size := fun a e => ⟨hlp a e, by
    subst e
    have hc := cell_lt (hbp.at hm0)
    have e2 : (a.add 0).block = a.block := by unfold Addr.add; split <;> simp_all
    rw [e2] at hc
    exact hc⟩
  have np : ∀ a, p = some a → some a.block ≠ some d1 := fun a e h => by have := zp a e; cases h; omega
  have mt : ¬ (L w.heap.size ∨ w.heap.size = d) := fun h => h.elim (fun h => by have := zL _ h; omega) (fun h => by omega)
  have mk : ¬ (L W1.heap.size ∨ W1.heap.size = d) := fun h => h.elim (fun h => by have := zL _ h; omega) (fun h => by omega)
  have mw : ¬ (L V4.heap.size ∨ V4.heap.size = d) := fun h => h.elim (fun h => by have := zL _ h; omega) (fun h => by omega)
  have ma : ¬ (L V6.heap.size ∨ V6.heap.size = d) := fun h => h.elim (fun h => by have := zL _ h; omega) (fun h => by omega)
  have mb : ¬ (L V8.heap.size ∨ V8.heap.size = d) := fun h => h.elim (fun h => by have := zL _ h; omega) (fun h => by omega)
  have md2 : ¬ (L d2 ∨ d2 = d) := fun h => h.elim (fun h => by have := zL _ h; omega) (fun h => by omega)
  have md1 : ¬ (L d1 ∨ d1 = d) := fun h => h.elim (fun h => by have := zL _ h; omega) (fun h => by omega)
  have ma1 : ∀ a, some (⟨d1, 0, none⟩ : Addr) = some a → ¬ (L a.block ∨ a.block = d) := fun a e => by cases e; exact md1
  have mp : ∀ a, p = some a → ¬ (L a.block ∨ a.block = d) := fun a e h => by
    have := zp a e
    rcases h with h | h
    · have := zL _ h; omega
    · omega
  have mL : ∀ i, (L i ∨ i = d) → w.heap.size ≤ i := fun i h => h.elim (fun h => by have := zL _ h; omega) (fun h => by omega)
  have ldw : w.heap.size ≤ d1 := by omega
  clear zz1 zz2 zz3 zz4 zz5 zz6 zz7 zz8 zz9 zz10 zz11 zr zL zp
  refine hfu.mono ?_
  rintro e V13 ⟨rfl, own13, g15⟩
  have tB10 := tB9.kept g15 nt
  have t10_0 := tB10.cell 0 (v := .int .u8 k) rfl
  have t10_1 := tB10.cell 1 (v := .int .i64 (C : Nat)) rfl
  have t10_2 := tB10.cell 2 (v := .int .i64 (R : Nat)) rfl
  have t10_3 := tB10.cell 3 (v := .int .u8 t) rfl
  have t10_4 := tB10.cell 4 (v := .int .i64 z) rfl
  have kB10 := kB9.kept g15 nk
  have k10_0 := kB10.cell 0 (v := .int .i64 (C : Nat)) rfl
  have k10_1 := kB10.cell 1 (v := .int .i64 (R : Nat)) rfl
  have k10_2 := kB10.cell 2 (v := .int .i64 (S : Nat)) rfl
  have k10_3 := kB10.cell 3 (v := .bool pk) rfl
  have k10_4 := kB10.cell 4 (v := .slice sp n c) rfl
  have wB10 := wB9.kept g15 nw
  have w10_0 := wB10.cell 0 (v := .int .i64 (C : Nat)) rfl
  have w10_1 := wB10.cell 1 (v := .int .i64 (R : Nat)) rfl
  have w10_2 := wB10.cell 2 (v := .slice p m cp) rfl
  have aB10 := aB9.kept g15 na
  have a10_0 := aB10.cell 0 (v := .int .i64 (C : Nat)) rfl
  have a10_1 := aB10.cell 1 (v := .int .i64 (R : Nat)) rfl
  have a10_2 := aB10.cell 2 (v := .slice (some ⟨d1, 0, none⟩) m m) rfl
  have bB10 := bB9.kept g15 nb
  have b10_0 := bB10.cell 0 (v := .int .i64 (C : Nat)) rfl
  have b10_1 := bB10.cell 1 (v := .int .i64 (R : Nat)) rfl
  have b10_2 := bB10.cell 2 (v := .slice (some ⟨d2, 0, none⟩) m m) rfl
  have hM13 := F.kept _ _ _ _ (F.grown hM11 g14) g15 nL
  have hR13 := (hR11.kept g14 (by simp) (by simp)).kept g15 nr nd
  have r213 := rowIs_kept (rowIs_kept r29 g914 (by simp)) g15 nd2
  have hp13 := (hp9.kept g914 (by simp)).kept g15 np
  obtain ⟨qa, qc, eqa, bya, _, _⟩ := own_by own13
  have bya13 : By V13 (some ⟨d1, 0, none⟩) m (fun _ => 251) := (by cases eqa; exact bya)
  clear eqa bya
  have hlo := longC2 d1 m 251 (by omega) V13 bya13
  go_wp2_with (first | (go_at_call 15; refine hlo.mono ?_; rintro e V14 ⟨rr, rfl, own14, g16⟩; have tB11 := tB10.kept g16 (by simp); have t11_0 := tB11.cell 0 (v := .int .u8 k) rfl; have t11_1 := tB11.cell 1 (v := .int .i64 (C : Nat)) rfl; have t11_2 := tB11.cell 2 (v := .int .i64 (R : Nat)) rfl; have t11_3 := tB11.cell 3 (v := .int .u8 t) rfl; have t11_4 := tB11.cell 4 (v := .int .i64 z) rfl; have kB11 := kB10.kept g16 (by simp); have k11_0 := kB11.cell 0 (v := .int .i64 (C : Nat)) rfl; have k11_1 := kB11.cell 1 (v := .int .i64 (R : Nat)) rfl; have k11_2 := kB11.cell 2 (v := .int .i64 (S : Nat)) rfl; have k11_3 := kB11.cell 3 (v := .bool pk) rfl; have k11_4 := kB11.cell 4 (v := .slice sp n c) rfl; have wB11 := wB10.kept g16 (by simp); have w11_0 := wB11.cell 0 (v := .int .i64 (C : Nat)) rfl; have w11_1 := wB11.cell 1 (v := .int .i64 (R : Nat)) rfl; have w11_2 := wB11.cell 2 (v := .slice p m cp) rfl; have aB11 := aB10.kept g16 (by simp); have a11_0 := aB11.cell 0 (v := .int .i64 (C : Nat)) rfl; have a11_1 := aB11.cell 1 (v := .int .i64 (R : Nat)) rfl; have a11_2 := aB11.cell 2 (v := .slice (some ⟨d1, 0, none⟩) m m) rfl; have bB11 := bB10.kept g16 (by simp); have b11_0 := bB11.cell 0 (v := .int .i64 (C : Nat)) rfl; have b11_1 := bB11.cell 1 (v := .int .i64 (R : Nat)) rfl; have b11_2 := bB11.cell 2 (v := .slice (some ⟨d2, 0, none⟩) m m) rfl; obtain ⟨pc, cc, rfl, byc, _, _⟩ := own_by own14; have r214 := rowIs_kept r213 g16 (by simp); have hp14 := hp13.kept g16 (by simp); have hs3 := sameF C R m m cp (some ⟨d2, 0, none⟩) p _ HFR.out V14 (rowIs_by r214) hp14) | ((fail_if_success (guard_hyp g17)); go_at_call 12; refine hs3.mono ?_; rintro e V15 ⟨rfl, g17⟩; have tB12 := tB11.kept g17 (by simp); have t12_0 := tB12.cell 0 (v := .int .u8 k) rfl; have t12_1 := tB12.cell 1 (v := .int .i64 (C : Nat)) rfl; have t12_2 := tB12.cell 2 (v := .int .i64 (R : Nat)) rfl; have t12_3 := tB12.cell 3 (v := .int .u8 t) rfl; have t12_4 := tB12.cell 4 (v := .int .i64 z) rfl; have kB12 := kB11.kept g17 (by simp); have k12_0 := kB12.cell 0 (v := .int .i64 (C : Nat)) rfl; have k12_1 := kB12.cell 1 (v := .int .i64 (R : Nat)) rfl; have k12_2 := kB12.cell 2 (v := .int .i64 (S : Nat)) rfl; have k12_3 := kB12.cell 3 (v := .bool pk) rfl; have k12_4 := kB12.cell 4 (v := .slice sp n c) rfl; have wB12 := wB11.kept g17 (by simp); have w12_0 := wB12.cell 0 (v := .int .i64 (C : Nat)) rfl; have w12_1 := wB12.cell 1 (v := .int .i64 (R : Nat)) rfl; have w12_2 := wB12.cell 2 (v := .slice p m cp) rfl; have aB12 := aB11.kept g17 (by simp); have a12_0 := aB12.cell 0 (v := .int .i64 (C : Nat)) rfl; have a12_1 := aB12.cell 1 (v := .int .i64 (R : Nat)) rfl; have a12_2 := aB12.cell 2 (v := .slice (some ⟨d1, 0, none⟩) m m) rfl; have bB12 := bB11.kept g17 (by simp); have b12_0 := bB12.cell 0 (v := .int .i64 (C : Nat)) rfl; have b12_1 := bB12.cell 1 (v := .int .i64 (R : Nat)) rfl; have b12_2 := bB12.cell 2 (v := .slice (some ⟨d2, 0, none⟩) m m) rfl; have g1617 := gb_trans g16 g17; have hM15 := F.grown hM13 g1617; have hR15 := hR13.kept g1617 (by simp) (by simp); have hst2 := staysY F hz r d gK HGB.out V15 hM15 hR15) | (go_at_call 13; refine hst2.mono ?_; rintro e V16 ⟨rfl, g18⟩; have tB13 := tB12.kept g18 (by simp); have t13_0 := tB13.cell 0 (v := .int .u8 k) rfl; have t13_1 := tB13.cell 1 (v := .int .i64 (C : Nat)) rfl; have t13_2 := tB13.cell 2 (v := .int .i64 (R : Nat)) rfl; have t13_3 := tB13.cell 3 (v := .int .u8 t) rfl; have t13_4 := tB13.cell 4 (v := .int .i64 z) rfl; have kB13 := kB12.kept g18 (by simp); have k13_0 := kB13.cell 0 (v := .int .i64 (C : Nat)) rfl; have k13_1 := kB13.cell 1 (v := .int .i64 (R : Nat)) rfl; have k13_2 := kB13.cell 2 (v := .int .i64 (S : Nat)) rfl; have k13_3 := kB13.cell 3 (v := .bool pk) rfl; have k13_4 := kB13.cell 4 (v := .slice sp n c) rfl; have wB13 := wB12.kept g18 (by simp); have w13_0 := wB13.cell 0 (v := .int .i64 (C : Nat)) rfl; have w13_1 := wB13.cell 1 (v := .int .i64 (R : Nat)) rfl; have w13_2 := wB13.cell 2 (v := .slice p m cp) rfl; have aB13 := aB12.kept g18 (by simp); have a13_0 := aB13.cell 0 (v := .int .i64 (C : Nat)) rfl; have a13_1 := aB13.cell 1 (v := .int .i64 (R : Nat)) rfl; have a13_2 := aB13.cell 2 (v := .slice (some ⟨d1, 0, none⟩) m m) rfl; have bB13 := bB12.kept g18 (by simp); have b13_0 := bB13.cell 0 (v := .int .i64 (C : Nat)) rfl; have b13_1 := bB13.cell 1 (v := .int .i64 (R : Nat)) rfl; have b13_2 := bB13.cell 2 (v := .slice (some ⟨d2, 0, none⟩) m m) rfl; have hon := onlyC pc (m + 40) cc 251 (by omega) V16 (byc.kept (gb_trans g17 g18) (by simp))) | ((fail_if_success (guard_hyp g19)); go_at_call 16; refine hon.mono ?_; rintro e V17 ⟨rfl, g19⟩; have tB14 := tB13.kept g19 (by simp); have t14_0 := tB14.cell 0 (v := .int .u8 k) rfl; have t14_1 := tB14.cell 1 (v := .int .i64 (C : Nat)) rfl; have t14_2 := tB14.cell 2 (v := .int .i64 (R : Nat)) rfl; have t14_3 := tB14.cell 3 (v := .int .u8 t) rfl; have t14_4 := tB14.cell 4 (v := .int .i64 z) rfl; have kB14 := kB13.kept g19 (by simp); have k14_0 := kB14.cell 0 (v := .int .i64 (C : Nat)) rfl; have k14_1 := kB14.cell 1 (v := .int .i64 (R : Nat)) rfl; have k14_2 := kB14.cell 2 (v := .int .i64 (S : Nat)) rfl; have k14_3 := kB14.cell 3 (v := .bool pk) rfl; have k14_4 := kB14.cell 4 (v := .slice sp n c) rfl; have wB14 := wB13.kept g19 (by simp); have w14_0 := wB14.cell 0 (v := .int .i64 (C : Nat)) rfl; have w14_1 := wB14.cell 1 (v := .int .i64 (R : Nat)) rfl; have w14_2 := wB14.cell 2 (v := .slice p m cp) rfl; have aB14 := aB13.kept g19 (by simp); have a14_0 := aB14.cell 0 (v := .int .i64 (C : Nat)) rfl; have a14_1 := aB14.cell 1 (v := .int .i64 (R : Nat)) rfl; have a14_2 := aB14.cell 2 (v := .slice (some ⟨d1, 0, none⟩) m m) rfl; have bB14 := bB13.kept g19 (by simp); have b14_0 := bB14.cell 0 (v := .int .i64 (C : Nat)) rfl; have b14_1 := bB14.cell 1 (v := .int .i64 (R : Nat)) rfl; have b14_2 := bB14.cell 2 (v := .slice (some ⟨d2, 0, none⟩) m m) rfl; have g1719 := gb_trans g17 (gb_trans g18 g19); have hM17 := F.grown hM15 (gb_trans g18 g19); have hR17 := hR15.kept (gb_trans g18 g19) (by simp) (by simp); have r217 := rowIs_kept r214 g1719 (by simp); have hp17 := hp14.kept g1719 (by simp); have bya17 := bya13.kept (gb_trans g16 g1719) (by simp); have htu := turnedY F hz r d gK HGB.out V17 hM17 hR17 hnr hnd))
  refine htu.mono ?_
  rintro e V18 ⟨rfl, hM18, hR18, gx⟩
  have tB15 := gx.bo tB14 mt
  have t15_0 := tB15.cell 0 (v := .int .u8 k) rfl
  have t15_1 := tB15.cell 1 (v := .int .i64 (C : Nat)) rfl
  have t15_2 := tB15.cell 2 (v := .int .i64 (R : Nat)) rfl
  have t15_3 := tB15.cell 3 (v := .int .u8 t) rfl
  have t15_4 := tB15.cell 4 (v := .int .i64 z) rfl
  have kB15 := gx.bo kB14 mk
  have k15_0 := kB15.cell 0 (v := .int .i64 (C : Nat)) rfl
  have k15_1 := kB15.cell 1 (v := .int .i64 (R : Nat)) rfl
  have k15_2 := kB15.cell 2 (v := .int .i64 (S : Nat)) rfl
  have k15_3 := kB15.cell 3 (v := .bool pk) rfl
  have k15_4 := kB15.cell 4 (v := .slice sp n c) rfl
  have wB15 := gx.bo wB14 mw
  have w15_0 := wB15.cell 0 (v := .int .i64 (C : Nat)) rfl
  have w15_1 := wB15.cell 1 (v := .int .i64 (R : Nat)) rfl
  have w15_2 := wB15.cell 2 (v := .slice p m cp) rfl
  have aB15 := gx.bo aB14 ma
  have a15_0 := aB15.cell 0 (v := .int .i64 (C : Nat)) rfl
  have a15_1 := aB15.cell 1 (v := .int .i64 (R : Nat)) rfl
  have a15_2 := aB15.cell 2 (v := .slice (some ⟨d1, 0, none⟩) m m) rfl
  have bB15 := gx.bo bB14 mb
  have b15_0 := bB15.cell 0 (v := .int .i64 (C : Nat)) rfl
  have b15_1 := bB15.cell 1 (v := .int .i64 (R : Nat)) rfl
  have b15_2 := bB15.cell 2 (v := .slice (some ⟨d2, 0, none⟩) m m) rfl
  have r218 := gx.row r217 md2
  have hp18 := gx.by hp17 mp
  have bya18 := gx.by bya17 ma1
  have hs4 := sameF C R m m cp (some ⟨d2, 0, none⟩) p _ HFR.out V18 (rowIs_by r218) hp18
  go_wp2_with (first | ((fail_if_success (guard_hyp g21)); go_at_call 12; refine hs4.mono ?_; rintro e V19 ⟨rfl, g21⟩; have tB16 := tB15.kept g21 (by simp); have t16_0 := tB16.cell 0 (v := .int .u8 k) rfl; have t16_1 := tB16.cell 1 (v := .int .i64 (C : Nat)) rfl; have t16_2 := tB16.cell 2 (v := .int .i64 (R : Nat)) rfl; have t16_3 := tB16.cell 3 (v := .int .u8 t) rfl; have t16_4 := tB16.cell 4 (v := .int .i64 z) rfl; have kB16 := kB15.kept g21 (by simp); have k16_0 := kB16.cell 0 (v := .int .i64 (C : Nat)) rfl; have k16_1 := kB16.cell 1 (v := .int .i64 (R : Nat)) rfl; have k16_2 := kB16.cell 2 (v := .int .i64 (S : Nat)) rfl; have k16_3 := kB16.cell 3 (v := .bool pk) rfl; have k16_4 := kB16.cell 4 (v := .slice sp n c) rfl; have wB16 := wB15.kept g21 (by simp); have w16_0 := wB16.cell 0 (v := .int .i64 (C : Nat)) rfl; have w16_1 := wB16.cell 1 (v := .int .i64 (R : Nat)) rfl; have w16_2 := wB16.cell 2 (v := .slice p m cp) rfl; have aB16 := aB15.kept g21 (by simp); have a16_0 := aB16.cell 0 (v := .int .i64 (C : Nat)) rfl; have a16_1 := aB16.cell 1 (v := .int .i64 (R : Nat)) rfl; have a16_2 := aB16.cell 2 (v := .slice (some ⟨d1, 0, none⟩) m m) rfl; have bB16 := bB15.kept g21 (by simp); have b16_0 := bB16.cell 0 (v := .int .i64 (C : Nat)) rfl; have b16_1 := bB16.cell 1 (v := .int .i64 (R : Nat)) rfl; have b16_2 := bB16.cell 2 (v := .slice (some ⟨d2, 0, none⟩) m m) rfl; have hM19 := F.grown hM18 g21; have hR19 := hR18.kept g21 (by simp) (by simp); have hrb2 := refBytesY G r d S pk _ hz V19 hR19; rw [HM.out] at hrb2) | (go_at_call 10; refine hrb2.mono ?_; rintro e V20 ⟨p2, c2, rfl, hbp2, hlp2, g22⟩; obtain ⟨W21, hW21, sz21, g23, BN⟩ := boxn V20 #[.int .i64 (C : Nat), .int .i64 (R : Nat), .slice p2 m c2] 33; have g223 := gb_trans g22 g23; have tB17 := tB16.kept g223 (by simp); have t17_0 := tB17.cell 0 (v := .int .u8 k) rfl; have t17_1 := tB17.cell 1 (v := .int .i64 (C : Nat)) rfl; have t17_2 := tB17.cell 2 (v := .int .i64 (R : Nat)) rfl; have t17_3 := tB17.cell 3 (v := .int .u8 t) rfl; have t17_4 := tB17.cell 4 (v := .int .i64 z) rfl; have kB17 := kB16.kept g223 (by simp); have k17_0 := kB17.cell 0 (v := .int .i64 (C : Nat)) rfl; have k17_1 := kB17.cell 1 (v := .int .i64 (R : Nat)) rfl; have k17_2 := kB17.cell 2 (v := .int .i64 (S : Nat)) rfl; have k17_3 := kB17.cell 3 (v := .bool pk) rfl; have k17_4 := kB17.cell 4 (v := .slice sp n c) rfl; have wB17 := wB16.kept g223 (by simp); have w17_0 := wB17.cell 0 (v := .int .i64 (C : Nat)) rfl; have w17_1 := wB17.cell 1 (v := .int .i64 (R : Nat)) rfl; have w17_2 := wB17.cell 2 (v := .slice p m cp) rfl; have aB17 := aB16.kept g223 (by simp); have a17_0 := aB17.cell 0 (v := .int .i64 (C : Nat)) rfl; have a17_1 := aB17.cell 1 (v := .int .i64 (R : Nat)) rfl; have a17_2 := aB17.cell 2 (v := .slice (some ⟨d1, 0, none⟩) m m) rfl; have bB17 := bB16.kept g223 (by simp); have b17_0 := bB17.cell 0 (v := .int .i64 (C : Nat)) rfl; have b17_1 := bB17.cell 1 (v := .int .i64 (R : Nat)) rfl; have b17_2 := bB17.cell 2 (v := .slice (some ⟨d2, 0, none⟩) m m) rfl; have n0_0 := BN.cell 0 (v := .int .i64 (C : Nat)) rfl; have n0_1 := BN.cell 1 (v := .int .i64 (R : Nat)) rfl; have n0_2 := BN.cell 2 (v := .slice p2 m c2) rfl; have hM21 := F.grown hM19 g223; have hbp21 := hbp2.kept g23 (by simp); have hb3 := bytesY G (F.fdm _ W21.heap.size (F.lts _ _ hM21)) W21 (Nat.le_refl _) hM21; rw [HM.out] at hb3) | (go_at_call 11; refine hb3.mono ?_; rintro e V22 ⟨d3, rfl, r3, l3, g24⟩; obtain ⟨W23, hW23, sz23, g25, BH⟩ := boxn V22 #[.int .i64 (C : Nat), .int .i64 (R : Nat), .slice (some ⟨d3, 0, none⟩) m m] 33; have g245 := gb_trans g24 g25; have tB18 := tB17.kept g245 (by simp); have t18_0 := tB18.cell 0 (v := .int .u8 k) rfl; have t18_1 := tB18.cell 1 (v := .int .i64 (C : Nat)) rfl; have t18_2 := tB18.cell 2 (v := .int .i64 (R : Nat)) rfl; have t18_3 := tB18.cell 3 (v := .int .u8 t) rfl; have t18_4 := tB18.cell 4 (v := .int .i64 z) rfl; have kB18 := kB17.kept g245 (by simp); have k18_0 := kB18.cell 0 (v := .int .i64 (C : Nat)) rfl; have k18_1 := kB18.cell 1 (v := .int .i64 (R : Nat)) rfl; have k18_2 := kB18.cell 2 (v := .int .i64 (S : Nat)) rfl; have k18_3 := kB18.cell 3 (v := .bool pk) rfl; have k18_4 := kB18.cell 4 (v := .slice sp n c) rfl; have wB18 := wB17.kept g245 (by simp); have w18_0 := wB18.cell 0 (v := .int .i64 (C : Nat)) rfl; have w18_1 := wB18.cell 1 (v := .int .i64 (R : Nat)) rfl; have w18_2 := wB18.cell 2 (v := .slice p m cp) rfl; have aB18 := aB17.kept g245 (by simp); have a18_0 := aB18.cell 0 (v := .int .i64 (C : Nat)) rfl; have a18_1 := aB18.cell 1 (v := .int .i64 (R : Nat)) rfl; have a18_2 := aB18.cell 2 (v := .slice (some ⟨d1, 0, none⟩) m m) rfl; have bB18 := bB17.kept g245 (by simp); have b18_0 := bB18.cell 0 (v := .int .i64 (C : Nat)) rfl; have b18_1 := bB18.cell 1 (v := .int .i64 (R : Nat)) rfl; have b18_2 := bB18.cell 2 (v := .slice (some ⟨d2, 0, none⟩) m m) rfl; have nB18 := BN.kept g245 (by simp); have n18_0 := nB18.cell 0 (v := .int .i64 (C : Nat)) rfl; have n18_1 := nB18.cell 1 (v := .int .i64 (R : Nat)) rfl; have n18_2 := nB18.cell 2 (v := .slice p2 m c2) rfl; have h0_0 := BH.cell 0 (v := .int .i64 (C : Nat)) rfl; have h0_1 := BH.cell 1 (v := .int .i64 (R : Nat)) rfl; have h0_2 := BH.cell 2 (v := .slice (some ⟨d3, 0, none⟩) m m) rfl; have hs5 := sameF C R m m c2 (some ⟨d3, 0, none⟩) p2 _ HFN.out W23 (rowIs_by (rowIs_kept r3 g25 (by simp))) (hbp21.kept g245 (by simp))) | (guard_hyp g21; go_at_call 12; refine hs5.mono ?_; rintro e V24 ⟨rfl, g26⟩; have tB19 := tB18.kept g26 (by simp); have t19_0 := tB19.cell 0 (v := .int .u8 k) rfl; have t19_1 := tB19.cell 1 (v := .int .i64 (C : Nat)) rfl; have t19_2 := tB19.cell 2 (v := .int .i64 (R : Nat)) rfl; have t19_3 := tB19.cell 3 (v := .int .u8 t) rfl; have t19_4 := tB19.cell 4 (v := .int .i64 z) rfl; have kB19 := kB18.kept g26 (by simp); have k19_0 := kB19.cell 0 (v := .int .i64 (C : Nat)) rfl; have k19_1 := kB19.cell 1 (v := .int .i64 (R : Nat)) rfl; have k19_2 := kB19.cell 2 (v := .int .i64 (S : Nat)) rfl; have k19_3 := kB19.cell 3 (v := .bool pk) rfl; have k19_4 := kB19.cell 4 (v := .slice sp n c) rfl; have wB19 := wB18.kept g26 (by simp); have w19_0 := wB19.cell 0 (v := .int .i64 (C : Nat)) rfl; have w19_1 := wB19.cell 1 (v := .int .i64 (R : Nat)) rfl; have w19_2 := wB19.cell 2 (v := .slice p m cp) rfl; have aB19 := aB18.kept g26 (by simp); have a19_0 := aB19.cell 0 (v := .int .i64 (C : Nat)) rfl; have a19_1 := aB19.cell 1 (v := .int .i64 (R : Nat)) rfl; have a19_2 := aB19.cell 2 (v := .slice (some ⟨d1, 0, none⟩) m m) rfl; have bB19 := bB18.kept g26 (by simp); have b19_0 := bB19.cell 0 (v := .int .i64 (C : Nat)) rfl; have b19_1 := bB19.cell 1 (v := .int .i64 (R : Nat)) rfl; have b19_2 := bB19.cell 2 (v := .slice (some ⟨d2, 0, none⟩) m m) rfl; have nB19 := nB18.kept g26 (by simp); have n19_0 := nB19.cell 0 (v := .int .i64 (C : Nat)) rfl; have n19_1 := nB19.cell 1 (v := .int .i64 (R : Nat)) rfl; have n19_2 := nB19.cell 2 (v := .slice p2 m c2) rfl; have hB19 := BH.kept g26 (by simp); have h19_0 := hB19.cell 0 (v := .int .i64 (C : Nat)) rfl; have h19_1 := hB19.cell 1 (v := .int .i64 (R : Nat)) rfl; have h19_2 := hB19.cell 2 (v := .slice (some ⟨d3, 0, none⟩) m m) rfl; have hon2 := onlyC (some ⟨d1, 0, none⟩) m m 251 (by omega) V24 (bya18.kept (gb_trans g21 (gb_trans g223 (gb_trans g245 g26))) (by simp))) | (go_at_call 16; refine hon2.mono ?_; rintro e V25 ⟨rfl, g27⟩; have tB20 := tB19.kept g27 (by simp); have t20_0 := tB20.cell 0 (v := .int .u8 k) rfl; have t20_1 := tB20.cell 1 (v := .int .i64 (C : Nat)) rfl; have t20_2 := tB20.cell 2 (v := .int .i64 (R : Nat)) rfl; have t20_3 := tB20.cell 3 (v := .int .u8 t) rfl; have t20_4 := tB20.cell 4 (v := .int .i64 z) rfl; have kB20 := kB19.kept g27 (by simp); have k20_0 := kB20.cell 0 (v := .int .i64 (C : Nat)) rfl; have k20_1 := kB20.cell 1 (v := .int .i64 (R : Nat)) rfl; have k20_2 := kB20.cell 2 (v := .int .i64 (S : Nat)) rfl; have k20_3 := kB20.cell 3 (v := .bool pk) rfl; have k20_4 := kB20.cell 4 (v := .slice sp n c) rfl; have wB20 := wB19.kept g27 (by simp); have w20_0 := wB20.cell 0 (v := .int .i64 (C : Nat)) rfl; have w20_1 := wB20.cell 1 (v := .int .i64 (R : Nat)) rfl; have w20_2 := wB20.cell 2 (v := .slice p m cp) rfl; have aB20 := aB19.kept g27 (by simp); have a20_0 := aB20.cell 0 (v := .int .i64 (C : Nat)) rfl; have a20_1 := aB20.cell 1 (v := .int .i64 (R : Nat)) rfl; have a20_2 := aB20.cell 2 (v := .slice (some ⟨d1, 0, none⟩) m m) rfl; have bB20 := bB19.kept g27 (by simp); have b20_0 := bB20.cell 0 (v := .int .i64 (C : Nat)) rfl; have b20_1 := bB20.cell 1 (v := .int .i64 (R : Nat)) rfl; have b20_2 := bB20.cell 2 (v := .slice (some ⟨d2, 0, none⟩) m m) rfl; have nB20 := nB19.kept g27 (by simp); have n20_0 := nB20.cell 0 (v := .int .i64 (C : Nat)) rfl; have n20_1 := nB20.cell 1 (v := .int .i64 (R : Nat)) rfl; have n20_2 := nB20.cell 2 (v := .slice p2 m c2) rfl; have hB20 := hB19.kept g27 (by simp); have h20_0 := hB20.cell 0 (v := .int .i64 (C : Nat)) rfl; have h20_1 := hB20.cell 1 (v := .int .i64 (R : Nat)) rfl; have h20_2 := hB20.cell 2 (v := .slice (some ⟨d3, 0, none⟩) m m) rfl))
  go_ret
  have G12 := gb_trans G4 (gb_trans g5 (gb_trans g3to g14))
  have G13 : w.grownBy V13 none := gb_past G12 g15 ldw
  have G17 := gb_trans G13 (gb_trans g16 g1719)
  exact ⟨rfl, Gx.below (gb_below G17) (gx.trans (Gx.none (gb_trans g21 (gb_trans g223 (gb_trans g245 (gb_trans g26 g27)))))) mL⟩
end Go.Proofs.YtjndljjpbkfmiaaGreatDoor
namespace Go.Proofs.YtjndljjpbkfmiaaGreatDoor
open Go.RowKit
set_option linter.unusedVariables false
set_option linter.unusedSimpArgs false
set_option maxRecDepth 100000

set_option maxHeartbeats 1000000 in
theorem framesG (k x y t z x2 y2 s2 : Int) (pk : Bool) (sp : Option Addr) (n c : Nat) (w : World) (hT : Tab w)
    (hgr : ∀ w, Calls Tryz.prog 8 #[.agg #[.int .i64 x2, .int .i64 y2, .int .i64 s2, .bool pk, .slice sp n c]] w fun e w' => e = .returned (.bool true) ∧ w.grownBy w' none) :
    Calls Tryz.prog 3 #[.agg #[.int .u8 k, .int .i64 x, .int .i64 y, .int .u8 t, .int .i64 z], .agg #[.int .i64 x2, .int .i64 y2, .int .i64 s2, .bool pk, .slice sp n c]] w fun e w' => e = .returned (.bool true) ∧ Below w.heap.size w w' := by
  obtain ⟨W1, hW1, sz1, g1, B1⟩ := boxn w #[.int .u8 k, .int .i64 x, .int .i64 y, .int .u8 t, .int .i64 z] 23
  obtain ⟨W2, hW2, sz2, g2, B2⟩ := boxn W1 #[.int .i64 x2, .int .i64 y2, .int .i64 s2, .bool pk, .slice sp n c] 26
  have k0_0 := B2.cell 0 (v := .int .i64 x2) rfl
  have k0_1 := B2.cell 1 (v := .int .i64 y2) rfl
  have k0_2 := B2.cell 2 (v := .int .i64 s2) rfl
  have k0_3 := B2.cell 3 (v := .bool pk) rfl
  have k0_4 := B2.cell 4 (v := .slice sp n c) rfl
  have hT2 := hT.kept (gb_trans g1 g2)
  go_enter Tryz.func3, Tryz.ntmps3
  go_wp2_with (first | (go_at_call 7; refine (aliveC W2 hT2).mono ?_; rintro e V1 ⟨rfl, g3⟩; have B3 := B2.kept g3 (by simp); have k1_0 := B3.cell 0 (v := .int .i64 x2) rfl; have k1_1 := B3.cell 1 (v := .int .i64 y2) rfl; have k1_2 := B3.cell 2 (v := .int .i64 s2) rfl; have k1_3 := B3.cell 3 (v := .bool pk) rfl; have k1_4 := B3.cell 4 (v := .slice sp n c) rfl) | (go_at_call 8; refine (hgr V1).mono ?_; rintro e V2 ⟨rfl, g4⟩))
  go_ret
  exact ⟨rfl, gb_below (gb_trans (gb_trans g1 g2) (gb_trans g3 g4))⟩
theorem gr_of {k x y t z : Int} {C R : Nat} (ht : 0 ≤ t) (h : cgE k x y t z C R = 0) : x = C ∧ y = R ∧ Gr k t z C R := by
  unfold cgE at h
  by_cases h1 : ¬ Tp.chk k x y t z = 0
  · rw [if_pos h1] at h; cases h
  · rw [if_neg h1] at h
    by_cases h2 : x = 0 ∨ y = 0
    · rw [if_pos h2] at h; cases h
    · rw [if_neg h2] at h
      by_cases h3 : ¬ (x = C ∧ y = R)
      · rw [if_pos h3] at h; cases h
      · have h4 : x = C ∧ y = R := Classical.byContradiction h3
        obtain ⟨rfl, rfl⟩ := h4
        exact ⟨rfl, rfl, Classical.byContradiction h1, ht, by omega, by omega⟩
theorem ck_sz {x y s : Int} {pk : Bool} (h : ckE x y s pk = 0) : ∃ C R S : Nat, x = C ∧ y = R ∧ s = S ∧ Sz C R S ∧ (pk = true → S = 2) := by
  unfold ckE at h
  by_cases h1 : 1 ≤ x ∧ x ≤ 65536 ∧ 1 ≤ y ∧ y ≤ 65536 ∧ 2 ≤ s ∧ s ≤ 256
  · rw [if_pos h1] at h
    by_cases h2 : pk = true ∧ s ≠ 2
    · rw [if_pos h2] at h; cases h
    · rw [if_neg h2] at h
      by_cases h3 : 1048576 < x * y
      · rw [if_pos h3] at h; cases h
      · obtain ⟨C, rfl⟩ := Int.eq_ofNat_of_zero_le (show 0 ≤ x by omega)
        obtain ⟨R, rfl⟩ := Int.eq_ofNat_of_zero_le (show 0 ≤ y by omega)
        obtain ⟨S, rfl⟩ := Int.eq_ofNat_of_zero_le (show 0 ≤ s by omega)
        rw [← Int.natCast_mul] at h3
        refine ⟨C, R, S, rfl, rfl, rfl, ⟨by omega, by omega, by omega, by omega, by omega, by omega, by omega⟩, fun hp => ?_⟩
        exact Classical.byContradiction fun hS => h2 ⟨hp, fun e => hS (by omega)⟩
  · rw [if_neg h1] at h; cases h
theorem gr_small {C R : Nat} (h0 : 0 < C) (h1 : 0 < R) (h : grB C R = false) : (C + 2) * (R + 2) ≤ 1000000 := by
  unfold grB at h
  have e1 : decide ((0 : Int) < (C : Int)) = true := decide_eq_true (by omega)
  have e2 : decide ((0 : Int) < (R : Int)) = true := decide_eq_true (by omega)
  rw [e1, e2] at h
  simp only [Bool.true_and, Bool.or_eq_false_iff, decide_eq_false_iff_not] at h
  have hc : C ≤ 4000 := by omega
  have hr : R ≤ 4000 := by omega
  have hm : C * R ≤ 4000 := by have := h.2; rw [← Int.natCast_mul] at this; omega
  have e : (C + 2) * (R + 2) = C * R + 2 * C + 2 * R + 4 := by
    rw [Nat.add_mul, Nat.mul_add, Nat.mul_add]; omega
  rw [e]; omega
theorem frames_walk (k x y t z x2 y2 s2 : Int) (pk : Bool) (sp : Option Addr) (n c : Nat) (f : Nat → Nat) (ht : 0 ≤ t) (hx2 : x2 ≤ 9223372036854775807) (hy2 : y2 ≤ 9223372036854775807) (hn : n ≤ 140737488351232) (h256 : ∀ i, f i < 256) (w : World) (hb : By w sp n f) (hT : Tab w) :
    Calls Tryz.prog 3 #[.agg #[.int .u8 k, .int .i64 x, .int .i64 y, .int .u8 t, .int .i64 z], .agg #[.int .i64 x2, .int .i64 y2, .int .i64 s2, .bool pk, .slice sp n c]] w fun e w' => e = .returned (.bool true) ∧ Below w.heap.size w w' := by
  have hg := fun w => greatC x2 y2 hx2 hy2 (.int .i64 s2) (.bool pk) (.slice sp n c) w
  cases hq : grB x2 y2 with
  | true =>
    rw [hq] at hg
    exact framesG k x y t z x2 y2 s2 pk sp n c w hT hg
  | false =>
    rw [hq] at hg
    by_cases hck : ckE x2 y2 s2 pk = 0
    · obtain ⟨C, R, S, rfl, rfl, rfl, hz, hpk⟩ := ck_sz hck
      by_cases hE : cgE k x y t z C R = 0
      · obtain ⟨rfl, rfl, G⟩ := gr_of ht hE
        exact framesY G hz (gr_small hz.c0 hz.r0 hq) pk hpk sp n c f hn h256 w hb hT hg
      · have hEb : (cgE k x y t z C R == 0) = false := by simpa using hE
        have hS1 := hz.s1
        have hS0 := hz.s0
        refine framesX k x y t z (cgE k x y t z C R) hEb C R S pk sp n c w hT hg (fun w' g' => (keptY C R S pk hz hpk sp n c f hn h256 w' (hb.kept g' (by simp))).mono ?_)
        rintro e w2 ⟨b, M, L, r, d, rfl, F, hM, hRf, hL, lr, ld, hnr, hnd, g5⟩
        have hgb : ∀ i, kpG n f S i < 256 := fun i => Nat.lt_of_lt_of_le (kpG_lt (by omega) i) hS1
        refine ⟨_, _, fun X => M (kpG n f S) X ∧ Rf X r d C R S pk (kpG n f S), rfl, ⟨?_, ?_, ?_, ?_⟩, ⟨hM, hRf⟩, g5⟩
        · exact fun X Y h hg => ⟨F.grown h.1 hg, h.2.kept hg (by simp) (by simp)⟩
        · exact fun X h => refBytesX k x y t z _ _ hEb X (fun Y hY => askedC k x y t z ht r d C R S pk _ Y (h.2.kept hY (by simp) (by simp)))
        · exact fun X h => bytesX k x y t z _ _ X hEb (fun Y hY => checkGridC (F.fdm (kpG n f S) Y.heap.size (F.lts _ _ (F.grown h.1 hY))) hz.c0 k x y t z ht Y (F.grown h.1 hY))
        · exact fun X h => staysY F hz r d _ hgb X h.1 h.2
    · refine framesX k x y t z 1 (by decide) x2 y2 s2 pk sp n c w hT hg (fun w' g' => (keptN x2 y2 s2 pk hck (.slice sp n c) w').mono ?_)
      rintro e w2 ⟨rfl, g5⟩
      refine ⟨none, none, fun _ => True, rfl, ⟨fun _ _ _ _ => trivial, ?_, ?_, ?_⟩, trivial, g5⟩
      · exact fun X _ => refBytesX k x y t z 1 none (by decide) X (fun Y _ => askedN (.bool true) k x y t z Y)
      · exact fun X _ => bytesX k x y t z 1 none X (by decide) (fun Y _ => checkGridN k x y t z none Y (.inl rfl))
      · exact fun X _ => staysN X
end Go.Proofs.YtjndljjpbkfmiaaGreatDoor
