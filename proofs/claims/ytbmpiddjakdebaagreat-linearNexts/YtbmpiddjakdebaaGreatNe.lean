/- A torus as it lies. -/
import Derived.Test.YtbmpiddjakdebaaGreatN13
import Derived.Test.YtbmpiddjakdebaaGreatFb
import Derived.Laws.AppendOwnNone
namespace Go.Proofs.YtbmpiddjakdebaaGreat
open Go.RowKit
set_option linter.unusedVariables false
set_option linter.unusedSimpArgs false
set_option maxRecDepth 100000

namespace Ln
set_option maxHeartbeats 1000000 in
theorem cellTC (k x y t z X Y U V : Int) (ac : Bool) (a b : Int) (ht : 0 ≤ t) (w : World) : Calls Tryz.prog 74 #[.agg #[.int .u8 k, .int .i64 x, .int .i64 y, .int .u8 t, .int .i64 z, .int .i64 X, .int .i64 Y, .int .i64 U, .int .i64 V, .bool ac], .agg #[.int .i64 a, .int .i64 b]] w fun e w' => e = .returned (.agg (Fd.ceV k x y t z a b)) ∧ w.grownBy w' none := by
  obtain ⟨W1, hW1, sz1, g1, B1⟩ := boxn w #[.int .u8 k, .int .i64 x, .int .i64 y, .int .u8 t, .int .i64 z, .int .i64 X, .int .i64 Y, .int .i64 U, .int .i64 V, .bool ac] 62
  obtain ⟨W2, hW2, sz2, g2, B2⟩ := boxn W1 #[.int .i64 a, .int .i64 b] 40
  obtain ⟨W3, hW3, sz3, g3, B3⟩ := boxn W2 #[.int .i64 0, .int .i64 0] 40
  have B13 := (B1.kept g2 (by simp)).kept g3 (by simp)
  have B23 := B2.kept g3 (by simp)
  have c0 := B13.cell 0 (v := .int .u8 k) rfl; have c1 := B13.cell 1 (v := .int .i64 x) rfl; have c2 := B13.cell 2 (v := .int .i64 y) rfl; have c3 := B13.cell 3 (v := .int .u8 t) rfl; have c4 := B13.cell 4 (v := .int .i64 z) rfl; have c5 := B13.cell 5 (v := .int .i64 X) rfl; have c6 := B13.cell 6 (v := .int .i64 Y) rfl; have c7 := B13.cell 7 (v := .int .i64 U) rfl; have c8 := B13.cell 8 (v := .int .i64 V) rfl; have c9 := B13.cell 9 (v := .bool ac) rfl
  have p0 := B23.cell 0 (v := .int .i64 a) rfl
  have p1 := B23.cell 1 (v := .int .i64 b) rfl
  have G3 := gb_trans g1 (gb_trans g2 g3)
  obtain ⟨fs, hfs⟩ := underP
  have kc := fun w1 => Fd.cellC k x y t z a b ht w1
  have hv : ∃ p q, Fd.ceV k x y t z a b = #[.int .i64 p, .int .i64 q] := by
    unfold Fd.ceV
    split
    · exact ⟨_, _, rfl⟩
    · exact ⟨_, _, rfl⟩
  obtain ⟨p, q, hpq⟩ := hv
  rw [hpq] at kc ⊢
  clear hpq
  generalize Fd.ceE k x y t z a b = E at kc
  go_enter Tryz.func74, Tryz.ntmps74
  go_wp2_with (first | (go_at_call 88; refine (kc _).mono ?_; rintro e w4 ⟨rfl, g4⟩; have G4 := gb_trans G3 g4; have B4 := B3.kept g4 (by simp); have o0 := B4.cell 0 (v := .int .i64 0) rfl; have o1 := B4.cell 1 (v := .int .i64 0) rfl; have f0 := B4.frozen 0; have f1 := B4.frozen 1; obtain ⟨W5, hW5, sz5, g5, B5⟩ := boxn w4 #[.int .i64 p, .int .i64 q] 40; have Z5 := B4.kept g5 (by simp); have G5 := gb_trans G4 g5; have u0 := Z5.cell 0 (v := .int .i64 0) rfl; have u1 := Z5.cell 1 (v := .int .i64 0) rfl; have v0 := Z5.frozen 0; have v1 := Z5.frozen 1; have q0 := B5.cell 0 (v := .int .i64 p) rfl; have q1 := B5.cell 1 (v := .int .i64 q) rfl) | go_in)
  refine ret_c1 (g := W2.heap.size) (cs := #[.int .i64 p, .int .i64 q]) rfl hfs infoP rfl (bo2 Z5) rfl ⟨rfl, gb2 G5 (gb_trans g1 g2).size⟩
end Ln
end Go.Proofs.YtbmpiddjakdebaaGreat
namespace Go.Proofs.YtbmpiddjakdebaaGreat
open Go.RowKit
set_option linter.unusedVariables false
set_option linter.unusedSimpArgs false
set_option maxRecDepth 100000

namespace Ln
/-- The cell of a place. -/
def cellP (k x y t z : Int) (p : Pt) : Pt := if Fd.ceE k x y t z p.1 p.2 = 0 then (Fd.ceX k x y t z p.1 p.2, Fd.ceY k x y t z p.1 p.2) else (0, 0)
theorem ceV_is (k x y t z a b : Int) : Fd.ceV k x y t z a b = #[.int .i64 (cellP k x y t z (a, b)).1, .int .i64 (cellP k x y t z (a, b)).2] := by
  unfold Fd.ceV cellP
  split <;> rfl
def tmsP (n : Int) (p : Pt) : Pt := (n * p.1, n * p.2)
/-- Points put in and taken out, one behind the other. -/
def flF (F : Nat → Pt) : Nat → List Pt
  | 0 => []
  | k + 1 => flp (flF F k) (F k)
theorem flF_len (F : Nat → Pt) : ∀ k, (flF F k).length ≤ k
  | 0 => Nat.le_refl _
  | k + 1 => by have := flF_len F k; have := length_flp (flF F k) (F k); show (flp (flF F k) (F k)).length ≤ _; omega
set_option maxHeartbeats 2000000 in
theorem foldedC (k x y t z X Y U V : Int) (ac : Bool) (ht : 0 ≤ t) (sp : Option Addr) (n cap : Nat) (f : Nat → Pt) (tm : Int) (hf : ∀ j, j < n → (-9223372036854775808 ≤ tm * (f j).1 ∧ tm * (f j).1 ≤ 9223372036854775807) ∧ (-9223372036854775808 ≤ tm * (f j).2 ∧ tm * (f j).2 ≤ 9223372036854775807)) (hok : ∀ p, PtOk (cellP k x y t z p)) (hn : n < 1000000000) (w : World) (h : Pl w sp n f) :
    Calls Tryz.prog 56 #[.agg #[.int .u8 k, .int .i64 x, .int .i64 y, .int .u8 t, .int .i64 z, .int .i64 X, .int .i64 Y, .int .i64 U, .int .i64 V, .bool ac], .slice sp n cap, .int .i64 tm] w fun e w' => ∃ g cap' m, (flF (fun j => cellP k x y t z (tmsP tm (f j))) n).length = m ∧ e = .returned (.slice (some ⟨g, 0, none⟩) m cap') ∧ w'.ownsRow w.heap.size 40 2 (.slice (some ⟨g, 0, none⟩) m cap') m (fl (srt (flF (fun j => cellP k x y t z (tmsP tm (f j))) n))) ∧ w.grownBy w' none := by
  obtain ⟨W1, hW1, sz1, g1, B1⟩ := boxn w #[.int .u8 k, .int .i64 x, .int .i64 y, .int .u8 t, .int .i64 z, .int .i64 X, .int .i64 Y, .int .i64 U, .int .i64 V, .bool ac] 62
  have hmk := mkM W1 n
  have M1 := Sm.made W1
  obtain ⟨W2, hW2⟩ : ∃ W2, W1.alloc (.map #[] 0) = W2 := ⟨_, rfl⟩
  have g2 : W1.grownBy W2 none := (by rw [← hW2]; exact World.grownBy_alloc _ _ _)
  have hs2 : W1.heap.size < W2.heap.size := (by rw [← hW2]; simp)
  rw [hW2] at M1 hmk
  clear hW2
  have B2 := B1.kept g2 (by simp)
  have lB := B1.lt
  obtain ⟨F, hF⟩ : ∃ F : Nat → Pt, F = fun j => cellP k x y t z (tmsP tm (f j)) := ⟨_, rfl⟩
  have HF : Hid (∀ j, F j = cellP k x y t z (tmsP tm (f j))) := fun j => by rw [hF]
  rw [← hF]
  clear hF
  go_enter Tryz.func56, Tryz.ntmps56
  go_wp2
  clear hmk
  go_loopw [15] (fun v wr => ∃ j : Nat, j ≤ n ∧ v = .int .i64 j ∧ Sm wr W1.heap.size (flF F j) ∧ Bo wr w.heap.size 62 #[.int .u8 k, .int .i64 x, .int .i64 y, .int .u8 t, .int .i64 z, .int .i64 X, .int .i64 Y, .int .i64 U, .int .i64 V, .bool ac] ∧ w.grownBy wr none) (fun v _ => n - (intOf v).toNat)
  case atStart => exact ⟨0, Nat.zero_le _, rfl, M1, B2, gb_trans g1 g2⟩
  case round =>
    obtain ⟨j, hj, rfl, Mj, Bj, gj⟩ := hrel
    by_cases hlt : j < n
    · have hlt' : (j : Int) < (n : Int) := by omega
      obtain ⟨q, o, rfl, c0, c1⟩ := (h.kept gj (by simp)) j hlt
      have hfj := hf j hlt
      have HS : Hid (flF F (j + 1) = flp (flF F j) (F j)) := rfl
      have HFj := HF.out j
      unfold tmsP at HFj
      have hll := flF_len F j
      have hokj := hok (tm * (f j).1, tm * (f j).2)
      rw [← HFj] at hokj
      obtain ⟨p, hp⟩ : ∃ p, f j = p := ⟨_, rfl⟩
      rw [hp] at c0 c1 hfj HFj
      clear hp
      obtain ⟨a, b⟩ := p
      obtain ⟨d, hd⟩ : ∃ d, F j = d := ⟨_, rfl⟩
      rw [hd] at HS hokj HFj
      clear hd
      simp only at hfj HFj
      have w1 : IntKind.i64.wrap (tm * a) = tm * a := by rw [IntKind.wrap_i64]; omega
      have w2 : IntKind.i64.wrap (tm * b) = tm * b := by rw [IntKind.wrap_i64]; omega
      obtain ⟨W3, hW3, sz3, g3, B3⟩ := boxn wr #[.int .i64 a, .int .i64 b] 40
      have d0 := B3.cell 0 (v := .int .i64 a) rfl
      have d1 := B3.cell 1 (v := .int .i64 b) rfl
      have Bj3 := Bj.kept g3 (by simp)
      have e0 := Bj3.cell 0 (v := .int .u8 k) rfl; have e1 := Bj3.cell 1 (v := .int .i64 x) rfl; have e2 := Bj3.cell 2 (v := .int .i64 y) rfl; have e3 := Bj3.cell 3 (v := .int .u8 t) rfl; have e4 := Bj3.cell 4 (v := .int .i64 z) rfl; have e5 := Bj3.cell 5 (v := .int .i64 X) rfl; have e6 := Bj3.cell 6 (v := .int .i64 Y) rfl; have e7 := Bj3.cell 7 (v := .int .i64 U) rfl; have e8 := Bj3.cell 8 (v := .int .i64 V) rfl; have e9 := Bj3.cell 9 (v := .bool ac) rfl
      have kc := fun w1 => cellTC k x y t z X Y U V ac (tm * a) (tm * b) ht w1
      rw [ceV_is, ← HFj] at kc
      obtain ⟨ta, hta⟩ : ∃ ta, tm * a = ta := ⟨_, rfl⟩
      obtain ⟨tb, htb⟩ : ∃ tb, tm * b = tb := ⟨_, rfl⟩
      rw [hta] at w1
      rw [htb] at w2
      rw [hta, htb] at kc
      clear HFj hfj
      obtain ⟨da, db⟩ := d
      simp only at kc
      have Mj3 := Mj.kept g3 (by simp)
      have kf := fun w1 (M : Sm w1 W1.heap.size (flF F j)) => flipC W1.heap.size (flF F j) (da, db) hokj (by omega) w1 M
      unfold ptV at kf
      go_wp2_with (first | (go_at_call 74; refine (kc _).mono ?_; rintro e w4 ⟨rfl, g4⟩; have kf4 := kf w4 (Mj3.kept g4 (by simp))) | (go_at_call 66; refine kf4.mono ?_; rintro e w6 ⟨rfl, M6, g6⟩; refine Hid.out ?_) | go_in)
      refine Lib.hid ?_
      have G4 := gb_trans gj (gb_trans g3 g4)
      have B6 := (Bj3.kept g4 (by simp)).kept g6 (fun e => by injection e with e; omega)
      have G6 : w.grownBy w6 none := G4.andThen g6 (fun j hj => .inl (by injection hj with hj; omega))
      clear kf kf4 kc
      go_wp2
      go_roundw
      case rel => exact ⟨j + 1, by omega, by go_num, by rw [HS.out]; exact M6, B6, G6⟩
      case measure => simp [intOf]; omega
    · have hkn : j = n := by omega
      subst hkn
      have hlt' : ¬ (j : Int) < (j : Int) := by omega
      have hll := flF_len F j
      have kl := listC W1.heap.size (flF F j) (by omega) wr Mj
      obtain ⟨m, hm⟩ : ∃ m, (flF F j).length = m := ⟨_, rfl⟩
      have HM : Hid ((flF F j).length = m) := hm
      rw [hm] at kl
      go_wp2_with (first | (go_at_call 41; refine kl.mono ?_; rintro e w5 ⟨g, c5, rfl, own5, g5⟩) | go_in)
      go_ret
      exact ⟨g, c5, m, HM.out, rfl, own_less own5 gj.size, gb_trans gj g5⟩
end Ln
end Go.Proofs.YtbmpiddjakdebaaGreat
namespace Go.Proofs.YtbmpiddjakdebaaGreat
open Go.RowKit
set_option linter.unusedVariables false
set_option linter.unusedSimpArgs false
set_option maxRecDepth 100000

namespace Ln
/-- The points of a list. -/
def psL (f : Nat → Pt) (n : Nat) : List Pt := (List.range n).map f
theorem psL_len (f : Nat → Pt) (n : Nat) : (psL f n).length = n := by simp [psL]
theorem psL_at (f : Nat → Pt) (n j : Nat) (hj : j < n) : (psL f n).getD j (0, 0) = f j := by simp [psL, hj, List.getD]
theorem fl_pl {w : World} {a : Addr} {n : Nat} {f : Nat → Pt} (h : Pl w (some a) n f) (j : Nat) (u : Value) (hu : (fl (psL f n))[j]? = some u) : w.cell? (a.add j) = some u := by
  have hj : j < n * 2 := by
    have := (List.getElem?_eq_some_iff.1 hu).1
    rwa [fl_len, psL_len] at this
  rw [fl_get _ _ (by rw [psL_len]; exact hj), psL_at f n _ (by omega)] at hu
  obtain ⟨q, o, ha, c0, c1⟩ := h (j / 2) (by omega)
  injection ha with ha
  subst ha
  rw [Addr.add_lit]
  rcases (by omega : j % 2 = 0 ∨ j % 2 = 1) with e | e
  · rw [e] at hu
    cases hu
    rw [show o + j / 2 * 2 = o + j by omega] at c0
    exact c0
  · rw [e] at hu
    cases hu
    rw [show o + j / 2 * 2 + 1 = o + j by omega] at c1
    exact c1
theorem fl_one : ∀ (ps : List Pt) (u : Value), u ∈ fl ps → u.oneCell' = true
  | [], u, h => by cases h
  | p :: ps, u, h => by
    simp only [fl, List.mem_cons] at h
    rcases h with rfl | rfl | h
    · rfl
    · rfl
    · exact fl_one ps u h
set_option maxHeartbeats 1000000 in
theorem cloneC (sp : Option Addr) (n c : Nat) (f : Nat → Pt) (hn : n < 1000000000) (h0 : sp = none → n = 0 ∧ c = 0) (w : World) (h : Pl w sp n f) : Calls Tryz.prog 55 #[.slice sp n c] w fun e w' => ∃ v, e = .returned v ∧ w'.ownsRow w.heap.size 40 2 v n (fl (psL f n)) ∧ w.grownBy w' none := by
  have qT : ∀ (w : World) (a : Option Addr) (n c n' c' : Nat), (binOp .eql 24 (.slice a n c) (.slice none n' c')).run Tryz.prog w = .ok (.bool a.isNone) w := fun w a n c n' c' => Lib.run_eql_slice_nil w _ _ a n c n' c' underPS
  cases sp with
  | none =>
    obtain ⟨rfl, rfl⟩ := h0 rfl
    go_enter Tryz.func55, Tryz.ntmps55
    go_wp2
    go_ret
    exact ⟨_, rfl, World.ownsRow_nil _ _ _ _, World.grownBy.refl _ _⟩
  | some a =>
    obtain ⟨W1, hW1, sz1, g1, B1⟩ := boxn w #[] 40
    obtain ⟨i0, h1, h2, h3, h4⟩ := info_parts infoK
    have HH : Hid (Tryz.prog.info? 40 = some i0 ∧ i0.zero = some (.agg #[.int .i64 0, .int .i64 0]) ∧ i0.size = 2 ∧ i0.bytes = 16) := ⟨h1, h2, h3, h4⟩
    clear h1 h2 h3 h4
    have own0 : W1.ownsRow w.heap.size 40 2 (.slice (some ⟨w.heap.size, 0, none⟩) 0 0) 0 [] := ⟨rfl, .inr ⟨w.heap.size, 0, #[], rfl, Nat.le_refl _, B1, Nat.le_refl _, by decide, rfl, rfl⟩⟩
    have hb1 := h.kept g1 (by simp)
    go_enter Tryz.func55, Tryz.ntmps55
    go_wp2_with (at_builtin; refine wpList_append_own _ rfl _ _ 24 rfl w.heap.size 40 i0 (.agg #[.int .i64 0, .int .i64 0]) 2 16 underPS HH.out.1 HH.out.2.1 HH.out.2.2.1 HH.out.2.2.2 rfl (by decide) _ 0 [] rfl own0 a n c (fl (psL f n)) rfl (by rw [fl_len, psL_len]) (fl_pl hb1) (fl_one _) (by unfold maxLen; omega) (by omega) g1.size ?_; intro v' w2 own2 gg2 _)
    go_ret
    refine ⟨v', rfl, ?_, g1.andThen gg2 (fun j hj => .inl (by have hj : w.heap.size = j := Option.some.inj hj; omega))⟩
    simpa using own2
set_option maxHeartbeats 1000000 in
theorem laidF (k x y t z X Y U V : Int) (sp : Option Addr) (n c : Nat) (f : Nat → Pt) (hn : n < 1000000000) (h0 : sp = none → n = 0 ∧ c = 0) (w : World) (h : Pl w sp n f) : Calls Tryz.prog 28 #[.agg #[.int .u8 k, .int .i64 x, .int .i64 y, .int .u8 t, .int .i64 z, .int .i64 X, .int .i64 Y, .int .i64 U, .int .i64 V, .bool false], .slice sp n c] w fun e w' => ∃ v, e = .returned v ∧ w'.ownsRow w.heap.size 40 2 v n (fl (psL f n)) ∧ w.grownBy w' none := by
  obtain ⟨W1, hW1, sz1, g1, B1⟩ := boxn w #[.int .u8 k, .int .i64 x, .int .i64 y, .int .u8 t, .int .i64 z, .int .i64 X, .int .i64 Y, .int .i64 U, .int .i64 V, .bool false] 62
  have c0 := B1.cell 0 (v := .int .u8 k) rfl; have c1 := B1.cell 1 (v := .int .i64 x) rfl; have c2 := B1.cell 2 (v := .int .i64 y) rfl; have c3 := B1.cell 3 (v := .int .u8 t) rfl; have c4 := B1.cell 4 (v := .int .i64 z) rfl; have c5 := B1.cell 5 (v := .int .i64 X) rfl; have c6 := B1.cell 6 (v := .int .i64 Y) rfl; have c7 := B1.cell 7 (v := .int .i64 U) rfl; have c8 := B1.cell 8 (v := .int .i64 V) rfl; have c9 := B1.cell 9 (v := .bool false) rfl
  have kc := cloneC sp n c f hn h0 W1 (h.kept g1 (by simp))
  generalize fl (psL f n) = R at kc ⊢
  go_enter Tryz.func28, Tryz.ntmps28
  go_wp2_with (first | (go_at_call 55; refine kc.mono ?_; rintro e w2 ⟨v, rfl, own2, g2⟩; have B2 := B1.kept g2 (by simp); have d0 := B2.cell 0 (v := .int .u8 k) rfl; have d1 := B2.cell 1 (v := .int .i64 x) rfl; have d2 := B2.cell 2 (v := .int .i64 y) rfl; have d3 := B2.cell 3 (v := .int .u8 t) rfl; have d4 := B2.cell 4 (v := .int .i64 z) rfl; have d5 := B2.cell 5 (v := .int .i64 X) rfl; have d6 := B2.cell 6 (v := .int .i64 Y) rfl; have d7 := B2.cell 7 (v := .int .i64 U) rfl; have d8 := B2.cell 8 (v := .int .i64 V) rfl; have d9 := B2.cell 9 (v := .bool false) rfl) | go_in)
  go_ret
  exact ⟨v, rfl, own_less own2 g1.size, gb_trans g1 g2⟩
end Ln
end Go.Proofs.YtbmpiddjakdebaaGreat
namespace Go.Proofs.YtbmpiddjakdebaaGreat
open Go.RowKit
set_option linter.unusedVariables false
set_option linter.unusedSimpArgs false
set_option maxRecDepth 100000

namespace Ln
theorem underG : ∃ fs, Tryz.prog.underlying 62 = some (.struct fs) := by
  have h : (match Tryz.prog.underlying 62 with | some (.struct _) => true | _ => false) = true := by kernel_rfl
  split at h
  · rename_i fs hfs; exact ⟨fs, hfs⟩
  · cases h
theorem infoG10 : (Tryz.prog.info? 62).map (·.size) = some 10 := by kernel_rfl
theorem bo10 {w : World} {g : Nat} {t : TypeId} {x0 x1 x2 x3 x4 x5 x6 x7 x8 x9 u0 u1 u2 u3 u4 u5 u6 u7 u8 u9 : Value} (h : Bo w g t #[x0, x1, x2, x3, x4, x5, x6, x7, x8, x9]) : Bo ((((((((((w.setCell ⟨g, 0, none⟩ u0).setCell ⟨g, 1, none⟩ u1).setCell ⟨g, 2, none⟩ u2).setCell ⟨g, 3, none⟩ u3).setCell ⟨g, 4, none⟩ u4).setCell ⟨g, 5, none⟩ u5).setCell ⟨g, 6, none⟩ u6).setCell ⟨g, 7, none⟩ u7).setCell ⟨g, 8, none⟩ u8).setCell ⟨g, 9, none⟩ u9) g t #[u0, u1, u2, u3, u4, u5, u6, u7, u8, u9] := by
  simpa using ((((((((((h.set 0 u0).set 1 u1).set 2 u2).set 3 u3).set 4 u4).set 5 u5).set 6 u6).set 7 u7).set 8 u8).set 9 u9)
theorem gb10 {w w' : World} (h : w.grownBy w' none) {b : Nat} (hb : w.heap.size ≤ b) {u0 u1 u2 u3 u4 u5 u6 u7 u8 u9 : Value} : w.grownBy ((((((((((w'.setCell ⟨b, 0, none⟩ u0).setCell ⟨b, 1, none⟩ u1).setCell ⟨b, 2, none⟩ u2).setCell ⟨b, 3, none⟩ u3).setCell ⟨b, 4, none⟩ u4).setCell ⟨b, 5, none⟩ u5).setCell ⟨b, 6, none⟩ u6).setCell ⟨b, 7, none⟩ u7).setCell ⟨b, 8, none⟩ u8).setCell ⟨b, 9, none⟩ u9) none := gb_new (gb_new (gb_new (gb_new (gb_new (gb_new (gb_new (gb_new (gb_new (gb_new h hb _) hb _) hb _) hb _) hb _) hb _) hb _) hb _) hb _) hb _
set_option maxHeartbeats 1000000 in
theorem torusOfF (k x y t z : Int) (ht : 0 ≤ t) (hc : Tp.chk k x y t z = 0) (ha : t ≠ 2) (hb : t = 0 → y ≤ x) (w : World) : Calls Tryz.prog 27 #[.agg #[.int .u8 k, .int .i64 x, .int .i64 y, .int .u8 t, .int .i64 z]] w fun e w' => e = .returned (.agg #[.int .u8 k, .int .i64 x, .int .i64 y, .int .u8 t, .int .i64 z, .int .i64 (To.fi x), .int .i64 (To.fi y), .int .i64 x, .int .i64 y, .bool false]) ∧ w.grownBy w' none := by
  have kh := fun w1 => To.homeC k x y t z ht w1
  unfold To.homeV at kh
  rw [if_pos hc, hc] at kh
  generalize To.fi x = X at kh ⊢
  generalize To.fi y = Y at kh ⊢
  have t2 : (t == 2) = false := by simp [ha]
  obtain ⟨W1, hW1, sz1, g1, B1⟩ := boxn w #[.int .u8 k, .int .i64 x, .int .i64 y, .int .u8 t, .int .i64 z] 23
  obtain ⟨W2, hW2, sz2, g2, B2⟩ := boxn W1 #[.int .u8 0, .int .i64 0, .int .i64 0, .int .u8 0, .int .i64 0, .int .i64 0, .int .i64 0, .int .i64 0, .int .i64 0, .bool false] 62
  have B12 := B1.kept g2 (by simp)
  have c0 := B12.cell 0 (v := .int .u8 k) rfl; have c1 := B12.cell 1 (v := .int .i64 x) rfl; have c2 := B12.cell 2 (v := .int .i64 y) rfl; have c3 := B12.cell 3 (v := .int .u8 t) rfl; have c4 := B12.cell 4 (v := .int .i64 z) rfl
  obtain ⟨fs, hfs⟩ := underG
  have hl1 := B1.lt
  have hne : w.heap.size ≠ W1.heap.size := by omega
  by_cases h0 : t = 0
  · have t0 : (t == 0) = true := by simp [h0]
    have hxy : ¬ x < y := by have := hb h0; omega
    clear h0 hb ha hc
    go_enter Tryz.func27, Tryz.ntmps27
    go_wp2_with (first | (go_at_call 54; refine (kh _).mono ?_; rintro e w3 ⟨rfl, g3⟩; obtain ⟨W4, hW4, sz4, g4, B4⟩ := boxn w3 #[.int .i64 X, .int .i64 Y, .int .i64 x, .int .i64 y] 60; have B14 := (B12.kept g3 (by simp)).kept g4 (by simp); have B24 := (B2.kept g3 (by simp)).kept g4 (by simp); have G4 := gb_trans g1 (gb_trans g2 (gb_trans g3 g4)); have d0 := B14.cell 0 (v := .int .u8 k) rfl; have d1 := B14.cell 1 (v := .int .i64 x) rfl; have d2 := B14.cell 2 (v := .int .i64 y) rfl; have d3 := B14.cell 3 (v := .int .u8 t) rfl; have d4 := B14.cell 4 (v := .int .i64 z) rfl; have e0 := B24.cell 0 (v := .int .u8 0) rfl; have e1 := B24.cell 1 (v := .int .i64 0) rfl; have e2 := B24.cell 2 (v := .int .i64 0) rfl; have e3 := B24.cell 3 (v := .int .u8 0) rfl; have e4 := B24.cell 4 (v := .int .i64 0) rfl; have e5 := B24.cell 5 (v := .int .i64 0) rfl; have e6 := B24.cell 6 (v := .int .i64 0) rfl; have e7 := B24.cell 7 (v := .int .i64 0) rfl; have e8 := B24.cell 8 (v := .int .i64 0) rfl; have e9 := B24.cell 9 (v := .bool false) rfl; have f0 := B24.frozen 0; have f1 := B24.frozen 1; have f2 := B24.frozen 2; have f3 := B24.frozen 3; have f4 := B24.frozen 4; have f5 := B24.frozen 5; have f6 := B24.frozen 6; have f7 := B24.frozen 7; have f8 := B24.frozen 8; have f9 := B24.frozen 9; have h0 := B4.cell 0 (v := .int .i64 X) rfl; have h1 := B4.cell 1 (v := .int .i64 Y) rfl; have h2 := B4.cell 2 (v := .int .i64 x) rfl; have h3 := B4.cell 3 (v := .int .i64 y) rfl) | go_in)
    refine ret_c1 (g := W1.heap.size) (cs := #[.int .u8 k, .int .i64 x, .int .i64 y, .int .u8 t, .int .i64 z, .int .i64 (X), .int .i64 (Y), .int .i64 x, .int .i64 y, .bool false]) rfl hfs infoG10 rfl (bo10 B24) rfl ⟨rfl, gb10 G4 g1.size⟩
  · have t0 : (t == 0) = false := by simp [h0]
    clear h0 hb ha hc
    go_enter Tryz.func27, Tryz.ntmps27
    go_wp2_with (first | (go_at_call 54; refine (kh _).mono ?_; rintro e w3 ⟨rfl, g3⟩; obtain ⟨W4, hW4, sz4, g4, B4⟩ := boxn w3 #[.int .i64 X, .int .i64 Y, .int .i64 x, .int .i64 y] 60; have B14 := (B12.kept g3 (by simp)).kept g4 (by simp); have B24 := (B2.kept g3 (by simp)).kept g4 (by simp); have G4 := gb_trans g1 (gb_trans g2 (gb_trans g3 g4)); have d0 := B14.cell 0 (v := .int .u8 k) rfl; have d1 := B14.cell 1 (v := .int .i64 x) rfl; have d2 := B14.cell 2 (v := .int .i64 y) rfl; have d3 := B14.cell 3 (v := .int .u8 t) rfl; have d4 := B14.cell 4 (v := .int .i64 z) rfl; have e0 := B24.cell 0 (v := .int .u8 0) rfl; have e1 := B24.cell 1 (v := .int .i64 0) rfl; have e2 := B24.cell 2 (v := .int .i64 0) rfl; have e3 := B24.cell 3 (v := .int .u8 0) rfl; have e4 := B24.cell 4 (v := .int .i64 0) rfl; have e5 := B24.cell 5 (v := .int .i64 0) rfl; have e6 := B24.cell 6 (v := .int .i64 0) rfl; have e7 := B24.cell 7 (v := .int .i64 0) rfl; have e8 := B24.cell 8 (v := .int .i64 0) rfl; have e9 := B24.cell 9 (v := .bool false) rfl; have f0 := B24.frozen 0; have f1 := B24.frozen 1; have f2 := B24.frozen 2; have f3 := B24.frozen 3; have f4 := B24.frozen 4; have f5 := B24.frozen 5; have f6 := B24.frozen 6; have f7 := B24.frozen 7; have f8 := B24.frozen 8; have f9 := B24.frozen 9; have h0 := B4.cell 0 (v := .int .i64 X) rfl; have h1 := B4.cell 1 (v := .int .i64 Y) rfl; have h2 := B4.cell 2 (v := .int .i64 x) rfl; have h3 := B4.cell 3 (v := .int .i64 y) rfl) | go_in)
    refine ret_c1 (g := W1.heap.size) (cs := #[.int .u8 k, .int .i64 x, .int .i64 y, .int .u8 t, .int .i64 z, .int .i64 (X), .int .i64 (Y), .int .i64 x, .int .i64 y, .bool false]) rfl hfs infoG10 rfl (bo10 B24) rfl ⟨rfl, gb10 G4 g1.size⟩
end Ln
end Go.Proofs.YtbmpiddjakdebaaGreat
