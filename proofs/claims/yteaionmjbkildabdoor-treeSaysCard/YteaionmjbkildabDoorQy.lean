/- The statements' small. -/
import Derived.Test.YteaionmjbkildabDoorQe
import Derived.Test.YteaionmjbkildabDoorQx
import Derived.Test.YteaionmjbkildabDoorQ4
import Derived.Test.YteaionmjbkildabDoorQ3
import Derived.Test.YteaionmjbkildabDoorQ24
import Derived.Deep.AppendLies
import Derived.Deep.RegionHeldLaw
namespace Go.Proofs.YteaionmjbkildabDoor
open Go.RowKit
set_option linter.unusedVariables false
set_option linter.unusedSimpArgs false
set_option maxRecDepth 100000

theorem gb_bey {a b c : World} {r q : Option Nat} (h : a.grownBy b r) (k : b.grownBy c q) (hq : ∀ i, q = some i → a.heap.size ≤ i) : a.grownBy c r := by
  cases q with
  | none => exact gb_none h k
  | some i => exact gb_past h k (hq i rfl)
theorem own_by {w : World} {base n : Nat} {v : Value} {g : Nat → Nat} (h : w.ownsRow base 5 1 v n ((List.range n).map fun k => .int .u8 ((g k : Nat) : Int))) : ∃ sp cap, v = .slice sp n cap ∧ By w sp n g ∧ ∀ a, sp = some a → base ≤ a.block ∧ a.block < w.heap.size := by
  rcases h.2 with ⟨rfl, h0⟩ | ⟨b, cap, cur, rfl, hb, hg, hc⟩
  · subst h0
    exact ⟨none, 0, rfl, fun k hk => absurd hk (Nat.not_lt_zero _), fun a e => by cases e⟩
  · refine ⟨_, cap, rfl, fun k hk => ⟨_, rfl, ?_⟩, fun a e => by cases e; exact h.lt b rfl⟩
    refine h.cells (g := b) rfl k _ ?_
    simp [hk]
/-- The states and the inputs of a function that was made small. -/
def smS (S : Int) : Nat := (1 + (S.tmod 4 + 4).tmod 4).toNat
def smI (I : Int) : Nat := ((I.tmod 6 + 6).tmod 6).toNat
theorem tm_bd (a : Int) (m : Int) (hm : 0 < m) : -m < a.tmod m ∧ a.tmod m < m := ⟨Int.lt_tmod_of_pos a hm, Int.tmod_lt_of_pos a hm⟩
theorem tm_up {a : Int} {m : Int} (hm : 0 < m) (h : 0 ≤ a) : 0 ≤ a.tmod m ∧ a.tmod m < m := ⟨Int.tmod_nonneg m h, Int.tmod_lt_of_pos a hm⟩
theorem smS_bd (S : Int) : (1 ≤ smS S ∧ smS S ≤ 4) ∧ ((smS S : Nat) : Int) = 1 + (S.tmod 4 + 4).tmod 4 := by
  have h1 := tm_bd S 4 (by decide)
  have h2 := tm_up (a := S.tmod 4 + 4) (m := 4) (by decide) (by omega)
  unfold smS
  omega
theorem smI_bd (I : Int) : smI I ≤ 5 ∧ ((smI I : Nat) : Int) = (I.tmod 6 + 6).tmod 6 := by
  have h1 := tm_bd I 6 (by decide)
  have h2 := tm_up (a := I.tmod 6 + 6) (m := 6) (by decide) (by omega)
  unfold smI
  omega
set_option maxHeartbeats 2000000 in
theorem smallC (S I : Int) (hS : -9223372036854775808 ≤ S ∧ S ≤ 9223372036854775807) (hI : -9223372036854775808 ≤ I ∧ I ≤ 9223372036854775807) (sp : Option Addr) (n c : Nat) (hn : n ≤ 140737488355328) (f : Nat → Nat) (h8 : ∀ i, f i < 256) (w : World) (hf : By w sp n f) :
    Calls Tryd.prog 18 #[.agg #[.int .i64 S, .int .i64 I, .slice sp n c]] w fun e w' => ∃ sq cq, e = .returned (.agg #[.int .i64 (smS S : Nat), .int .i64 (smI I : Nat), .slice sq (min n 2000) cq]) ∧ By w' sq (min n 2000) (fun i => f i % smS S) ∧ (∀ a, sq = some a → w.heap.size ≤ a.block) ∧ w.grownBy w' none := by
  obtain ⟨W1, hW1, sz1, g1, B1⟩ := boxn w #[.int .i64 S, .int .i64 I, .slice sp n c] 46
  have c0 := B1.cell 0 (v := .int .i64 S) rfl
  have c1 := B1.cell 1 (v := .int .i64 I) rfl
  have c2 := B1.cell 2 (v := .slice sp n c) rfl
  obtain ⟨W2, hW2, sz2, g2, B2⟩ := boxn W1 #[.int .i64 0, .int .i64 0, .slice none 0 0] 46
  have B12 := B1.kept g2 (by simp)
  have d0 := B12.cell 0 (v := .int .i64 S) rfl
  have d1 := B12.cell 1 (v := .int .i64 I) rfl
  have d2 := B12.cell 2 (v := .slice sp n c) rfl
  have z0 := B2.cell 0 (v := .int .i64 0) rfl
  have z1 := B2.cell 1 (v := .int .i64 0) rfl
  have y0 := B2.frozen 0
  have y1 := B2.frozen 1
  obtain ⟨⟨hs1, hs4⟩, hsI⟩ := smS_bd S
  obtain ⟨hi5, hiI⟩ := smI_bd I
  obtain ⟨st, hst⟩ : ∃ st, smS S = st := ⟨_, rfl⟩
  obtain ⟨inp, hinp⟩ : ∃ inp, smI I = inp := ⟨_, rfl⟩
  rw [hst] at hs1 hs4 hsI ⊢
  rw [hinp] at hi5 hiI ⊢
  have b1 := tm_bd S 4 (by decide)
  have b2 := tm_bd I 6 (by decide)
  have b3 := tm_up (a := S.tmod 4 + 4) (m := 4) (by decide) (by omega)
  have b4 := tm_up (a := I.tmod 6 + 6) (m := 6) (by decide) (by omega)
  have e1 : IntKind.i64.wrap (S.tmod 4 + 4) = S.tmod 4 + 4 := by rw [IntKind.wrap_i64]; omega
  have e2 : IntKind.i64.wrap (I.tmod 6 + 6) = I.tmod 6 + 6 := by rw [IntKind.wrap_i64]; omega
  have e3 : IntKind.i64.wrap (1 + (S.tmod 4 + 4).tmod 4) = (st : Int) := by rw [← hsI, IntKind.wrap_i64]; omega
  have e4 : (I.tmod 6 + 6).tmod 6 = (inp : Int) := hiI.symm
  clear b1 b2 b3 b4 hsI hiI hst hinp
  obtain ⟨W3, hW3, sz3, g3, B3⟩ := boxn W2 #[.int .i64 (st : Nat), .int .i64 (inp : Nat), .slice none 0 0] 46
  have HX : Hid (Bo W3 w.heap.size 46 #[.int .i64 S, .int .i64 I, .slice sp n c]) := B12.kept g3 (by simp)
  have HZ : Hid (Bo W3 W1.heap.size 46 #[.int .i64 0, .int .i64 0, .slice none 0 0]) := B2.kept g3 (by simp)
  have hG : w.grownBy W3 none := gb_trans g1 (gb_trans g2 g3)
  have HG : Hid (w.grownBy W3 none) := hG
  have HB3 : Hid (Bo W3 W2.heap.size 46 #[.int .i64 (st : Nat), .int .i64 (inp : Nat), .slice none 0 0]) := B3
  have HS : Hid (w.heap.size < W1.heap.size ∧ W1.heap.size < W2.heap.size ∧ W2.heap.size < W3.heap.size) := ⟨by have := sz1.out; omega, by have := sz2.out; omega, by have := sz3.out; omega⟩
  have Hfo : Hid (By w sp n f) := hf
  have Hf : Hid (By W3 sp n f) := hf.kept hG (by simp)
  obtain ⟨i8, HI8⟩ : ∃ i, Hid (Tryd.prog.info? 5 = some i ∧ i.zero = some (.int .u8 0) ∧ i.size = 1 ∧ i.bytes = 1) := by
    obtain ⟨i, h1, h2, h3, h4⟩ := info_parts info8
    exact ⟨i, h1, h2, h3, h4⟩
  have H8 : Hid (∀ i, f i < 256) := h8
  have q0 := B3.cell 0 (v := .int .i64 (st : Nat)) rfl
  have q1 := B3.cell 1 (v := .int .i64 (inp : Nat)) rfl
  have q2 := B3.cell 2 (v := .slice none 0 0) rfl
  have p0 := B3.frozen 0
  have p1 := B3.frozen 1
  have p2 := B3.frozen 2
  have s2 := Bo.same B3 2 (v := .slice none 0 0) rfl
  clear hf h8 hG B1 B2 B3 B12 g1 g2 g3 sz1 sz2 sz3 c0 c1 c2
  go_enter Tryd.func18, Tryd.ntmps18
  go_wp2
  clear d0 d1 d2 z0 z1 y0 y1 e1 e2 e3 e4 q0 q1 q2 p0 p1 p2 s2
  go_loopw [4] (fun i wr => ∃ (j : Nat) (ov : Value), j ≤ n ∧ j ≤ 2000 ∧ i = .int .i64 (j : Nat) ∧ Hid (Bo wr W2.heap.size 46 #[.int .i64 (st : Nat), .int .i64 (inp : Nat), ov]) ∧ Hid (wr.ownsRow W3.heap.size 5 1 ov j ((List.range j).map fun k => .int .u8 ((f k % st : Nat) : Int))) ∧ Hid (W3.grownBy wr (some W2.heap.size))) (fun i _ => 2000 - (intOf i).toNat)
  case atStart => exact ⟨0, _, Nat.zero_le _, Nat.zero_le _, rfl, HB3, World.ownsRow_nil _ _ _ _, World.grownBy.refl _ _⟩
  case round =>
    obtain ⟨j, ov, hjn, hj2, rfl, Oj, own, gw⟩ := hrel
    have hsz := HS.out
    have Xj := HX.out.kept gw.out (by simp; omega)
    have x2 := Xj.cell 2 (v := .slice sp n c) rfl
    by_cases hlt : j < n
    · have hlt' : (j : Int) < (n : Int) := by omega
      by_cases hl2 : j < 2000
      · have hl2' : (j : Int) < 2000 := by omega
        obtain ⟨a, rfl⟩ := Hf.out.some (by omega)
        have hca := Hf.out.at hlt
        have hab : a.block < w.heap.size := by have := Hfo.out j hlt; obtain ⟨a', ha, hc⟩ := this; cases ha; have := cell_lt hc; rw [add_block] at this; exact this
        have hcj := gw.out.cell hca (by rw [add_block]; simp; omega)
        have hcd : wr.drew.cell? (a.add j) = some (.int .u8 (f j : Nat)) := hcj
        have Xd := Xj.dr.cell 2 (v := .slice (some a) n c) rfl
        have Od0 := Oj.out.dr.cell 0 (v := .int .i64 (st : Nat)) rfl
        have Od2 := Oj.out.dr.cell 2 (v := ov) rfl
        have ho0 := Oj.out.cell 0 (v := .int .i64 (st : Nat)) rfl
        have ho2 := Oj.out.cell 2 (v := ov) rfl
        obtain ⟨v, hv⟩ : ∃ v, f j % st = v := ⟨_, rfl⟩
        have HV : Hid (f j % st = v) := hv
        have hv4 : v < 256 := by rw [← hv]; have := Nat.mod_lt (f j) (show 0 < st by omega); omega
        have hf8 := H8.out j
        obtain ⟨fj, hfjn⟩ : ∃ fj, f j = fj := ⟨_, rfl⟩
        rw [hfjn] at hca hcj hcd hv hf8
        have hst0 : ¬ st = 0 := by omega
        have w8 : IntKind.u8.wrap (st : Int) = (st : Int) := by rw [IntKind.wrap_u8]; omega
        have hrem : ((fj : Nat) : Int).tmod (st : Int) = (v : Int) := by rw [← hv]; exact (Int.ofNat_tmod fj st).symm
        obtain ⟨X2, hX2⟩ : ∃ X2, wr.drew.alloc (.cells #[.int .u8 (v : Nat)] 5) = X2 := ⟨_, rfl⟩
        have gX2 : wr.drew.grownBy X2 none := (by rw [← hX2]; exact World.grownBy_alloc _ _ _)
        have nX : ∀ l u, [Value.int .u8 (v : Nat)][l]? = some u → X2.cell? ((⟨wr.heap.size, 0, none⟩ : Addr).add l) = some u := (by rw [← hX2]; exact new1 wr.drew _ 5)
        have OX2 := Oj.out.dr.kept gX2 (by simp)
        have ox0 := OX2.cell 0 (v := .int .i64 (st : Nat)) rfl
        have ox2 := OX2.cell 2 (v := ov) rfl
        have XX2 := Xj.dr.kept gX2 (by simp)
        have xx2 := XX2.cell 2 (v := .slice (some a) n c) rfl
        have xca := gX2.cell hcd (by simp)
        have own2 : X2.ownsRow W3.heap.size 5 1 ov j ((List.range j).map fun k => .int .u8 ((f k % st : Nat) : Int)) := World.ownsRow.kept (show wr.drew.ownsRow W3.heap.size 5 1 ov j ((List.range j).map fun k => .int .u8 ((f k % st : Nat) : Int)) from own.out) gX2 (Classical.em _)
        have hgs := gw.out.size
        have sX : W3.heap.size ≤ X2.heap.size := Nat.le_trans hgs gX2.size
        have lob : W2.heap.size < W3.heap.size := hsz.2.2
        obtain ⟨NL, hNL⟩ : ∃ NL, ((List.range j).map fun k => Value.int .u8 ((f k % st : Nat) : Int)) = NL := ⟨_, rfl⟩
        have HNL : Hid (((List.range j).map fun k => Value.int .u8 ((f k % st : Nat) : Int)) = NL) := hNL
        rw [hNL] at own2
        clear hNL hv hfjn
        go_wp2
        go_region_law (first | (refine step_append_lies _ rfl (.tmp 29) (.tmp 39) 44 rfl W3.heap.size 5 i8 (.int .u8 0) 1 1 under8S HI8.out.1 HI8.out.2.1 HI8.out.2.2.1 HI8.out.2.2.2 rfl (by decide) _ j NL rfl own2 ⟨wr.heap.size, 0, none⟩ 1 1 [.int .u8 (v : Nat)] rfl rfl nX (by intro u hu; simp at hu; subst hu; rfl) (by decide) (by unfold maxLen; omega) (by omega) sX _ rfl ?_; intro g6 c6 w' own' g' at' lt'; have OX3 := OX2.kept g' (fun e => Nat.not_le_of_lt lob (own2.lt _ e.symm).1); have oX3 := OX3.cell 2 (v := ov) rfl; have fX3 := OX3.frozen 2))
        all_goals go_wp2
        all_goals go_roundw
        all_goals first
          | (simp [intOf]; omega)
          | skip
        all_goals
          have own3 := World.ownsRow.kept own' (gb_set (World.grownBy.refl w' (some W2.heap.size)) 2 (.slice (some ⟨g6, 0, none⟩) (j + 1) c6)) (.inr (fun e => Nat.not_le_of_lt lob (own'.lt _ e).1))
          refine ⟨j + 1, _, hlt, hl2, by go_num, (by unfold Hid; simpa using OX3.set 2 (.slice (some ⟨g6, 0, none⟩) (j + 1) c6)), ?_, gb_set (gb_bey (gb_none (gb_drew gw.out) gX2) g' (fun i e => (own2.lt _ e).1)) _ _⟩
          rw [List.range_succ, List.map_append, HNL.out, List.map_singleton, HV.out]
          exact own3
      · have hl2' : ¬ (j : Int) < 2000 := by omega
        have hmin : min n 2000 = j := by omega
        obtain ⟨sq, cq, rfl, hby, hge⟩ := own_by own.out
        have Zj := HZ.out.kept gw.out (by simp; omega)
        have r0 := Zj.cell 0 (v := .int .i64 0) rfl
        have r1 := Zj.cell 1 (v := .int .i64 0) rfl
        have r2 := Zj.cell 2 (v := .slice none 0 0) rfl
        have z0 := Zj.frozen 0
        have z1 := Zj.frozen 1
        have z2 := Zj.frozen 2
        have o0 := Oj.out.cell 0 (v := .int .i64 (st : Nat)) rfl
        have o1 := Oj.out.cell 1 (v := .int .i64 (inp : Nat)) rfl
        have o2 := Oj.out.cell 2 (v := .slice sq j cq) rfl
        have hW2W1 : W2.heap.size ≠ W1.heap.size := by omega
        obtain ⟨fs, hfs⟩ := underFn
        have Hown := hby
        have hgG : w.grownBy wr none := gb_past HG.out gw.out (by omega)
        go_wp2
        refine ret_c1 (g := W1.heap.size) (t := 46) (cs := #[.int .i64 (st : Nat), .int .i64 (inp : Nat), .slice sq j cq]) rfl hfs infoFn rfl (((Zj.set 0 _).set 1 _).set 2 _) rfl ?_
        have gs : ∀ {W : World}, w.grownBy W none → ∀ i v, w.grownBy (W.setCell ⟨W1.heap.size, i, none⟩ v) none := fun h i v => gb_new h (by show w.heap.size ≤ W1.heap.size; omega) v
        have ks : ∀ {W : World} i v, By W sq j (fun k => f k % st) → By (W.setCell ⟨W1.heap.size, i, none⟩ v) sq j (fun k => f k % st) := fun i v h => h.kept (gb_set (World.grownBy.refl _ (some W1.heap.size)) i v) (fun a e => by have := hge a e; simp; omega)
        refine ⟨sq, ⟨cq, rfl⟩, ks _ _ (ks _ _ (ks _ _ hby)), fun a e => by have := hge a e; omega, gs (gs (gs hgG _ _) _ _) _ _⟩
    · have hlt' : ¬ (j : Int) < (n : Int) := by omega
      have hmin : min n 2000 = j := by omega
      obtain ⟨sq, cq, rfl, hby, hge⟩ := own_by own.out
      have Zj := HZ.out.kept gw.out (by simp; omega)
      have r0 := Zj.cell 0 (v := .int .i64 0) rfl
      have r1 := Zj.cell 1 (v := .int .i64 0) rfl
      have r2 := Zj.cell 2 (v := .slice none 0 0) rfl
      have z0 := Zj.frozen 0
      have z1 := Zj.frozen 1
      have z2 := Zj.frozen 2
      have o0 := Oj.out.cell 0 (v := .int .i64 (st : Nat)) rfl
      have o1 := Oj.out.cell 1 (v := .int .i64 (inp : Nat)) rfl
      have o2 := Oj.out.cell 2 (v := .slice sq j cq) rfl
      have hW2W1 : W2.heap.size ≠ W1.heap.size := by omega
      obtain ⟨fs, hfs⟩ := underFn
      have Hown := hby
      have hgG : w.grownBy wr none := gb_past HG.out gw.out (by omega)
      go_wp2
      refine ret_c1 (g := W1.heap.size) (t := 46) (cs := #[.int .i64 (st : Nat), .int .i64 (inp : Nat), .slice sq j cq]) rfl hfs infoFn rfl (((Zj.set 0 _).set 1 _).set 2 _) rfl ?_
      have gs : ∀ {W : World}, w.grownBy W none → ∀ i v, w.grownBy (W.setCell ⟨W1.heap.size, i, none⟩ v) none := fun h i v => gb_new h (by show w.heap.size ≤ W1.heap.size; omega) v
      have ks : ∀ {W : World} i v, By W sq j (fun k => f k % st) → By (W.setCell ⟨W1.heap.size, i, none⟩ v) sq j (fun k => f k % st) := fun i v h => h.kept (gb_set (World.grownBy.refl _ (some W1.heap.size)) i v) (fun a e => by have := hge a e; simp; omega)
      refine ⟨sq, ⟨cq, rfl⟩, ks _ _ (ks _ _ (ks _ _ hby)), fun a e => by have := hge a e; omega, gs (gs (gs hgG _ _) _ _) _ _⟩
end Go.Proofs.YteaionmjbkildabDoor
