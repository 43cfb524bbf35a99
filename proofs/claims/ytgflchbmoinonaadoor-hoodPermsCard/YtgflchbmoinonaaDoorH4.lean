/- What a linear part does to the offsets of a neighbourhood. -/
import Derived.Test.YtgflchbmoinonaaDoorH3
namespace Go.Proofs.YtgflchbmoinonaaDoor
open Go.RowKit
open Fl
set_option linter.unusedVariables false
set_option linter.unusedSimpArgs false
set_option maxRecDepth 100000

/-- Which offset the part takes an offset to. -/
def mp (h k i : Nat) : Option Nat := fiF h (lx k (px h i) (py h i) + 0) (ly k (px h i) (py h i) + 0) 8 0
def toV (h k i j : Nat) : Value := if j < i then .int .i64 (((mp h k j).getD 0 : Nat) : Int) else .int .i64 0
def toA (h k i : Nat) : Array Value := #[toV h k i 0, toV h k i 1, toV h k i 2, toV h k i 3, toV h k i 4, toV h k i 5, toV h k i 6, toV h k i 7]
theorem toA_at (h k i j : Nat) (hj : j < 8) : (toA h k i)[j]? = some (toV h k i j) := by
  match j, hj with
  | 0, _ => rfl
  | 1, _ => rfl
  | 2, _ => rfl
  | 3, _ => rfl
  | 4, _ => rfl
  | 5, _ => rfl
  | 6, _ => rfl
  | 7, _ => rfl
theorem toA_0 (h k : Nat) : toA h k 0 = #[.int .i64 0, .int .i64 0, .int .i64 0, .int .i64 0, .int .i64 0, .int .i64 0, .int .i64 0, .int .i64 0] := rfl
theorem toA_set (h k i n : Nat) (hi : i < 8) (hn : mp h k i = some n) : (toA h k i).setIfInBounds i (.int .i64 ((n : Nat) : Int)) = toA h k (i + 1) := by
  apply Array.ext_getElem?
  intro j
  rw [Array.getElem?_setIfInBounds]
  by_cases hj : j < 8
  · rw [toA_at h k (i + 1) j hj, toA_at h k i j hj]
    by_cases e : i = j
    · subst e
      rw [if_pos rfl, if_pos (by exact hj)]
      unfold toV
      rw [if_pos (by omega), hn]
      rfl
    · rw [if_neg e]
      unfold toV
      by_cases hl : j < i
      · rw [if_pos hl, if_pos (by omega)]
      · rw [if_neg hl, if_neg (by omega)]
  · rw [Array.getElem?_eq_none (xs := toA h k (i + 1)) (by exact Nat.le_of_not_lt hj)]
    by_cases e : i = j
    · exact absurd (e ▸ hi) hj
    · rw [if_neg e, Array.getElem?_eq_none (by exact Nat.le_of_not_lt hj)]
theorem px_near : ∀ h, h < 4 → ∀ i, i < 8 → nearB (px h i) = true ∧ nearB (py h i) = true := by decide
theorem l_near : ∀ h, h < 4 → ∀ k, k < 8 → ∀ i, i < 8 → nearB (lx k (px h i) (py h i) + 0) = true ∧ nearB (ly k (px h i) (py h i) + 0) = true := by decide +kernel
theorem infoA8 : (Tryd.prog.info? 58).map (·.size) = some 8 := by kernel_rfl
theorem underA8 : ∃ n el, Tryd.prog.underlying 58 = some (.array n el) := ⟨_, _, Tryd.underlying58⟩
theorem toA_one (h k i : Nat) : (toA h k i).all (·.oneCell') = true := by
  have e : ∀ j, (toV h k i j).oneCell' = true := fun j => by unfold toV; split <;> rfl
  simp [toA, e]
/-- A whole box is read at once. -/
theorem wpList_ld {P : Program} {ops : Array Oper} {rest : List Oper} {op : Oper} {a : Act} {w : World} {Q : Exit → Act → World → Prop} (hgd : op.guard = none) (ty : TypeId) (x : Operand) (ho : op.op = .load ty x)
    (g : Nat) (hx : a.eval x = .pointer (some ⟨g, 0, none⟩)) (cs : Array Value) {t : TypeId} {d : TypeDesc} (hg : Bo w g t cs) (hu : P.underlying ty = some d) (hd : d.isRow = true) (hi : (P.info? ty).map (·.size) = some cs.size)
    (h : wpList P ops Q rest (a.put op.dst (.agg cs)) w) : wpList P ops Q (op :: rest) a w := by
  refine wpList_load_mid hgd ty x ho g 0 hx cs.toList d (fun j v hv => ?_) hu hd (by simpa using hi) (by simpa using h)
  rw [Nat.zero_add]
  exact hg.cell j (by simpa using hv)
set_option maxHeartbeats 2000000 in
theorem byC (h : Nat) (h1 : 1 ≤ h) (h3 : h ≤ 3) (k : Nat) (hk8 : k < 8) (C : Array Value) (B : Bool) (HC : Hid ((B = true ∧ (∀ j, j < sn h → (mp h k j).isSome = true) ∧ C = toA h k (sn h)) ∨ (B = false ∧ (∃ j, j < sn h ∧ mp h k j = none) ∧ C = #[.int .i64 0, .int .i64 0, .int .i64 0, .int .i64 0, .int .i64 0, .int .i64 0, .int .i64 0, .int .i64 0]))) (w : World) :
    Calls Tryd.prog 26 #[.agg (ho h), .agg (mv (pa k) (pb k) (fl4 k) 0 0)] w fun e w' => e = .returned (.tuple #[.agg C, .bool B]) ∧ w.grownBy w' none := by
  have h8 := sn_le h h1 h3
  have my := (part_may k hk8).1
  obtain ⟨W1, hW1, sz1, g1, B1⟩ := boxn w (ho h) 55
  obtain ⟨W2, hW2, sz2, g2, B2⟩ := boxn W1 (mv (pa k) (pb k) (fl4 k) 0 0) 43
  obtain ⟨W3, hW3, sz3, g3, B3⟩ := boxn W2 #[.int .i64 0, .int .i64 0, .int .i64 0, .int .i64 0, .int .i64 0, .int .i64 0, .int .i64 0, .int .i64 0] 58
  obtain ⟨W4, hW4, sz4, g4, B4⟩ := boxn W3 #[.int .i64 0, .int .i64 0, .int .i64 0, .int .i64 0, .int .i64 0, .int .i64 0, .int .i64 0, .int .i64 0] 58
  have BO := ((B1.kept g2 (by simp)).kept g3 (by simp)).kept g4 (by simp)
  have BM := (B2.kept g3 (by simp)).kept g4 (by simp)
  have BR := B3.kept g4 (by simp)
  have G4 := gb_trans (gb_trans (gb_trans g1 g2) g3) g4
  have c16 := BO.cell 16 (v := .int .i64 ((sn h : Nat) : Int)) rfl
  have nt : Hid (W3.heap.size ≠ w.heap.size) := by have := sz1.out; have := sz2.out; have := sz3.out; unfold Hid; omega
  have nt1 : Hid (W3.heap.size ≠ W1.heap.size) := by have := sz1.out; have := sz2.out; have := sz3.out; unfold Hid; omega
  have nt2 : Hid (W3.heap.size ≠ W2.heap.size) := by have := sz1.out; have := sz2.out; have := sz3.out; unfold Hid; omega
  have nr : Hid (w.heap.size ≤ W3.heap.size) := by have := sz1.out; have := sz2.out; have := sz3.out; unfold Hid; omega
  have nr2 : Hid (w.heap.size ≤ W2.heap.size) := by have := sz1.out; have := sz2.out; have := sz3.out; unfold Hid; omega
  go_enter Tryd.func26, Tryd.ntmps26
  go_wp2
  go_loopw [14] (fun v wr => ∃ i : Nat, i ≤ sn h ∧ v = .int .i64 i ∧ Hid (∀ j, j < i → (mp h k j).isSome = true) ∧ Bo wr w.heap.size 55 (ho h) ∧ Bo wr W1.heap.size 43 (mv (pa k) (pb k) (fl4 k) 0 0) ∧ Bo wr W2.heap.size 58 #[.int .i64 0, .int .i64 0, .int .i64 0, .int .i64 0, .int .i64 0, .int .i64 0, .int .i64 0, .int .i64 0] ∧ Bo wr W3.heap.size 58 (toA h k i) ∧ w.grownBy wr none) (fun v _ => sn h - (intOf v).toNat)
  case atStart => exact ⟨0, Nat.zero_le _, rfl, fun j hj => by omega, BO, BM, BR, B4, G4⟩
  case round =>
    obtain ⟨i, hi, rfl, HI, Po, Pm, Pr, Pt, hg⟩ := hrel
    by_cases hlt : i < sn h
    · have hlt' : (i : Int) < ((sn h : Nat) : Int) := by omega
      have hi8 : i < 8 := by omega
      have hi8' : (i : Int) < 8 := by omega
      have c0 := Po.cell (i * 2) (ho_at h i hi8).1
      have c1 := Po.cell (i * 2 + 1) (ho_at h i hi8).2
      have m0 := Pm.cell 0 (v := .complex .f64 (pa k) (pb k)) rfl
      have m1 := Pm.cell 1 (v := .bool (fl4 k)) rfl
      have m2 := Pm.cell 2 (v := .complex .f64 0 0) rfl
      have n1 := px_near h (by omega) i hi8
      have n2 := l_near h (by omega) k hk8 i hi8
      have hA := fun w => atYes (pa k) (pb k) (fl4 k) 0 0 (px h i) (py h i) my n1.1 n1.2 _ _ rfl rfl n2.1 n2.2 w
      have hN := fun R hR g w B => numbC h (lx k (px h i) (py h i) + 0) (ly k (px h i) (py h i) + 0) g R hR w B
      generalize hU : lx k (px h i) (py h i) + 0 = U at hA hN
      generalize hV : ly k (px h i) (py h i) + 0 = V at hA hN
      have HM : Hid (mp h k i = fiF h U V 8 0) := by rw [← hU, ← hV]; rfl
      clear hU hV n1 n2
      obtain ⟨Wz, hWz, szz, gz, Bz⟩ := boxn wr #[.int .i64 0, .int .i64 0] 37
      have Poz := Po.kept gz (by simp)
      have Pmz := Pm.kept gz (by simp)
      have Prz := Pr.kept gz (by simp)
      have Ptz := Pt.kept gz (by simp)
      have o0z := Poz.cell (i * 2) (ho_at h i hi8).1
      have o1z := Poz.cell (i * 2 + 1) (ho_at h i hi8).2
      have m0z := Pmz.cell 0 (v := .complex .f64 (pa k) (pb k)) rfl
      have m1z := Pmz.cell 1 (v := .bool (fl4 k)) rfl
      have m2z := Pmz.cell 2 (v := .complex .f64 0 0) rfl
      go_wp2
      go_region_held2 (fun w' => w'.cell? ⟨w.heap.size, i * 2, none⟩ = some (.int .i64 (px h i)) ∧ w'.cell? ⟨w.heap.size, i * 2 + 1, none⟩ = some (.int .i64 (py h i)) ∧ w'.cell? ⟨W1.heap.size, 0, none⟩ = some (.complex .f64 (pa k) (pb k)) ∧ w'.cell? ⟨W1.heap.size, 1, none⟩ = some (.bool (fl4 k)) ∧ w'.cell? ⟨W1.heap.size, 2, none⟩ = some (.complex .f64 0 0)) (go_keep) (first | (go_at_call 21; refine (hA _).mono ?_; rintro e w5 ⟨rfl, g5⟩; have G5 := gb_trans (gb_drew (gb_trans hg gz)) g5; have Po5 := Poz.dr.kept g5 (by simp); have Pm5 := Pmz.dr.kept g5 (by simp); have Pr5 := Prz.dr.kept g5 (by simp); have Pt5 := Ptz.dr.kept g5 (by simp); have Bp5 := Bz.dr.kept g5 (by simp); have o05 := Po5.cell (i * 2) (ho_at h i hi8).1; have o15 := Po5.cell (i * 2 + 1) (ho_at h i hi8).2; have m05 := Pm5.cell 0 (v := .complex .f64 (pa k) (pb k)) rfl; have m15 := Pm5.cell 1 (v := .bool (fl4 k)) rfl; have m25 := Pm5.cell 2 (v := .complex .f64 0 0) rfl; have b0 := Bp5.cell 0 (v := .int .i64 0) rfl; have b1 := Bp5.cell 1 (v := .int .i64 0) rfl; have f0 := Bp5.frozen 0; have f1 := Bp5.frozen 1; obtain ⟨W6, hW6⟩ : ∃ W6, (w5.setCell ⟨wr.heap.size, 0, none⟩ (.int .i64 U)).setCell ⟨wr.heap.size, 1, none⟩ (.int .i64 V) = W6 := ⟨_, rfl⟩; have Bp : Bo W6 wr.heap.size 37 #[.int .i64 U, .int .i64 V] := hW6 ▸ bo2 Bp5; have Po6 : Bo W6 w.heap.size 55 (ho h) := hW6 ▸ (Po5.set2 (Nat.ne_of_gt Po.lt)).set2 (Nat.ne_of_gt Po.lt); have Pm6 : Bo W6 W1.heap.size 43 (mv (pa k) (pb k) (fl4 k) 0 0) := hW6 ▸ (Pm5.set2 (Nat.ne_of_gt Pm.lt)).set2 (Nat.ne_of_gt Pm.lt); have Pr6 : Bo W6 W2.heap.size 58 #[.int .i64 0, .int .i64 0, .int .i64 0, .int .i64 0, .int .i64 0, .int .i64 0, .int .i64 0, .int .i64 0] := hW6 ▸ (Pr5.set2 (Nat.ne_of_gt Pr.lt)).set2 (Nat.ne_of_gt Pr.lt); have Pt6 : Bo W6 W3.heap.size 58 (toA h k i) := hW6 ▸ (Pt5.set2 (Nat.ne_of_gt Pt.lt)).set2 (Nat.ne_of_gt Pt.lt); have G6 : w.grownBy W6 none := hW6 ▸ gb2 G5 hg.size; have o06 := Po6.cell (i * 2) (ho_at h i hi8).1; have o16 := Po6.cell (i * 2 + 1) (ho_at h i hi8).2; have m06 := Pm6.cell 0 (v := .complex .f64 (pa k) (pb k)) rfl; have m16 := Pm6.cell 1 (v := .bool (fl4 k)) rfl; have m26 := Pm6.cell 2 (v := .complex .f64 0 0) rfl) | (go_at_call 21; refine (hA _).mono ?_; rintro e w5 ⟨rfl, g5⟩; have G5 := gb_trans (gb_drew hg) g5; have Po5 := Po.dr.kept g5 (by simp); have Pm5 := Pm.dr.kept g5 (by simp); have Pr5 := Pr.dr.kept g5 (by simp); have Pt5 := Pt.dr.kept g5 (by simp); have o05 := Po5.cell (i * 2) (ho_at h i hi8).1; have o15 := Po5.cell (i * 2 + 1) (ho_at h i hi8).2; have m05 := Pm5.cell 0 (v := .complex .f64 (pa k) (pb k)) rfl; have m15 := Pm5.cell 1 (v := .bool (fl4 k)) rfl; have m25 := Pm5.cell 2 (v := .complex .f64 0 0) rfl; obtain ⟨W6, hW6, sz6, g6, Bp⟩ := boxn w5 #[.int .i64 U, .int .i64 V] 37; have Po6 := Po5.kept g6 (by simp); have Pm6 := Pm5.kept g6 (by simp); have Pr6 := Pr5.kept g6 (by simp); have Pt6 := Pt5.kept g6 (by simp); have G6 := gb_trans G5 g6; have o06 := Po6.cell (i * 2) (ho_at h i hi8).1; have o16 := Po6.cell (i * 2 + 1) (ho_at h i hi8).2; have m06 := Pm6.cell 0 (v := .complex .f64 (pa k) (pb k)) rfl; have m16 := Pm6.cell 1 (v := .bool (fl4 k)) rfl; have m26 := Pm6.cell 2 (v := .complex .f64 0 0) rfl))
      all_goals have p0 := Bp.cell 0 (v := .int .i64 U) rfl
      all_goals have p1 := Bp.cell 1 (v := .int .i64 V) rfl
      all_goals clear c0 c1 m0 m1 m2 o0z o1z m0z m1z m2z o05 o15 m05 m15 m25 o06 o16 m06 m16 m26
      all_goals cases hm : mp h k i with
        | none =>
          have HR : Hid (fiF h U V 8 0 = none) := HM.out.symm.trans hm
          have HC' : Hid (C = #[.int .i64 0, .int .i64 0, .int .i64 0, .int .i64 0, .int .i64 0, .int .i64 0, .int .i64 0, .int .i64 0] ∧ B = false) := by
            rcases HC.out with ⟨_, q, _⟩ | ⟨q, _, r⟩
            · have := q i hlt
              rw [hm] at this
              cases this
            · exact ⟨r, q⟩
          obtain ⟨rfl, rfl⟩ := HC'.out
          clear HC HC' HM hm
          go_wp2_with (first | (go_at_call 36; refine (hN none HR _ _ Po6).mono ?_; rintro e w7 ⟨rfl, g7⟩; have Pr7 := Pr6.kept g7 (by simp); have G7 := gb_trans G6 g7) | (refine wpList_st (op := ⟨_, .store 58 _ _, _, _, _, _⟩) rfl 58 _ _ rfl W2.heap.size #[.int .i64 0, .int .i64 0, .int .i64 0, .int .i64 0, .int .i64 0, .int .i64 0, .int .i64 0, .int .i64 0] rfl rfl Pr7 infoA8 rfl (by simp [Value.oneCell']) ?_; intro W8 hW8 Pr8; have G8 : w.grownBy W8 none := hW8 ▸ gb_rowset G7 nr2.out))
          refine ret_a2 (g := W2.heap.size) (cs := #[.int .i64 0, .int .i64 0, .int .i64 0, .int .i64 0, .int .i64 0, .int .i64 0, .int .i64 0, .int .i64 0]) rfl Tryd.underlying58 infoA8 rfl Pr8 rfl ⟨rfl, G8⟩
        | some n =>
          have HR : Hid (fiF h U V 8 0 = some n) := HM.out.symm.trans hm
          have HI' : Hid (∀ j, j < i + 1 → (mp h k j).isSome = true) := fun j hj => by
            by_cases e : j = i
            · rw [e, hm]; rfl
            · exact HI.out j (by omega)
          have HT : Hid ((toA h k i).setIfInBounds i (.int .i64 ((n : Nat) : Int)) = toA h k (i + 1)) := toA_set h k i n hi8 hm
          have HE : Hid ((toA h k i)[i]? = some (.int .i64 0)) := by
            unfold Hid; rw [toA_at h k i i hi8]; unfold toV; rw [if_neg (by omega)]
          clear HC HM hm HI
          go_wp2_with (first | (go_at_call 36; refine (hN (some n) HR _ _ Po6).mono ?_; rintro e w7 ⟨rfl, g7⟩; have Po7 := Po6.kept g7 (by simp); have Pm7 := Pm6.kept g7 (by simp); have Pr7 := Pr6.kept g7 (by simp); have Pt7 := Pt6.kept g7 (by simp); have G7 := gb_trans G6 g7; have t0 := Pt7.cell i HE.out; have t1 := Pt7.frozen i))
          go_roundw
          case rel => exact ⟨i + 1, by omega, by go_num, HI', Po7.set2 nt.out, Pm7.set2 nt1.out, Pr7.set2 nt2.out, HT.out ▸ Pt7.set i _, gb_new G7 nr.out _⟩
          case measure => simp [intOf]; omega
    · have hlt' : ¬ (i : Int) < ((sn h : Nat) : Int) := by omega
      obtain rfl : i = sn h := by omega
      have HC' : Hid (C = toA h k (sn h) ∧ B = true) := by
        rcases HC.out with ⟨q, _, r⟩ | ⟨_, ⟨j, hj, q⟩, _⟩
        · exact ⟨r, q⟩
        · have := HI.out j hj
          rw [q] at this
          cases this
      obtain ⟨rfl, rfl⟩ := HC'.out
      clear HC HC' HI
      go_wp2_with (first | (refine wpList_ld (op := ⟨_, .load 58 _, _, _, _, _⟩) rfl 58 _ rfl W3.heap.size rfl (toA h k (sn h)) Pt Tryd.underlying58 rfl infoA8 ?_) | (refine wpList_st (op := ⟨_, .store 58 _ _, _, _, _, _⟩) rfl 58 _ _ rfl W2.heap.size (toA h k (sn h)) rfl rfl Pr infoA8 rfl (toA_one h k _) ?_; intro W8 hW8 Pr8; have G8 : w.grownBy W8 none := hW8 ▸ gb_rowset hg nr2.out))
      refine ret_a2 (g := W2.heap.size) (cs := toA h k (sn h)) rfl Tryd.underlying58 infoA8 rfl Pr8 rfl ⟨rfl, G8⟩
end Go.Proofs.YtgflchbmoinonaaDoor
