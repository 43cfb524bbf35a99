/- A store of bits copied. -/
import Derived.Test.YthjiiljglgmkpaaGreatDoorXb
import Derived.Test.YthjiiljglgmkpaaGreatDoorK30
import Derived.Deep.RegionHeld2
namespace Go.Proofs.YthjiiljglgmkpaaGreatDoor.Tt
open Go.RowKit
set_option linter.unusedVariables false
set_option linter.unusedSimpArgs false
set_option maxRecDepth 100000

theorem underWS1 : Tryz.prog.underlying 31 = some (.slice 37) := by kernel_rfl
theorem infoW1 : (Tryz.prog.info? 37).map (fun i => (i.zero, i.size, i.bytes)) = some (some (.int .u64 0), 1, 8) := by kernel_rfl
theorem underRS1 : Tryz.prog.underlying 67 = some (.slice 33) := by kernel_rfl
theorem infoR1 : (Tryz.prog.info? 33).map (fun i => (i.zero, i.size, i.bytes)) = some (some (.agg #[.int .i64 0, .slice none 0 0]), 2, 32) := by kernel_rfl
/-- Cells in a row, as a list. -/
def clV (F : Nat → Value) (n : Nat) : List Value := (List.range n).map F
theorem clV_len (F : Nat → Value) (n : Nat) : (clV F n).length = n := by simp [clV]
theorem clV_at (F : Nat → Value) (n j : Nat) (hj : j < n) : (clV F n)[j]? = some (F j) := by simp [clV, hj]
theorem clV_cell {w : World} {a : Addr} {n : Nat} {F : Nat → Value} (h : ∀ j, j < n → w.cell? (a.add j) = some (F j)) (j : Nat) (u : Value) (hu : (clV F n)[j]? = some u) : w.cell? (a.add j) = some u := by
  have hj : j < n := by
    have := (List.getElem?_eq_some_iff.1 hu).1
    rwa [clV_len] at this
  rw [clV_at F n j hj] at hu
  rw [← Option.some.inj hu]
  exact h j hj
theorem clV_one {F : Nat → Value} {n : Nat} (h : ∀ j, j < n → (F j).oneCell' = true) (u : Value) (hu : u ∈ clV F n) : u.oneCell' = true := by
  simp only [clV, List.mem_map] at hu
  obtain ⟨i, hi, rfl⟩ := hu
  exact h i (List.mem_range.1 hi)
theorem own_cells {w : World} {B q K n z m : Nat} {e : TypeId} {F : Nat → Value} (h : w.ownsRow B e z (.slice (some ⟨q, 0, none⟩) n K) n (clV F m)) (hm : m = n * z) : n ≤ K ∧ B ≤ q ∧ ∃ f0, w.rowIs q e (K * z) f0 ∧ ∀ k, k < m → f0 k = F k := by
  rcases h.2 with ⟨e, _⟩ | ⟨q', K', cur, e, h1, h2, h3, h4, h5, h6⟩
  · cases e
  · cases e
    refine ⟨h3, h1, fun k => cur[k]?.getD undef, ⟨cur, h2, by omega, fun i hi => ?_⟩, fun k hk => ?_⟩
    · have : i < cur.size := by omega
      simp [this]
    · have hb := clV_at F m k hk
      rw [← h6, List.getElem?_take_of_lt (by omega)] at hb
      have hb' : cur[k]? = some (F k) := by simpa using hb
      simp only [hb', Option.getD_some]
set_option maxHeartbeats 1000000 in
theorem cloneW (a : Addr) (n c : Nat) (F : Nat → Value) (hn : 0 < n) (hb : n ≤ 70000) (h1 : ∀ j, j < n * 1 → (F j).oneCell' = true) (w : World) (h : ∀ j, j < n * 1 → w.cell? (a.add j) = some (F j)) : Calls Tryz.prog 188 #[.slice (some a) n c] w fun e w' => ∃ q K, e = .returned (.slice (some ⟨q, 0, none⟩) n K) ∧ (n ≤ K ∧ w.heap.size ≤ q ∧ ∃ f0, w'.rowIs q 37 (K * 1) f0 ∧ ∀ k, k < n * 1 → f0 k = F k) ∧ w.grownBy w' none := by
  have qT : ∀ (w : World) (a : Option Addr) (n c n' c' : Nat), (binOp .eql 31 (.slice a n c) (.slice none n' c')).run Tryz.prog w = .ok (.bool a.isNone) w := fun w a n c n' c' => Lib.run_eql_slice_nil w _ _ a n c n' c' Tryz.underlying31
  obtain ⟨W1, hW1, sz1, g1, B1⟩ := boxn w #[] 37
  obtain ⟨i0, i1, i2, i3, i4⟩ := info_parts infoW1
  have HH : Hid _ := And.intro i1 (And.intro i2 (And.intro i3 i4))
  clear i1 i2 i3 i4
  have own0 : W1.ownsRow w.heap.size 37 1 (.slice (some ⟨w.heap.size, 0, none⟩) 0 0) 0 [] := ⟨rfl, .inr ⟨w.heap.size, 0, #[], rfl, Nat.le_refl _, B1, Nat.le_refl _, by decide, rfl, rfl⟩⟩
  have hb1 : ∀ j, j < n * 1 → W1.cell? (a.add j) = some (F j) := fun j hj => g1.cell (h j hj) (by simp)
  have hcl := clV_cell hb1
  have hon := clV_one h1
  clear h h1 hb1
  go_enter Tryz.func188, Tryz.ntmps188
  go_wp2_with (at_builtin; refine wpList_append_own _ rfl _ _ 31 rfl w.heap.size 37 i0 (.int .u64 0) 1 8 underWS1 HH.out.1 HH.out.2.1 HH.out.2.2.1 HH.out.2.2.2 rfl (by decide) _ 0 [] rfl own0 a n c (clV F (n * 1)) rfl (by rw [clV_len]) hcl hon (by unfold maxLen; omega) (by omega) g1.size ?_; intro v' w2 own2 gg2 _)
  go_ret
  rw [Nat.zero_add, List.nil_append] at own2
  rcases own2.2 with ⟨_, e2⟩ | ⟨q, K, cur, e1, e2⟩
  · have := clV_len F (n * 1)
    rw [e2] at this
    simp at this
    omega
  · subst e1
    exact ⟨q, K, rfl, own_cells own2 rfl, gb_past g1 gg2 (Nat.le_refl _)⟩
set_option maxHeartbeats 1000000 in
theorem cloneR (a : Addr) (n c : Nat) (F : Nat → Value) (hn : 0 < n) (hb : n ≤ 70000) (h1 : ∀ j, j < n * 2 → (F j).oneCell' = true) (w : World) (h : ∀ j, j < n * 2 → w.cell? (a.add j) = some (F j)) : Calls Tryz.prog 187 #[.slice (some a) n c] w fun e w' => ∃ q K, e = .returned (.slice (some ⟨q, 0, none⟩) n K) ∧ (n ≤ K ∧ w.heap.size ≤ q ∧ ∃ f0, w'.rowIs q 33 (K * 2) f0 ∧ ∀ k, k < n * 2 → f0 k = F k) ∧ w.grownBy w' none := by
  have qT : ∀ (w : World) (a : Option Addr) (n c n' c' : Nat), (binOp .eql 67 (.slice a n c) (.slice none n' c')).run Tryz.prog w = .ok (.bool a.isNone) w := fun w a n c n' c' => Lib.run_eql_slice_nil w _ _ a n c n' c' Tryz.underlying67
  obtain ⟨W1, hW1, sz1, g1, B1⟩ := boxn w #[] 33
  obtain ⟨i0, i1, i2, i3, i4⟩ := info_parts infoR1
  have HH : Hid _ := And.intro i1 (And.intro i2 (And.intro i3 i4))
  clear i1 i2 i3 i4
  have own0 : W1.ownsRow w.heap.size 33 2 (.slice (some ⟨w.heap.size, 0, none⟩) 0 0) 0 [] := ⟨rfl, .inr ⟨w.heap.size, 0, #[], rfl, Nat.le_refl _, B1, Nat.le_refl _, by decide, rfl, rfl⟩⟩
  have hb1 : ∀ j, j < n * 2 → W1.cell? (a.add j) = some (F j) := fun j hj => g1.cell (h j hj) (by simp)
  have hcl := clV_cell hb1
  have hon := clV_one h1
  clear h h1 hb1
  go_enter Tryz.func187, Tryz.ntmps187
  go_wp2_with (at_builtin; refine wpList_append_own _ rfl _ _ 67 rfl w.heap.size 33 i0 (.agg #[.int .i64 0, .slice none 0 0]) 2 32 underRS1 HH.out.1 HH.out.2.1 HH.out.2.2.1 HH.out.2.2.2 rfl (by decide) _ 0 [] rfl own0 a n c (clV F (n * 2)) rfl (by rw [clV_len]) hcl hon (by unfold maxLen; omega) (by omega) g1.size ?_; intro v' w2 own2 gg2 _)
  go_ret
  rw [Nat.zero_add, List.nil_append] at own2
  rcases own2.2 with ⟨_, e2⟩ | ⟨q, K, cur, e1, e2⟩
  · have := clV_len F (n * 2)
    rw [e2] at this
    simp at this
    omega
  · subst e1
    exact ⟨q, K, rfl, own_cells own2 rfl, gb_past g1 gg2 (Nat.le_refl _)⟩
/-- The rows of the copy, of which the first j have words of their own. -/
structure Cb (w wr : World) (s2 q2 K2 C R j : Nat) (g wn : Nat → Nat) : Prop where
  box : Bo wr s2 187 #[.int .i64 (C : Nat), .int .i64 (R : Nat), .int .i64 2, .slice (some ⟨q2, 0, none⟩) R K2]
  row : ∃ f1, wr.rowIs q2 33 (K2 * 2) f1 ∧ (∀ i, i < R → f1 (i * 2) = .int .i64 (C : Nat)) ∧ ∀ i, i < j → ∃ cp, f1 (i * 2 + 1) = .slice (some ⟨wn i, 0, none⟩) (nw C) cp
  wrd : ∀ i, i < j → s2 < wn i ∧ wn i < wr.heap.size ∧ ∃ K f0, wr.rowIs (wn i) 37 K f0 ∧ nw C ≤ K ∧ ∀ k, k < nw C → f0 k = .int .u64 (Pk.pack (bt C g i) k)
  inj : ∀ i k, i < j → k < j → wn i = wn k → i = k
  gro : w.grownBy wr none
theorem Cb.kept {w wr wr' : World} {s2 q2 K2 C R j : Nat} {g wn : Nat → Nat} (h : Cb w wr s2 q2 K2 C R j g wn) (hg : wr.grownBy wr' none) : Cb w wr' s2 q2 K2 C R j g wn :=
  ⟨h.box.kept hg (by simp), let ⟨f1, h1, h2⟩ := h.row; ⟨f1, rowIs_kept h1 hg (by simp), h2⟩, fun i hi => let ⟨a, b, K, f0, h1, h2⟩ := h.wrd i hi; ⟨a, Nat.lt_of_lt_of_le b hg.size, K, f0, rowIs_kept h1 hg (by simp), h2⟩, h.inj, gb_trans h.gro hg⟩
theorem Cb.put {w wr : World} {s2 q2 K2 C R j : Nat} {g wn : Nat → Nat} (h : Cb w wr s2 q2 K2 C R j g wn) (hq : q2 < s2) (hw : w.heap.size ≤ q2) (hj : j < R) (hR : R ≤ K2) (qn Kn : Nat) (l1 : s2 < qn) (l2 : qn < wr.heap.size) (hne : ∀ i, i < j → wn i ≠ qn) (hr : ∃ f0, wr.rowIs qn 37 Kn f0 ∧ nw C ≤ Kn ∧ ∀ k, k < nw C → f0 k = .int .u64 (Pk.pack (bt C g j) k)) :
    Cb w (wr.setCell ⟨q2, j * 2 + 1, none⟩ (.slice (some ⟨qn, 0, none⟩) (nw C) Kn)) s2 q2 K2 C R (j + 1) g (fun i => if i = j then qn else wn i) := by
  have G : wr.grownBy (wr.setCell ⟨q2, j * 2 + 1, none⟩ (.slice (some ⟨qn, 0, none⟩) (nw C) Kn)) (some q2) := gb_set (World.grownBy.refl _ _) _ _
  obtain ⟨f1, h1, h2, h3⟩ := h.row
  refine ⟨h.box.kept G (fun e => by have e := Option.some.inj e; omega), ⟨_, World.rowIs.set h1 (j * 2 + 1) _, fun i hi => ?_, fun i hi => ?_⟩, fun i hi => ?_, fun i k hi hk e => ?_, gb_past h.gro G hw⟩
  · rw [if_neg (by omega)]; exact h2 i hi
  · by_cases e : i = j
    · subst e; exact ⟨Kn, by rw [if_pos rfl, if_pos rfl]⟩
    · rw [if_neg (by omega), if_neg e]; exact h3 i (by omega)
  · have hs := G.size
    by_cases e : i = j
    · subst e
      obtain ⟨f0, r1, r2, r3⟩ := hr
      rw [if_pos rfl]
      exact ⟨l1, by omega, Kn, f0, rowIs_kept r1 G (fun e => by have e := Option.some.inj e; omega), r2, r3⟩
    · obtain ⟨a, b, K, f0, r1, r2⟩ := h.wrd i (by omega)
      rw [if_neg e]
      exact ⟨a, by omega, K, f0, rowIs_kept r1 G (fun e => by have e := Option.some.inj e; omega), r2⟩
  · by_cases e1 : i = j
    · by_cases e2 : k = j
      · omega
      · rw [if_pos e1, if_neg e2] at e
        exact absurd e.symm (hne k (by omega))
    · by_cases e2 : k = j
      · rw [if_neg e1, if_pos e2] at e
        exact absurd e (hne i (by omega))
      · rw [if_neg e1, if_neg e2] at e
        exact h.inj i k (by omega) (by omega) e
theorem Cb.at {w wr : World} {s2 q2 K2 C R j : Nat} {g wn : Nat → Nat} (h : Cb w wr s2 q2 K2 C R j g wn) (k : Nat) (hk : k < K2 * 2) : ∃ v, wr.cell? ⟨q2, k, none⟩ = some v ∧ wr.frozen? ⟨q2, k, none⟩ = false := by
  obtain ⟨f1, h1, h2, h3⟩ := h.row
  refine ⟨f1 k, h1.cell hk, ?_⟩
  obtain ⟨c, hc, _⟩ := h1
  simp [World.frozen?, hc]
set_option maxHeartbeats 4000000 in
theorem copiedB (s : Nat) (q : Nat × (Nat → Nat)) (C R : Nat) (g : Nat → Nat) (hz : Sz C R 2) (w : World) (h : Sb w s q C R 2 g) : Calls Tryz.prog 177 #[.pointer (some ⟨s, 0, none⟩)] w fun e w' => ∃ s2 q2, e = .returned (.iface 163 (.pointer (some ⟨s2, 0, none⟩))) ∧ Sb w' s2 q2 C R 2 g ∧ w.heap.size ≤ s2 ∧ w.heap.size ≤ q2.1 ∧ (∀ j, j < R → w.heap.size ≤ q2.2 j) ∧ w.grownBy w' none := by
  obtain ⟨K, k1, k2⟩ := h.cap
  obtain ⟨f0, r1, r2⟩ := k2.row
  have hle := k2.le
  have hr0 := hz.r0
  have hr1 := hz.r1
  have hc0 := hz.c0
  have hc1 := hz.c1
  have hnw : nw C ≤ 1024 := by unfold nw; omega
  have hnw0 : 0 < nw C := by unfold nw; omega
  have c0 := k1.cell 0 (v := .int .i64 (C : Nat)) rfl
  have c1 := k1.cell 1 (v := .int .i64 (R : Nat)) rfl
  have c2 := k1.cell 2 (v := .int .i64 2) rfl
  have c3 := k1.cell 3 (v := .slice (some ⟨q.1, 0, none⟩) R K) rfl
  have hone : ∀ j, j < R * 2 → (f0 j).oneCell' = true := fun j hj => by
    obtain ⟨e1, cp, e2⟩ := r2 (j / 2) (by omega)
    rcases (show j = j / 2 * 2 ∨ j = j / 2 * 2 + 1 by omega) with e | e
    · rw [e, e1]; rfl
    · rw [e, e2]; rfl
  have hcl := cloneR ⟨q.1, 0, none⟩ R K f0 hr0 (by omega) hone w.drew (fun j hj => by rw [add_mid, Nat.zero_add]; exact (show w.drew.rowIs q.1 33 (2 * K) f0 from r1).cell (by omega))
  have k1' : Bo w.drew s 187 #[.int .i64 (C : Nat), .int .i64 (R : Nat), .int .i64 2, .slice (some ⟨q.1, 0, none⟩) R K] := k1
  have HSb : Hid (Sb w s q C R 2 g) := h
  have Hf0 : Hid (w.rowIs q.1 33 (2 * K) f0 ∧ ∀ i, i < R → f0 (i * 2) = .int .i64 (C : Nat) ∧ ∃ cp, f0 (i * 2 + 1) = .slice (some ⟨q.2 i, 0, none⟩) (nw C) cp) := ⟨r1, r2⟩
  have hslt := k1.lt
  clear hone r1 r2 k2 h
  go_enter Tryz.func177, Tryz.ntmps177
  go_wp2
  go_region_held2 (fun w' => w'.cell? ⟨s, 0, none⟩ = some (.int .i64 (C : Nat)) ∧ w'.cell? ⟨s, 1, none⟩ = some (.int .i64 (R : Nat)) ∧ w'.cell? ⟨s, 2, none⟩ = some (.int .i64 2) ∧ w'.cell? ⟨s, 3, none⟩ = some (.slice (some ⟨q.1, 0, none⟩) R K)) (go_keep) (first | (go_at_call 187; refine hcl.mono ?_; rintro e w2 ⟨q2, K2, rfl, own2, g2⟩; have HO : Hid (R ≤ K2 ∧ w.drew.heap.size ≤ q2 ∧ ∃ f1, w2.rowIs q2 33 (K2 * 2) f1 ∧ ∀ k, k < R * 2 → f1 k = f0 k) := own2; clear own2; have k2' := k1'.kept g2 (by simp); have d0 := k2'.cell 0 (v := .int .i64 (C : Nat)) rfl; have d1 := k2'.cell 1 (v := .int .i64 (R : Nat)) rfl; have d2 := k2'.cell 2 (v := .int .i64 2) rfl; have d3 := k2'.cell 3 (v := .slice (some ⟨q.1, 0, none⟩) R K) rfl; obtain ⟨W3, hW3, sz3, g3, B3⟩ := boxn w2 #[.int .i64 (C : Nat), .int .i64 (R : Nat), .int .i64 2, .slice (some ⟨q2, 0, none⟩) R K2] 187; have k3' := k2'.kept g3 (by simp); have e0 := k3'.cell 0 (v := .int .i64 (C : Nat)) rfl; have e1 := k3'.cell 1 (v := .int .i64 (R : Nat)) rfl; have e2 := k3'.cell 2 (v := .int .i64 2) rfl; have e3 := k3'.cell 3 (v := .slice (some ⟨q.1, 0, none⟩) R K) rfl))
  have hs2 : w2.heap.size < W3.heap.size := by have := sz3.out; omega
  have gw3 : w.grownBy W3 none := gb_trans (gb_drew (World.grownBy.refl w none)) (gb_trans g2 g3)
  have hK2 := HO.out.1
  have hq2 : w.heap.size ≤ q2 := HO.out.2.1
  have hq2l : q2 < w2.heap.size := by
    obtain ⟨f1, ⟨c, hc, _⟩, _⟩ := HO.out.2.2
    exact (Array.getElem?_eq_some_iff.1 hc).1
  have HC0 : Hid (Cb w W3 w2.heap.size q2 K2 C R 0 g (fun _ => 0)) := by
    obtain ⟨f1, h1, h2⟩ := HO.out.2.2
    exact ⟨B3, ⟨f1, rowIs_kept h1 g3 (by simp), fun i hi => by rw [h2 (i * 2) (by omega)]; exact (Hf0.out.2 i hi).1, fun i hi => absurd hi (Nat.not_lt_zero _)⟩, fun i hi => absurd hi (Nat.not_lt_zero _), fun i k hi => absurd hi (Nat.not_lt_zero _), gw3⟩
  have ls2 : w.heap.size ≤ w2.heap.size := by have := g2.size; exact this
  clear hcl k1 k1' k2' c0 c1 c2 c3 d0 d1 d2 d3 g2 g3 B3 HO hW3
  go_wp2
  clear k3' e0 e1 e2 e3
  go_loopw [22] (fun x wr => ∃ (j : Nat) (wn : Nat → Nat), j ≤ R ∧ x = .int .i64 (j : Nat) ∧ Hid (Cb w wr w2.heap.size q2 K2 C R j g wn)) (fun x _ => R - (intOf x).toNat)
  case atStart => exact ⟨0, _, Nat.zero_le _, rfl, HC0.out⟩
  case round =>
    clear HC0
    obtain ⟨j, wn, hj, rfl, HC⟩ := hrel
    obtain ⟨U, hU⟩ : ∃ U, U = wr := ⟨_, rfl⟩
    subst hU
    by_cases hlt : j < R
    · have hlt' : (j : Int) < (R : Int) := by omega
      obtain ⟨e0, cp, e1⟩ := Hf0.out.2 j hlt
      have hrow := rowIs_kept Hf0.out.1 HC.out.gro (by simp)
      have y0 := (hrow.cell (show j * 2 < 2 * K by omega)).trans (congrArg some e0)
      have y1 := (hrow.cell (show j * 2 + 1 < 2 * K by omega)).trans (congrArg some e1)
      obtain ⟨W5, hW5, i0, i1, sz5, g5, B5⟩ := box2 U (.int .i64 (C : Nat)) (.slice (some ⟨q.2 j, 0, none⟩) (nw C) cp) 33
      have g5d : U.grownBy W5.drew none := gb_trans g5 (gb_drew (World.grownBy.refl _ none))
      have HC5 : Hid (Cb w W5.drew w2.heap.size q2 K2 C R j g wn) := HC.out.kept g5d
      have z3 := HC5.out.box.cell 3 (v := .slice (some ⟨q2, 0, none⟩) R K2) rfl
      have B5d : Bx W5.drew U.heap.size 33 (.int .i64 (C : Nat)) (.slice (some ⟨q.2 j, 0, none⟩) (nw C) cp) := B5
      have b50 := B5d.cell0
      have b51 := B5d.cell1
      obtain ⟨Kw, fw, w1, w2', w3⟩ := (HSb.out.kept (gb_trans HC.out.gro g5d)).wrd.row j hlt
      have kC := cloneW ⟨q.2 j, 0, none⟩ (nw C) cp fw hnw0 (by omega) (fun k hk => by rw [w3 k (by omega)]; rfl) W5.drew (fun k hk => by rw [add_mid, Nat.zero_add]; exact w1.cell (by omega))
      have Hw3 : Hid (∀ k, k < nw C → fw k = .int .u64 (Pk.pack (bt C g j) k)) := w3
      have hU2 : w2.heap.size < U.heap.size := HC.out.box.lt
      clear w1 w2' w3 hrow e0 e1
      go_wp2
      go_region_held2 (fun w' => w'.cell? ⟨w2.heap.size, 3, none⟩ = some (.slice (some ⟨q2, 0, none⟩) R K2) ∧ w'.cell? ⟨U.heap.size, 0, none⟩ = some (.int .i64 (C : Nat)) ∧ w'.cell? ⟨U.heap.size, 1, none⟩ = some (.slice (some ⟨q.2 j, 0, none⟩) (nw C) cp)) (go_keep) (first | (go_at_call 188; refine kC.mono ?_; rintro e w6 ⟨qn, Kn, rfl, own6, g6⟩; clear kC; have HO6 : Hid (nw C ≤ Kn ∧ W5.drew.heap.size ≤ qn ∧ ∃ f0, w6.rowIs qn 37 (Kn * 1) f0 ∧ ∀ k, k < nw C * 1 → f0 k = fw k) := own6; clear own6; have HC6 : Hid (Cb w w6 w2.heap.size q2 K2 C R j g wn) := HC5.out.kept g6; have v3 := HC6.out.box.cell 3 (v := .slice (some ⟨q2, 0, none⟩) R K2) rfl; have B6 := B5d.kept g6 (by simp); have b60 := B6.cell0; have b61 := B6.cell1; obtain ⟨v6, x1, x2⟩ := HC6.out.at (j * 2 + 1) (by omega); obtain ⟨X7, hX7⟩ : ∃ X, w6.setCell ⟨q2, j * 2 + 1, none⟩ (.slice (some ⟨qn, 0, none⟩) (nw C) Kn) = X := ⟨_, rfl⟩; have gX7 : w6.grownBy X7 (some q2) := hX7 ▸ gb_set (World.grownBy.refl _ _) _ _; have hqn : w2.heap.size < qn := (by have e9 : W5.drew.heap.size ≤ qn := HO6.out.2.1; have e8 : U.heap.size < W5.drew.heap.size := B5d.lt; omega); have HC7 : Hid (Cb w X7 w2.heap.size q2 K2 C R (j + 1) g (fun i => if i = j then qn else wn i)) := hX7 ▸ HC6.out.put hq2l hq2 hlt hK2 qn Kn hqn (by obtain ⟨f9, ⟨c9, hc9, _⟩, _⟩ := HO6.out.2.2; exact (Array.getElem?_eq_some_iff.1 hc9).1) (fun i hi e9 => by have e8 := (HC5.out.wrd i hi).2.1; have e7 := HO6.out.2.1; omega) (by obtain ⟨f9, r9, t9⟩ := HO6.out.2.2; exact ⟨f9, by rw [Nat.mul_one] at r9; exact r9, HO6.out.1, fun k hk => (t9 k (by omega)).trans (Hw3.out k hk)⟩); have n3 := HC7.out.box.cell 3 (v := .slice (some ⟨q2, 0, none⟩) R K2) rfl; have B7 := B6.kept gX7 (fun e => by have e := Option.some.inj e; omega); have n0 := B7.cell0; have n1 := B7.cell1))
      go_wp2
      go_roundw
      case rel => exact ⟨j + 1, _, by omega, by go_num, HC7.out⟩
      case measure => simp [intOf]; omega
    · obtain rfl : j = R := by omega
      have hlt' : ¬ (j : Int) < (j : Int) := by omega
      go_wp2
      go_ret
      refine ⟨w2.heap.size, rfl, q2, wn, ⟨rfl, HSb.out.low, ⟨K2, HC.out.box, ⟨hK2, ?_⟩⟩, ⟨fun i hi => ?_, HC.out.inj⟩⟩, ls2, hq2, fun i hi => by have := (HC.out.wrd i hi).1; omega, HC.out.gro⟩
      · obtain ⟨f1, h1, h2, h3⟩ := HC.out.row
        exact ⟨f1, by rw [Nat.mul_comm]; exact h1, fun i hi => ⟨h2 i hi, h3 i hi⟩⟩
      · obtain ⟨_, _, K, f0, h1, h2, h3⟩ := HC.out.wrd i hi
        exact ⟨K, f0, h1, h2, h3⟩
end Go.Proofs.YthjiiljglgmkpaaGreatDoor.Tt
