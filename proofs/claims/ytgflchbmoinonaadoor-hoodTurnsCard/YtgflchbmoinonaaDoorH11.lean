/- The walk of HoodTurns. -/
import Derived.Test.YtgflchbmoinonaaDoorH8
import Derived.Deep.RegionHeld2
namespace Go.Proofs.YtgflchbmoinonaaDoor
open Go.RowKit
open Fl
set_option linter.unusedVariables false
set_option linter.unusedSimpArgs false
set_option maxRecDepth 100000

theorem all3 {P : Nat → Nat → Nat → Bool} (H : ((List.range 4).all fun h => (List.range 8).all fun k => (List.range 8).all fun i => P h k i) = true) (h : Nat) (h4 : h < 4) (k : Nat) (hk : k < 8) (i : Nat) (hi : i < 8) : P h k i = true :=
  List.all_eq_true.1 (List.all_eq_true.1 (List.all_eq_true.1 H h (List.mem_range.2 h4)) k (List.mem_range.2 hk)) i (List.mem_range.2 hi)
def snP (h k i : Nat) : Bool := !(decide (1 ≤ h) && decide (i < sn h)) || (fiF h (lx k (px h i) (py h i) + 0) (ly k (px h i) (py h i) + 0) (sn h) 0 == mp h k i)
theorem fi_snA : ((List.range 4).all fun h => (List.range 8).all fun k => (List.range 8).all fun i => snP h k i) = true := by decide +kernel
theorem fi_sn (h : Nat) (h4 : h < 4) (h1 : 1 ≤ h) (k : Nat) (hk : k < 8) (i : Nat) (hi : i < 8) (hs : i < sn h) : fiF h (lx k (px h i) (py h i) + 0) (ly k (px h i) (py h i) + 0) (sn h) 0 = mp h k i := by
  have := all3 fi_snA h h4 k hk i hi
  unfold snP at this
  rw [decide_eq_true h1, decide_eq_true hs] at this
  simpa using this
/-- Which numbers were told below i. -/
def seV (h k i c : Nat) : Bool := (List.range i).any fun j => mp h k j == some c
def seA (h k i : Nat) : Array Value := #[.bool (seV h k i 0), .bool (seV h k i 1), .bool (seV h k i 2), .bool (seV h k i 3), .bool (seV h k i 4), .bool (seV h k i 5), .bool (seV h k i 6), .bool (seV h k i 7), .bool (seV h k i 8)]
theorem seA_at (h k i c : Nat) (hc : c < 9) : (seA h k i)[c]? = some (.bool (seV h k i c)) := by
  match c, hc with
  | 0, _ => rfl
  | 1, _ => rfl
  | 2, _ => rfl
  | 3, _ => rfl
  | 4, _ => rfl
  | 5, _ => rfl
  | 6, _ => rfl
  | 7, _ => rfl
  | 8, _ => rfl
theorem seV_succ (h k i c : Nat) : seV h k (i + 1) c = (seV h k i c || (mp h k i == some c)) := by
  unfold seV; rw [List.range_succ, List.any_append]; simp
theorem seA_set (h k i n : Nat) (hn : n < 9) (hm : mp h k i = some n) : (seA h k i).setIfInBounds n (.bool true) = seA h k (i + 1) := by
  apply Array.ext_getElem?
  intro c
  rw [Array.getElem?_setIfInBounds]
  by_cases hc : c < 9
  · rw [seA_at h k (i + 1) c hc, seA_at h k i c hc, seV_succ, hm]
    by_cases e : n = c
    · subst e
      rw [if_pos rfl, if_pos (by exact hc)]
      simp
    · rw [if_neg e]
      have : (some n == some c) = false := by simpa using e
      rw [this, Bool.or_false]
  · rw [Array.getElem?_eq_none (xs := seA h k (i + 1)) (by exact Nat.le_of_not_lt hc)]
    by_cases e : n = c
    · exact absurd (e ▸ hn) hc
    · rw [if_neg e, Array.getElem?_eq_none (by exact Nat.le_of_not_lt hc)]
def seP (h k i : Nat) : Bool := !(decide (1 ≤ h) && decide (i < sn h) && ksB h k) || (decide ((mp h k i).getD 0 < 8) && !seV h k i ((mp h k i).getD 0))
theorem se_newA : ((List.range 4).all fun h => (List.range 8).all fun k => (List.range 8).all fun i => seP h k i) = true := by decide +kernel
theorem se_new (h : Nat) (h4 : h < 4) (h1 : 1 ≤ h) (k : Nat) (hk : k < 8) (hb : ksB h k = true) (i : Nat) (hi : i < 8) (hs : i < sn h) : (mp h k i).getD 0 < 8 ∧ seV h k i ((mp h k i).getD 0) = false := by
  have := all3 se_newA h h4 k hk i hi
  unfold seP at this
  rw [decide_eq_true h1, decide_eq_true hs, hb] at this
  simpa using this
set_option maxHeartbeats 4000000 in
theorem turnsY (h : Nat) (h1 : 1 ≤ h) (h3 : h ≤ 3) (k : Nat) (hk8 : k < 8) (hk : ksB h k = true) (w : World) (hv : Hid (Hv w)) : Calls Tryd.prog 6 #[.int .u8 h, .int .i64 k] w fun e w' => e = .returned (.bool true) ∧ w.grownBy w' none := by
  have hO := offsetsYes h h1 h3
  have hP := partYes k hk8
  have hQ := permY h h1 h3 k hk8 (ks_yes hk)
  have h8 := sn_le h h1 h3
  have my := (part_may k hk8).1
  have hK : Hid (ksB h k = true) := hk
  clear hk
  go_enter Tryd.func6, Tryd.ntmps6
  go_wp2_with ((fail_if_success (guard_hyp G7)); first | (go_at_call 12; refine (aliveC _ hv).mono ?_; rintro e w1 ⟨rfl, g1⟩; have hv1 := hvK hv g1) | (go_at_call 16; refine (hO _ hv1).mono ?_; rintro e w2 ⟨b2, rfl, B2, l2, g2⟩; have hv2 := hvK hv1 g2; have G2 := gb_trans g1 g2) | (go_at_call 20; refine (hP _).mono ?_; rintro e w3 ⟨rfl, g3⟩; obtain ⟨W4, hW4, sz4, g4, M4⟩ := boxn w3 #[.complex .f64 0 0, .bool false, .complex .f64 0 0] 43; have G4 := gb_trans (gb_trans G2 g3) g4; have B4 := (B2.kept g3 (by simp)).kept g4 (by simp); have hv4 := hvK (hvK hv2 g3) g4) | (refine wpList_st (op := ⟨_, .store 43 _ _, _, _, _, _⟩) rfl 43 _ _ rfl w3.heap.size (mv (pa k) (pb k) (fl4 k) 0 0) rfl rfl M4 infoI rfl (by simp [mv, Value.oneCell']) ?_; intro W5 hW5 M5; have ne5 := Nat.ne_of_gt (B2.kept g3 (by simp)).lt; have B5 : Bo W5 b2 55 (ho h) := hW5 ▸ B4.row2 ne5; have G5 : w.grownBy W5 none := hW5 ▸ gb_rowset G4 (gb_trans G2 g3).size; have hv5 := hvK hv G5) | (go_at_call 10; refine (hQ _ hv5).mono ?_; rintro e w6 ⟨b6, rfl, P6, l6, g6⟩; have B6 := B5.kept g6 (by simp); have M6 := M5.kept g6 (by simp); have G6 := gb_trans G5 g6; obtain ⟨W7, hW7, sz7, g7, S7⟩ := boxn w6 #[.bool false, .bool false, .bool false, .bool false, .bool false, .bool false, .bool false, .bool false, .bool false] 46; have B7 := B6.kept g7 (by simp); have M7 := M6.kept g7 (by simp); have P7 := P6.kept g7 (by simp); have G7 := gb_trans G6 g7))
  have ns2 : Hid (w6.heap.size ≠ b2) := Nat.ne_of_gt B6.lt
  have ns3 : Hid (w6.heap.size ≠ w3.heap.size) := Nat.ne_of_gt M6.lt
  have ns6 : Hid (w6.heap.size ≠ b6) := Nat.ne_of_gt P6.lt
  go_loopw [13, 15] (fun vk v wr => ∃ i : Nat, i ≤ sn h ∧ v = .int .i64 i ∧ vk = .bool true ∧ Bo wr b2 55 (ho h) ∧ Bo wr w3.heap.size 43 (mv (pa k) (pb k) (fl4 k) 0 0) ∧ Bo wr b6 58 (toA h k (sn h)) ∧ Bo wr w6.heap.size 46 (seA h k i) ∧ w.grownBy wr none) (fun _ v _ => sn h - (intOf v).toNat)
  case atStart => exact ⟨0, Nat.zero_le _, rfl, rfl, B7, M7, P7, S7, G7⟩
  case round =>
    obtain ⟨i, hi, rfl, rfl, Po, Pm, Pp, Ps, hg⟩ := hrel
    by_cases hlt : i < sn h
    · have hlt' : (i : Int) < ((sn h : Nat) : Int) := by omega
      obtain ⟨n, hm⟩ := Option.isSome_iff_exists.1 (ks_yes hK.out i hlt)
      obtain ⟨n8, hse⟩ := se_new h (by omega) h1 k hk8 hK.out i (by omega) hlt
      rw [hm] at n8 hse
      replace n8 : n < 8 := n8
      replace hse : seV h k i n = false := hse
      have n9 : (n : Int) < 9 := by omega
      have n0 : ¬ (n : Int) > 8 := by omega
      have nn : (0 : Int) ≤ (n : Int) := by omega
      have HS : Hid ((seA h k i)[n]? = some (.bool false)) := by unfold Hid; rw [seA_at h k i n (by omega), hse]
      have HT : Hid ((toA h k (sn h))[i]? = some (.int .i64 (n : Nat))) := by unfold Hid; rw [toA_at h k _ i (by omega)]; unfold toV; rw [if_pos hlt, hm]; rfl
      have HZ : Hid ((seA h k i).setIfInBounds n (.bool true) = seA h k (i + 1)) := seA_set h k i n (by omega) hm
      have nz : ((n : Int) != (n : Int)) = false := by simp
      have hi8 : i < 8 := by omega
      have hi8' : (i : Int) < 8 := by omega
      have o0 := Po.cell (i * 2) (ho_at h i hi8).1
      have o1 := Po.cell (i * 2 + 1) (ho_at h i hi8).2
      have m0 := Pm.cell 0 (v := .complex .f64 (pa k) (pb k)) rfl
      have m1 := Pm.cell 1 (v := .bool (fl4 k)) rfl
      have m2 := Pm.cell 2 (v := .complex .f64 0 0) rfl
      have n1 := px_near h (by omega) i hi8
      have n2 := l_near h (by omega) k hk8 i hi8
      have hA := fun w => atYes (pa k) (pb k) (fl4 k) 0 0 (px h i) (py h i) my n1.1 n1.2 _ _ rfl rfl n2.1 n2.2 w
      have HM := fi_sn h (by omega) h1 k hk8 i hi8 hlt
      have hN := fun R hR g w B => whereC h (sn h) 8 h8 (lx k (px h i) (py h i) + 0) (ly k (px h i) (py h i) + 0) g R hR w B
      generalize hU : lx k (px h i) (py h i) + 0 = U at hA hN HM
      generalize hV : ly k (px h i) (py h i) + 0 = V at hA hN HM
      have HM' : Hid (fiF h U V (sn h) 0 = mp h k i) := HM
      clear hU hV n1 n2 HM
      obtain ⟨Wz, hWz, szz, gz, Bz⟩ := boxn wr #[.int .i64 0, .int .i64 0] 37
      have Poz := Po.kept gz (by simp)
      have Pmz := Pm.kept gz (by simp)
      have Ppz := Pp.kept gz (by simp)
      have Psz := Ps.kept gz (by simp)
      have o0z := Poz.cell (i * 2) (ho_at h i hi8).1
      have o1z := Poz.cell (i * 2 + 1) (ho_at h i hi8).2
      have m0z := Pmz.cell 0 (v := .complex .f64 (pa k) (pb k)) rfl
      have m1z := Pmz.cell 1 (v := .bool (fl4 k)) rfl
      have m2z := Pmz.cell 2 (v := .complex .f64 0 0) rfl
      go_wp2
      go_region_held2 (fun w' => w'.cell? ⟨b2, i * 2, none⟩ = some (.int .i64 (px h i)) ∧ w'.cell? ⟨b2, i * 2 + 1, none⟩ = some (.int .i64 (py h i)) ∧ w'.cell? ⟨w3.heap.size, 0, none⟩ = some (.complex .f64 (pa k) (pb k)) ∧ w'.cell? ⟨w3.heap.size, 1, none⟩ = some (.bool (fl4 k)) ∧ w'.cell? ⟨w3.heap.size, 2, none⟩ = some (.complex .f64 0 0)) (go_keep) (first | (go_at_call 21; refine (hA _).mono ?_; rintro e w8 ⟨rfl, g8⟩; have G8 := gb_trans (gb_drew (gb_trans hg gz)) g8; have Po8 := Poz.dr.kept g8 (by simp); have Pm8 := Pmz.dr.kept g8 (by simp); have Pp8 := Ppz.dr.kept g8 (by simp); have Ps8 := Psz.dr.kept g8 (by simp); have Bp8 := Bz.dr.kept g8 (by simp); have o08 := Po8.cell (i * 2) (ho_at h i hi8).1; have o18 := Po8.cell (i * 2 + 1) (ho_at h i hi8).2; have m08 := Pm8.cell 0 (v := .complex .f64 (pa k) (pb k)) rfl; have m18 := Pm8.cell 1 (v := .bool (fl4 k)) rfl; have m28 := Pm8.cell 2 (v := .complex .f64 0 0) rfl; have b0 := Bp8.cell 0 (v := .int .i64 0) rfl; have b1 := Bp8.cell 1 (v := .int .i64 0) rfl; have f0 := Bp8.frozen 0; have f1 := Bp8.frozen 1; obtain ⟨W9, hW9⟩ : ∃ W9, (w8.setCell ⟨wr.heap.size, 0, none⟩ (.int .i64 U)).setCell ⟨wr.heap.size, 1, none⟩ (.int .i64 V) = W9 := ⟨_, rfl⟩; have Bp : Bo W9 wr.heap.size 37 #[.int .i64 U, .int .i64 V] := hW9 ▸ bo2 Bp8; have Po9 : Bo W9 b2 55 (ho h) := hW9 ▸ (Po8.set2 (Nat.ne_of_gt Po.lt)).set2 (Nat.ne_of_gt Po.lt); have Pm9 : Bo W9 w3.heap.size 43 (mv (pa k) (pb k) (fl4 k) 0 0) := hW9 ▸ (Pm8.set2 (Nat.ne_of_gt Pm.lt)).set2 (Nat.ne_of_gt Pm.lt); have Pp9 : Bo W9 b6 58 (toA h k (sn h)) := hW9 ▸ (Pp8.set2 (Nat.ne_of_gt Pp.lt)).set2 (Nat.ne_of_gt Pp.lt); have Ps9 : Bo W9 w6.heap.size 46 (seA h k i) := hW9 ▸ (Ps8.set2 (Nat.ne_of_gt Ps.lt)).set2 (Nat.ne_of_gt Ps.lt); have G9 : w.grownBy W9 none := hW9 ▸ gb2 G8 hg.size; have o09 := Po9.cell (i * 2) (ho_at h i hi8).1; have o19 := Po9.cell (i * 2 + 1) (ho_at h i hi8).2; have m09 := Pm9.cell 0 (v := .complex .f64 (pa k) (pb k)) rfl; have m19 := Pm9.cell 1 (v := .bool (fl4 k)) rfl; have m29 := Pm9.cell 2 (v := .complex .f64 0 0) rfl) | (go_at_call 21; refine (hA _).mono ?_; rintro e w8 ⟨rfl, g8⟩; have G8 := gb_trans (gb_drew hg) g8; have Po8 := Po.dr.kept g8 (by simp); have Pm8 := Pm.dr.kept g8 (by simp); have Pp8 := Pp.dr.kept g8 (by simp); have Ps8 := Ps.dr.kept g8 (by simp); have o08 := Po8.cell (i * 2) (ho_at h i hi8).1; have o18 := Po8.cell (i * 2 + 1) (ho_at h i hi8).2; have m08 := Pm8.cell 0 (v := .complex .f64 (pa k) (pb k)) rfl; have m18 := Pm8.cell 1 (v := .bool (fl4 k)) rfl; have m28 := Pm8.cell 2 (v := .complex .f64 0 0) rfl; obtain ⟨W9, hW9, sz9, g9, Bp⟩ := boxn w8 #[.int .i64 U, .int .i64 V] 37; have Po9 := Po8.kept g9 (by simp); have Pm9 := Pm8.kept g9 (by simp); have Pp9 := Pp8.kept g9 (by simp); have Ps9 := Ps8.kept g9 (by simp); have G9 := gb_trans G8 g9; have o09 := Po9.cell (i * 2) (ho_at h i hi8).1; have o19 := Po9.cell (i * 2 + 1) (ho_at h i hi8).2; have m09 := Pm9.cell 0 (v := .complex .f64 (pa k) (pb k)) rfl; have m19 := Pm9.cell 1 (v := .bool (fl4 k)) rfl; have m29 := Pm9.cell 2 (v := .complex .f64 0 0) rfl))
      all_goals have p0 := Bp.cell 0 (v := .int .i64 U) rfl
      all_goals have p1 := Bp.cell 1 (v := .int .i64 V) rfl
      all_goals clear o0 o1 m0 m1 m2 o0z o1z m0z m1z m2z o08 o18 m08 m18 m28 o09 o19 m09 m19 m29
      all_goals have HR : Hid (fiF h U V (sn h) 0 = some n) := HM'.out.trans hm
      all_goals clear HM' hm hse
      all_goals go_wp2_with (first | (go_at_call 22; refine (hN (some n) HR _ _ Po9).mono ?_; simp only [wh]; rintro e wa ⟨rfl, ga⟩; have Poa := Po9.kept ga (by simp); have Pma := Pm9.kept ga (by simp); have Ppa := Pp9.kept ga (by simp); have Psa := Ps9.kept ga (by simp); have Ga := gb_trans G9 ga; have t0 := Ppa.cell i HT.out; have t1 := Psa.cell n HS.out; have t2 := Psa.frozen n))
      all_goals go_roundw
      all_goals first | (case rel => exact ⟨i + 1, by omega, by go_num, rfl, Poa.set2 ns2.out, Pma.set2 ns3.out, Ppa.set2 ns6.out, HZ.out ▸ Psa.set n _, gb_new Ga G6.size _⟩) | (case measure => simp [intOf]; omega)
    · have hlt' : ¬ (i : Int) < ((sn h : Nat) : Int) := by omega
      go_wp2
      go_ret
      exact ⟨rfl, hg⟩
theorem ks_step (h k i : Nat) : (List.range (i + 1)).all (fun j => (mp h k j).isSome) = ((List.range i).all (fun j => (mp h k j).isSome) && (mp h k i).isSome) := by
  rw [List.range_succ, List.all_append]; simp
set_option maxHeartbeats 4000000 in
theorem turnsN (h : Nat) (h1 : 1 ≤ h) (h3 : h ≤ 3) (k : Nat) (hk8 : k < 8) (hk : ksB h k = false) (w : World) (hv : Hid (Hv w)) : Calls Tryd.prog 6 #[.int .u8 h, .int .i64 k] w fun e w' => e = .returned (.bool true) ∧ w.grownBy w' none := by
  have hO := offsetsYes h h1 h3
  have hP := partYes k hk8
  have hQ := permN h h1 h3 k hk8 (ks_no hk)
  have h8 := sn_le h h1 h3
  have my := (part_may k hk8).1
  have hK : Hid ((List.range (sn h)).all (fun j => (mp h k j).isSome) = false) := hk
  clear hk
  go_enter Tryd.func6, Tryd.ntmps6
  go_wp2_with ((fail_if_success (guard_hyp G7)); first | (go_at_call 12; refine (aliveC _ hv).mono ?_; rintro e w1 ⟨rfl, g1⟩; have hv1 := hvK hv g1) | (go_at_call 16; refine (hO _ hv1).mono ?_; rintro e w2 ⟨b2, rfl, B2, l2, g2⟩; have hv2 := hvK hv1 g2; have G2 := gb_trans g1 g2) | (go_at_call 20; refine (hP _).mono ?_; rintro e w3 ⟨rfl, g3⟩; obtain ⟨W4, hW4, sz4, g4, M4⟩ := boxn w3 #[.complex .f64 0 0, .bool false, .complex .f64 0 0] 43; have G4 := gb_trans (gb_trans G2 g3) g4; have B4 := (B2.kept g3 (by simp)).kept g4 (by simp); have hv4 := hvK (hvK hv2 g3) g4) | (refine wpList_st (op := ⟨_, .store 43 _ _, _, _, _, _⟩) rfl 43 _ _ rfl w3.heap.size (mv (pa k) (pb k) (fl4 k) 0 0) rfl rfl M4 infoI rfl (by simp [mv, Value.oneCell']) ?_; intro W5 hW5 M5; have ne5 := Nat.ne_of_gt (B2.kept g3 (by simp)).lt; have B5 : Bo W5 b2 55 (ho h) := hW5 ▸ B4.row2 ne5; have G5 : w.grownBy W5 none := hW5 ▸ gb_rowset G4 (gb_trans G2 g3).size; have hv5 := hvK hv G5) | (go_at_call 10; refine (hQ _ hv5).mono ?_; rintro e w6 ⟨rfl, g6⟩; have B6 := B5.kept g6 (by simp); have M6 := M5.kept g6 (by simp); have G6 := gb_trans G5 g6; obtain ⟨W7, hW7, sz7, g7, S7⟩ := boxn w6 #[.bool false, .bool false, .bool false, .bool false, .bool false, .bool false, .bool false, .bool false, .bool false] 46; have B7 := B6.kept g7 (by simp); have M7 := M6.kept g7 (by simp); have G7 := gb_trans G6 g7))
  go_loopw [13, 15] (fun vk v wr => ∃ i : Nat, i ≤ sn h ∧ v = .int .i64 i ∧ vk = .bool ((List.range i).all fun j => (mp h k j).isSome) ∧ Bo wr b2 55 (ho h) ∧ Bo wr w3.heap.size 43 (mv (pa k) (pb k) (fl4 k) 0 0) ∧ w.grownBy wr none) (fun _ v _ => sn h - (intOf v).toNat)
  case atStart => exact ⟨0, Nat.zero_le _, rfl, rfl, B7, M7, G7⟩
  case round =>
    obtain ⟨i, hi, rfl, rfl, Po, Pm, hg⟩ := hrel
    by_cases hlt : i < sn h
    · have hlt' : (i : Int) < ((sn h : Nat) : Int) := by omega
      have HST : Hid (∀ b, (mp h k i).isSome = b → (List.range (i + 1)).all (fun j => (mp h k j).isSome) = ((List.range i).all (fun j => (mp h k j).isSome) && b)) := fun b hb => by rw [ks_step, hb]
      generalize (List.range i).all (fun j => (mp h k j).isSome) = KB at HST
      have hi8 : i < 8 := by omega
      have hi8' : (i : Int) < 8 := by omega
      have o0 := Po.cell (i * 2) (ho_at h i hi8).1
      have o1 := Po.cell (i * 2 + 1) (ho_at h i hi8).2
      have m0 := Pm.cell 0 (v := .complex .f64 (pa k) (pb k)) rfl
      have m1 := Pm.cell 1 (v := .bool (fl4 k)) rfl
      have m2 := Pm.cell 2 (v := .complex .f64 0 0) rfl
      have n1 := px_near h (by omega) i hi8
      have n2 := l_near h (by omega) k hk8 i hi8
      have hA := fun w => atYes (pa k) (pb k) (fl4 k) 0 0 (px h i) (py h i) my n1.1 n1.2 _ _ rfl rfl n2.1 n2.2 w
      have HM := fi_sn h (by omega) h1 k hk8 i hi8 hlt
      have hN := fun R hR g w B => whereC h (sn h) 8 h8 (lx k (px h i) (py h i) + 0) (ly k (px h i) (py h i) + 0) g R hR w B
      generalize hU : lx k (px h i) (py h i) + 0 = U at hA hN HM
      generalize hV : ly k (px h i) (py h i) + 0 = V at hA hN HM
      have HM' : Hid (fiF h U V (sn h) 0 = mp h k i) := HM
      clear hU hV n1 n2 HM
      obtain ⟨Wz, hWz, szz, gz, Bz⟩ := boxn wr #[.int .i64 0, .int .i64 0] 37
      have Poz := Po.kept gz (by simp)
      have Pmz := Pm.kept gz (by simp)
      have o0z := Poz.cell (i * 2) (ho_at h i hi8).1
      have o1z := Poz.cell (i * 2 + 1) (ho_at h i hi8).2
      have m0z := Pmz.cell 0 (v := .complex .f64 (pa k) (pb k)) rfl
      have m1z := Pmz.cell 1 (v := .bool (fl4 k)) rfl
      have m2z := Pmz.cell 2 (v := .complex .f64 0 0) rfl
      go_wp2
      go_region_held2 (fun w' => w'.cell? ⟨b2, i * 2, none⟩ = some (.int .i64 (px h i)) ∧ w'.cell? ⟨b2, i * 2 + 1, none⟩ = some (.int .i64 (py h i)) ∧ w'.cell? ⟨w3.heap.size, 0, none⟩ = some (.complex .f64 (pa k) (pb k)) ∧ w'.cell? ⟨w3.heap.size, 1, none⟩ = some (.bool (fl4 k)) ∧ w'.cell? ⟨w3.heap.size, 2, none⟩ = some (.complex .f64 0 0)) (go_keep) (first | (go_at_call 21; refine (hA _).mono ?_; rintro e w8 ⟨rfl, g8⟩; have G8 := gb_trans (gb_drew (gb_trans hg gz)) g8; have Po8 := Poz.dr.kept g8 (by simp); have Pm8 := Pmz.dr.kept g8 (by simp); have Bp8 := Bz.dr.kept g8 (by simp); have o08 := Po8.cell (i * 2) (ho_at h i hi8).1; have o18 := Po8.cell (i * 2 + 1) (ho_at h i hi8).2; have m08 := Pm8.cell 0 (v := .complex .f64 (pa k) (pb k)) rfl; have m18 := Pm8.cell 1 (v := .bool (fl4 k)) rfl; have m28 := Pm8.cell 2 (v := .complex .f64 0 0) rfl; have b0 := Bp8.cell 0 (v := .int .i64 0) rfl; have b1 := Bp8.cell 1 (v := .int .i64 0) rfl; have f0 := Bp8.frozen 0; have f1 := Bp8.frozen 1; obtain ⟨W9, hW9⟩ : ∃ W9, (w8.setCell ⟨wr.heap.size, 0, none⟩ (.int .i64 U)).setCell ⟨wr.heap.size, 1, none⟩ (.int .i64 V) = W9 := ⟨_, rfl⟩; have Bp : Bo W9 wr.heap.size 37 #[.int .i64 U, .int .i64 V] := hW9 ▸ bo2 Bp8; have Po9 : Bo W9 b2 55 (ho h) := hW9 ▸ (Po8.set2 (Nat.ne_of_gt Po.lt)).set2 (Nat.ne_of_gt Po.lt); have Pm9 : Bo W9 w3.heap.size 43 (mv (pa k) (pb k) (fl4 k) 0 0) := hW9 ▸ (Pm8.set2 (Nat.ne_of_gt Pm.lt)).set2 (Nat.ne_of_gt Pm.lt); have G9 : w.grownBy W9 none := hW9 ▸ gb2 G8 hg.size; have o09 := Po9.cell (i * 2) (ho_at h i hi8).1; have o19 := Po9.cell (i * 2 + 1) (ho_at h i hi8).2; have m09 := Pm9.cell 0 (v := .complex .f64 (pa k) (pb k)) rfl; have m19 := Pm9.cell 1 (v := .bool (fl4 k)) rfl; have m29 := Pm9.cell 2 (v := .complex .f64 0 0) rfl) | (go_at_call 21; refine (hA _).mono ?_; rintro e w8 ⟨rfl, g8⟩; have G8 := gb_trans (gb_drew hg) g8; have Po8 := Po.dr.kept g8 (by simp); have Pm8 := Pm.dr.kept g8 (by simp); have o08 := Po8.cell (i * 2) (ho_at h i hi8).1; have o18 := Po8.cell (i * 2 + 1) (ho_at h i hi8).2; have m08 := Pm8.cell 0 (v := .complex .f64 (pa k) (pb k)) rfl; have m18 := Pm8.cell 1 (v := .bool (fl4 k)) rfl; have m28 := Pm8.cell 2 (v := .complex .f64 0 0) rfl; obtain ⟨W9, hW9, sz9, g9, Bp⟩ := boxn w8 #[.int .i64 U, .int .i64 V] 37; have Po9 := Po8.kept g9 (by simp); have Pm9 := Pm8.kept g9 (by simp); have G9 := gb_trans G8 g9; have o09 := Po9.cell (i * 2) (ho_at h i hi8).1; have o19 := Po9.cell (i * 2 + 1) (ho_at h i hi8).2; have m09 := Pm9.cell 0 (v := .complex .f64 (pa k) (pb k)) rfl; have m19 := Pm9.cell 1 (v := .bool (fl4 k)) rfl; have m29 := Pm9.cell 2 (v := .complex .f64 0 0) rfl))
      all_goals have p0 := Bp.cell 0 (v := .int .i64 U) rfl
      all_goals have p1 := Bp.cell 1 (v := .int .i64 V) rfl
      all_goals clear o0 o1 m0 m1 m2 o0z o1z m0z m1z m2z o08 o18 m08 m18 m28 o09 o19 m09 m19 m29
      all_goals cases hm : mp h k i with
        | none =>
          have HR : Hid (fiF h U V (sn h) 0 = none) := HM'.out.trans hm
          have HE := HST.out false (by rw [hm]; rfl)
          have HE' : Hid ((List.range (i + 1)).all (fun j => (mp h k j).isSome) = (KB && false)) := HE
          clear HM' hm HE HST
          cases KB with
          | false =>
            go_wp2_with (first | (go_at_call 22; refine (hN none HR _ _ Po9).mono ?_; simp only [wh]; rintro e wa ⟨rfl, ga⟩; have Poa := Po9.kept ga (by simp); have Pma := Pm9.kept ga (by simp); have Ga := gb_trans G9 ga))
            go_roundw
            case rel => exact ⟨i + 1, by omega, by go_num, by rw [HE'.out]; rfl, Poa, Pma, Ga⟩
            case measure => simp [intOf]; omega
          | true =>
            go_wp2_with (first | (go_at_call 22; refine (hN none HR _ _ Po9).mono ?_; simp only [wh]; rintro e wa ⟨rfl, ga⟩; have Poa := Po9.kept ga (by simp); have Pma := Pm9.kept ga (by simp); have Ga := gb_trans G9 ga))
            go_roundw
            case rel => exact ⟨i + 1, by omega, by go_num, by rw [HE'.out]; rfl, Poa, Pma, Ga⟩
            case measure => simp [intOf]; omega
        | some n =>
          have HR : Hid (fiF h U V (sn h) 0 = some n) := HM'.out.trans hm
          have HE := HST.out true (by rw [hm]; rfl)
          have HE' : Hid ((List.range (i + 1)).all (fun j => (mp h k j).isSome) = (KB && true)) := HE
          have nn : (0 : Int) ≤ (n : Int) := by omega
          clear HM' hm HE HST
          cases KB with
          | false =>
            go_wp2_with (first | (go_at_call 22; refine (hN (some n) HR _ _ Po9).mono ?_; simp only [wh]; rintro e wa ⟨rfl, ga⟩; have Poa := Po9.kept ga (by simp); have Pma := Pm9.kept ga (by simp); have Ga := gb_trans G9 ga))
            go_roundw
            case rel => exact ⟨i + 1, by omega, by go_num, by rw [HE'.out]; rfl, Poa, Pma, Ga⟩
            case measure => simp [intOf]; omega
          | true =>
            go_wp2_with (first | (go_at_call 22; refine (hN (some n) HR _ _ Po9).mono ?_; simp only [wh]; rintro e wa ⟨rfl, ga⟩; have Poa := Po9.kept ga (by simp); have Pma := Pm9.kept ga (by simp); have Ga := gb_trans G9 ga))
            go_roundw
            case rel => exact ⟨i + 1, by omega, by go_num, by rw [HE'.out]; rfl, Poa, Pma, Ga⟩
            case measure => simp [intOf]; omega
    · have hlt' : ¬ (i : Int) < ((sn h : Nat) : Int) := by omega
      obtain rfl : i = sn h := by omega
      have hf := hK.out
      rw [hf]
      clear hf
      go_wp2
      go_ret
      exact ⟨rfl, hg⟩
set_option maxHeartbeats 2000000 in
theorem turnsP (h : Nat) (h1 : 1 ≤ h) (h3 : h ≤ 3) (n : Int) (hn : n < 0 ∨ 7 < n) (w : World) (hv : Hid (Hv w)) : Calls Tryd.prog 6 #[.int .u8 h, .int .i64 n] w fun e w' => e = .returned (.bool true) ∧ w.grownBy w' none := by
  have hO := offsetsYes h h1 h3
  have hP := partNo n hn
  have hQ := permP h h1 h3 n hn
  clear hn
  go_enter Tryd.func6, Tryd.ntmps6
  go_wp2_with (first | (go_at_call 12; refine (aliveC _ hv).mono ?_; rintro e w1 ⟨rfl, g1⟩; have hv1 := hvK hv g1) | (go_at_call 16; refine (hO _ hv1).mono ?_; rintro e w2 ⟨b2, rfl, B2, l2, g2⟩; have hv2 := hvK hv1 g2; have G2 := gb_trans g1 g2) | (go_at_call 20; refine (hP _).mono ?_; rintro e w3 ⟨rfl, g3⟩; obtain ⟨W4, hW4, sz4, g4, M4⟩ := boxn w3 #[.complex .f64 0 0, .bool false, .complex .f64 0 0] 43; have G4 := gb_trans (gb_trans G2 g3) g4; have B4 := (B2.kept g3 (by simp)).kept g4 (by simp); have hv4 := hvK (hvK hv2 g3) g4) | (refine wpList_st (op := ⟨_, .store 43 _ _, _, _, _, _⟩) rfl 43 _ _ rfl w3.heap.size (mv 0 0 false 0 0) rfl rfl M4 infoI rfl (by simp [mv, Value.oneCell']) ?_; intro W5 hW5 M5; have ne5 := Nat.ne_of_gt (B2.kept g3 (by simp)).lt; have B5 : Bo W5 b2 55 (ho h) := hW5 ▸ B4.row2 ne5; have G5 : w.grownBy W5 none := hW5 ▸ gb_rowset G4 (gb_trans G2 g3).size; have hv5 := hvK hv G5) | (go_at_call 10; refine (hQ _ hv5).mono ?_; rintro e w6 ⟨rfl, g6⟩; have B6 := B5.kept g6 (by simp); have M6 := M5.kept g6 (by simp); have G6 := gb_trans G5 g6; obtain ⟨W7, hW7, sz7, g7, S7⟩ := boxn w6 #[.bool false, .bool false, .bool false, .bool false, .bool false, .bool false, .bool false, .bool false, .bool false] 46; have B7 := B6.kept g7 (by simp); have M7 := M6.kept g7 (by simp); have G7 := gb_trans G6 g7))
  go_ret
  exact ⟨rfl, G6⟩
set_option maxHeartbeats 2000000 in
theorem turnsH (h : Int) (h0 : 0 ≤ h) (h1 : h ≤ 255) (hn : h < 1 ∨ 3 < h) (n : Int) (C : Array Value) (er : Int) (hC : C.size = 3) (hCo : C.all (·.oneCell') = true) (hP : ∀ w, Calls Tryd.prog 20 #[.int .i64 n] w fun e w' => e = .returned (.tuple #[.agg C, .int .i64 er]) ∧ w.grownBy w' none) (w : World) (hv : Hid (Hv w)) : Calls Tryd.prog 6 #[.int .u8 h, .int .i64 n] w fun e w' => e = .returned (.bool true) ∧ w.grownBy w' none := by
  have hO := offsetsNo h h0 h1 hn
  have hQ := permH h h0 h1 hn n
  have infoC : (Tryd.prog.info? 43).map (·.size) = some C.size := by rw [hC]; exact infoI
  clear hn
  go_enter Tryd.func6, Tryd.ntmps6
  go_wp2_with (first | (go_at_call 12; refine (aliveC _ hv).mono ?_; rintro e w1 ⟨rfl, g1⟩; have hv1 := hvK hv g1) | (go_at_call 16; refine (hO _).mono ?_; rintro e w2 ⟨rfl, g2⟩; have G2 := gb_trans g1 g2) | (go_at_call 20; refine (hP _).mono ?_; rintro e w3 ⟨rfl, g3⟩; obtain ⟨W4, hW4, sz4, g4, M4⟩ := boxn w3 #[.complex .f64 0 0, .bool false, .complex .f64 0 0] 43; have G4 := gb_trans (gb_trans G2 g3) g4) | (refine wpList_st (op := ⟨_, .store 43 _ _, _, _, _, _⟩) rfl 43 _ _ rfl w3.heap.size C rfl rfl M4 infoC hC.symm hCo ?_; intro W5 hW5 M5; have G5 : w.grownBy W5 none := hW5 ▸ gb_rowset G4 (gb_trans G2 g3).size) | (go_at_call 10; refine (hQ _).mono ?_; rintro e w6 ⟨rfl, g6⟩; have G6 := gb_trans G5 g6))
  go_ret
  exact ⟨rfl, G6⟩
theorem turns_walk (h n : Int) (w : World) (h0 : 0 ≤ h) (h1 : h ≤ 255) (hn0 : -9223372036854775808 ≤ n) (hn1 : n ≤ 9223372036854775807) (hv : Hv w) : Calls Tryd.prog 6 #[.int .u8 h, .int .i64 n] w fun e w' => e = .returned (.bool true) ∧ Below w.heap.size w w' := by
  refine Calls.mono (R := fun e w' => e = .returned (.bool true) ∧ w.grownBy w' none) ?_ (fun e w' h => ⟨h.1, gb_below h.2⟩)
  by_cases hn : h < 1 ∨ 3 < h
  · by_cases hk : n < 0 ∨ 7 < n
    · exact turnsH h h0 h1 hn n _ 2 rfl (by simp [mv, Value.oneCell']) (partNo n hk) w hv
    · obtain ⟨k, rfl⟩ : ∃ k : Nat, n = k := ⟨n.toNat, by omega⟩
      exact turnsH h h0 h1 hn k _ 0 rfl (by simp [mv, Value.oneCell']) (partYes k (by omega)) w hv
  · obtain ⟨m, rfl⟩ : ∃ m : Nat, h = m := ⟨h.toNat, by omega⟩
    by_cases hk : n < 0 ∨ 7 < n
    · exact turnsP m (by omega) (by omega) n hk w hv
    · obtain ⟨k, rfl⟩ : ∃ k : Nat, n = k := ⟨n.toNat, by omega⟩
      cases hb : ksB m k with
      | true => exact turnsY m (by omega) (by omega) k (by omega) hb w hv
      | false => exact turnsN m (by omega) (by omega) k (by omega) hb w hv
end Go.Proofs.YtgflchbmoinonaaDoor
