/- What Print, Next, exchanged, Turned of package life answer. -/
import Derived.Test.YthjiiljglgmkpaaGreatDoorLc
namespace Go.Proofs.YthjiiljglgmkpaaGreatDoor
open Go.RowKit
set_option linter.unusedVariables false
set_option linter.unusedSimpArgs false
set_option maxRecDepth 100000

theorem gb_row2 {w w' : World} {b : Option Nat} (h : w.grownBy w' b) {g : Nat} (hb : w.heap.size ≤ g) {cs : Array Value} : w.grownBy (w'.setRow g cs) b :=
  ⟨h.os, h.tape, h.output, by simpa using h.size, fun k hk hne => (setRow_other _ _ _ _ (by omega)).trans (h.block k hk hne)⟩

theorem mixedL : Tryz.prog.follows .mixedOrders = true := by kernel_rfl
theorem infoLf : (Tryz.prog.info? 28).map (·.size) = some 3 := by kernel_rfl
theorem underLf : ∃ fs, Tryz.prog.underlying 28 = some (.struct fs) := ⟨_, Tryz.underlying28⟩
theorem Lf.ck_in {ho bo st : Nat} (h : Lf.ck ho bo st = 0) : 1 ≤ ho ∧ ho ≤ 3 ∧ bo < 2 ^ (Lf.mo ho + 1) ∧ st < 2 ^ (Lf.mo ho + 1) := by
  unfold Lf.ck at h
  split at h
  · rename_i h1
    split at h
    · rename_i h2; exact ⟨h1.1, h1.2, h2.1, h2.2⟩
    · cases h
  · cases h
namespace Lf
/-- The counts with living and dead exchanged, the counts below k looked at. -/
def exl (c m : Nat) : Nat → Nat
  | 0 => 2 ^ (m + 1) - 1
  | k + 1 => if c.testBit k then adn (exl c m k) (2 ^ (m - k)) else exl c m k
def ex (c m : Nat) : Nat := exl c m (m + 1)
theorem up_lt {m : Nat} (hm : m ≤ 8) : 2 ^ (m + 1) - 1 < 65536 := by have := p16 (k := m + 1) (by omega); omega
theorem exl_lt (c : Nat) {m : Nat} (hm : m ≤ 8) : ∀ k, exl c m k < 65536
  | 0 => up_lt hm
  | k + 1 => by
    unfold exl
    split
    · exact adn_lt (exl_lt c hm k)
    · exact exl_lt c hm k
theorem exl_bit (c : Nat) {m : Nat} (hm : m ≤ 8) : ∀ k, k ≤ m + 1 → ∀ j, (exl c m k).testBit j = (decide (j ≤ m) && !(decide (m - j < k) && c.testBit (m - j)))
  | 0, _, j => by
    unfold exl
    rw [up_bit]
    by_cases h : j ≤ m
    · simp [h]; omega
    · simp [h]; omega
  | k + 1, hk, j => by
    have ih := exl_bit c hm k (by omega) j
    unfold exl
    cases hc : c.testBit k with
    | true =>
      simp only [if_true]
      rw [adn_bit (exl_lt c hm k), ih, one_bit]
      by_cases h : j ≤ m
      · by_cases e : m - k = j
        · have e2 : m - j = k := by omega
          simp [h, e, e2, hc]
        · by_cases h3 : m - j < k
          · have h4 : m - j < k + 1 := by omega
            simp [h, e, h3, h4]
          · have h4 : ¬ m - j < k + 1 := by omega
            simp [h, e, h3, h4]
      · simp [h]
    | false =>
      simp only [Bool.false_eq_true, if_false]
      rw [ih]
      by_cases h : j ≤ m
      · by_cases e : m - j = k
        · simp [h, e, hc]
        · by_cases h3 : m - j < k
          · have h4 : m - j < k + 1 := by omega
            simp [h, h3, h4]
          · have h4 : ¬ m - j < k + 1 := by omega
            simp [h, h3, h4]
      · simp [h]
theorem ex_bit (c : Nat) {m : Nat} (hm : m ≤ 8) (j : Nat) : (ex c m).testBit j = (decide (j ≤ m) && !c.testBit (m - j)) := by
  unfold ex
  rw [exl_bit c hm (m + 1) (Nat.le_refl _)]
  have : m - j < m + 1 := by omega
  simp [this]
theorem ex_lt (c : Nat) {m : Nat} (hm : m ≤ 8) : ex c m < 65536 := exl_lt c hm _
theorem mo_le (h : Nat) : mo h ≤ 8 := by unfold mo; split; decide; split <;> decide
end Lf
set_option maxHeartbeats 1000000 in
theorem exchangedC (c m : Nat) (hc : c < 65536) (hm : m ≤ 8) (w : World) : Calls Tryz.prog 49 #[.int .u16 c, .int .i64 m] w fun e w' => e = .returned (.int .u16 ((Lf.ex c m : Nat) : Int)) ∧ w' = w := by
  have hu := fun w => upToC m (by omega) w
  have hmw : IntKind.i64.wrap ((m : Int) + 1) = (m : Int) + 1 := by rw [IntKind.wrap_i64]; omega
  go_enter Tryz.func49, Tryz.ntmps49
  go_wp2_with (first | (go_at_call 77; refine (hu _).mono ?_; rintro e w2 ⟨rfl, hw2⟩; subst w2))
  go_loopw [5, 11] (fun v i wr => ∃ k : Nat, k ≤ m + 1 ∧ i = .int .i64 k ∧ v = .int .u16 ((Lf.exl c m k : Nat) : Int) ∧ wr = w) (fun _ i _ => m + 1 - (intOf i).toNat)
  case atStart => exact ⟨0, by omega, rfl, rfl, rfl⟩
  case round =>
    obtain ⟨k, hk, rfl, rfl, rfl⟩ := hrel
    by_cases hlt : k < m + 1
    · have hlt' : (k : Int) < (m : Int) + 1 := by omega
      have hH := fun w => hasC c k hc (by omega) w
      have hB : ∀ w, Calls Tryz.prog 79 #[.int .i64 ((m : Int) - (k : Int))] w fun e w' => e = .returned (.int .u16 ((2 ^ (m - k) : Nat) : Int)) ∧ w' = w := fun w => by
        have := bitC (m - k) (by omega) w
        rw [show ((m - k : Nat) : Int) = (m : Int) - (k : Int) by omega] at this
        exact this
      have hsw : IntKind.i64.wrap ((m : Int) - (k : Int)) = (m : Int) - (k : Int) := by rw [IntKind.wrap_i64]; omega
      have hx := Lf.exl_lt c hm k
      have hA := adn16 (Lf.exl c m k) (2 ^ (m - k)) hx (Lf.p16 (by omega))
      cases ht : c.testBit k with
      | true =>
        have HT : Hid (Lf.exl c m (k + 1) = Lf.adn (Lf.exl c m k) (2 ^ (m - k))) := by unfold Hid; rw [Lf.exl, ht]; rfl
        rw [ht] at hH
        generalize Lf.adn (Lf.exl c m k) (2 ^ (m - k)) = z at hA HT
        generalize 2 ^ (m - k) = y at hA hB
        generalize Lf.exl c m k = x at hA hx ⊢
        clear ht
        go_wp2_with (first | (go_at_call 78; refine (hH _).mono ?_; rintro e w5 ⟨rfl, hw5⟩; subst w5) | (go_at_call 79; refine (hB _).mono ?_; rintro e w6 ⟨rfl, hw6⟩; subst w6))
        exact ⟨⟨k + 1, by omega, by simp, by rw [HT.out], trivial⟩, by simp [intOf]; omega⟩
      | false =>
        have HT : Hid (Lf.exl c m (k + 1) = Lf.exl c m k) := by unfold Hid; rw [Lf.exl, ht]; simp
        rw [ht] at hH
        clear ht hA
        go_wp2_with (first | (go_at_call 78; refine (hH _).mono ?_; rintro e w5 ⟨rfl, hw5⟩; subst w5))
        exact ⟨⟨k + 1, by omega, by simp, by rw [HT.out], trivial⟩, by simp [intOf]; omega⟩
    · obtain rfl : k = m + 1 := by omega
      go_wp2
      go_ret
      exact ⟨rfl, rfl⟩

set_option maxHeartbeats 1000000 in
theorem turnedBad (ho bo st : Nat) (hh : ho < 256) (hb : bo < 65536) (hs : st < 65536) (w : World) (hv : Hid (Hv w)) (hc : ¬ ((Lf.ck ho bo st : Nat) : Int) = 0) : Calls Tryz.prog 21 #[.agg #[.int .u8 ho, .int .u16 bo, .int .u16 st]] w fun e w' => e = .returned (.tuple #[.agg #[.int .u8 0, .int .u16 0, .int .u16 0], .int .i64 (Lf.ck ho bo st : Nat)]) ∧ w.grownBy w' none := by
  obtain ⟨fs, hfs'⟩ := underLf
  have hfs : Hid (Tryz.prog.underlying 28 = some (.struct fs)) := hfs'
  clear hfs'
  have hg := fun w hv => greatestC ho bo st hh hb hs w hv
  generalize Lf.ck ho bo st = q at hg hc ⊢
  generalize Lf.gm ho bo st = g at hg
  obtain ⟨W1, hW1, sz1, g1, B1⟩ := boxn w #[.int .u8 ho, .int .u16 bo, .int .u16 st] 28
  have hv1 := hvK hv g1
  have c0 := B1.cell 0 (v := .int .u8 ho) rfl
  have c1 := B1.cell 1 (v := .int .u16 bo) rfl
  have c2 := B1.cell 2 (v := .int .u16 st) rfl
  obtain ⟨W2, hW2, sz2, g2, B2⟩ := boxn W1 #[.int .u8 0, .int .u16 0, .int .u16 0] 28
  have B12 := B1.kept g2 (by simp)
  have d0 := B12.cell 0 (v := .int .u8 ho) rfl
  have d1 := B12.cell 1 (v := .int .u16 bo) rfl
  have d2 := B12.cell 2 (v := .int .u16 st) rfl
  have G2 := gb_trans g1 g2
  have hv2 := hvK hv1 g2
  go_enter Tryz.func21, Tryz.ntmps21
  go_wp2_with (first | (go_at_call 48; refine (hg _ hv2).mono ?_; rintro e w3 ⟨rfl, g3⟩; have B23 := B2.kept g3 (by simp); have G3 := gb_trans G2 g3) | (refine wpList_st (op := ⟨_, .store 28 _ _, _, _, _, _⟩) rfl 28 _ _ rfl W1.heap.size #[.int .u8 0, .int .u16 0, .int .u16 0] rfl rfl B23 infoLf rfl (by simp [Value.oneCell']) ?_; intro W9 hW9 B9))
  refine ret_c2 (g := W1.heap.size) (cs := #[.int .u8 0, .int .u16 0, .int .u16 0]) rfl hfs.out infoLf rfl B9 rfl ⟨rfl, hW9 ▸ gb_row2 G3 g1.size⟩
set_option maxHeartbeats 1000000 in
theorem turnedFine (ho bo st : Nat) (hh : ho < 256) (hb : bo < 65536) (hs : st < 65536) (w : World) (hv : Hid (Hv w)) (hc : Lf.ck ho bo st = 0) : Calls Tryz.prog 21 #[.agg #[.int .u8 ho, .int .u16 bo, .int .u16 st]] w fun e w' => e = .returned (.tuple #[.agg #[.int .u8 ho, .int .u16 ((Lf.ex st (Lf.mo ho) : Nat) : Int), .int .u16 ((Lf.ex bo (Lf.mo ho) : Nat) : Int)], .int .i64 0]) ∧ w.grownBy w' none := by
  obtain ⟨fs, hfs'⟩ := underLf
  have hfs : Hid (Tryz.prog.underlying 28 = some (.struct fs)) := hfs'
  clear hfs'
  have hg := fun w hv => greatestC ho bo st hh hb hs w hv
  unfold Lf.gm at hg
  rw [hc] at hg
  simp only [if_true] at hg
  have e1 := fun w => exchangedC st (Lf.mo ho) hs (Lf.mo_le ho) w
  have e2 := fun w => exchangedC bo (Lf.mo ho) hb (Lf.mo_le ho) w
  generalize Lf.ex st (Lf.mo ho) = x1 at e1 ⊢
  generalize Lf.ex bo (Lf.mo ho) = x2 at e2 ⊢
  generalize Lf.mo ho = g at hg e1 e2
  obtain ⟨W1, hW1, sz1, g1, B1⟩ := boxn w #[.int .u8 ho, .int .u16 bo, .int .u16 st] 28
  have hv1 := hvK hv g1
  have c0 := B1.cell 0 (v := .int .u8 ho) rfl
  have c1 := B1.cell 1 (v := .int .u16 bo) rfl
  have c2 := B1.cell 2 (v := .int .u16 st) rfl
  obtain ⟨W2, hW2, sz2, g2, B2⟩ := boxn W1 #[.int .u8 0, .int .u16 0, .int .u16 0] 28
  have B12 := B1.kept g2 (by simp)
  have d0 := B12.cell 0 (v := .int .u8 ho) rfl
  have d1 := B12.cell 1 (v := .int .u16 bo) rfl
  have d2 := B12.cell 2 (v := .int .u16 st) rfl
  have G2 := gb_trans g1 g2
  have hv2 := hvK hv1 g2
  go_enter Tryz.func21, Tryz.ntmps21
  go_wp2_with (first | (go_at_call 48; refine (hg _ hv2).mono ?_; rintro e w3 ⟨rfl, g3⟩; have B23 := B2.kept g3 (by simp); have B13 := B12.kept g3 (by simp); have k0 := B13.cell 0 (v := .int .u8 ho) rfl; have k1 := B13.cell 1 (v := .int .u16 bo) rfl; have k2 := B13.cell 2 (v := .int .u16 st) rfl; have G3 := gb_trans G2 g3))
  refine region_tail 11 mixedL (by kernel_rfl) ?_
  simp only [List.take_succ_cons, List.take_zero, List.drop_succ_cons, List.drop_zero]
  iterate 5 still_step
  still_call (e1 _)
  iterate 3 still_step
  still_call (e2 _)
  iterate 1 still_step
  refine wpStill_nil ?_
  go_wp2_with (first | (refine wpList_st (op := ⟨_, .store 28 _ _, _, _, _, _⟩) rfl 28 _ _ rfl W1.heap.size #[.int .u8 ho, .int .u16 (x1 : Nat), .int .u16 (x2 : Nat)] rfl rfl B23 infoLf rfl (by simp [Value.oneCell']) ?_; intro W9 hW9 B9))
  refine ret_c2 (g := W1.heap.size) (cs := #[.int .u8 ho, .int .u16 (x1 : Nat), .int .u16 (x2 : Nat)]) rfl hfs.out infoLf rfl B9 rfl ⟨rfl, hW9 ▸ gb_row2 (gb_drew G3) g1.size⟩
namespace Lf
def tuB (ho bo st : Nat) : Nat := if ck ho bo st = 0 then ex st (mo ho) else 0
def tuS (ho bo st : Nat) : Nat := if ck ho bo st = 0 then ex bo (mo ho) else 0
def tuH (ho bo st : Nat) : Nat := if ck ho bo st = 0 then ho else 0
end Lf
theorem turnedC (ho bo st : Nat) (hh : ho < 256) (hb : bo < 65536) (hs : st < 65536) (w : World) (hv : Hid (Hv w)) : Calls Tryz.prog 21 #[.agg #[.int .u8 ho, .int .u16 bo, .int .u16 st]] w fun e w' => e = .returned (.tuple #[.agg #[.int .u8 ((Lf.tuH ho bo st : Nat) : Int), .int .u16 ((Lf.tuB ho bo st : Nat) : Int), .int .u16 ((Lf.tuS ho bo st : Nat) : Int)], .int .i64 (Lf.ck ho bo st : Nat)]) ∧ w.grownBy w' none := by
  unfold Lf.tuH Lf.tuB Lf.tuS
  by_cases hc : Lf.ck ho bo st = 0
  · rw [if_pos hc, if_pos hc, if_pos hc, hc]
    exact turnedFine ho bo st hh hb hs w hv hc
  · rw [if_neg hc, if_neg hc, if_neg hc]
    exact turnedBad ho bo st hh hb hs w hv (by omega)

namespace Lf
def nxE (ho bo st t : Nat) (l : Int) : Nat := if ck ho bo st ≠ 0 then ck ho bo st else if 1 < t then 7 else if l < 0 ∨ (mo ho : Int) < l then 2 else 0
def nxV (ho bo st t : Nat) (l : Int) : Nat := if nxE ho bo st t l = 0 then (if (if t = 1 then st else bo).testBit l.toNat then 1 else 0) else 0
end Lf
end Go.Proofs.YthjiiljglgmkpaaGreatDoor
