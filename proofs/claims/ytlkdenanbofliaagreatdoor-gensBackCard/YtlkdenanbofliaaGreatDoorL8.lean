/- What told, letter, Print, Next, exchanged, Turned and Check of package life answer. -/
import Derived.Test.YtlkdenanbofliaaGreatDoorL7
import Derived.Handy
namespace Go.Proofs.YtlkdenanbofliaaGreatDoor
open Go.RowKit
set_option linter.unusedVariables false
set_option linter.unusedSimpArgs false
set_option maxRecDepth 100000

namespace Lf
/-- The digits of the counts below k, rising. -/
def tdl (v : Nat) : Nat → List UInt8
  | 0 => []
  | k + 1 => tdl v k ++ (if v.testBit k then [UInt8.ofNat (k + 48)] else [])
theorem tdl_len (v : Nat) : ∀ k, (tdl v k).length ≤ k
  | 0 => Nat.le_refl _
  | k + 1 => by
    have := tdl_len v k
    unfold tdl
    split <;> simp <;> omega
def td (v : Nat) : ByteArray := ⟨(tdl v 10).toArray⟩
end Lf
theorem bc_app (l : List UInt8) (k : Nat) (h : k < 10) : Lib.byteCells l ++ [.int .u8 ((k + 48 : Nat) : Int)] = Lib.byteCells (l ++ [UInt8.ofNat (k + 48)]) := by
  unfold Lib.byteCells
  rw [List.map_append]
  congr 1
  match k, h with
  | 0, _ => rfl
  | 1, _ => rfl
  | 2, _ => rfl
  | 3, _ => rfl
  | 4, _ => rfl
  | 5, _ => rfl
  | 6, _ => rfl
  | 7, _ => rfl
  | 8, _ => rfl
  | 9, _ => rfl
set_option maxHeartbeats 2000000 in
theorem toldC (v : Nat) (hv : v < 65536) (w : World) : Calls Tryz.prog 53 #[.int .u16 v] w fun e w' => e = .returned (.string (Lf.td v)) ∧ w.grownBy w' none := by
  obtain ⟨W1, hW1⟩ : ∃ W1, w.alloc (.cells #[.pointer none, .slice none 0 0] 111) = W1 := ⟨_, rfl⟩
  have I1 : Lib.IsBuilder 111 5 w.heap.size w.heap.size [] W1 := hW1 ▸ Lib.fresh_isBuilder 111 5 w
  have L1 : Below w.heap.size w W1 := hW1 ▸ (Below.refl _ _).alloc (Nat.le_refl _) _
  go_enter Tryz.func53, Tryz.ntmps53
  go_wp2
  go_loopw [5] (fun i wr => ∃ k : Nat, k ≤ 10 ∧ i = .int .i64 k ∧ Lib.IsBuilder 111 5 w.heap.size w.heap.size (Lib.byteCells (Lf.tdl v k)) wr ∧ Below w.heap.size w wr) (fun i _ => 10 - (intOf i).toNat)
  case atStart => exact ⟨0, by omega, rfl, I1, L1⟩
  case round =>
    obtain ⟨k, hk, rfl, hI, hL⟩ := hrel
    by_cases hlt : k < 10
    · have hx10 : (k : Int) < 10 := by omega
      have hx10n : k < 10 := hlt
      have hdx := dgAt hlt
      have hH := fun w => hasC v k hv (by omega) w
      have hln := Lf.tdl_len v k
      have hbc := bc_app (Lf.tdl v k) k hlt
      have hW : ∀ w' : World, Lib.IsBuilder 111 5 w.heap.size w.heap.size (Lib.byteCells (Lf.tdl v k)) w' → w.heap.size ≤ w'.heap.size → Calls Tryz.prog 76 #[.pointer (some ⟨w.heap.size, 0, none⟩), .int .u8 ((k : Int) + 48)] w' fun e w'' => e = .returned .nilIface ∧ Lib.IsBuilder 111 5 w.heap.size w.heap.size (Lib.byteCells (Lf.tdl v k ++ [UInt8.ofNat (k + 48)])) w'' ∧ Below w.heap.size w' w'' := fun w' h1 h2 => by
        have := wbC w.heap.size w.heap.size (Lib.byteCells (Lf.tdl v k)) ((k + 48 : Nat) : Int) w' h1 (by unfold Lib.byteCells; rw [List.length_map]; omega) h2
        rw [hbc] at this
        exact this
      cases ht : v.testBit k with
      | true =>
        have HT : Hid (Lf.tdl v (k + 1) = Lf.tdl v k ++ [UInt8.ofNat (k + 48)]) := by unfold Hid; rw [Lf.tdl, ht]; rfl
        rw [ht] at hH
        clear ht hbc hln
        go_wp2_with (first | (go_at_call 36; refine (hH _).mono ?_; rintro e w5 ⟨rfl, hw5⟩; subst w5) | (go_at_call 76; refine (hW _ hI hL.size).mono ?_; rintro e w6 ⟨rfl, I6, L6⟩))
        refine ⟨⟨k + 1, by omega, by simp, ?_, hL.trans L6⟩, by simp [intOf]; omega⟩
        rw [HT.out]; exact I6
      | false =>
        have HT : Hid (Lf.tdl v (k + 1) = Lf.tdl v k) := by unfold Hid; rw [Lf.tdl, ht]; simp
        rw [ht] at hH
        clear ht hbc hln hW
        go_wp2_with (first | (go_at_call 36; refine (hH _).mono ?_; rintro e w5 ⟨rfl, hw5⟩; subst w5))
        refine ⟨⟨k + 1, by omega, by simp, ?_, hL⟩, by simp [intOf]; omega⟩
        rw [HT.out]; exact hI
    · obtain rfl : k = 10 := by omega
      have hS := Tryz.Builder_String_any w.heap.size w.heap.size (Lf.tdl v 10) wr hI hL.size
      go_wp2_with (first | (go_at_call 77; refine hS.mono ?_; rintro e w7 ⟨rfl, L7⟩))
      go_ret
      exact ⟨rfl, of_below (hL.trans L7)⟩

theorem letter1 (w : World) : Calls Tryz.prog 54 #[.int .u8 1] w fun e w' => e = .returned (.string ⟨#[]⟩) ∧ w' = w := by
  go_enter Tryz.func54, Tryz.ntmps54
  go_wp2
  go_ret
  exact ⟨rfl, rfl⟩

theorem letter2 (w : World) : Calls Tryz.prog 54 #[.int .u8 2] w fun e w' => e = .returned (.string ⟨#[86]⟩) ∧ w' = w := by
  go_enter Tryz.func54, Tryz.ntmps54
  go_wp2
  go_ret
  exact ⟨rfl, rfl⟩

theorem letter3 (w : World) : Calls Tryz.prog 54 #[.int .u8 3] w fun e w' => e = .returned (.string ⟨#[72]⟩) ∧ w' = w := by
  go_enter Tryz.func54, Tryz.ntmps54
  go_wp2
  go_ret
  exact ⟨rfl, rfl⟩

namespace Lf
def lt (h : Nat) : ByteArray := if h = 2 then ⟨#[86]⟩ else if h = 3 then ⟨#[72]⟩ else ⟨#[]⟩
end Lf
theorem letterC (h : Nat) (h1 : 1 ≤ h) (h3 : h ≤ 3) (w : World) : Calls Tryz.prog 54 #[.int .u8 h] w fun e w' => e = .returned (.string (Lf.lt h)) ∧ w' = w := by
  match h, h1, h3 with
  | 1, _, _ => exact letter1 w
  | 2, _, _ => exact letter2 w
  | 3, _, _ => exact letter3 w

set_option maxHeartbeats 1000000 in
theorem checkC (ho bo st : Nat) (hh : ho < 256) (hb : bo < 65536) (hs : st < 65536) (w : World) (hv : Hid (Hv w)) : Calls Tryz.prog 31 #[.agg #[.int .u8 ho, .int .u16 bo, .int .u16 st]] w fun e w' => e = .returned (.int .i64 (Lf.ck ho bo st : Nat)) ∧ w.grownBy w' none := by
  have hg := fun w hv => greatestC ho bo st hh hb hs w hv
  generalize Lf.ck ho bo st = q at hg ⊢
  generalize Lf.gm ho bo st = g at hg
  obtain ⟨W1, hW1, sz1, g1, B1⟩ := boxn w #[.int .u8 ho, .int .u16 bo, .int .u16 st] 25
  have hv1 := hvK hv g1
  have c0 := B1.cell 0 (v := .int .u8 ho) rfl
  have c1 := B1.cell 1 (v := .int .u16 bo) rfl
  have c2 := B1.cell 2 (v := .int .u16 st) rfl
  go_enter Tryz.func31, Tryz.ntmps31
  go_wp2_with (first | (go_at_call 35; refine (hg _ hv1).mono ?_; rintro e w2 ⟨rfl, g2⟩))
  go_ret
  exact ⟨rfl, gb_trans g1 g2⟩

namespace Lf
def pr (ho bo st : Nat) : ByteArray := if ck ho bo st = 0 then (((⟨#[66]⟩ : ByteArray) ++ td bo) ++ (⟨#[47, 83]⟩ : ByteArray) ++ td st) ++ lt ho else ⟨#[]⟩
end Lf
theorem Lf.td_size (v : Nat) : (Lf.td v).size ≤ 10 := by
  unfold Lf.td
  show (Lf.tdl v 10).toArray.size ≤ 10
  rw [List.size_toArray]
  exact Lf.tdl_len v 10
theorem Lf.lt_size (h : Nat) : (Lf.lt h).size ≤ 1 := by unfold Lf.lt; split; exact Nat.le_refl _; split; exact Nat.le_refl _; exact Nat.zero_le _
set_option maxHeartbeats 1000000 in
theorem printBad (ho bo st : Nat) (hh : ho < 256) (hb : bo < 65536) (hs : st < 65536) (w : World) (hv : Hid (Hv w)) (hc : ¬ ((Lf.ck ho bo st : Nat) : Int) = 0) : Calls Tryz.prog 27 #[.agg #[.int .u8 ho, .int .u16 bo, .int .u16 st]] w fun e w' => e = .returned (.tuple #[.string ⟨#[]⟩, .int .i64 (Lf.ck ho bo st : Nat)]) ∧ w.grownBy w' none := by
  have hg := fun w hv => checkC ho bo st hh hb hs w hv
  generalize Lf.ck ho bo st = q at hg hc ⊢
  obtain ⟨W1, hW1, sz1, g1, B1⟩ := boxn w #[.int .u8 ho, .int .u16 bo, .int .u16 st] 25
  have hv1 := hvK hv g1
  have c0 := B1.cell 0 (v := .int .u8 ho) rfl
  have c1 := B1.cell 1 (v := .int .u16 bo) rfl
  have c2 := B1.cell 2 (v := .int .u16 st) rfl
  go_enter Tryz.func27, Tryz.ntmps27
  go_wp2_with (first | (go_at_call 31; refine (hg _ hv1).mono ?_; rintro e w2 ⟨rfl, g2⟩))
  go_ret2
  exact ⟨rfl, gb_trans g1 g2⟩
set_option maxHeartbeats 1000000 in
theorem printFine (ho bo st : Nat) (hh : ho < 256) (hb : bo < 65536) (hs : st < 65536) (w : World) (hv : Hid (Hv w)) (h1 : 1 ≤ ho) (h3 : ho ≤ 3) (hc : Lf.ck ho bo st = 0) : Calls Tryz.prog 27 #[.agg #[.int .u8 ho, .int .u16 bo, .int .u16 st]] w fun e w' => e = .returned (.tuple #[.string ((((⟨#[66]⟩ : ByteArray) ++ Lf.td bo) ++ (⟨#[47, 83]⟩ : ByteArray) ++ Lf.td st) ++ Lf.lt ho), .int .i64 0]) ∧ w.grownBy w' none := by
  have hg := fun w hv => checkC ho bo st hh hb hs w hv
  rw [hc] at hg
  have t1 := fun w => toldC bo hb w
  have t2 := fun w => toldC st hs w
  have hl := fun w => letterC ho h1 h3 w
  have z1 := Lf.td_size bo
  have z2 := Lf.td_size st
  have z3 := Lf.lt_size ho
  generalize Lf.td bo = d1 at t1 z1 ⊢
  generalize Lf.td st = d2 at t2 z2 ⊢
  generalize Lf.lt ho = d3 at hl z3 ⊢
  have y1 : ((⟨#[66]⟩ : ByteArray) ++ d1).size ≤ 11 := by rw [ByteArray.size_append]; show 1 + _ ≤ _; omega
  have a1 : ∀ w : World, (Op.stringOp .add ⟨#[66]⟩ d1).run Tryz.prog w = .ok (.string ((⟨#[66]⟩ : ByteArray) ++ d1)) w := fun w => run_string_add_sum w _ _ (by show 1 + _ ≤ _; omega)
  generalize (⟨#[66]⟩ : ByteArray) ++ d1 = x1 at a1 y1 ⊢
  have y2 : (x1 ++ (⟨#[47, 83]⟩ : ByteArray)).size ≤ 13 := by rw [ByteArray.size_append]; show _ + 2 ≤ _; omega
  have a2 : ∀ w : World, (Op.stringOp .add x1 ⟨#[47, 83]⟩).run Tryz.prog w = .ok (.string (x1 ++ (⟨#[47, 83]⟩ : ByteArray))) w := fun w => run_string_add_sum w _ _ (by show _ + 2 ≤ _; omega)
  generalize x1 ++ (⟨#[47, 83]⟩ : ByteArray) = x2 at a2 y2 ⊢
  have y3 : (x2 ++ d2).size ≤ 23 := by rw [ByteArray.size_append]; omega
  have a3 : ∀ w : World, (Op.stringOp .add x2 d2).run Tryz.prog w = .ok (.string (x2 ++ d2)) w := fun w => run_string_add_sum w _ _ (by omega)
  generalize x2 ++ d2 = x3 at a3 y3 ⊢
  have a4 : ∀ w : World, (Op.stringOp .add x3 d3).run Tryz.prog w = .ok (.string (x3 ++ d3)) w := fun w => run_string_add_sum w _ _ (by omega)
  generalize x3 ++ d3 = x4 at a4 ⊢
  clear y1 y2 y3 z1 z2 z3
  clear hc hh hb hs h1 h3
  obtain ⟨W1, hW1, sz1, g1, B1⟩ := boxn w #[.int .u8 ho, .int .u16 bo, .int .u16 st] 25
  have hv1 := hvK hv g1
  have c0 := B1.cell 0 (v := .int .u8 ho) rfl
  have c1 := B1.cell 1 (v := .int .u16 bo) rfl
  have c2 := B1.cell 2 (v := .int .u16 st) rfl
  go_enter Tryz.func27, Tryz.ntmps27
  go_wp2_with (first | (go_at_call 31; refine (hg _ hv1).mono ?_; rintro e w2 ⟨rfl, g2⟩; have B2 := B1.kept g2 (by simp); have d0 := B2.cell 0 (v := .int .u8 ho) rfl; have d1' := B2.cell 1 (v := .int .u16 bo) rfl; have d2' := B2.cell 2 (v := .int .u16 st) rfl))
  go_region_held2 (fun w' => w'.cell? ⟨w.heap.size, 0, none⟩ = some (.int .u8 ho) ∧ w'.cell? ⟨w.heap.size, 1, none⟩ = some (.int .u16 bo) ∧ w'.cell? ⟨w.heap.size, 2, none⟩ = some (.int .u16 st)) (go_keep) (first | (go_at_call 53; (fail_if_success (guard_hyp g3)); refine (t1 _).mono ?_; rintro e w3 ⟨rfl, g3⟩; have B3 := B2.dr.kept g3 (by simp); have e0 := B3.cell 0 (v := .int .u8 ho) rfl; have e1' := B3.cell 1 (v := .int .u16 bo) rfl; have e2' := B3.cell 2 (v := .int .u16 st) rfl) | (go_at_call 53; refine (t2 _).mono ?_; rintro e w4 ⟨rfl, g4⟩; have B4 := B3.kept g4 (by simp); have f0 := B4.cell 0 (v := .int .u8 ho) rfl; have f1' := B4.cell 1 (v := .int .u16 bo) rfl; have f2' := B4.cell 2 (v := .int .u16 st) rfl) | (go_at_call 54; refine (hl _).mono ?_; rintro e w5 ⟨rfl, hw5⟩; subst w5))
  all_goals go_wp2
  all_goals go_ret2
  all_goals exact ⟨rfl, gb_trans (gb_trans (gb_drew (gb_trans g1 g2)) g3) g4⟩

end Go.Proofs.YtlkdenanbofliaaGreatDoor
