/- What Print and Turned of the document answer. -/
import Derived.Test.YtlkdenanbofliaaGreatDoorL13
namespace Go.Proofs.YtlkdenanbofliaaGreatDoor
open Go.RowKit
set_option linter.unusedVariables false
set_option linter.unusedSimpArgs false
set_option maxRecDepth 100000

set_option maxHeartbeats 1000000 in
theorem printDbad (ho bo st : Nat) (hh : ho < 256) (hb : bo < 65536) (hs : st < 65536) (w : World) (hc : ¬ ((Lf.ck ho bo st : Nat) : Int) = 0) : Calls Tryz.prog 29 #[.agg #[.int .u8 ho, .int .u16 bo, .int .u16 st]] w fun e w' => e = .returned (.tuple #[.string ⟨#[]⟩, .int .i64 (Lf.ck ho bo st : Nat)]) ∧ w.grownBy w' none := by
  have hg := fun w => checkD ho bo st hh hb hs w
  generalize Lf.ck ho bo st = q at hg hc ⊢
  obtain ⟨W1, hW1, sz1, g1, B1⟩ := boxn w #[.int .u8 ho, .int .u16 bo, .int .u16 st] 25
  have c0 := B1.cell 0 (v := .int .u8 ho) rfl
  have c1 := B1.cell 1 (v := .int .u16 bo) rfl
  have c2 := B1.cell 2 (v := .int .u16 st) rfl
  go_enter Tryz.func29, Tryz.ntmps29
  go_wp2_with (first | (go_at_call 33; refine (hg _).mono ?_; rintro e w2 ⟨rfl, g2⟩))
  go_ret2
  exact ⟨rfl, gb_trans g1 g2⟩

set_option maxHeartbeats 1000000 in
theorem printD1 (bo st : Nat) (hb : bo < 65536) (hs : st < 65536) (w : World) (hc : Lf.ck 1 bo st = 0) : Calls Tryz.prog 29 #[.agg #[.int .u8 1, .int .u16 bo, .int .u16 st]] w fun e w' => e = .returned (.tuple #[.string ((((⟨#[66]⟩ : ByteArray) ++ Lf.td bo) ++ (⟨#[47, 83]⟩ : ByteArray) ++ Lf.td st)), .int .i64 0]) ∧ w.grownBy w' none := by
  have hg := fun w => checkD 1 bo st (by decide) hb hs w
  rw [hc] at hg
  have t1 := fun w => digitsD bo hb w
  have t2 := fun w => digitsD st hs w
  have z1 := Lf.td_size bo
  have z2 := Lf.td_size st
  generalize Lf.td bo = d1 at t1 z1 ⊢
  generalize Lf.td st = d2 at t2 z2 ⊢
  have y1 : ((⟨#[66]⟩ : ByteArray) ++ d1).size ≤ 11 := by rw [ByteArray.size_append]; show 1 + _ ≤ _; omega
  have a1 : ∀ w : World, (Op.stringOp .add ⟨#[66]⟩ d1).run Tryz.prog w = .ok (.string ((⟨#[66]⟩ : ByteArray) ++ d1)) w := fun w => run_string_add_sum w _ _ (by show 1 + _ ≤ _; omega)
  generalize (⟨#[66]⟩ : ByteArray) ++ d1 = x1 at a1 y1 ⊢
  have y2 : (x1 ++ (⟨#[47, 83]⟩ : ByteArray)).size ≤ 13 := by rw [ByteArray.size_append]; show _ + 2 ≤ _; omega
  have a2 : ∀ w : World, (Op.stringOp .add x1 ⟨#[47, 83]⟩).run Tryz.prog w = .ok (.string (x1 ++ (⟨#[47, 83]⟩ : ByteArray))) w := fun w => run_string_add_sum w _ _ (by show _ + 2 ≤ _; omega)
  generalize x1 ++ (⟨#[47, 83]⟩ : ByteArray) = x2 at a2 y2 ⊢
  have y3 : (x2 ++ d2).size ≤ 23 := by rw [ByteArray.size_append]; omega
  have a3 : ∀ w : World, (Op.stringOp .add x2 d2).run Tryz.prog w = .ok (.string (x2 ++ d2)) w := fun w => run_string_add_sum w _ _ (by omega)
  generalize x2 ++ d2 = x3 at a3 y3 ⊢
  clear y1 y2 y3 z1 z2 hc hb hs
  obtain ⟨W1, hW1, sz1, g1, B1⟩ := boxn w #[.int .u8 1, .int .u16 bo, .int .u16 st] 25
  have c0 := B1.cell 0 (v := .int .u8 1) rfl
  have c1 := B1.cell 1 (v := .int .u16 bo) rfl
  have c2 := B1.cell 2 (v := .int .u16 st) rfl
  go_enter Tryz.func29, Tryz.ntmps29
  go_wp2_with (first | (go_at_call 33; refine (hg _).mono ?_; rintro e w2 ⟨rfl, g2⟩; have B2 := B1.kept g2 (by simp); have d0 := B2.cell 0 (v := .int .u8 1) rfl; have dd1 := B2.cell 1 (v := .int .u16 bo) rfl; have d2 := B2.cell 2 (v := .int .u16 st) rfl))
  go_region_held2 (fun w' => w'.cell? ⟨w.heap.size, 0, none⟩ = some (.int .u8 1) ∧ w'.cell? ⟨w.heap.size, 1, none⟩ = some (.int .u16 bo) ∧ w'.cell? ⟨w.heap.size, 2, none⟩ = some (.int .u16 st)) (go_keep) (first | (go_at_call 56; (fail_if_success (guard_hyp g3)); refine (t1 _).mono ?_; rintro e w3 ⟨rfl, g3⟩; have B3 := B2.dr.kept g3 (by simp); have e0 := B3.cell 0 (v := .int .u8 1) rfl; have e1 := B3.cell 1 (v := .int .u16 bo) rfl; have e2 := B3.cell 2 (v := .int .u16 st) rfl) | (go_at_call 56; refine (t2 _).mono ?_; rintro e w4 ⟨rfl, g4⟩; have B4 := B3.kept g4 (by simp); have f0 := B4.cell 0 (v := .int .u8 1) rfl; have f1 := B4.cell 1 (v := .int .u16 bo) rfl; have f2 := B4.cell 2 (v := .int .u16 st) rfl))
  all_goals go_wp2
  all_goals go_ret2
  all_goals exact ⟨rfl, gb_trans (gb_trans (gb_drew (gb_trans g1 g2)) g3) g4⟩

set_option maxHeartbeats 1000000 in
theorem printD2 (bo st : Nat) (hb : bo < 65536) (hs : st < 65536) (w : World) (hc : Lf.ck 2 bo st = 0) : Calls Tryz.prog 29 #[.agg #[.int .u8 2, .int .u16 bo, .int .u16 st]] w fun e w' => e = .returned (.tuple #[.string ((((⟨#[66]⟩ : ByteArray) ++ Lf.td bo) ++ (⟨#[47, 83]⟩ : ByteArray) ++ Lf.td st) ++ (⟨#[86]⟩ : ByteArray)), .int .i64 0]) ∧ w.grownBy w' none := by
  have hg := fun w => checkD 2 bo st (by decide) hb hs w
  rw [hc] at hg
  have t1 := fun w => digitsD bo hb w
  have t2 := fun w => digitsD st hs w
  have z1 := Lf.td_size bo
  have z2 := Lf.td_size st
  generalize Lf.td bo = d1 at t1 z1 ⊢
  generalize Lf.td st = d2 at t2 z2 ⊢
  have y1 : ((⟨#[66]⟩ : ByteArray) ++ d1).size ≤ 11 := by rw [ByteArray.size_append]; show 1 + _ ≤ _; omega
  have a1 : ∀ w : World, (Op.stringOp .add ⟨#[66]⟩ d1).run Tryz.prog w = .ok (.string ((⟨#[66]⟩ : ByteArray) ++ d1)) w := fun w => run_string_add_sum w _ _ (by show 1 + _ ≤ _; omega)
  generalize (⟨#[66]⟩ : ByteArray) ++ d1 = x1 at a1 y1 ⊢
  have y2 : (x1 ++ (⟨#[47, 83]⟩ : ByteArray)).size ≤ 13 := by rw [ByteArray.size_append]; show _ + 2 ≤ _; omega
  have a2 : ∀ w : World, (Op.stringOp .add x1 ⟨#[47, 83]⟩).run Tryz.prog w = .ok (.string (x1 ++ (⟨#[47, 83]⟩ : ByteArray))) w := fun w => run_string_add_sum w _ _ (by show _ + 2 ≤ _; omega)
  generalize x1 ++ (⟨#[47, 83]⟩ : ByteArray) = x2 at a2 y2 ⊢
  have y3 : (x2 ++ d2).size ≤ 23 := by rw [ByteArray.size_append]; omega
  have a3 : ∀ w : World, (Op.stringOp .add x2 d2).run Tryz.prog w = .ok (.string (x2 ++ d2)) w := fun w => run_string_add_sum w _ _ (by omega)
  generalize x2 ++ d2 = x3 at a3 y3 ⊢
  have a4 : ∀ w : World, (Op.stringOp .add x3 ⟨#[86]⟩).run Tryz.prog w = .ok (.string (x3 ++ (⟨#[86]⟩ : ByteArray))) w := fun w => run_string_add_sum w _ _ (by show _ + 1 ≤ _; omega)
  generalize x3 ++ (⟨#[86]⟩ : ByteArray) = x4 at a4 ⊢
  clear y1 y2 y3 z1 z2 hc hb hs
  obtain ⟨W1, hW1, sz1, g1, B1⟩ := boxn w #[.int .u8 2, .int .u16 bo, .int .u16 st] 25
  have c0 := B1.cell 0 (v := .int .u8 2) rfl
  have c1 := B1.cell 1 (v := .int .u16 bo) rfl
  have c2 := B1.cell 2 (v := .int .u16 st) rfl
  go_enter Tryz.func29, Tryz.ntmps29
  go_wp2_with (first | (go_at_call 33; refine (hg _).mono ?_; rintro e w2 ⟨rfl, g2⟩; have B2 := B1.kept g2 (by simp); have d0 := B2.cell 0 (v := .int .u8 2) rfl; have dd1 := B2.cell 1 (v := .int .u16 bo) rfl; have d2 := B2.cell 2 (v := .int .u16 st) rfl))
  go_region_held2 (fun w' => w'.cell? ⟨w.heap.size, 0, none⟩ = some (.int .u8 2) ∧ w'.cell? ⟨w.heap.size, 1, none⟩ = some (.int .u16 bo) ∧ w'.cell? ⟨w.heap.size, 2, none⟩ = some (.int .u16 st)) (go_keep) (first | (go_at_call 56; (fail_if_success (guard_hyp g3)); refine (t1 _).mono ?_; rintro e w3 ⟨rfl, g3⟩; have B3 := B2.dr.kept g3 (by simp); have e0 := B3.cell 0 (v := .int .u8 2) rfl; have e1 := B3.cell 1 (v := .int .u16 bo) rfl; have e2 := B3.cell 2 (v := .int .u16 st) rfl) | (go_at_call 56; refine (t2 _).mono ?_; rintro e w4 ⟨rfl, g4⟩; have B4 := B3.kept g4 (by simp); have f0 := B4.cell 0 (v := .int .u8 2) rfl; have f1 := B4.cell 1 (v := .int .u16 bo) rfl; have f2 := B4.cell 2 (v := .int .u16 st) rfl))
  all_goals go_wp2
  all_goals go_ret2
  all_goals exact ⟨rfl, gb_trans (gb_trans (gb_drew (gb_trans g1 g2)) g3) g4⟩

set_option maxHeartbeats 1000000 in
theorem printD3 (bo st : Nat) (hb : bo < 65536) (hs : st < 65536) (w : World) (hc : Lf.ck 3 bo st = 0) : Calls Tryz.prog 29 #[.agg #[.int .u8 3, .int .u16 bo, .int .u16 st]] w fun e w' => e = .returned (.tuple #[.string ((((⟨#[66]⟩ : ByteArray) ++ Lf.td bo) ++ (⟨#[47, 83]⟩ : ByteArray) ++ Lf.td st) ++ (⟨#[72]⟩ : ByteArray)), .int .i64 0]) ∧ w.grownBy w' none := by
  have hg := fun w => checkD 3 bo st (by decide) hb hs w
  rw [hc] at hg
  have t1 := fun w => digitsD bo hb w
  have t2 := fun w => digitsD st hs w
  have z1 := Lf.td_size bo
  have z2 := Lf.td_size st
  generalize Lf.td bo = d1 at t1 z1 ⊢
  generalize Lf.td st = d2 at t2 z2 ⊢
  have y1 : ((⟨#[66]⟩ : ByteArray) ++ d1).size ≤ 11 := by rw [ByteArray.size_append]; show 1 + _ ≤ _; omega
  have a1 : ∀ w : World, (Op.stringOp .add ⟨#[66]⟩ d1).run Tryz.prog w = .ok (.string ((⟨#[66]⟩ : ByteArray) ++ d1)) w := fun w => run_string_add_sum w _ _ (by show 1 + _ ≤ _; omega)
  generalize (⟨#[66]⟩ : ByteArray) ++ d1 = x1 at a1 y1 ⊢
  have y2 : (x1 ++ (⟨#[47, 83]⟩ : ByteArray)).size ≤ 13 := by rw [ByteArray.size_append]; show _ + 2 ≤ _; omega
  have a2 : ∀ w : World, (Op.stringOp .add x1 ⟨#[47, 83]⟩).run Tryz.prog w = .ok (.string (x1 ++ (⟨#[47, 83]⟩ : ByteArray))) w := fun w => run_string_add_sum w _ _ (by show _ + 2 ≤ _; omega)
  generalize x1 ++ (⟨#[47, 83]⟩ : ByteArray) = x2 at a2 y2 ⊢
  have y3 : (x2 ++ d2).size ≤ 23 := by rw [ByteArray.size_append]; omega
  have a3 : ∀ w : World, (Op.stringOp .add x2 d2).run Tryz.prog w = .ok (.string (x2 ++ d2)) w := fun w => run_string_add_sum w _ _ (by omega)
  generalize x2 ++ d2 = x3 at a3 y3 ⊢
  have a4 : ∀ w : World, (Op.stringOp .add x3 ⟨#[72]⟩).run Tryz.prog w = .ok (.string (x3 ++ (⟨#[72]⟩ : ByteArray))) w := fun w => run_string_add_sum w _ _ (by show _ + 1 ≤ _; omega)
  generalize x3 ++ (⟨#[72]⟩ : ByteArray) = x4 at a4 ⊢
  clear y1 y2 y3 z1 z2 hc hb hs
  obtain ⟨W1, hW1, sz1, g1, B1⟩ := boxn w #[.int .u8 3, .int .u16 bo, .int .u16 st] 25
  have c0 := B1.cell 0 (v := .int .u8 3) rfl
  have c1 := B1.cell 1 (v := .int .u16 bo) rfl
  have c2 := B1.cell 2 (v := .int .u16 st) rfl
  go_enter Tryz.func29, Tryz.ntmps29
  go_wp2_with (first | (go_at_call 33; refine (hg _).mono ?_; rintro e w2 ⟨rfl, g2⟩; have B2 := B1.kept g2 (by simp); have d0 := B2.cell 0 (v := .int .u8 3) rfl; have dd1 := B2.cell 1 (v := .int .u16 bo) rfl; have d2 := B2.cell 2 (v := .int .u16 st) rfl))
  go_region_held2 (fun w' => w'.cell? ⟨w.heap.size, 0, none⟩ = some (.int .u8 3) ∧ w'.cell? ⟨w.heap.size, 1, none⟩ = some (.int .u16 bo) ∧ w'.cell? ⟨w.heap.size, 2, none⟩ = some (.int .u16 st)) (go_keep) (first | (go_at_call 56; (fail_if_success (guard_hyp g3)); refine (t1 _).mono ?_; rintro e w3 ⟨rfl, g3⟩; have B3 := B2.dr.kept g3 (by simp); have e0 := B3.cell 0 (v := .int .u8 3) rfl; have e1 := B3.cell 1 (v := .int .u16 bo) rfl; have e2 := B3.cell 2 (v := .int .u16 st) rfl) | (go_at_call 56; refine (t2 _).mono ?_; rintro e w4 ⟨rfl, g4⟩; have B4 := B3.kept g4 (by simp); have f0 := B4.cell 0 (v := .int .u8 3) rfl; have f1 := B4.cell 1 (v := .int .u16 bo) rfl; have f2 := B4.cell 2 (v := .int .u16 st) rfl))
  all_goals go_wp2
  all_goals go_ret2
  all_goals exact ⟨rfl, gb_trans (gb_trans (gb_drew (gb_trans g1 g2)) g3) g4⟩

theorem printD (ho bo st : Nat) (hh : ho < 256) (hb : bo < 65536) (hs : st < 65536) (w : World) : Calls Tryz.prog 29 #[.agg #[.int .u8 ho, .int .u16 bo, .int .u16 st]] w fun e w' => e = .returned (.tuple #[.string (Lf.pr ho bo st), .int .i64 (Lf.ck ho bo st : Nat)]) ∧ w.grownBy w' none := by
  unfold Lf.pr
  by_cases hc : Lf.ck ho bo st = 0
  · have hi := Lf.ck_in hc
    rw [if_pos hc, hc]
    obtain rfl | rfl | rfl : ho = 1 ∨ ho = 2 ∨ ho = 3 := by omega
    · have e : Lf.lt 1 = ByteArray.empty := rfl
      rw [e, ByteArray.append_empty]
      exact printD1 bo st hb hs w hc
    · exact printD2 bo st hb hs w hc
    · exact printD3 bo st hb hs w hc
  · rw [if_neg hc]
    exact printDbad ho bo st hh hb hs w (by omega)
end Go.Proofs.YtlkdenanbofliaaGreatDoor
