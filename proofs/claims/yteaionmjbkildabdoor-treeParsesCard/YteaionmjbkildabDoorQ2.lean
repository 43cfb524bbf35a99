/- Of of no function; what the document says is refused ahead of asking. -/
import Derived.Test.YteaionmjbkildabDoorQ1
namespace Go.Proofs.YteaionmjbkildabDoor
open Go.RowKit
set_option linter.unusedVariables false
set_option linter.unusedSimpArgs false
set_option maxRecDepth 100000

theorem underT : ∃ fs, Tryd.prog.underlying 24 = some (.struct fs) := by
  have h : (match Tryd.prog.underlying 24 with | some (.struct _) => true | _ => false) = true := by kernel_rfl
  split at h
  · exact ⟨_, by assumption⟩
  · cases h
theorem eqNil (w : World) : (binOp BinOp.eql 56 Value.nilFunc Value.nilFunc).run Tryd.prog w = .ok (.bool true) w := by
  first | kernel_rfl | rfl | simp [binOp]
theorem infoT : (Tryd.prog.info? 24).map (·.size) = some 4 := by kernel_rfl

set_option maxHeartbeats 400000 in
theorem ofNilA (s n : Int) (h : maB s n = false) (w : World) : Calls Tryd.prog 27 #[.int .i64 s, .int .i64 n, .nilFunc] w fun e w' => e = .returned (.tuple #[.agg #[.int .i64 0, .int .i64 0, .slice none 0 0, .int .i64 0], .int .i64 2]) ∧ w.grownBy w' none := by
  have hm := mayAskC s n
  rw [h] at hm
  clear h
  have hnil := eqNil
  obtain ⟨fs, hfs⟩ := underT
  obtain ⟨W1, hW1, sz1, g1, B1⟩ := boxn w #[.int .i64 0, .int .i64 0, .slice none 0 0, .int .i64 0] 24
  have c0 := B1.cell 0 (v := .int .i64 0) rfl
  have c1 := B1.cell 1 (v := .int .i64 0) rfl
  have c2 := B1.cell 2 (v := .slice none 0 0) rfl
  have c3 := B1.cell 3 (v := .int .i64 0) rfl
  have f0 := B1.frozen 0
  have f1 := B1.frozen 1
  have f2 := B1.frozen 2
  have f3 := B1.frozen 3
  have HF : Hid (Tryd.prog.underlying 24 = some (.struct fs)) := hfs
  clear hfs
  go_enter Tryd.func27, Tryd.ntmps27
  go_wp2_with (first | (go_at_call 46; refine (hm _).mono ?_; rintro e w' ⟨rfl, hw'⟩; subst w'))
  have le : w.heap.size ≤ w.heap.size := Nat.le_refl _
  have B2 := (((B1.set 0 (.int .i64 0)).set 1 (.int .i64 0)).set 2 (.slice none 0 0)).set 3 (.int .i64 0)
  refine ret_c2 (g := w.heap.size) (t := 24) (cs := #[.int .i64 0, .int .i64 0, .slice none 0 0, .int .i64 0]) rfl HF.out infoT rfl (by first | exact B2 | simpa using B2 | exact B1) rfl ⟨rfl, by first | exact gb_new (gb_new (gb_new (gb_new g1 le _) le _) le _) le _ | exact g1⟩

set_option maxHeartbeats 400000 in
theorem ofNilN (s n : Int) (h : maB s n = true) (w : World) : Calls Tryd.prog 27 #[.int .i64 s, .int .i64 n, .nilFunc] w fun e w' => e = .returned (.tuple #[.agg #[.int .i64 0, .int .i64 0, .slice none 0 0, .int .i64 0], .int .i64 1]) ∧ w.grownBy w' none := by
  have hm := mayAskC s n
  rw [h] at hm
  clear h
  have hnil := eqNil
  obtain ⟨fs, hfs⟩ := underT
  obtain ⟨W1, hW1, sz1, g1, B1⟩ := boxn w #[.int .i64 0, .int .i64 0, .slice none 0 0, .int .i64 0] 24
  have c0 := B1.cell 0 (v := .int .i64 0) rfl
  have c1 := B1.cell 1 (v := .int .i64 0) rfl
  have c2 := B1.cell 2 (v := .slice none 0 0) rfl
  have c3 := B1.cell 3 (v := .int .i64 0) rfl
  have f0 := B1.frozen 0
  have f1 := B1.frozen 1
  have f2 := B1.frozen 2
  have f3 := B1.frozen 3
  have HF : Hid (Tryd.prog.underlying 24 = some (.struct fs)) := hfs
  clear hfs
  go_enter Tryd.func27, Tryd.ntmps27
  go_wp2_with (first | (go_at_call 46; refine (hm _).mono ?_; rintro e w' ⟨rfl, hw'⟩; subst w'))
  have le : w.heap.size ≤ w.heap.size := Nat.le_refl _
  have B2 := (((B1.set 0 (.int .i64 0)).set 1 (.int .i64 0)).set 2 (.slice none 0 0)).set 3 (.int .i64 0)
  refine ret_c2 (g := w.heap.size) (t := 24) (cs := #[.int .i64 0, .int .i64 0, .slice none 0 0, .int .i64 0]) rfl HF.out infoT rfl (by first | exact B2 | simpa using B2 | exact B1) rfl ⟨rfl, by first | exact gb_new (gb_new (gb_new (gb_new g1 le _) le _) le _) le _ | exact g1⟩

/-- What is refused ahead of asking. -/
def adE (s n : Int) (b : Bool) : Int := if maB s n then (if b then 1 else if (s.toNat) ^ (n.toNat) ≤ 1048576 then 0 else 4) else 2

end Go.Proofs.YteaionmjbkildabDoor
