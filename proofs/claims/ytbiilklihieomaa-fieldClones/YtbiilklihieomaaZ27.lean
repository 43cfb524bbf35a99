/- FieldClones, where New refuses. -/
import Derived.Test.YtbiilklihieomaaZ20
import Derived.Test.YtbiilklihieomaaZ22
import Derived.Test.YtbiilklihieomaaZ25
import Derived.OwnWalkIn
namespace Go.Proofs.Ytbiilklihieomaa
open Go.RowKit Go.Shelf
set_option linter.unusedVariables false
set_option linter.unusedSimpArgs false
set_option maxRecDepth 100000
attribute [local go_sem] Oper.semAt_some

set_option maxHeartbeats 4000000 in
theorem clones_no (C0 : Int) (sp : Option Addr) (n c : Nat) (hn : n ≤ 5864062014634) (x y : Int) (st : Nat) (E : Int) (he : ckE C0 n 256 false = E) (hE : E ≠ 0) (w : World) :
    Calls Try.prog 8 #[.int .i64 C0, .slice sp n c, .int .i64 x, .int .i64 y, .int .u8 (st : Nat)] w fun e w' => e = .returned (.bool true) ∧ w.grownBy w' none := by
  have hnw := fun w => newN C0 n 256 E false he hE w
  have hE' : (E != 0) = true := by simp [hE]
  clear he
  obtain ⟨W0, hW0⟩ : ∃ W0, ((((w.alloc (.cells #[.int .i64 x] 3)).alloc (.cells #[.int .i64 y] 3)).alloc (.cells #[.int .u8 (st : Nat)] 5)).alloc (.cells #[.bool false] 4)) = W0 := ⟨_, rfl⟩
  have G0 : w.grownBy W0 none := hW0 ▸ gb_alloc (gb_alloc (gb_alloc (World.grownBy_alloc _ _ none) _) _) _
  have X3 : Bo W0 (w.heap.size + 1 + 1 + 1) 4 #[.bool false] := by
    have h := Bo.new (((w.alloc (.cells #[.int .i64 x] 3)).alloc (.cells #[.int .i64 y] 3)).alloc (.cells #[.int .u8 (st : Nat)] 5)) 4 #[.bool false]
    rw [hW0] at h
    simpa using h
  have HW0 : Hid (((((w.alloc (.cells #[.int .i64 x] 3)).alloc (.cells #[.int .i64 y] 3)).alloc (.cells #[.int .u8 (st : Nat)] 5)).alloc (.cells #[.bool false] 4)) = W0) := hW0
  clear hW0
  have hal : Calls Try.prog 10 #[] ((((w.alloc (.cells #[.int .i64 x] 3)).alloc (.cells #[.int .i64 y] 3)).alloc (.cells #[.int .u8 (st : Nat)] 5)).alloc (.cells #[.bool false] 4)) fun e w' => e = .returned (.bool true) ∧ W0.grownBy w' none := HW0.out ▸ aliveC _
  refine (callsIn_wide (n := 3)).1 ?_
  refine callsIn_of_wp_marks Try.func8 rfl trivial ?_ rfl
  simp only [Try.ntmps8, List.size_toArray, List.length_cons, List.length_nil, Nat.reduceAdd, Nat.reduceSub, Array.replicate_succ, Array.replicate_zero, List.push_toArray, List.append_toArray, List.nil_append, List.cons_append]
  gi_wp2_with (first | (refine ⟨trivial, ?_⟩; gi_at_call 10; refine (callsIn_wide.2 hal).mono ?_; rintro e V1 ⟨rfl, g1⟩) | (refine ⟨trivial, ?_⟩; gi_at_call 9; refine (callsIn_wide.2 (hnw V1)).mono ?_; rintro e V2 ⟨rfl, g2⟩; have R9 := X3.kept (gb_trans g1 g2) (by simp); have cr := R9.cell 0 (v := .bool false) rfl; have fr := R9.frozen 0))
  refine ⟨_, res_c (p := 10) (t := 4) rfl (fun _ => by kernel_rfl) rfl ((R9.set 0 (.bool true)).cell 0 (v := .bool true) rfl), rfl, ?_⟩
  exact gb_new (gb_trans G0 (gb_trans g1 g2)) (a := ⟨w.heap.size + 1 + 1 + 1, 0, none⟩) (by show w.heap.size ≤ w.heap.size + 1 + 1 + 1; omega) _
end Go.Proofs.Ytbiilklihieomaa
