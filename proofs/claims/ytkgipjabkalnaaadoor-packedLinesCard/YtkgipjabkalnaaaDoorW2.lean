/- What the calls of package words that make rows answer: blank, copied, cut. -/
import Derived.Test.YtkgipjabkalnaaaDoorW1
namespace Go.Proofs.YtkgipjabkalnaaaDoor.Wo
open Go.RowKit
set_option linter.unusedVariables false
set_option maxRecDepth 100000

theorem infoW : (Tryd.prog.info? 33).map (fun i => (i.zero, i.size, i.bytes)) = some (some (.int .u64 0), 1, 8) := by kernel_rfl
theorem infoWs : (Tryd.prog.info? 33).map (·.size) = some 1 := by kernel_rfl
theorem underS : Tryd.prog.underlying 25 = some (.slice 33) := by kernel_rfl

theorem underR : ∃ fs, Tryd.prog.underlying 27 = some (.struct fs) := by
  have h : (match Tryd.prog.underlying 27 with | some (.struct _) => true | _ => false) = true := by kernel_rfl
  split at h
  · exact ⟨_, by assumption⟩
  · cases h
theorem infoR : (Tryd.prog.info? 27).map (·.size) = some 2 := by kernel_rfl

theorem blankC (m : Nat) (h1 : m ≤ 65538) (w : World) :
    Calls Tryd.prog 37 #[.int .i64 m] w fun e w' => ∃ b, e = .returned (.agg #[.int .i64 m, .slice (some ⟨b, 0, none⟩) ((m + 63) / 64) ((m + 63) / 64)]) ∧ Row w' 33 b ((m + 63) / 64) (fun _ => false) ∧ w.grownBy w' none ∧ w.heap.size ≤ b ∧ Hid (b < w'.heap.size) := by
  obtain ⟨c, hc⟩ : ∃ c : Nat, c = (m + 63) / 64 := ⟨_, rfl⟩
  have hw := wordsForC m (by omega)
  rw [← hc] at hw ⊢
  have cl : c ≤ 1025 := by omega
  clear hc
  have hmk := run_make_row' (P := Tryd.prog) 25 33 (.int .u64 0) 8 underS infoW rfl .i64 .i64 c (by omega) (by omega)
  go_enter Tryd.func37, Tryd.ntmps37
  go_wp2_with (first | (go_at_call 23; refine (hw _).mono ?_; rintro e w' ⟨rfl, rfl⟩))
  obtain ⟨fs, hfs⟩ := underR
  refine ret_box1 (g := w.heap.size) (t := 27) rfl hfs infoR rfl ((Bx.new w _ _ _).kept (World.grownBy_alloc _ _ none) (by simp)) rfl ?_
  refine ⟨w.heap.size + 1, rfl, ?_, gb_alloc (World.grownBy_alloc _ _ _) _, by omega, ?_⟩
  · have h := World.rowIs_made (w.alloc (Obj.cells #[Value.int IntKind.i64 m, Value.slice (some ⟨w.heap.size + 1, 0, none⟩) c c] 27)) (.int .u64 0) c 33
    have e : (w.alloc (Obj.cells #[Value.int IntKind.i64 m, Value.slice (some ⟨w.heap.size + 1, 0, none⟩) c c] 27)).heap.size = w.heap.size + 1 := by simp
    rw [e] at h
    exact h.congr fun i hi => by rw [Pk.pack_zero]; rfl
  · unfold Hid; simp

end Go.Proofs.YtkgipjabkalnaaaDoor.Wo
