/- What the cutter of package scan answers. -/
import Derived.Test.YtlkdenanbofliaaGreatDoorS1
import Derived.Test.YtlkdenanbofliaaGreatDoorMem
import Derived.Deep.QuietTactic
import Derived.BigQuiet
namespace Go.Proofs.YtlkdenanbofliaaGreatDoor
open Go.RowKit
set_option linter.unusedVariables false
set_option linter.unusedSimpArgs false

/-- A cutter of the text s that stands at i. -/
def Cu (w : World) (b : Nat) (s : ByteArray) (i : Nat) : Prop := w.heap[b]? = some (.cells #[.bool true, .string s, .int .i64 i] 91 (0, 0))
theorem Cu.lt {w : World} {b : Nat} {s : ByteArray} {i : Nat} (h : Cu w b s i) : b < w.heap.size := (Array.getElem?_eq_some_iff.1 h).1
theorem Cu.kept {w w' : World} {b : Nat} {s : ByteArray} {i : Nat} {r : Option Nat} (h : Cu w b s i) (hg : w.grownBy w' r) (hne : some b ≠ r) : Cu w' b s i := (hg.block b h.lt hne).trans h
theorem Cu.c0 {w : World} {b : Nat} {s : ByteArray} {i : Nat} (h : Cu w b s i) : w.cell? ⟨b, 0, none⟩ = some (.bool true) := by unfold Cu at h; simp [World.cell?, h]
theorem Cu.c1 {w : World} {b : Nat} {s : ByteArray} {i : Nat} (h : Cu w b s i) : w.cell? ⟨b, 1, none⟩ = some (.string s) := by unfold Cu at h; simp [World.cell?, h]
theorem Cu.c2 {w : World} {b : Nat} {s : ByteArray} {i : Nat} (h : Cu w b s i) : w.cell? ⟨b, 2, none⟩ = some (.int .i64 i) := by unfold Cu at h; simp [World.cell?, h]
theorem Cu.f2 {w : World} {b : Nat} {s : ByteArray} {i : Nat} (h : Cu w b s i) : w.frozen? ⟨b, 2, none⟩ = false := by unfold Cu at h; simp [World.frozen?, h]
theorem Cu.set {w : World} {b : Nat} {s : ByteArray} {i : Nat} (h : Cu w b s i) (k : Nat) : Cu (w.setCell ⟨b, 2, none⟩ (.int .i64 k)) b s k := by unfold Cu at h ⊢; simp [World.setCell, Array.getElem?_modify, h]
theorem Cu.drew {w : World} {b : Nat} {s : ByteArray} {i k : Nat} (h : Cu w b s i) : Cu (w.drewN k) b s i := h
theorem gb_own (w : World) (b i : Nat) (v : Value) : w.grownBy (w.setCell ⟨b, i, none⟩ v) (some b) := gb_set (World.grownBy.refl _ _) i v

theorem newC (s : ByteArray) (w : World) : Calls Tryz.prog 42 #[.string s] w fun e w' => e = .returned (.pointer (some ⟨w.heap.size, 0, none⟩)) ∧ Cu w' w.heap.size s 0 ∧ w.grownBy w' none := by
  go_enter Tryz.func42, Tryz.ntmps42
  go_wp2
  go_ret
  exact ⟨rfl, heap_alloc_new w _, World.grownBy_alloc _ _ _⟩

theorem lacksC (b : Nat) (s : ByteArray) (i : Nat) (w : World) (h : Cu w b s i) : Calls Tryz.prog 64 #[.pointer (some ⟨b, 0, none⟩)] w fun e w' => e = .returned (.bool false) ∧ w' = w := by
  have x0 := h.c0
  go_enter Tryz.func64, Tryz.ntmps64
  go_wp2
  go_ret
  exact ⟨rfl, rfl⟩

theorem atC (b : Nat) (s : ByteArray) (i : Nat) (w : World) (h : Cu w b s i) : Calls Tryz.prog 44 #[.pointer (some ⟨b, 0, none⟩)] w fun e w' => e = .returned (.int .i64 i) ∧ w' = w := by
  have x2 := h.c2
  go_enter Tryz.func44, Tryz.ntmps44
  go_wp2_with (go_at_call 64; refine (lacksC _ _ _ _ h).mono ?_; rintro e w' ⟨rfl, rfl⟩)
  go_ret
  exact ⟨rfl, rfl⟩

theorem doneC (b : Nat) (s : ByteArray) (i : Nat) (w : World) (h : Cu w b s i) : Calls Tryz.prog 85 #[.pointer (some ⟨b, 0, none⟩)] w fun e w' => e = .returned (.bool ((i : Int) == s.size)) ∧ ∃ k, w' = w.drewN k := by
  have x1 := h.c1
  have x2 := h.c2
  go_enter Tryz.func85, Tryz.ntmps85
  go_wp2
  go_quiet (first | (go_at_call 64; refine Calls.quiet_of_same (lacksC _ _ _ _ h)))
  go_wp2
  go_ret
  exact ⟨rfl, _, rfl⟩

theorem peekC (b : Nat) (s : ByteArray) (i : Nat) (w : World) (h : Cu w b s i) (hi : i < s.size) : Calls Tryz.prog 63 #[.pointer (some ⟨b, 0, none⟩)] w fun e w' => e = .returned (.tuple #[.int .u8 (Sc.bt s i : Nat), .bool true]) ∧ ∃ k, w' = w.drewN k := by
  have x1 := h.c1
  have x2 := h.c2
  have hb := Sc.bt_at hi
  have h1 : (i : Int) < (s.size : Int) := by omega
  have h2 : ((i : Int) == (s.size : Int)) = false := by simp; omega
  go_enter Tryz.func63, Tryz.ntmps63
  go_wp2
  go_quiet (first | (go_at_call 64; refine Calls.quiet_of_same (lacksC _ _ _ _ h)))
  go_wp2
  go_quiet (fail)
  go_wp2
  go_ret2
  exact ⟨rfl, _, World.drewN_drewN _ _ _⟩
theorem peekEnd (b : Nat) (s : ByteArray) (w : World) (h : Cu w b s s.size) : Calls Tryz.prog 63 #[.pointer (some ⟨b, 0, none⟩)] w fun e w' => e = .returned (.tuple #[.int .u8 0, .bool false]) ∧ ∃ k, w' = w.drewN k := by
  have x1 := h.c1
  have x2 := h.c2
  go_enter Tryz.func63, Tryz.ntmps63
  go_wp2
  go_quiet (first | (go_at_call 64; refine Calls.quiet_of_same (lacksC _ _ _ _ h)))
  go_wp2
  go_ret2
  exact ⟨rfl, _, rfl⟩

theorem takeEnd (b : Nat) (c : Int) (s : ByteArray) (w : World) (h : Cu w b s s.size) : Calls Tryz.prog 49 #[.pointer (some ⟨b, 0, none⟩), .int .u8 c] w fun e w' => e = .returned (.bool false) ∧ ∃ k, w' = w.drewN k := by
  go_enter Tryz.func49, Tryz.ntmps49
  go_wp2_with (go_at_call 63; refine (peekEnd _ _ _ h).mono ?_; rintro e w' ⟨rfl, k1, rfl⟩)
  go_ret
  exact ⟨rfl, _, rfl⟩
theorem takeNo (b : Nat) (c : Int) (s : ByteArray) (i : Nat) (w : World) (h : Cu w b s i) (hi : i < s.size) (hc2 : ((Sc.bt s i : Int) == c) = false) : Calls Tryz.prog 49 #[.pointer (some ⟨b, 0, none⟩), .int .u8 c] w fun e w' => e = .returned (.bool false) ∧ ∃ k, w' = w.drewN k := by
  go_enter Tryz.func49, Tryz.ntmps49
  go_wp2_with (go_at_call 63; refine (peekC _ _ _ _ h hi).mono ?_; rintro e w' ⟨rfl, k1, rfl⟩)
  go_ret
  exact ⟨rfl, _, rfl⟩
theorem takeYes (b : Nat) (c : Int) (s : ByteArray) (i : Nat) (w : World) (h : Cu w b s i) (hi : i < s.size) (hc2 : ((Sc.bt s i : Int) == c) = true) (hs : s.size ≤ maxLen) : Calls Tryz.prog 49 #[.pointer (some ⟨b, 0, none⟩), .int .u8 c] w fun e w' => e = .returned (.bool true) ∧ Cu w' b s (i + 1) ∧ w.grownBy w' (some b) := by
  unfold maxLen at hs
  have x2 := h.c2
  have y2 := h.f2
  have hw : IntKind.i64.wrap ((i : Int) + 1) = ((i + 1 : Nat) : Int) := by rw [IntKind.wrap_i64]; omega
  go_enter Tryz.func49, Tryz.ntmps49
  go_wp2_with (go_at_call 63; refine (peekC _ _ _ _ h hi).mono ?_; rintro e w' ⟨rfl, k1, rfl⟩)
  go_ret
  exact ⟨rfl, Cu.set (w := w.drewN k1) h (i + 1), gb_set (gb_drewN (World.grownBy.refl _ _) _) _ _⟩

theorem ahead_isDigit (b : Nat) (s : ByteArray) (i : Nat) (w : World) (h : Cu w b s i) (hs : s.size ≤ maxLen) (hi : i ≤ s.size) : Calls Tryz.prog 73 #[.pointer (some ⟨b, 0, none⟩), .func (.func 74) #[] #[]] w fun e w' => e = .returned (.string (s.extract i (Sc.ov Sc.digitB s i))) ∧ ∃ k, w' = w.drewN k := by
  have x1 := h.c1
  have x2 := h.c2
  have h1 := Sc.ov_ge Sc.digitB hi
  have h2 := Sc.ov_le Sc.digitB hi
  have h3 : (i : Int) ≤ (Sc.ov Sc.digitB s i : Int) := by omega
  have h4 : (Sc.ov Sc.digitB s i : Int) ≤ (s.size : Int) := by omega
  have h5 : (0 : Int) ≤ (i : Int) := by omega
  go_enter Tryz.func73, Tryz.ntmps73
  go_wp2
  go_quiet (first | (go_at_call 90; refine Calls.quiet_of_same (over_isDigit s i hs hi _)))
  go_wp2
  go_ret
  exact ⟨rfl, _, rfl⟩
end Go.Proofs.YtlkdenanbofliaaGreatDoor
