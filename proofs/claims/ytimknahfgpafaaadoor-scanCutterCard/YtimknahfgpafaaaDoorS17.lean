/- The cutter's calls, each in one word; a cutter that is none, or a zero one. -/
import Derived.Test.YtimknahfgpafaaaDoorS3
namespace Go.Proofs.YtimknahfgpafaaaDoor
open Go.RowKit
set_option linter.unusedVariables false
set_option linter.unusedSimpArgs false

def pkB (s : ByteArray) (i : Nat) : Bool := decide (i < s.size)
def tkB (s : ByteArray) (i : Nat) (c : Int) : Bool := decide (i < s.size) && ((Sc.bt s i : Int) == c)
def tkI (s : ByteArray) (i : Nat) (c : Int) : Nat := if tkB s i c = true then i + 1 else i
def nbE (s : ByteArray) (i : Nat) : Nat := if dg s i = i then 10 else if numV s i ≤ 9223372036854775807 then 0 else 11
def nbV (s : ByteArray) (i : Nat) : Nat := if nbE s i = 0 then numV s i else 0
def nbI (s : ByteArray) (i : Nat) : Nat := if nbE s i = 0 then dg s i else i
def nmE (s : ByteArray) (i : Nat) : Nat := if Sc.letterB (Sc.bt s i) = false then 31 else if Sc.ov Sc.namedB s i - i ≤ 32 then 0 else 6
def nmS (s : ByteArray) (i : Nat) : ByteArray := if nmE s i = 0 then s.extract i (Sc.ov Sc.namedB s i) else ⟨#[]⟩
def nmI (s : ByteArray) (i : Nat) : Nat := if nmE s i = 0 then Sc.ov Sc.namedB s i else i

theorem gbr (w : World) (b k : Nat) : w.grownBy (w.drewN k) (some b) := gb_drewN (World.grownBy.refl _ _) _
theorem peekA (b : Nat) (s : ByteArray) (i : Nat) (w : World) (h : Cu w b s i) (hi : i ≤ s.size) : Calls Tryd.prog 35 #[.pointer (some ⟨b, 0, none⟩)] w fun e w' => e = .returned (.tuple #[.int .u8 (Sc.bt s i : Nat), .bool (pkB s i)]) ∧ ∃ k, w' = w.drewN k := by
  by_cases h1 : i < s.size
  · unfold pkB; rw [decide_eq_true h1]; exact peekC b s i w h h1
  · obtain rfl : i = s.size := by omega
    unfold pkB; rw [decide_eq_false h1, Sc.bt_off h1]; exact peekEnd b s w h
theorem takeA (b : Nat) (c : Int) (s : ByteArray) (i : Nat) (w : World) (h : Cu w b s i) (hi : i ≤ s.size) (hs : s.size ≤ maxLen) : Calls Tryd.prog 37 #[.pointer (some ⟨b, 0, none⟩), .int .u8 c] w fun e w' => e = .returned (.bool (tkB s i c)) ∧ Cu w' b s (tkI s i c) ∧ w.grownBy w' (some b) := by
  by_cases h1 : i < s.size
  · cases h2 : ((Sc.bt s i : Int) == c) with
    | true =>
      have e : tkB s i c = true := by unfold tkB; rw [decide_eq_true h1, h2]; rfl
      unfold tkI; rw [e, if_pos rfl]
      exact takeYes b c s i w h h1 h2 hs
    | false =>
      have e : tkB s i c = false := by unfold tkB; rw [h2, Bool.and_false]
      unfold tkI; rw [e, if_neg (by simp)]
      refine (takeNo b c s i w h h1 h2).mono ?_
      rintro e w' ⟨rfl, k, rfl⟩
      exact ⟨rfl, h.drew, gbr _ _ _⟩
  · obtain rfl : i = s.size := by omega
    have e : tkB s s.size c = false := by unfold tkB; rw [decide_eq_false h1, Bool.false_and]
    unfold tkI; rw [e, if_neg (by simp)]
    refine (takeEnd b c s w h).mono ?_
    rintro e w' ⟨rfl, k, rfl⟩
    exact ⟨rfl, h.drew, gbr _ _ _⟩
theorem numberA (b : Nat) (s : ByteArray) (i : Nat) (w : World) (h : Cu w b s i) (hs : s.size ≤ maxLen) (hi : i ≤ s.size) (tp : TypeId) (p : Value) (hE : Hid (Er tp p w)) (hG : 4 < w.heap.size) :
    Calls Tryd.prog 27 #[.pointer (some ⟨b, 0, none⟩)] w fun e w' => e = .returned (.tuple #[.int .i64 (nbV s i : Nat), .int .i64 (nbE s i : Nat)]) ∧ Cu w' b s (nbI s i) ∧ w.grownBy w' (some b) := by
  by_cases h1 : dg s i = i
  · have e : nbE s i = 10 := by unfold nbE; rw [if_pos h1]
    unfold nbV nbI; rw [e, if_neg (by decide), if_neg (by decide)]
    refine (numberNo b s i w h hs hi h1).mono ?_
    rintro e w' ⟨rfl, k, rfl⟩
    exact ⟨rfl, h.drew, gbr _ _ _⟩
  · have h3 : i < dg s i := by have := Sc.ov_ge Sc.digitB hi; have : i ≤ dg s i := this; omega
    by_cases h2 : numV s i ≤ 9223372036854775807
    · have e : nbE s i = 0 := by unfold nbE; rw [if_neg h1, if_pos h2]
      unfold nbV nbI; rw [e, if_pos rfl, if_pos rfl]
      exact numberOk b s i w h hs hi h3 h2 tp p hE hG
    · have e : nbE s i = 11 := by unfold nbE; rw [if_neg h1, if_neg h2]
      unfold nbV nbI; rw [e, if_neg (by decide), if_neg (by decide)]
      refine (numberFar b s i w h hs hi h3 h2 tp p hE hG).mono ?_
      rintro e w' ⟨rfl, hg⟩
      exact ⟨rfl, h.kept hg (by simp), gb_none (World.grownBy.refl _ _) hg⟩
theorem nameA (b : Nat) (s : ByteArray) (i : Nat) (w : World) (h : Cu w b s i) (hs : s.size ≤ maxLen) (hi : i ≤ s.size) :
    Calls Tryd.prog 28 #[.pointer (some ⟨b, 0, none⟩)] w fun e w' => e = .returned (.tuple #[.string (nmS s i), .int .i64 (nmE s i : Nat)]) ∧ Cu w' b s (nmI s i) ∧ w.grownBy w' (some b) := by
  by_cases h0 : i < s.size
  · cases h1 : Sc.letterB (Sc.bt s i) with
    | false =>
      have e : nmE s i = 31 := by unfold nmE; rw [if_pos h1]
      unfold nmS nmI; rw [e, if_neg (by decide), if_neg (by decide)]
      refine (nameNo b s i w h h0 h1).mono ?_
      rintro e w' ⟨rfl, k, rfl⟩
      exact ⟨rfl, h.drew, gbr _ _ _⟩
    | true =>
      by_cases h2 : Sc.ov Sc.namedB s i - i ≤ 32
      · have e : nmE s i = 0 := by unfold nmE; rw [if_neg (by rw [h1]; simp), if_pos h2]
        unfold nmS nmI; rw [e, if_pos rfl, if_pos rfl]
        exact nameOk b s i w h hs h0 h1 h2
      · have e : nmE s i = 6 := by unfold nmE; rw [if_neg (by rw [h1]; simp), if_neg h2]
        unfold nmS nmI; rw [e, if_neg (by decide), if_neg (by decide)]
        refine (nameMany b s i w h hs h0 h1 h2).mono ?_
        rintro e w' ⟨rfl, k, rfl⟩
        exact ⟨rfl, h.drew, gbr _ _ _⟩
  · obtain rfl : i = s.size := by omega
    have e : nmE s s.size = 31 := by unfold nmE; rw [Sc.bt_off h0, if_pos (by decide)]
    unfold nmS nmI; rw [e, if_neg (by decide), if_neg (by decide)]
    refine (nameEnd b s w h).mono ?_
    rintro e w' ⟨rfl, k, rfl⟩
    exact ⟨rfl, h.drew, gbr _ _ _⟩

/-- A zero cutter. -/
def Zc (w : World) (b : Nat) : Prop := w.heap[b]? = some (.cells #[.bool false, .string ⟨#[]⟩, .int .i64 0] 36 (0, 0))
theorem Zc.lt {w : World} {b : Nat} (h : Zc w b) : b < w.heap.size := (Array.getElem?_eq_some_iff.1 h).1
theorem Zc.kept {w w' : World} {b : Nat} {r : Option Nat} (h : Zc w b) (hg : w.grownBy w' r) (hne : some b ≠ r) : Zc w' b := (hg.block b h.lt hne).trans h
theorem Zc.c0 {w : World} {b : Nat} (h : Zc w b) : w.cell? ⟨b, 0, none⟩ = some (.bool false) := by unfold Zc at h; simp [World.cell?, h]
theorem Zc.drew {w : World} {b k : Nat} (h : Zc w b) : Zc (w.drewN k) b := h
/-- No cutter, or a zero one. -/
def Nc (w : World) (a : Option Addr) : Prop := a = none ∨ ∃ b, a = some ⟨b, 0, none⟩ ∧ Zc w b
theorem Nc.drew {w : World} {a : Option Addr} {k : Nat} (h : Nc w a) : Nc (w.drewN k) a := h
theorem lacksN (a : Option Addr) (w : World) (h : Nc w a) : Calls Tryd.prog 42 #[.pointer a] w fun e w' => e = .returned (.bool true) ∧ w' = w := by
  rcases h with rfl | ⟨b, rfl, h⟩
  · go_enter Tryd.func42, Tryd.ntmps42
    go_wp2
    go_ret
    exact ⟨rfl, rfl⟩
  · have x0 := h.c0
    go_enter Tryd.func42, Tryd.ntmps42
    go_wp2
    go_ret
    exact ⟨rfl, rfl⟩

theorem atN (a : Option Addr) (w : World) (h : Nc w a) : Calls Tryd.prog 17 #[.pointer a] w fun e w' => e = .returned (.int .i64 0) ∧ ∃ k, w' = w.drewN k := by
  go_enter Tryd.func17, Tryd.ntmps17
  go_wp2_with (go_at_call 42; refine (lacksN _ _ h).mono ?_; rintro e w' ⟨rfl, rfl⟩)
  go_ret
  exact ⟨rfl, 0, rfl⟩

theorem doneN (a : Option Addr) (w : World) (h : Nc w a) : Calls Tryd.prog 33 #[.pointer a] w fun e w' => e = .returned (.bool false) ∧ ∃ k, w' = w.drewN k := by
  go_enter Tryd.func33, Tryd.ntmps33
  go_wp2
  go_quiet (first | (go_at_call 42; refine Calls.quiet_of_same (lacksN _ _ h)))
  go_wp2
  go_ret
  exact ⟨rfl, _, rfl⟩

theorem peekN (a : Option Addr) (w : World) (h : Nc w a) : Calls Tryd.prog 35 #[.pointer a] w fun e w' => e = .returned (.tuple #[.int .u8 0, .bool false]) ∧ ∃ k, w' = w.drewN k := by
  go_enter Tryd.func35, Tryd.ntmps35
  go_wp2
  go_quiet (first | (go_at_call 42; refine Calls.quiet_of_same (lacksN _ _ h)))
  go_wp2
  go_ret2
  exact ⟨rfl, _, rfl⟩

theorem takeN (a : Option Addr) (w : World) (h : Nc w a) (c : Int) : Calls Tryd.prog 37 #[.pointer a, .int .u8 c] w fun e w' => e = .returned (.bool false) ∧ ∃ k, w' = w.drewN k := by
  go_enter Tryd.func37, Tryd.ntmps37
  go_wp2_with (go_at_call 35; refine (peekN _ _ h).mono ?_; rintro e w' ⟨rfl, k, rfl⟩)
  go_ret
  exact ⟨rfl, _, rfl⟩

theorem blanksN (a : Option Addr) (w : World) (h : Nc w a) : Calls Tryd.prog 29 #[.pointer a] w fun e w' => e = .returned (.int .i64 0) ∧ ∃ k, w' = w.drewN k := by
  go_enter Tryd.func29, Tryd.ntmps29
  go_wp2_with (go_at_call 42; refine (lacksN _ _ h).mono ?_; rintro e w' ⟨rfl, rfl⟩)
  go_ret
  exact ⟨rfl, 0, rfl⟩

theorem numberN (a : Option Addr) (w : World) (h : Nc w a) : Calls Tryd.prog 27 #[.pointer a] w fun e w' => e = .returned (.tuple #[.int .i64 0, .int .i64 1]) ∧ ∃ k, w' = w.drewN k := by
  go_enter Tryd.func27, Tryd.ntmps27
  go_wp2_with (go_at_call 42; refine (lacksN _ _ h).mono ?_; rintro e w' ⟨rfl, rfl⟩)
  go_ret2
  exact ⟨rfl, 0, rfl⟩

theorem nameN (a : Option Addr) (w : World) (h : Nc w a) : Calls Tryd.prog 28 #[.pointer a] w fun e w' => e = .returned (.tuple #[.string ⟨#[]⟩, .int .i64 1]) ∧ ∃ k, w' = w.drewN k := by
  go_enter Tryd.func28, Tryd.ntmps28
  go_wp2_with (go_at_call 42; refine (lacksN _ _ h).mono ?_; rintro e w' ⟨rfl, rfl⟩)
  go_ret2
  exact ⟨rfl, 0, rfl⟩
end Go.Proofs.YtimknahfgpafaaaDoor
