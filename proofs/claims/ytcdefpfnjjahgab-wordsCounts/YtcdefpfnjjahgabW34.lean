/- New and Of, the program's and the document's, in one form. -/
import Derived.Test.YtcdefpfnjjahgabW4
import Derived.Test.YtcdefpfnjjahgabW33
namespace Go.Proofs.Ytcdefpfnjjahgab
open Go.RowKit
set_option linter.unusedVariables false
set_option linter.unusedSimpArgs false

/-- What a call that makes a row leaves. -/
def Made (a : Ans) (w : World) (e : Ending) (w' : World) : Prop := ∃ sp, e = .returned (.tuple #[.agg #[.int .i64 a.N, .slice sp a.c a.c], .int .i64 a.e]) ∧ Gr w' sp a.c a.f ∧ (∀ x, sp = some x → w.heap.size ≤ x.block) ∧ w.grownBy w' none
theorem gr_row {w : World} {b c : Nat} {p : Nat → Bool} (h : Row w 22 b c p) : Gr w (some ⟨b, 0, none⟩) c (Pk.pack p) := .inr ⟨b, rfl, h⟩
def noAns (e : Int) : Ans := ⟨0, 0, e, fun _ => 0⟩
def okAns (m : Nat) (p : Nat → Bool) : Ans := ⟨(m : Int), (m + 63) / 64, 0, Pk.pack p⟩
theorem made_bad {w w' : World} (e : Int) (hg : w.grownBy w' none) : Made (noAns e) w (.returned (.tuple #[.agg #[.int .i64 0, .slice none 0 0], .int .i64 e])) w' := ⟨none, rfl, .inl ⟨rfl, rfl⟩, (fun x h => by cases h), hg⟩
theorem made_ok {w w' : World} {b m : Nat} {p : Nat → Bool} (hr : Row w' 22 b ((m + 63) / 64) p) (hg : w.grownBy w' none) (hb : w.heap.size ≤ b) : Made (okAns m p) w (.returned (.tuple #[.agg #[.int .i64 m, .slice (some ⟨b, 0, none⟩) ((m + 63) / 64) ((m + 63) / 64)], .int .i64 0])) w' := ⟨some ⟨b, 0, none⟩, rfl, .inr ⟨b, rfl, hr⟩, (fun x h => by cases h; exact hb), hg⟩
def newAns (n : Int) : Ans := if 0 ≤ n ∧ n ≤ 65538 then okAns n.toNat (fun _ => false) else noAns 2
def ofAns (n : Nat) (g : Nat → Bool) : Ans := if n ≤ 65538 then okAns n (fun i => decide (i < n) && g i) else noAns 6
theorem newAns_yes {m : Nat} (h : m ≤ 65538) : newAns (m : Int) = okAns m (fun _ => false) := by unfold newAns; rw [if_pos (by omega), Int.toNat_natCast]
theorem newAns_no {n : Int} (h : ¬ (0 ≤ n ∧ n ≤ 65538)) : newAns n = noAns 2 := if_neg h
theorem ofAns_yes {n : Nat} (g : Nat → Bool) (h : n ≤ 65538) : ofAns n g = okAns n (fun i => decide (i < n) && g i) := if_pos h
theorem ofAns_no {n : Nat} (g : Nat → Bool) (h : ¬ n ≤ 65538) : ofAns n g = noAns 6 := if_neg h
/-- An answer that may be: few words, each a word; Valid says yes. -/
structure Fine (a : Ans) : Prop where
  c : a.c ≤ 1025
  lt : ∀ k, k < a.c → a.f k < 18446744073709551616
  ok : validB a.N a.c a.f = true
theorem fine_no (e : Int) : Fine (noAns e) := ⟨Nat.zero_le _, fun k hk => absurd hk (Nat.not_lt_zero _), by show validB 0 0 _ = true; simp [validB]⟩
theorem fine_ok {m : Nat} {p : Nat → Bool} (h : m ≤ 65538) (hp : ∀ i, m ≤ i → p i = false) : Fine (okAns m p) := ⟨by show (m + 63) / 64 ≤ 1025; omega, fun k _ => Pk.pack_lt _ _, validB_may (m := m) (n := (m + 63) / 64) (p := p) ⟨h, rfl, hp⟩⟩
theorem fine_new (n : Int) : Fine (newAns n) := by
  by_cases h : 0 ≤ n ∧ n ≤ 65538
  · obtain ⟨m, rfl⟩ : ∃ m : Nat, n = m := ⟨n.toNat, by omega⟩
    rw [newAns_yes (by omega)]
    exact fine_ok (by omega) (fun _ _ => rfl)
  · rw [newAns_no h]; exact fine_no _
theorem fine_of (n : Nat) (g : Nat → Bool) : Fine (ofAns n g) := by
  by_cases h : n ≤ 65538
  · rw [ofAns_yes g h]
    exact fine_ok h (fun i hi => by rw [decide_eq_false (by omega)]; rfl)
  · rw [ofAns_no g h]; exact fine_no _
theorem infoBq : (Try.prog.info? 4).map (fun i => (i.zero, i.size, i.bytes)) = some (some (.bool false), 1, 1) := by kernel_rfl
theorem underBq : Try.prog.underlying 54 = some (.slice 4) := by kernel_rfl
theorem madeB (n : Nat) (hn : n ≤ 1000000) : ∃ mc : Array Value, (∀ w, (Instr.makeSlice 54 (.int .i64 n) (.int .i64 n)).run Try.prog w = .ok (.slice (some ⟨w.heap.size, 0, none⟩) n n) (w.alloc (.cells mc 4))) ∧ ∀ w : World, (w.alloc (.cells mc 4)).rowIs w.heap.size 4 n (fun _ => .bool false) :=
  ⟨madeCells #[.bool false] n, fun w => run_make_row' (P := Try.prog) 54 4 (.bool false) 1 underBq infoBq rfl .i64 .i64 n (by omega) (by omega) w, fun w => World.rowIs_made w (.bool false) n 4⟩
end Go.Proofs.Ytcdefpfnjjahgab
