/- What Parse of the document answers: the rest. -/
import Derived.Test.YtlkdenanbofliaaGreatDoorL20
import Derived.Test.YtlkdenanbofliaaGreatDoorL15
namespace Go.Proofs.YtlkdenanbofliaaGreatDoor
open Go.RowKit
set_option linter.unusedVariables false
set_option linter.unusedSimpArgs false
set_option maxRecDepth 100000

theorem nm_tb {v : Nat} (h : v < 1024) : Lf.nm (fun j => v.testBit j) 10 = v := by
  apply Nat.eq_of_testBit_eq
  intro j
  rw [Lf.nm_bit]
  by_cases hj : j < 10
  · simp [hj]
  · have := bit_no (v := v) (k := 10) h (Nat.le_of_not_lt hj)
    simp [hj, this]
/-- A quiet walk, shut: so that nothing looks ahead through operations that are passed over. -/
structure Wq (P : Program) (ops : Array Oper) (C : World → Prop) (Q : Act → Prop) (l : List Oper) (a : Act) : Prop where
  out : wpQuiet P ops C Q l a
theorem Wq.step {P : Program} {ops : Array Oper} {C : World → Prop} {Q : Act → Prop} {a : Act} {o : Oper} {rest : List Oper} (h : ∀ K : Act → Prop, (∀ a, Wq P ops C Q rest a → K a) → if Region.wanted o (yielded ops a.tmps) then o.quiet P a C K else K (a.put o.dst undef)) : Wq P ops C Q (o :: rest) a :=
  ⟨wpQuiet_step (fun K hK => h K (fun a ha => hK a ha.out))⟩
theorem Wq.nil {P : Program} {ops : Array Oper} {C : World → Prop} {Q : Act → Prop} {a : Act} (h : Q a) : Wq P ops C Q [] a := ⟨wpQuiet_nil h⟩
namespace Lf
theorem chars_all : ([1, 2, 3].all fun h => (List.range 256).all fun c => (chars h).contains (UInt8.ofNat c) == (decide (mo h + 48 < c) && decide (c ≤ 57))) = true := by decide +kernel
/-- A digit above the neighbourhood's greatest count. -/
def gq (h c : Nat) : Bool := decide (mo h + 48 < c) && decide (c ≤ 57)
theorem chars_is {h : Nat} (h1 : 1 ≤ h) (h3 : h ≤ 3) (x : UInt8) : (chars h).contains x = gq h x.toNat := by
  have hm : h ∈ [1, 2, 3] := by obtain rfl | rfl | rfl : h = 1 ∨ h = 2 ∨ h = 3 := by omega
                                all_goals decide
  have := List.all_eq_true.1 (List.all_eq_true.1 chars_all h hm) x.toNat (List.mem_range.2 (UInt8.toNat_lt x))
  rw [UInt8.ofNat_toNat] at this
  unfold gq
  simpa using this
theorem great_hit {h : Nat} (h1 : 1 ≤ h) (h3 : h ≤ 3) {s : ByteArray} {k : Nat} (hk : k < s.size) (hn : ∀ j, j < k → gq h (Sc.bt s j) = false) (hq : gq h (Sc.bt s k) = true) : great s h = k := by
  obtain ⟨c, e1, e2⟩ := Sc.list_bt hk
  unfold great
  refine Lib.indexAny_hit (x := c) (fun j y hj hy => ?_) e1 ?_
  · rw [chars_is h1 h3, ← Sc.bt_list hy]; exact hn j hj
  · rw [chars_is h1 h3, e2]; exact hq
theorem great_miss {h : Nat} (h1 : 1 ≤ h) (h3 : h ≤ 3) {s : ByteArray} (hn : ∀ j, j < s.size → gq h (Sc.bt s j) = false) : great s h = -1 := by
  unfold great
  apply Lib.indexAny_none
  intro j y hj hy
  rw [chars_is h1 h3, ← Sc.bt_list hy]
  exact hn j (by simpa using hj)
end Lf
end Go.Proofs.YtlkdenanbofliaaGreatDoor
