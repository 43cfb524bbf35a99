/- Where a reader stands in a text; what is read of it. -/
import Derived.Test.YteaionmjbkildabDoorQpr
namespace Go.Proofs.YteaionmjbkildabDoor
namespace Pa
open Go.Lib
set_option linter.unusedVariables false
set_option linter.unusedSimpArgs false
set_option maxRecDepth 100000

/-- What is left of a text. -/
def Suf (x : ByteArray) (r : List UInt8) : Prop := ∃ a, x.data.toList = a ++ r
/-- Where the reader stands that has r ahead. -/
def po (x : ByteArray) (r : List UInt8) : Nat := x.size - r.length
theorem Suf.le {x : ByteArray} {r : List UInt8} (h : Suf x r) : r.length ≤ x.size := by
  obtain ⟨a, h⟩ := h
  have h1 : x.data.toList.length = x.size := x.data.length_toList
  rw [← h1, h, List.length_append]; omega
theorem Suf.all (x : ByteArray) : Suf x x.data.toList := ⟨[], rfl⟩
theorem po_all (x : ByteArray) : po x x.data.toList = 0 := by
  have h1 : x.data.toList.length = x.size := x.data.length_toList
  unfold po; omega
theorem po_nil (x : ByteArray) : po x [] = x.size := by simp [po]
theorem po_le (x : ByteArray) (r : List UInt8) : po x r ≤ x.size := by unfold po; omega
theorem Suf.of {x : ByteArray} {r r' : List UInt8} (h : Suf x r) (k : ∃ a, r = a ++ r') : Suf x r' := by
  obtain ⟨a, h⟩ := h
  obtain ⟨b, k⟩ := k
  exact ⟨a ++ b, by rw [h, k, List.append_assoc]⟩
theorem Suf.tail {x : ByteArray} {c : UInt8} {r : List UInt8} (h : Suf x (c :: r)) : Suf x r := h.of ⟨[c], rfl⟩
theorem po_cons {x : ByteArray} {c : UInt8} {r : List UInt8} (h : Suf x (c :: r)) : po x (c :: r) < x.size ∧ po x r = po x (c :: r) + 1 := by
  have := h.le
  unfold po
  rw [List.length_cons] at this ⊢
  omega
theorem po_at {x : ByteArray} {c : UInt8} {r : List UInt8} (h : Suf x (c :: r)) (h2 : po x (c :: r) < x.size) : (x[po x (c :: r)]'h2).toNat = c.toNat := by
  obtain ⟨a, h⟩ := h
  have h1 : x.data.toList.length = x.size := x.data.length_toList
  have hp : po x (c :: r) = a.length := by
    unfold po
    rw [← h1, h, List.length_append]; omega
  have h3 : x.data.toList[a.length]? = some c := by rw [h]; simp
  rw [Array.getElem?_toList] at h3
  obtain ⟨h4, h5⟩ := Array.getElem?_eq_some_iff.1 h3
  have h6 : x[po x (c :: r)]'h2 = c := by
    have : ∀ k (hk : k < x.size), k = a.length → x[k]'hk = c := by
      intro k hk e; subst e; exact h5
    exact this _ h2 hp
  rw [h6]
theorem po_inj {x : ByteArray} {r r' : List UInt8} (h : Suf x r) (h' : Suf x r') : (po x r < po x r') ↔ r'.length < r.length := by
  have := h.le
  have := h'.le
  unfold po
  omega
theorem po_eq {x : ByteArray} {r r' : List UInt8} (h : Suf x r) (h' : Suf x r') : (po x r = x.size) ↔ r = [] := by
  have := h.le
  unfold po
  cases r with
  | nil => simp
  | cons c r =>
    rw [List.length_cons] at this ⊢
    simp
    omega
theorem brR_suf : ∀ (f : Nat) (acc : List Nat) (r : List UInt8), ∃ a, r = a ++ (brR f acc r).2.2
  | 0, _, r => ⟨[], rfl⟩
  | f + 1, acc, r => by
    obtain ⟨a, ha⟩ := numR_suf 9 0 r
    unfold brR
    split
    · obtain ⟨b, hb⟩ := skR_suf 32 (numR 9 0 r).2
      split
      · obtain ⟨c, hc⟩ := brR_suf f (acc ++ [(numR 9 0 r).1]) (skR 32 (numR 9 0 r).2).2
        exact ⟨a ++ (b ++ c), by rw [List.append_assoc, List.append_assoc, ← hc, ← hb, ← ha]⟩
      · exact ⟨a ++ b, by rw [List.append_assoc, ← hb, ← ha]⟩
    · exact ⟨a, ha⟩
theorem lnR_suf (r : List UInt8) : ∃ a, r = a ++ (lnR r).2.2.2 := by
  unfold lnR
  split
  · obtain ⟨a, ha⟩ := wrdR_suf [61, 32] r
    split
    · obtain ⟨b, hb⟩ := numR_suf 9 0 (wrdR [61, 32] r).2
      exact ⟨a ++ b, by rw [List.append_assoc, ← hb, ← ha]⟩
    · exact ⟨a, ha⟩
  · exact brR_suf _ _ _
theorem ndR_suf (r : List UInt8) : ∃ a, r = a ++ (ndR r).2.2.2 := by
  obtain ⟨a, ha⟩ := lnR_suf r
  unfold ndR
  split
  · obtain ⟨b, hb⟩ := skR_suf 10 (lnR r).2.2.2
    exact ⟨a ++ b, by rw [List.append_assoc, ← hb, ← ha]⟩
  · exact ⟨a, ha⟩
theorem nsR_suf : ∀ (k : Nat) (acc : List (Nat × List Nat)) (ns : Bool) (r : List UInt8), ∃ a, r = a ++ (nsR k acc ns r).2.2.2
  | 0, _, _, _ => ⟨[], rfl⟩
  | k + 1, acc, ns, r => by
    obtain ⟨a, ha⟩ := ndR_suf r
    unfold nsR
    split
    · obtain ⟨b, hb⟩ := nsR_suf k (acc ++ [(ndR r).1]) (ns || (ndR r).2.1) (ndR r).2.2.2
      exact ⟨a ++ b, by rw [List.append_assoc, ← hb, ← ha]⟩
    · exact ⟨a, ha⟩
theorem hnR_suf (which : Nat) (r : List UInt8) : ∃ a, r = a ++ (hnR which r).2.2 := by
  obtain ⟨a, ha⟩ := skR_suf 32 r
  unfold hnR
  split
  · obtain ⟨b, hb⟩ := numR_suf 9 0 (skR 32 r).2
    split
    · exact ⟨a, ha⟩
    · exact ⟨a ++ b, by rw [List.append_assoc, ← hb, ← ha]⟩
  · exact ⟨a, ha⟩
theorem hsR_suf : ∀ (k : Nat) (acc : List Nat) (r : List UInt8), ∃ a, r = a ++ (hsR k acc r).2.2
  | 0, _, _ => ⟨[], rfl⟩
  | k + 1, acc, r => by
    obtain ⟨a, ha⟩ := hnR_suf acc.length r
    unfold hsR
    split
    · obtain ⟨b, hb⟩ := hsR_suf k (acc ++ [(hnR acc.length r).1]) (hnR acc.length r).2.2
      exact ⟨a ++ b, by rw [List.append_assoc, ← hb, ← ha]⟩
    · exact ⟨a, ha⟩
theorem hdR_suf (r : List UInt8) : ∃ a, r = a ++ (hdR r).2.2 := by
  obtain ⟨a, ha⟩ := wrdR_suf [116, 114, 101, 101] r
  unfold hdR
  split
  · obtain ⟨b, hb⟩ := hsR_suf 4 [] (wrdR [116, 114, 101, 101] r).2
    split
    · obtain ⟨c, hc⟩ := skR_suf 10 (hsR 4 [] (wrdR [116, 114, 101, 101] r).2).2.2
      exact ⟨a ++ (b ++ c), by rw [List.append_assoc, List.append_assoc, ← hc, ← hb, ← ha]⟩
    · exact ⟨a ++ b, by rw [List.append_assoc, ← hb, ← ha]⟩
  · exact ⟨a, ha⟩
theorem trR_suf (r : List UInt8) : ∃ a, r = a ++ (trR r).2.2.2.2 := by
  obtain ⟨a, ha⟩ := hdR_suf r
  unfold trR
  split
  · obtain ⟨b, hb⟩ := nsR_suf ((hdR r).1.getD 2 0) [] false (hdR r).2.2
    exact ⟨a ++ b, by rw [List.append_assoc, ← hb, ← ha]⟩
  · exact ⟨a, ha⟩
/-- One round more of a number's loop. -/
theorem numR_more (k n : Nat) (c : UInt8) (r : List UInt8) (h : dgB c = true) (h0 : 10 * n + (c.toNat - 48) ≠ 0) : numR (k + 1) n (c :: r) = numR k (10 * n + (c.toNat - 48)) r := by
  rw [numR, if_pos h, if_neg h0]
theorem numR_zero (k n : Nat) (c : UInt8) (r : List UInt8) (h : dgB c = true) (h0 : 10 * n + (c.toNat - 48) = 0) : numR (k + 1) n (c :: r) = (0, r) := by
  rw [numR, if_pos h, if_pos h0]
theorem itoa_nat (n : Nat) : itoa (n : Int) = decDigits n := by
  unfold itoa
  rw [if_neg (by omega), Int.toNat_natCast]
theorem nodesL_is : ∀ (xs : List (Nat × List Nat)) (j : Nat), j ≤ xs.length → nodesT (fun i => (xs.getD i (0, [])).1) (fun i => (xs.getD i (0, [])).2.length) (fun i k => (xs.getD i (0, [])).2.getD k 0) j = nodesL (xs.take j)
  | xs, 0, _ => by simp [nodesT, nodesL]
  | xs, j + 1, h => by
    rw [nodesT, nodesL_is xs j (by omega)]
    have e : xs.take (j + 1) = xs.take j ++ [xs.getD j (0, [])] := by
      have hj : j < xs.length := by omega
      rw [List.take_add_one, List.getElem?_eq_getElem hj, List.getD_eq_getElem?_getD, List.getElem?_eq_getElem hj]
      rfl
    rw [e, nodesL_snoc]
    rfl
end Pa
end Go.Proofs.YteaionmjbkildabDoor
