/- Perm, Parts and the document's, of every input, in one form. -/
import Derived.Test.YtgflchbmoinonaaDoorH20
import Derived.Test.YtgflchbmoinonaaDoorH7
import Derived.Test.YtgflchbmoinonaaDoorH5
namespace Go.Proofs.YtgflchbmoinonaaDoor
open Go.RowKit
open Fl
set_option linter.unusedVariables false
set_option linter.unusedSimpArgs false
set_option maxRecDepth 100000

/-- A list of ints that may be written: nil, or from the start of a block of its own. -/
def Lst (w : World) (base : Nat) (v : Value) (n : Nat) (F : Nat → Int) : Prop := (v = .slice none 0 0 ∧ n = 0) ∨ ∃ ga t c0 cs, v = .slice (some ⟨ga, 0, none⟩) n c0 ∧ base ≤ ga ∧ Bo w ga t cs ∧ cs.size = c0 ∧ n ≤ c0 ∧ c0 ≤ maxLen ∧ ∀ j : Nat, j < n → cs[j]? = some (.int .i64 (F j))
theorem Lst.kept {w w' : World} {base n : Nat} {v : Value} {F : Nat → Int} {r : Option Nat} (h : Lst w base v n F) (hg : w.grownBy w' r) (hr : ∀ b, r = some b → v.ownBlock ≠ some b) : Lst w' base v n F := by
  rcases h with h | ⟨ga, t, c0, cs, rfl, h1, B, h2, h3, h4, h5⟩
  · exact .inl h
  · exact .inr ⟨ga, t, c0, cs, rfl, h1, B.kept hg (fun e => hr ga e.symm rfl), h2, h3, h4, h5⟩
theorem Lst.lt {w : World} {base n : Nat} {v : Value} {F : Nat → Int} (h : Lst w base v n F) : ∀ b, v.ownBlock = some b → base ≤ b ∧ b < w.heap.size := by
  intro b e
  rcases h with ⟨rfl, _⟩ | ⟨ga, t, c0, cs, rfl, h1, B, _⟩
  · cases e
  · cases e
    exact ⟨h1, B.lt⟩
theorem Lst.rd {w : World} {base n : Nat} {v : Value} {F : Nat → Int} (h : Lst w base v n F) : ∃ sp c, v = .slice sp n c ∧ Rd w sp n F := by
  rcases h with ⟨rfl, rfl⟩ | ⟨ga, t, c0, cs, rfl, h1, B, h2, h3, h4, h5⟩
  · exact ⟨none, 0, rfl, fun k hk => by omega⟩
  · refine ⟨_, _, rfl, fun k hk => ⟨_, rfl, ?_⟩⟩
    have := B.cell k (h5 k hk)
    rw [show (⟨ga, 0, none⟩ : Addr).add k = ⟨ga, 0 + k, none⟩ from by unfold Addr.add; split <;> simp_all, Nat.zero_add]
    exact this
theorem lst_own {w : World} {base n : Nat} {v : Value} {l : List Nat} (h : w.ownsRow base 3 1 v n (cl l)) : Lst w base v n (fun j => ((l.getD j 0 : Nat) : Int)) := by
  rcases h.2 with ⟨rfl, h0⟩ | ⟨g, cap, cur, rfl, hb, hg, h1, h2, h3, h4⟩
  · exact .inl ⟨rfl, h0⟩
  · refine .inr ⟨g, 3, cap, cur, rfl, hb, hg, by omega, h1, h2, fun j hj => ?_⟩
    have hl := h.1
    unfold cl at hl h4
    rw [List.length_map, Nat.mul_one] at hl
    have e := congrArg (fun x : List Value => x[j]?) h4
    simp only [List.getElem?_take, Nat.mul_one, if_pos hj] at e
    have hjl : j < l.length := by rw [hl]; exact hj
    rw [List.getElem?_map, List.getElem?_eq_getElem hjl] at e
    show cur[j]? = some (.int .i64 ((l.getD j 0 : Nat) : Int))
    rw [List.getD_eq_getElem?_getD, List.getElem?_eq_getElem hjl]
    simpa using e
theorem lst_nil (w : World) (base : Nat) (F : Nat → Int) : Lst w base (.slice none 0 0) 0 F := .inl ⟨rfl, rfl⟩
theorem lst_toA {w : World} {base g h k : Nat} (h8 : sn h ≤ 8) (B : Bo w g 58 (toA h k (sn h))) (hb : base ≤ g) : Lst w base (.slice (some ⟨g, 0, none⟩) (sn h) 8) (sn h) (fun j => (((plq h k (sn h)).getD j 0 : Nat) : Int)) := by
  refine .inr ⟨g, 58, 8, _, rfl, hb, B, rfl, h8, by unfold maxLen; omega, fun j hj => ?_⟩
  rw [toA_at _ _ _ _ (by omega)]
  unfold toV
  show _ = some (Value.int .i64 (((plq h k (sn h)).getD j 0 : Nat) : Int))
  unfold plq
  rw [if_pos hj, List.getD_eq_getElem?_getD, List.getElem?_map, List.getElem?_range hj]
  rfl

/-- **Perm, the program's and the document's, of every input.** -/
theorem permAll (h : Int) (h0 : 0 ≤ h) (h1 : h ≤ 255) (q : Int) : ∃ n F ok er, n ≤ 8 ∧
    (∀ w, Hid (Hv w) → Calls Tryd.prog 10 #[.int .u8 h, .int .i64 q] w fun e w' => ∃ v, e = .returned (.tuple #[v, .bool ok, .int .i64 er]) ∧ Lst w' w.heap.size v n F ∧ w.grownBy w' none) ∧
    (∀ w, Calls Tryd.prog 18 #[.int .u8 h, .int .i64 q] w fun e w' => ∃ v, e = .returned (.tuple #[v, .bool ok, .int .i64 er]) ∧ Lst w' w.heap.size v n F ∧ w.grownBy w' none) := by
  by_cases hh : h < 1 ∨ 3 < h
  · exact ⟨0, fun _ => 0, false, 70, by omega, fun w _ => (permH h h0 h1 hh q w).mono fun e w' ⟨a, b⟩ => ⟨_, a, lst_nil _ _ _, b⟩, fun w => (refPermH h h0 h1 hh q w).mono fun e w' ⟨a, b⟩ => ⟨_, a, lst_nil _ _ _, b⟩⟩
  · obtain ⟨m, rfl⟩ := Int.eq_ofNat_of_zero_le h0
    have m1 : 1 ≤ m := by omega
    have m3 : m ≤ 3 := by omega
    by_cases hq : q < 0 ∨ 7 < q
    · exact ⟨0, fun _ => 0, false, 71, by omega, fun w hv => (permP m m1 m3 q hq w hv).mono fun e w' ⟨a, b⟩ => ⟨_, a, lst_nil _ _ _, b⟩, fun w => (refPermP m m1 m3 q hq w).mono fun e w' ⟨a, b⟩ => ⟨_, a, lst_nil _ _ _, b⟩⟩
    · obtain ⟨k, rfl⟩ := Int.eq_ofNat_of_zero_le (show 0 ≤ q by omega)
      have k8 : k < 8 := by omega
      have h8 := sn_le m m1 m3
      cases hb : ksB m k with
      | true =>
        refine ⟨sn m, fun j => (((plq m k (sn m)).getD j 0 : Nat) : Int), true, 0, h8, fun w hv => (permY m m1 m3 k k8 (ks_yes hb) w hv).mono fun e w' ⟨g, a, B, l, b⟩ => ⟨_, a, lst_toA h8 B l, b⟩, fun w => (refPermC m m1 m3 k k8 true (.inl ⟨rfl, ks_yes hb⟩) w).mono fun e w' ⟨v, a, y, _, b⟩ => ⟨_, a, lst_own (y rfl), b⟩⟩
      | false =>
        refine ⟨0, fun _ => 0, false, 0, by omega, fun w hv => (permN m m1 m3 k k8 (ks_no hb) w hv).mono fun e w' ⟨a, b⟩ => ⟨_, a, lst_nil _ _ _, b⟩, fun w => (refPermC m m1 m3 k k8 false (.inr ⟨rfl, ks_no hb⟩) w).mono fun e w' ⟨v, a, _, y, b⟩ => ⟨v, a, by rw [y rfl]; exact lst_nil _ _ _, b⟩⟩
/-- **Parts, the program's and the document's, of every input.** -/
theorem partsAll (h : Int) (h0 : 0 ≤ h) (h1 : h ≤ 255) : ∃ n F er, n ≤ 8 ∧
    (∀ w, Hid (Hv w) → Calls Tryd.prog 11 #[.int .u8 h] w fun e w' => ∃ v, e = .returned (.tuple #[v, .int .i64 er]) ∧ Lst w' w.heap.size v n F ∧ w.grownBy w' none) ∧
    (∀ w, Calls Tryd.prog 19 #[.int .u8 h] w fun e w' => ∃ v, e = .returned (.tuple #[v, .int .i64 er]) ∧ Lst w' w.heap.size v n F ∧ w.grownBy w' none) := by
  by_cases hh : h < 1 ∨ 3 < h
  · exact ⟨0, fun _ => 0, 70, by omega, fun w _ => (partsNo h h0 h1 hh w).mono fun e w' ⟨a, b⟩ => ⟨_, a, lst_nil _ _ _, b⟩, fun w => (refPartsNo h h0 h1 hh w).mono fun e w' ⟨a, b⟩ => ⟨_, a, lst_nil _ _ _, b⟩⟩
  · obtain ⟨m, rfl⟩ := Int.eq_ofNat_of_zero_le h0
    have m1 : 1 ≤ m := by omega
    have m3 : m ≤ 3 := by omega
    exact ⟨(pls m 8).length, fun j => (((pls m 8).getD j 0 : Nat) : Int), 0, pls_le m 8, fun w hv => (partsYes m m1 m3 w hv).mono fun e w' ⟨v, a, y, b⟩ => ⟨_, a, lst_own y, b⟩, fun w => (refPartsYes m m1 m3 w).mono fun e w' ⟨v, a, y, b⟩ => ⟨_, a, lst_own y, b⟩⟩
end Go.Proofs.YtgflchbmoinonaaDoor
