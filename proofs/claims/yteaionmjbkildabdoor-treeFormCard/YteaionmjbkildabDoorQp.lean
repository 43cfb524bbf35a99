/- Same and alike of two forms; says of a row by its number. -/
import Derived.Test.YteaionmjbkildabDoorQk
import Derived.Test.YteaionmjbkildabDoorQl
import Derived.Test.YteaionmjbkildabDoorQt
import Derived.Test.YteaionmjbkildabDoorQz
namespace Go.Proofs.YteaionmjbkildabDoor
open Go.RowKit
set_option linter.unusedVariables false
set_option linter.unusedSimpArgs false
set_option maxRecDepth 100000

theorem smS_again : ∀ k, k < 4 → smS ((k : Nat) : Int) = k + 1 := by decide
theorem smI_again : ∀ k, k < 6 → smI ((k : Nat) : Int) = k := by decide
/-- A function's form. -/
def Fof (st inp : Nat) (L : List Nd) : Prop := ∃ A : Nat → Nat, (∀ i, A i < st) ∧ frm st inp A = L
theorem Fof.pos {st inp : Nat} {L : List Nd} (h1 : 1 ≤ st) (h4 : st ≤ 4) (hi : inp ≤ 5) (h : Fof st inp L) : 0 < L.length ∧ L.length ≤ 65536 := by
  obtain ⟨A, hA, hL⟩ := h
  obtain ⟨lv, ht, _⟩ := tok_frm st inp h1 h4 hi A hA L hL (fun _ => none)
  exact ⟨by have := ht.hr; omega, ht.hn⟩
theorem sameF (st inp : Nat) (h1 : 1 ≤ st) (h4 : st ≤ 4) (hi : inp ≤ 5) (L M : List Nd) (hL : Fof st inp L) (hM : Fof st inp M) (g h : Nat) (spa spb : Nat → Option Addr) (B : Bool) (hB : B = true ↔ L = M) (w : World) (hA : Tn w g 0 L.length (tnOf L spa)) (hB2 : Tn w h 0 M.length (tnOf M spb)) :
    Calls Tryd.prog 26 #[.agg #[.int .i64 (st : Nat), .int .i64 (inp : Nat), .slice (some ⟨g, 0, none⟩) L.length L.length, .int .i64 ((L.length - 1 : Nat) : Int)], .agg #[.int .i64 (st : Nat), .int .i64 (inp : Nat), .slice (some ⟨h, 0, none⟩) M.length M.length, .int .i64 ((M.length - 1 : Nat) : Int)]] w fun e w' => e = .returned (.tuple #[.bool B, .int .i64 0]) ∧ w.grownBy w' none := by
  obtain ⟨a, ha, hLe⟩ := hL
  obtain ⟨b, hb, hMe⟩ := hM
  obtain ⟨la, ta, ca⟩ := tok_frm st inp h1 h4 hi a ha L hLe spa
  obtain ⟨lb, tb, cb⟩ := tok_frm st inp h1 h4 hi b hb M hMe spb
  exact sameTC st inp g 0 L.length L.length (L.length - 1) (tnOf L spa) la ta h 0 M.length M.length (M.length - 1) (tnOf M spb) lb tb w hA hB2 (by rw [ca]; exact ta.hn) (fun j => by rw [ca]; have := frm_kids st inp h1 h4 hi a ha L hLe j; omega) B (by rw [ca, cb]; exact hB)
theorem alikeF (st inp : Nat) (h1 : 1 ≤ st) (h4 : st ≤ 4) (hi : inp ≤ 5) (L M : List Nd) (hL : Fof st inp L) (hM : Fof st inp M) (g h : Nat) (spa spb : Nat → Option Addr) (B : Bool) (hB : B = true ↔ L = M) (w : World) (hA : Tn w g 0 L.length (tnOf L spa)) (hB2 : Tn w h 0 M.length (tnOf M spb)) :
    Calls Tryd.prog 25 #[.agg #[.int .i64 (st : Nat), .int .i64 (inp : Nat), .slice (some ⟨g, 0, none⟩) L.length L.length, .int .i64 ((L.length - 1 : Nat) : Int)], .agg #[.int .i64 (st : Nat), .int .i64 (inp : Nat), .slice (some ⟨h, 0, none⟩) M.length M.length, .int .i64 ((M.length - 1 : Nat) : Int)]] w fun e w' => e = .returned (.bool B) ∧ w.grownBy w' none := by
  obtain ⟨l1, l2⟩ := hL.pos h1 h4 hi
  obtain ⟨m1, m2⟩ := hM.pos h1 h4 hi
  by_cases he : L.length = M.length
  · obtain ⟨a, ha, hLe⟩ := hL
    have hf := forms_one L M spa spb
    have hx : B = true ↔ ∀ j, j < L.length → TnE (tnOf L spa j) (tnOf M spb j) := hB.trans ⟨fun e => (hf.2 e).2, fun e => hf.1 ⟨he, e⟩⟩
    rw [← he] at hB2 ⊢
    exact alikeN st inp ((L.length - 1 : Nat) : Int) L.length g 0 h 0 L.length L.length l2 (tnOf L spa) (tnOf M spb) (fun j _ => by
      have := frm_kids st inp h1 h4 hi a ha L hLe j
      show (L.getD j (0, [])).2.length ≤ _
      omega) w hA hB2 B hx
  · have hb : B = false := by
      cases hBb : B with
      | false => rfl
      | true => exact absurd (congrArg List.length (hB.1 hBb)) he
    rw [hb]
    exact alikeX st inp ((L.length - 1 : Nat) : Int) ((M.length - 1 : Nat) : Int) (by omega) L.length M.length L.length M.length _ _ w
theorem saysD (st inp m cq : Nat) (h1 : 1 ≤ st) (hst : st ≤ 4) (hi : inp ≤ 5) (hm : m ≤ 2000) (sq : Option Addr) (a : Nat → Nat) (d k : Nat) (w : World) (ha : By w sq m a) (hr : w.rowIs d 5 inp (fun i => .int .u8 ((dgs st inp k).getD i 0 : Nat))) :
    Calls Tryd.prog 24 #[.agg #[.int .i64 (st : Nat), .int .i64 (inp : Nat), .slice sq m cq], .slice (some ⟨d, 0, none⟩) inp inp] w fun e w' => e = .returned (.int .u8 ((syF st m a (dgs st inp k) : Nat) : Int)) ∧ w.grownBy w' none := by
  have hx := dgs_len st inp k
  have hs := dgs_lt (show 0 < st by omega) inp k
  obtain ⟨x, hxe⟩ : ∃ x, dgs st inp k = x := ⟨_, rfl⟩
  rw [hxe] at hx hs hr ⊢
  have hrow : By w (some ⟨d, 0, none⟩) inp (fun i => x.getD i 0) := fun k hk => ⟨_, rfl, by rw [add_mid, Nat.zero_add]; exact hr.cell hk⟩
  have hk := saysC st inp m cq hst hm sq a (some ⟨d, 0, none⟩) inp inp (by omega) (fun i => x.getD i 0) (fun i hi2 => by
    have : x.getD i 0 ∈ x := by
      refine List.mem_of_getElem? (i := i) ?_
      rw [List.getD_eq_getElem?_getD, List.getElem?_eq_getElem (by omega)]; rfl
    have := hs _ this
    omega) w ha hrow
  unfold syF
  rw [hx]
  exact hk
theorem same_forms (st inp m1 m2 : Nat) (h1 : 1 ≤ st) (a1 a2 : Nat → Nat) (ha1 : ∀ i, a1 i < st) (ha2 : ∀ i, a2 i < st) (L M : List Nd) (hL : frm st inp (ans st inp (syF st m1 a1)) = L) (hM : frm st inp (ans st inp (syF st m2 a2)) = M) : Fof st inp L ∧ Fof st inp M ∧ (L = M ↔ ∀ k, k < st ^ inp → syF st m1 a1 (dgs st inp k) = syF st m2 a2 (dgs st inp k)) := by
  have b1 : ∀ i, ans st inp (syF st m1 a1) i < st := fun i => syF_lt st m1 (by omega) ha1 _
  have b2 : ∀ i, ans st inp (syF st m2 a2) i < st := fun i => syF_lt st m2 (by omega) ha2 _
  refine ⟨⟨_, b1, hL⟩, ⟨_, b2, hM⟩, ?_⟩
  rw [← hL, ← hM, frm_eq st h1 inp _ _ b1 b2]
  exact same_rows st inp (by omega) _ _
end Go.Proofs.YteaionmjbkildabDoor
