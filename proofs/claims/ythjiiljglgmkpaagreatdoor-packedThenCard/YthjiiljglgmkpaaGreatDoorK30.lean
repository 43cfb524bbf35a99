/- A field, by what its calls answer and what they leave. -/
import Derived.Test.YthjiiljglgmkpaaGreatDoorK10
import Derived.Test.YthjiiljglgmkpaaGreatDoorZc
import Derived.Test.YthjiiljglgmkpaaGreatDoorXa
import Derived.Test.YthjiiljglgmkpaaGreatDoorXb
namespace Go.Proofs.YthjiiljglgmkpaaGreatDoor
open Go.RowKit
set_option linter.unusedVariables false
set_option linter.unusedSimpArgs false
set_option maxRecDepth 100000

/-- A field that may be changed: M g holds of a world in which it lies and has the cells g; L: the blocks that are its own. -/
structure FdX (M : (Nat → Nat) → World → Prop) (L : Nat → Prop) (b C R S : Nat) (pk : Bool) : Prop where
  kept : ∀ g X Y o, M g X → X.grownBy Y o → (∀ i, o = some i → ¬ L i) → M g Y
  lts : ∀ g X, M g X → ∀ i, L i → i < X.heap.size
  congr : ∀ g g' X, M g X → (∀ k, k < C * R → g k = g' k) → M g' X
  wide : ∀ g X, M g X → Calls Tryz.prog 42 #[.pointer (some ⟨b, 0, none⟩)] X fun e Y => e = .returned (.int .i64 (C : Nat)) ∧ X.grownBy Y none
  high : ∀ g X, M g X → Calls Tryz.prog 43 #[.pointer (some ⟨b, 0, none⟩)] X fun e Y => e = .returned (.int .i64 (R : Nat)) ∧ X.grownBy Y none
  states : ∀ g X, M g X → Calls Tryz.prog 44 #[.pointer (some ⟨b, 0, none⟩)] X fun e Y => e = .returned (.int .i64 (S : Nat)) ∧ X.grownBy Y none
  packed : ∀ g X, M g X → Calls Tryz.prog 20 #[.pointer (some ⟨b, 0, none⟩)] X fun e Y => e = .returned (.bool pk) ∧ X.grownBy Y none
  line : ∀ g y, y < R → ∀ X, M g X → Calls Tryz.prog 35 #[.pointer (some ⟨b, 0, none⟩), .int .i64 (y : Nat)] X fun e Y => ∃ d, e = .returned (.tuple #[.slice (some ⟨d, 0, none⟩) C C, .int .i64 0]) ∧ Y.rowIs d 5 C (fun x => .int .u8 (g (y * C + x) : Nat)) ∧ X.heap.size ≤ d ∧ X.grownBy Y none
  get : ∀ g x y, x < C → y < R → ∀ X, M g X → Calls Tryz.prog 16 #[.pointer (some ⟨b, 0, none⟩), .int .i64 (x : Nat), .int .i64 (y : Nat)] X fun e Y => e = .returned (.tuple #[.int .u8 (g (y * C + x) : Nat), .int .i64 0]) ∧ X.grownBy Y none
  set : ∀ g x y u, x < C → y < R → u < S → ∀ X, M g X → Calls Tryz.prog 17 #[.pointer (some ⟨b, 0, none⟩), .int .i64 (x : Nat), .int .i64 (y : Nat), .int .u8 (u : Nat)] X fun e Y => e = .returned (.int .i64 0) ∧ M (fun k => if k = y * C + x then u else g k) Y ∧ ∃ i, L i ∧ X.grownBy Y (some i)
  lay : ∀ g y, y < R → ∀ sp c f, (∀ k, f k < 256) → (∀ k, k < C → f k < S) → ∀ X, M g X → By X sp C f → (∀ a, sp = some a → ¬ L a.block) → Calls Tryz.prog 34 #[.pointer (some ⟨b, 0, none⟩), .int .i64 (y : Nat), .slice sp C c] X fun e Y => e = .returned (.int .i64 0) ∧ M (fun j => if y * C ≤ j ∧ j < y * C + C then f (j - y * C) else g j) Y ∧ ∃ i, L i ∧ X.grownBy Y (some i)
  pop : ∀ g X, M g X → Calls Tryz.prog 36 #[.pointer (some ⟨b, 0, none⟩)] X fun e Y => e = .returned (.int .i64 (popN g C R : Nat)) ∧ X.grownBy Y none
theorem FdX.grown {M : (Nat → Nat) → World → Prop} {L : Nat → Prop} {b C R S : Nat} {pk : Bool} (F : FdX M L b C R S pk) {g : Nat → Nat} {X Y : World} (h : M g X) (hg : X.grownBy Y none) : M g Y := F.kept g X Y none h hg (fun i e => by cases e)
/-- Its answers alone. -/
theorem FdX.fdm {M : (Nat → Nat) → World → Prop} {L : Nat → Prop} {b C R S : Nat} {pk : Bool} (F : FdX M L b C R S pk) (g : Nat → Nat) (n0 : Nat) (hn : ∀ i, L i → i < n0) : FdM (M g) n0 b C R S g :=
  ⟨fun X Y q h hg hq => F.kept g X Y q h hg (fun i e hL => by have := hn i hL; have := hq i e; omega), F.wide g, F.high g, F.states g, fun y hy X h => F.line g y hy X h⟩
theorem Fb.congr {w : World} {b s q C R S : Nat} {g g' : Nat → Nat} (h : Fb w b s q C R S g) (e : ∀ k, k < C * R → g k = g' k) : Fb w b s q C R S g' := by
  obtain ⟨K, k1, k2, f0, k3, k4⟩ := h.st.cap
  exact ⟨h.fld, K, k1, k2, f0, k3, fun k hk => by rw [k4 k hk, e k hk]⟩
theorem Fb.fdx {b s q C R S : Nat} (hz : Sz C R S) : FdX (fun g X => Fb X b s q C R S g) (fun i => i = b ∨ i = s ∨ i = q) b C R S false where
  kept := fun g X Y o h hg ho => h.keptX hg (fun i e => ⟨fun h1 => ho i e (.inl h1.symm), fun h1 => ho i e (.inr (.inl h1.symm)), fun h1 => ho i e (.inr (.inr h1.symm))⟩)
  lts := fun g X h i hi => by have := h.qlt; omega
  congr := fun g g' X h e => h.congr e
  wide := fun g X h => fW b s q C R S g X h
  high := fun g X h => fH b s q C R S g X h
  states := fun g X h => fStates b s q C R S g X h
  packed := fun g X h => (fPacked b s q C R S g hz X h).mono (fun e Y ⟨h1, h2⟩ => ⟨h1, h2 ▸ World.grownBy.refl _ _⟩)
  line := fun g y hy X h => fLineY b s q C R S g hz y hy X h
  get := fun g x y hx hy X h => fGetY b s q C R S g hz x y hx hy X h
  set := fun g x y u hx hy hu X h => (fSetY b s q C R S g hz x y u hx hy hu X h).mono (fun e Y ⟨h1, h2, h3⟩ => ⟨h1, h2, q, .inr (.inr rfl), h3⟩)
  lay := fun g y hy sp c f h256 hS X h hb _ => (fLayY b s q C R S g hz y hy sp c f h256 hS X h hb).mono (fun e Y ⟨h1, h2, h3⟩ => ⟨h1, h2, q, .inr (.inr rfl), h3⟩)
  pop := fun g X h => fPop b s q C R S g hz X h
theorem Tt.Fb.fdx {b s : Nat} {q : Nat × (Nat → Nat)} {C R S : Nat} (hz : Sz C R S) : FdX (fun g X => Tt.Fb X b s q C R S g) (fun i => i = b ∨ i = s ∨ i = q.1 ∨ ∃ j, j < R ∧ i = q.2 j) b C R S true where
  kept := fun g X Y o h hg ho => h.keptX hg (fun i e => ⟨fun h1 => ho i e (.inl h1.symm), fun h1 => ho i e (.inr (.inl h1.symm)), fun h1 => ho i e (.inr (.inr (.inl h1.symm))), fun j hj h1 => ho i e (.inr (.inr (.inr ⟨j, hj, h1.symm⟩)))⟩)
  lts := fun g X h i hi => by
    obtain ⟨h1, h2, h3, h4⟩ := h.lts
    rcases hi with rfl | rfl | rfl | ⟨j, hj, rfl⟩
    · exact h1
    · exact h2
    · exact h3
    · exact h4 j hj
  congr := fun g g' X h e => h.congr e
  wide := fun g X h => Tt.fW b s q C R S g X h
  high := fun g X h => Tt.fH b s q C R S g X h
  states := fun g X h => Tt.fStates b s q C R S g X h
  packed := fun g X h => (Tt.fPacked b s q C R S g X h).mono (fun e Y ⟨h1, h2⟩ => ⟨h1, h2 ▸ World.grownBy.refl _ _⟩)
  line := fun g y hy X h => Tt.fLineY b s q C R S g hz y hy X h
  get := fun g x y hx hy X h => Tt.fGetY b s q C R S g hz x y hx hy X h
  set := fun g x y u hx hy hu X h => (Tt.fSetY b s q C R S g hz x y u hx hy hu X h).mono (fun e Y ⟨h1, h2, h3⟩ => ⟨h1, h2, q.2 y, .inr (.inr (.inr ⟨y, hy, rfl⟩)), h3⟩)
  lay := fun g y hy sp c f h256 hS X h hb hsp => (Tt.fLayY b s q C R S g hz y hy sp c f h256 hS X h hb (fun a e h1 => hsp a e (.inr (.inr (.inr ⟨y, hy, h1⟩))))).mono (fun e Y ⟨h1, h2, h3⟩ => ⟨h1, h2, q.2 y, .inr (.inr (.inr ⟨y, hy, rfl⟩)), h3⟩)
  pop := fun g X h => Tt.fPop b s q C R S g hz X h
/-- New of a field that may be. -/
theorem newX (C R S : Nat) (pk : Bool) (hz : Sz C R S) (hpk : pk = true → S = 2) (w : World) : Calls Tryz.prog 33 #[.int .i64 (C : Nat), .int .i64 (R : Nat), .int .i64 (S : Nat), .bool pk] w fun e w' => ∃ b M L, e = .returned (.tuple #[.pointer (some ⟨b, 0, none⟩), .int .i64 0]) ∧ FdX M L b C R S pk ∧ M (fun _ => 0) w' ∧ (∀ i, L i → w.heap.size ≤ i) ∧ w.grownBy w' none := by
  cases pk with
  | false =>
    refine (newY C R S hz w).mono ?_
    rintro e w' ⟨b, s, q, rfl, h1, lb, ls, lq, g1⟩
    exact ⟨b, _, _, rfl, Fb.fdx (s := s) (q := q) hz, h1, fun i hi => by omega, g1⟩
  | true =>
    obtain rfl := hpk rfl
    refine (Tt.newY C R hz w).mono ?_
    rintro e w' ⟨b, s, q, rfl, h1, lb, ls, lq, lj, g1⟩
    refine ⟨b, _, _, rfl, Tt.Fb.fdx (s := s) (q := q) hz, h1, fun i hi => ?_, g1⟩
    rcases hi with rfl | rfl | rfl | ⟨j, hj, rfl⟩
    · exact lb
    · exact ls
    · exact lq
    · exact lj j hj
end Go.Proofs.YthjiiljglgmkpaaGreatDoor
