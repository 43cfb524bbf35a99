/- A field, by what its calls answer and what they leave. -/
import Derived.Test.YtjndljjpbkfmiaaGreatDoorKz
import Derived.Test.YtjndljjpbkfmiaaGreatDoorZq
import Derived.Test.YtjndljjpbkfmiaaGreatDoorXq
namespace Go.Proofs.YtjndljjpbkfmiaaGreatDoor
open Go.RowKit
set_option linter.unusedVariables false
set_option linter.unusedSimpArgs false
set_option maxRecDepth 100000

/-- A field that may be changed: M g holds of a world in which it lies and has the cells g; L: the blocks that are its own. -/
structure FdX (M : (Nat → Nat) → World → Prop) (L : Nat → Prop) (b C R S : Nat) (pk : Bool) : Prop where
  kept : ∀ g X Y o, M g X → X.grownBy Y o → (∀ i, o = some i → ¬ L i) → M g Y
  lts : ∀ g X, M g X → ∀ i, L i → i < X.heap.size
  congr : ∀ g g' X, M g X → (∀ k, k < C * R → g k = g' k) → M g' X
  wide : ∀ g X, M g X → Calls Tryz.prog 41 #[.pointer (some ⟨b, 0, none⟩)] X fun e Y => e = .returned (.int .i64 (C : Nat)) ∧ X.grownBy Y none
  high : ∀ g X, M g X → Calls Tryz.prog 42 #[.pointer (some ⟨b, 0, none⟩)] X fun e Y => e = .returned (.int .i64 (R : Nat)) ∧ X.grownBy Y none
  states : ∀ g X, M g X → Calls Tryz.prog 43 #[.pointer (some ⟨b, 0, none⟩)] X fun e Y => e = .returned (.int .i64 (S : Nat)) ∧ X.grownBy Y none
  packed : ∀ g X, M g X → Calls Tryz.prog 44 #[.pointer (some ⟨b, 0, none⟩)] X fun e Y => e = .returned (.bool pk) ∧ X.grownBy Y none
  line : ∀ g y, y < R → ∀ X, M g X → Calls Tryz.prog 40 #[.pointer (some ⟨b, 0, none⟩), .int .i64 (y : Nat)] X fun e Y => ∃ d, e = .returned (.tuple #[.slice (some ⟨d, 0, none⟩) C C, .int .i64 0]) ∧ Y.rowIs d 5 C (fun x => .int .u8 (g (y * C + x) : Nat)) ∧ X.heap.size ≤ d ∧ X.grownBy Y none
  get : ∀ g x y, x < C → y < R → ∀ X, M g X → Calls Tryz.prog 29 #[.pointer (some ⟨b, 0, none⟩), .int .i64 (x : Nat), .int .i64 (y : Nat)] X fun e Y => e = .returned (.tuple #[.int .u8 (g (y * C + x) : Nat), .int .i64 0]) ∧ X.grownBy Y none
  set : ∀ g x y u, x < C → y < R → u < S → ∀ X, M g X → Calls Tryz.prog 46 #[.pointer (some ⟨b, 0, none⟩), .int .i64 (x : Nat), .int .i64 (y : Nat), .int .u8 (u : Nat)] X fun e Y => e = .returned (.int .i64 0) ∧ M (fun k => if k = y * C + x then u else g k) Y ∧ ∃ i, L i ∧ X.grownBy Y (some i)
  lay : ∀ g y, y < R → ∀ sp c f, (∀ k, f k < 256) → (∀ k, k < C → f k < S) → ∀ X, M g X → By X sp C f → (∀ a, sp = some a → ¬ L a.block) → Calls Tryz.prog 32 #[.pointer (some ⟨b, 0, none⟩), .int .i64 (y : Nat), .slice sp C c] X fun e Y => e = .returned (.int .i64 0) ∧ M (fun j => if y * C ≤ j ∧ j < y * C + C then f (j - y * C) else g j) Y ∧ ∃ i, L i ∧ X.grownBy Y (some i)
theorem FdX.grown {M : (Nat → Nat) → World → Prop} {L : Nat → Prop} {b C R S : Nat} {pk : Bool} (F : FdX M L b C R S pk) {g : Nat → Nat} {X Y : World} (h : M g X) (hg : X.grownBy Y none) : M g Y := F.kept g X Y none h hg (fun i e => by cases e)
/-- Its answers alone. -/
theorem FdX.fdm {M : (Nat → Nat) → World → Prop} {L : Nat → Prop} {b C R S : Nat} {pk : Bool} (F : FdX M L b C R S pk) (g : Nat → Nat) (n0 : Nat) (hn : ∀ i, L i → i < n0) : FdM (M g) n0 b C R S g :=
  ⟨fun X Y q h hg hq => F.kept g X Y q h hg (fun i e hL => by have := hn i hL; have := hq i e; omega), F.wide g, F.high g, F.states g, fun y hy X h => F.line g y hy X h⟩
theorem packedC (s : Nat) (w : World) : Calls Tryz.prog 169 #[.pointer (some ⟨s, 0, none⟩)] w fun e w' => e = .returned (.bool false) ∧ w' = w := by
  go_enter Tryz.func169, Tryz.ntmps169
  go_wp2
  go_ret
  exact ⟨rfl, rfl⟩
theorem fPacked (b s q C R S : Nat) (g : Nat → Nat) (w : World) (h : Fb w b s q C R S g) : Calls Tryz.prog 44 #[.pointer (some ⟨b, 0, none⟩)] w fun e w' => e = .returned (.bool false) ∧ w' = w := by
  have h0 := h.cell
  have hm := fun w => m_packed s w
  go_enter Tryz.func44, Tryz.ntmps44
  go_wp2_with (first | (go_at_call 61; refine (lacksN b s q C R S g w h).mono ?_; rintro e V ⟨rfl, hV⟩; subst V) | (go_at_call 169; refine (packedC s w).mono ?_; rintro e V ⟨rfl, hV⟩; subst V))
  go_ret
  exact ⟨rfl, rfl⟩
theorem Fb.congr {w : World} {b s q C R S : Nat} {g g' : Nat → Nat} (h : Fb w b s q C R S g) (e : ∀ k, k < C * R → g k = g' k) : Fb w b s q C R S g' := by
  obtain ⟨K, k1, k2, f0, k3, k4⟩ := h.st.cap
  exact ⟨h.fld, K, k1, k2, f0, k3, fun k hk => by rw [k4 k hk, e k hk]⟩
theorem Fb.fdx {b s q C R S : Nat} (hz : Sz C R S) : FdX (fun g X => Fb X b s q C R S g) (fun i => i = b ∨ i = s ∨ i = q) b C R S false where
  kept := fun g X Y o h hg ho => h.keptX hg (fun i e => ⟨fun h1 => ho i e (.inl h1.symm), fun h1 => ho i e (.inr (.inl h1.symm)), fun h1 => ho i e (.inr (.inr h1.symm))⟩)
  lts := fun g X h i hi => by have := h.qlt; omega
  congr := fun g g' X h e => h.congr e
  wide := fun g X h => fW b s q C R S g X h
  high := fun g X h => fH b s q C R S g X h
  states := fun g X h => fStates b s q C R S g X h
  packed := fun g X h => (fPacked b s q C R S g X h).mono (fun e Y ⟨h1, h2⟩ => ⟨h1, h2 ▸ World.grownBy.refl _ _⟩)
  line := fun g y hy X h => fLineY b s q C R S g hz y hy X h
  get := fun g x y hx hy X h => fGetY b s q C R S g hz x y hx hy X h
  set := fun g x y u hx hy hu X h => (fSetY b s q C R S g hz x y u hx hy hu X h).mono (fun e Y ⟨h1, h2, h3⟩ => ⟨h1, h2, q, .inr (.inr rfl), h3⟩)
  lay := fun g y hy sp c f h256 hS X h hb _ => (fLayY b s q C R S g hz y hy sp c f h256 hS X h hb).mono (fun e Y ⟨h1, h2, h3⟩ => ⟨h1, h2, q, .inr (.inr rfl), h3⟩)
theorem Tt.Fb.fdx {b s : Nat} {q : Nat × (Nat → Nat)} {C R S : Nat} (hz : Sz C R S) : FdX (fun g X => Tt.Fb X b s q C R S g) (fun i => i = b ∨ i = s ∨ i = q.1 ∨ ∃ j, j < R ∧ i = q.2 j) b C R S true where
  kept := fun g X Y o h hg ho => h.keptX hg (fun i e => ⟨fun h1 => ho i e (.inl h1.symm), fun h1 => ho i e (.inr (.inl h1.symm)), fun h1 => ho i e (.inr (.inr (.inl h1.symm))), fun j hj h1 => ho i e (.inr (.inr (.inr ⟨j, hj, h1.symm⟩)))⟩)
  lts := fun g X h i hi => by
    obtain ⟨h1, h2, h3, h4⟩ := h.lts
    rcases hi with rfl | rfl | rfl | ⟨j, hj, rfl⟩
    · exact h1
    · exact h2
    · exact h3
    · exact h4 j hj
  congr := fun g g' X h e => h.congr e
  wide := fun g X h => Tt.fW b s q C R S g X h
  high := fun g X h => Tt.fH b s q C R S g X h
  states := fun g X h => Tt.fStates b s q C R S g X h
  packed := fun g X h => (Tt.fPacked b s q C R S g X h).mono (fun e Y ⟨h1, h2⟩ => ⟨h1, h2 ▸ World.grownBy.refl _ _⟩)
  line := fun g y hy X h => Tt.fLineY b s q C R S g hz y hy X h
  get := fun g x y hx hy X h => Tt.fGetY b s q C R S g hz x y hx hy X h
  set := fun g x y u hx hy hu X h => (Tt.fSetY b s q C R S g hz x y u hx hy hu X h).mono (fun e Y ⟨h1, h2, h3⟩ => ⟨h1, h2, q.2 y, .inr (.inr (.inr ⟨y, hy, rfl⟩)), h3⟩)
  lay := fun g y hy sp c f h256 hS X h hb hsp => (Tt.fLayY b s q C R S g hz y hy sp c f h256 hS X h hb (fun a e h1 => hsp a e (.inr (.inr (.inr ⟨y, hy, h1⟩))))).mono (fun e Y ⟨h1, h2, h3⟩ => ⟨h1, h2, q.2 y, .inr (.inr (.inr ⟨y, hy, rfl⟩)), h3⟩)
/-- New of a field that may be. -/
theorem newX (C R S : Nat) (pk : Bool) (hz : Sz C R S) (hpk : pk = true → S = 2) (w : World) : Calls Tryz.prog 31 #[.int .i64 (C : Nat), .int .i64 (R : Nat), .int .i64 (S : Nat), .bool pk] w fun e w' => ∃ b M L, e = .returned (.tuple #[.pointer (some ⟨b, 0, none⟩), .int .i64 0]) ∧ FdX M L b C R S pk ∧ M (fun _ => 0) w' ∧ (∀ i, L i → w.heap.size ≤ i) ∧ w.grownBy w' none := by
  cases pk with
  | false =>
    refine (newY C R S hz w).mono ?_
    rintro e w' ⟨b, s, q, rfl, h1, lb, ls, lq, g1⟩
    exact ⟨b, _, _, rfl, Fb.fdx (s := s) (q := q) hz, h1, fun i hi => by omega, g1⟩
  | true =>
    obtain rfl := hpk rfl
    refine (Tt.newY C R hz w).mono ?_
    rintro e w' ⟨b, s, q, rfl, h1, lb, ls, lq, lj, g1⟩
    refine ⟨b, _, _, rfl, Tt.Fb.fdx (s := s) (q := q) hz, h1, fun i hi => ?_, g1⟩
    rcases hi with rfl | rfl | rfl | ⟨j, hj, rfl⟩
    · exact lb
    · exact ls
    · exact lq
    · exact lj j hj
end Go.Proofs.YtjndljjpbkfmiaaGreatDoor
namespace Go.Proofs.YtjndljjpbkfmiaaGreatDoor
open Go.RowKit
set_option linter.unusedVariables false
set_option linter.unusedSimpArgs false
set_option maxRecDepth 100000

/-- The document's field. -/
structure Rf (w : World) (r d C R S : Nat) (pk : Bool) (g : Nat → Nat) : Prop where
  fld : Bo w r 72 #[.int .i64 (C : Nat), .int .i64 (R : Nat), .int .i64 (S : Nat), .bool pk, .slice (some ⟨d, 0, none⟩) (C * R) (C * R)]
  row : w.rowIs d 5 (C * R) (fun k => .int .u8 (g k : Nat))
theorem Rf.kept {w w' : World} {r d C R S : Nat} {pk : Bool} {g : Nat → Nat} {o : Option Nat} (h : Rf w r d C R S pk g) (hg : w.grownBy w' o) (h1 : some r ≠ o) (h2 : some d ≠ o) : Rf w' r d C R S pk g := ⟨h.fld.kept hg h1, rowIs_kept h.row hg h2⟩
theorem Rf.congr {w : World} {r d C R S : Nat} {pk : Bool} {g g' : Nat → Nat} (h : Rf w r d C R S pk g) (e : ∀ k, k < C * R → g k = g' k) : Rf w r d C R S pk g' := ⟨h.fld, h.row.congr fun k hk => by rw [e k hk]⟩
theorem Rf.lts {w : World} {r d C R S : Nat} {pk : Bool} {g : Nat → Nat} (h : Rf w r d C R S pk g) : r < w.heap.size ∧ d < w.heap.size := by
  obtain ⟨c, hc, _⟩ := h.row
  exact ⟨h.fld.lt, (Array.getElem?_eq_some_iff.1 hc).1⟩
theorem Rf.apart {w : World} {r d C R S : Nat} {pk : Bool} {g : Nat → Nat} (h : Rf w r d C R S pk g) : r ≠ d := Tt.apart_bw h.fld h.row (by decide)
theorem refNewY (C R S : Nat) (pk : Bool) (hz : Sz C R S) (hpk : pk = true → S = 2) (w : World) : Calls Tryz.prog 33 #[.int .i64 (C : Nat), .int .i64 (R : Nat), .int .i64 (S : Nat), .bool pk] w fun e w' => ∃ r d, e = .returned (.tuple #[.pointer (some ⟨r, 0, none⟩), .int .i64 0]) ∧ Rf w' r d C R S pk (fun _ => 0) ∧ w.heap.size ≤ r ∧ w.heap.size ≤ d ∧ w.grownBy w' none := by
  have h1 := hz.c0
  have h2 := hz.c1
  have h3 := hz.r0
  have h4 := hz.r1
  have h5 := hz.s0
  have h6 := hz.s1
  have hall := hz.all
  have w1 : IntKind.i64.wrap ((C : Int) * (R : Int)) = ((C * R : Nat) : Int) := by rw [← Int.natCast_mul, IntKind.wrap_i64]; omega
  obtain ⟨n, hn⟩ : ∃ n, C * R = n := ⟨_, rfl⟩
  rw [hn] at w1 hall
  have HN : Hid (C * R = n) := hn
  clear hn
  have d1 : decide ((C : Int) < 1) = false := decide_eq_false (by omega)
  have d2 : decide ((65536 : Int) < (C : Int)) = false := decide_eq_false (by omega)
  have d3 : decide ((R : Int) < 1) = false := decide_eq_false (by omega)
  have d4 : decide ((65536 : Int) < (R : Int)) = false := decide_eq_false (by omega)
  have d5 : decide ((S : Int) < 2) = false := decide_eq_false (by omega)
  have d6 : decide ((256 : Int) < (S : Int)) = false := decide_eq_false (by omega)
  have d7 : decide ((1048576 : Int) < (n : Int)) = false := decide_eq_false (by omega)
  have hmk := run_make_row' (P := Tryz.prog) 24 5 (.int .u8 0) 1 under8S info8 rfl .i64 .i64 n (by omega) (by omega)
  obtain ⟨W1, hW1, sz1, g1, B1⟩ := boxn w (madeCells #[.int .u8 0] n) 5
  have hr1 := World.rowIs_made w (.int .u8 0) n 5
  rw [hW1] at hr1
  have HR : ∀ X, W1.grownBy X none → X.rowIs w.heap.size 5 n (fun _ => .int .u8 0) := fun X hX => rowIs_kept hr1 hX (by simp)
  have hfin : ∀ X, W1.grownBy X none → Bo X W1.heap.size 72 #[.int .i64 (C : Nat), .int .i64 (R : Nat), .int .i64 (S : Nat), .bool pk, .slice (some ⟨w.heap.size, 0, none⟩) n n] → Rf X W1.heap.size w.heap.size C R S pk (fun _ => 0) := fun X hX hB => ⟨by rw [HN.out]; exact hB, by rw [HN.out]; exact HR X hX⟩
  cases pk with
  | false =>
    go_enter Tryz.func33, Tryz.ntmps33
    go_wp2
    go_ret2
    exact ⟨W1.heap.size, w.heap.size, rfl, hfin _ (World.grownBy_alloc _ _ none) (Bo.new _ _ _), g1.size, Nat.le_refl _, gb_trans g1 (World.grownBy_alloc _ _ none)⟩
  | true =>
    have d8 : decide ((2 : Int) < (S : Int)) = false := decide_eq_false (by have := hpk rfl; omega)
    clear hpk
    go_enter Tryz.func33, Tryz.ntmps33
    go_wp2
    go_ret2
    exact ⟨W1.heap.size, w.heap.size, rfl, hfin _ (World.grownBy_alloc _ _ none) (Bo.new _ _ _), g1.size, Nat.le_refl _, gb_trans g1 (World.grownBy_alloc _ _ none)⟩
theorem refNewN (C R S : Int) (pk : Bool) (hE : ckE C R S pk ≠ 0) (w : World) : Calls Tryz.prog 33 #[.int .i64 C, .int .i64 R, .int .i64 S, .bool pk] w fun e w' => e = .returned (.tuple #[.pointer none, .int .i64 (ckE C R S pk)]) ∧ w' = w := by
  by_cases h0 : C < 1
  · have hX : ckE C R S pk = 2 := by unfold ckE; rw [if_neg (by omega)]
    rw [hX]
    clear hX hE
    go_enter Tryz.func33, Tryz.ntmps33
    go_wp2
    go_ret2
    exact ⟨rfl, rfl⟩
  have e0 : decide (C < 1) = false := decide_eq_false h0
  by_cases h1 : 65536 < C
  · have hX : ckE C R S pk = 2 := by unfold ckE; rw [if_neg (by omega)]
    rw [hX]
    clear hX hE
    go_enter Tryz.func33, Tryz.ntmps33
    go_wp2
    go_ret2
    exact ⟨rfl, rfl⟩
  have e1 : decide (65536 < C) = false := decide_eq_false h1
  by_cases h2 : R < 1
  · have hX : ckE C R S pk = 2 := by unfold ckE; rw [if_neg (by omega)]
    rw [hX]
    clear hX hE
    go_enter Tryz.func33, Tryz.ntmps33
    go_wp2
    go_ret2
    exact ⟨rfl, rfl⟩
  have e2 : decide (R < 1) = false := decide_eq_false h2
  by_cases h3 : 65536 < R
  · have hX : ckE C R S pk = 2 := by unfold ckE; rw [if_neg (by omega)]
    rw [hX]
    clear hX hE
    go_enter Tryz.func33, Tryz.ntmps33
    go_wp2
    go_ret2
    exact ⟨rfl, rfl⟩
  have e3 : decide (65536 < R) = false := decide_eq_false h3
  by_cases h4 : S < 2
  · have hX : ckE C R S pk = 2 := by unfold ckE; rw [if_neg (by omega)]
    rw [hX]
    clear hX hE
    go_enter Tryz.func33, Tryz.ntmps33
    go_wp2
    go_ret2
    exact ⟨rfl, rfl⟩
  have e4 : decide (S < 2) = false := decide_eq_false h4
  by_cases h5 : 256 < S
  · have hX : ckE C R S pk = 2 := by unfold ckE; rw [if_neg (by omega)]
    rw [hX]
    clear hX hE
    go_enter Tryz.func33, Tryz.ntmps33
    go_wp2
    go_ret2
    exact ⟨rfl, rfl⟩
  have e5 : decide (256 < S) = false := decide_eq_false h5
  have hin : 1 ≤ C ∧ C ≤ 65536 ∧ 1 ≤ R ∧ R ≤ 65536 ∧ 2 ≤ S ∧ S ≤ 256 := by omega
  have hmu : 0 ≤ C * R ∧ C * R ≤ 4294967296 := by
    obtain ⟨a, rfl⟩ := Int.eq_ofNat_of_zero_le (show 0 ≤ C by omega)
    obtain ⟨b, rfl⟩ := Int.eq_ofNat_of_zero_le (show 0 ≤ R by omega)
    have : a * b ≤ 65536 * 65536 := Nat.mul_le_mul (by omega) (by omega)
    rw [← Int.natCast_mul]
    omega
  have w1 : IntKind.i64.wrap (C * R) = C * R := by rw [IntKind.wrap_i64]; omega
  have HX : Hid (ckE C R S pk = if pk = true ∧ S ≠ 2 then 132 else if 1048576 < C * R then 4 else 0) := by unfold Hid ckE; rw [if_pos hin]
  clear h0 h1 h2 h3 h4 h5
  obtain ⟨P, hP⟩ : ∃ P, C * R = P := ⟨_, rfl⟩
  rw [hP] at HX hmu
  by_cases h132 : pk = true ∧ S ≠ 2
  · have hX : ckE C R S pk = 132 := by rw [HX.out, if_pos h132]
    rw [hX]
    obtain ⟨rfl, hS⟩ := h132
    have d8 : (2 : Int) < S := by omega
    clear hX HX hE hS hin hP w1
    go_enter Tryz.func33, Tryz.ntmps33
    go_wp2
    go_ret2
    exact ⟨rfl, rfl⟩
  · have hX : ckE C R S pk = 4 := by
      have := HX.out
      rw [if_neg h132] at this
      by_cases h4 : 1048576 < P
      · rw [this, if_pos h4]
      · rw [if_neg h4] at this
        exact absurd this hE
    have h4 : 1048576 < P := by
      have := HX.out
      rw [if_neg h132, hX] at this
      by_cases h4 : 1048576 < P
      · exact h4
      · rw [if_neg h4] at this
        cases this
    rw [hX]
    rw [← hP] at h4
    have hd4 : decide (1048576 < C * R) = true := decide_eq_true h4
    clear hX HX hE hin hP hmu h4
    cases pk with
    | false =>
      go_enter Tryz.func33, Tryz.ntmps33
      go_wp2
      go_ret2
      exact ⟨rfl, rfl⟩
    | true =>
      have d8 : decide ((2 : Int) < S) = false := decide_eq_false (by
        have : S = 2 := Classical.byContradiction fun h => h132 ⟨rfl, h⟩
        omega)
      clear h132
      go_enter Tryz.func33, Tryz.ntmps33
      go_wp2
      go_ret2
      exact ⟨rfl, rfl⟩
end Go.Proofs.YtjndljjpbkfmiaaGreatDoor
