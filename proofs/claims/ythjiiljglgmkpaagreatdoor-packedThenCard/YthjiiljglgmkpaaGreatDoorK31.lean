/- The document's field, made. -/
import Derived.Test.YthjiiljglgmkpaaGreatDoorXa
namespace Go.Proofs.YthjiiljglgmkpaaGreatDoor
open Go.RowKit
set_option linter.unusedVariables false
set_option linter.unusedSimpArgs false
set_option maxRecDepth 100000

/-- The document's field. -/
structure Rf (w : World) (r d C R S : Nat) (pk : Bool) (g : Nat → Nat) : Prop where
  fld : Bo w r 91 #[.int .i64 (C : Nat), .int .i64 (R : Nat), .int .i64 (S : Nat), .bool pk, .slice (some ⟨d, 0, none⟩) (C * R) (C * R)]
  row : w.rowIs d 5 (C * R) (fun k => .int .u8 (g k : Nat))
theorem Rf.kept {w w' : World} {r d C R S : Nat} {pk : Bool} {g : Nat → Nat} {o : Option Nat} (h : Rf w r d C R S pk g) (hg : w.grownBy w' o) (h1 : some r ≠ o) (h2 : some d ≠ o) : Rf w' r d C R S pk g := ⟨h.fld.kept hg h1, rowIs_kept h.row hg h2⟩
theorem Rf.congr {w : World} {r d C R S : Nat} {pk : Bool} {g g' : Nat → Nat} (h : Rf w r d C R S pk g) (e : ∀ k, k < C * R → g k = g' k) : Rf w r d C R S pk g' := ⟨h.fld, h.row.congr fun k hk => by rw [e k hk]⟩
theorem Rf.lts {w : World} {r d C R S : Nat} {pk : Bool} {g : Nat → Nat} (h : Rf w r d C R S pk g) : r < w.heap.size ∧ d < w.heap.size := by
  obtain ⟨c, hc, _⟩ := h.row
  exact ⟨h.fld.lt, (Array.getElem?_eq_some_iff.1 hc).1⟩
theorem Rf.apart {w : World} {r d C R S : Nat} {pk : Bool} {g : Nat → Nat} (h : Rf w r d C R S pk g) : r ≠ d := Tt.apart_bw h.fld h.row (by decide)
theorem refNewY (C R S : Nat) (pk : Bool) (hz : Sz C R S) (hpk : pk = true → S = 2) (w : World) : Calls Tryz.prog 37 #[.int .i64 (C : Nat), .int .i64 (R : Nat), .int .i64 (S : Nat), .bool pk] w fun e w' => ∃ r d, e = .returned (.tuple #[.pointer (some ⟨r, 0, none⟩), .int .i64 0]) ∧ Rf w' r d C R S pk (fun _ => 0) ∧ w.heap.size ≤ r ∧ w.heap.size ≤ d ∧ w.grownBy w' none := by
  have h1 := hz.c0
  have h2 := hz.c1
  have h3 := hz.r0
  have h4 := hz.r1
  have h5 := hz.s0
  have h6 := hz.s1
  have hall := hz.all
  have w1 : IntKind.i64.wrap ((C : Int) * (R : Int)) = ((C * R : Nat) : Int) := by rw [← Int.natCast_mul, IntKind.wrap_i64]; omega
  obtain ⟨n, hn⟩ : ∃ n, C * R = n := ⟨_, rfl⟩
  rw [hn] at w1 hall
  have HN : Hid (C * R = n) := hn
  clear hn
  have d1 : decide ((C : Int) < 1) = false := decide_eq_false (by omega)
  have d2 : decide ((65536 : Int) < (C : Int)) = false := decide_eq_false (by omega)
  have d3 : decide ((R : Int) < 1) = false := decide_eq_false (by omega)
  have d4 : decide ((65536 : Int) < (R : Int)) = false := decide_eq_false (by omega)
  have d5 : decide ((S : Int) < 2) = false := decide_eq_false (by omega)
  have d6 : decide ((256 : Int) < (S : Int)) = false := decide_eq_false (by omega)
  have d7 : decide ((1048576 : Int) < (n : Int)) = false := decide_eq_false (by omega)
  have hmk := run_make_row' (P := Tryz.prog) 81 5 (.int .u8 0) 1 under8S info8 rfl .i64 .i64 n (by omega) (by omega)
  obtain ⟨W1, hW1, sz1, g1, B1⟩ := boxn w (madeCells #[.int .u8 0] n) 5
  have hr1 := World.rowIs_made w (.int .u8 0) n 5
  rw [hW1] at hr1
  have HR : ∀ X, W1.grownBy X none → X.rowIs w.heap.size 5 n (fun _ => .int .u8 0) := fun X hX => rowIs_kept hr1 hX (by simp)
  have hfin : ∀ X, W1.grownBy X none → Bo X W1.heap.size 91 #[.int .i64 (C : Nat), .int .i64 (R : Nat), .int .i64 (S : Nat), .bool pk, .slice (some ⟨w.heap.size, 0, none⟩) n n] → Rf X W1.heap.size w.heap.size C R S pk (fun _ => 0) := fun X hX hB => ⟨by rw [HN.out]; exact hB, by rw [HN.out]; exact HR X hX⟩
  cases pk with
  | false =>
    go_enter Tryz.func37, Tryz.ntmps37
    go_wp2
    go_ret2
    exact ⟨W1.heap.size, w.heap.size, rfl, hfin _ (World.grownBy_alloc _ _ none) (Bo.new _ _ _), g1.size, Nat.le_refl _, gb_trans g1 (World.grownBy_alloc _ _ none)⟩
  | true =>
    have d8 : decide ((2 : Int) < (S : Int)) = false := decide_eq_false (by have := hpk rfl; omega)
    clear hpk
    go_enter Tryz.func37, Tryz.ntmps37
    go_wp2
    go_ret2
    exact ⟨W1.heap.size, w.heap.size, rfl, hfin _ (World.grownBy_alloc _ _ none) (Bo.new _ _ _), g1.size, Nat.le_refl _, gb_trans g1 (World.grownBy_alloc _ _ none)⟩
theorem refNewN (C R S : Int) (pk : Bool) (hE : ckE C R S pk ≠ 0) (w : World) : Calls Tryz.prog 37 #[.int .i64 C, .int .i64 R, .int .i64 S, .bool pk] w fun e w' => e = .returned (.tuple #[.pointer none, .int .i64 (ckE C R S pk)]) ∧ w' = w := by
  by_cases h0 : C < 1
  · have hX : ckE C R S pk = 2 := by unfold ckE; rw [if_neg (by omega)]
    rw [hX]
    clear hX hE
    go_enter Tryz.func37, Tryz.ntmps37
    go_wp2
    go_ret2
    exact ⟨rfl, rfl⟩
  have e0 : decide (C < 1) = false := decide_eq_false h0
  by_cases h1 : 65536 < C
  · have hX : ckE C R S pk = 2 := by unfold ckE; rw [if_neg (by omega)]
    rw [hX]
    clear hX hE
    go_enter Tryz.func37, Tryz.ntmps37
    go_wp2
    go_ret2
    exact ⟨rfl, rfl⟩
  have e1 : decide (65536 < C) = false := decide_eq_false h1
  by_cases h2 : R < 1
  · have hX : ckE C R S pk = 2 := by unfold ckE; rw [if_neg (by omega)]
    rw [hX]
    clear hX hE
    go_enter Tryz.func37, Tryz.ntmps37
    go_wp2
    go_ret2
    exact ⟨rfl, rfl⟩
  have e2 : decide (R < 1) = false := decide_eq_false h2
  by_cases h3 : 65536 < R
  · have hX : ckE C R S pk = 2 := by unfold ckE; rw [if_neg (by omega)]
    rw [hX]
    clear hX hE
    go_enter Tryz.func37, Tryz.ntmps37
    go_wp2
    go_ret2
    exact ⟨rfl, rfl⟩
  have e3 : decide (65536 < R) = false := decide_eq_false h3
  by_cases h4 : S < 2
  · have hX : ckE C R S pk = 2 := by unfold ckE; rw [if_neg (by omega)]
    rw [hX]
    clear hX hE
    go_enter Tryz.func37, Tryz.ntmps37
    go_wp2
    go_ret2
    exact ⟨rfl, rfl⟩
  have e4 : decide (S < 2) = false := decide_eq_false h4
  by_cases h5 : 256 < S
  · have hX : ckE C R S pk = 2 := by unfold ckE; rw [if_neg (by omega)]
    rw [hX]
    clear hX hE
    go_enter Tryz.func37, Tryz.ntmps37
    go_wp2
    go_ret2
    exact ⟨rfl, rfl⟩
  have e5 : decide (256 < S) = false := decide_eq_false h5
  have hin : 1 ≤ C ∧ C ≤ 65536 ∧ 1 ≤ R ∧ R ≤ 65536 ∧ 2 ≤ S ∧ S ≤ 256 := by omega
  have hmu : 0 ≤ C * R ∧ C * R ≤ 4294967296 := by
    obtain ⟨a, rfl⟩ := Int.eq_ofNat_of_zero_le (show 0 ≤ C by omega)
    obtain ⟨b, rfl⟩ := Int.eq_ofNat_of_zero_le (show 0 ≤ R by omega)
    have : a * b ≤ 65536 * 65536 := Nat.mul_le_mul (by omega) (by omega)
    rw [← Int.natCast_mul]
    omega
  have w1 : IntKind.i64.wrap (C * R) = C * R := by rw [IntKind.wrap_i64]; omega
  have HX : Hid (ckE C R S pk = if pk = true ∧ S ≠ 2 then 132 else if 1048576 < C * R then 4 else 0) := by unfold Hid ckE; rw [if_pos hin]
  clear h0 h1 h2 h3 h4 h5
  obtain ⟨P, hP⟩ : ∃ P, C * R = P := ⟨_, rfl⟩
  rw [hP] at HX hmu
  by_cases h132 : pk = true ∧ S ≠ 2
  · have hX : ckE C R S pk = 132 := by rw [HX.out, if_pos h132]
    rw [hX]
    obtain ⟨rfl, hS⟩ := h132
    have d8 : (2 : Int) < S := by omega
    clear hX HX hE hS hin hP w1
    go_enter Tryz.func37, Tryz.ntmps37
    go_wp2
    go_ret2
    exact ⟨rfl, rfl⟩
  · have hX : ckE C R S pk = 4 := by
      have := HX.out
      rw [if_neg h132] at this
      by_cases h4 : 1048576 < P
      · rw [this, if_pos h4]
      · rw [if_neg h4] at this
        exact absurd this hE
    have h4 : 1048576 < P := by
      have := HX.out
      rw [if_neg h132, hX] at this
      by_cases h4 : 1048576 < P
      · exact h4
      · rw [if_neg h4] at this
        cases this
    rw [hX]
    rw [← hP] at h4
    have hd4 : decide (1048576 < C * R) = true := decide_eq_true h4
    clear hX HX hE hin hP hmu h4
    cases pk with
    | false =>
      go_enter Tryz.func37, Tryz.ntmps37
      go_wp2
      go_ret2
      exact ⟨rfl, rfl⟩
    | true =>
      have d8 : decide ((2 : Int) < S) = false := decide_eq_false (by
        have : S = 2 := Classical.byContradiction fun h => h132 ⟨rfl, h⟩
        omega)
      clear h132
      go_enter Tryz.func37, Tryz.ntmps37
      go_wp2
      go_ret2
      exact ⟨rfl, rfl⟩
end Go.Proofs.YthjiiljglgmkpaaGreatDoor
