/- The statements' row. -/
import Derived.Test.YteaionmjbkildabDoorQz
namespace Go.Proofs.YteaionmjbkildabDoor
open Go.RowKit
set_option linter.unusedVariables false
set_option linter.unusedSimpArgs false
set_option maxRecDepth 100000

/-- The digits of a number, the least one first. -/
def dgs (st : Nat) : Nat → Nat → List Nat
  | 0, _ => []
  | l + 1, n => n % st :: dgs st l (n / st)
theorem dgs_len (st : Nat) : ∀ l n, (dgs st l n).length = l
  | 0, _ => rfl
  | l + 1, n => by simp [dgs, dgs_len st l]
theorem dgs_lt {st : Nat} (h : 0 < st) : ∀ l n, ∀ s ∈ dgs st l n, s < st
  | 0, _, s, hs => by cases hs
  | l + 1, n, s, hs => by
    rcases List.mem_cons.1 hs with rfl | hs
    · exact Nat.mod_lt _ h
    · exact dgs_lt h l _ s hs
theorem dgs_at (st : Nat) : ∀ l n i, i < l → (dgs st l n).getD i 0 = n / st ^ i % st
  | 0, _, _, h => absurd h (Nat.not_lt_zero _)
  | l + 1, n, 0, _ => by simp [dgs]
  | l + 1, n, i + 1, h => by
    have := dgs_at st l (n / st) i (by omega)
    simp only [dgs, List.getD_cons_succ]
    rw [this, Nat.div_div_eq_div_mul, Nat.pow_succ, Nat.mul_comm]
/-- Each row of states is that of a number. -/
theorem dgs_all {st : Nat} (h : 0 < st) : ∀ (x : List Nat), (∀ s ∈ x, s < st) → ∃ n, n < st ^ x.length ∧ dgs st x.length n = x
  | [], _ => ⟨0, by simp, rfl⟩
  | a :: r, hs => by
    obtain ⟨n, h1, h2⟩ := dgs_all h r (fun s hs2 => hs s (by simp [hs2]))
    have ha := hs a (by simp)
    refine ⟨n * st + a, ?_, ?_⟩
    · simp only [List.length_cons, Nat.pow_succ]
      have : (n + 1) * st ≤ st ^ r.length * st := Nat.mul_le_mul_right _ h1
      rw [Nat.add_mul, Nat.one_mul] at this
      omega
    · simp only [List.length_cons, dgs]
      have e1 : (n * st + a) % st = a := by rw [Nat.mul_comm, Nat.mul_add_mod, Nat.mod_eq_of_lt ha]
      have e2 : (n * st + a) / st = n := by rw [Nat.mul_comm, Nat.mul_add_div h, Nat.div_eq_of_lt ha, Nat.add_zero]
      rw [e1, e2, h2]
set_option maxHeartbeats 1000000 in
theorem rowC (st inp m cq : Nat) (h1 : 1 ≤ st) (hst : st ≤ 4) (hi : inp ≤ 5) (sq : Option Addr) (n : Nat) (hn : n < 18446744073709551616) (w : World) :
    Calls Tryd.prog 21 #[.agg #[.int .i64 (st : Nat), .int .i64 (inp : Nat), .slice sq m cq], .int .u64 (n : Nat)] w fun e w' => ∃ d, e = .returned (.slice (some ⟨d, 0, none⟩) inp inp) ∧ w'.rowIs d 5 inp (fun i => .int .u8 ((dgs st inp n).getD i 0 : Nat)) ∧ w.heap.size ≤ d ∧ w.grownBy w' none := by
  obtain ⟨W1, hW1, sz1, g1, B1⟩ := boxn w #[.int .i64 (st : Nat), .int .i64 (inp : Nat), .slice sq m cq] 46
  have hmk := run_make_row' (P := Tryd.prog) 44 5 (.int .u8 0) 1 under8S info8 rfl .i64 .i64 inp (by omega) (by omega)
  obtain ⟨W2, hW2⟩ : ∃ W2, W1.alloc (.cells (madeCells #[.int .u8 0] inp) 5) = W2 := ⟨_, rfl⟩
  have g2 : W1.grownBy W2 none := (by rw [← hW2]; exact World.grownBy_alloc _ _ _)
  have R2 : W2.rowIs W1.heap.size 5 inp (fun _ => .int .u8 0) := (by rw [← hW2]; exact World.rowIs_made W1 (.int .u8 0) inp 5)
  have c0 := B1.cell 0 (v := .int .i64 (st : Nat)) rfl
  have c1 := B1.cell 1 (v := .int .i64 (inp : Nat)) rfl
  have c2 := B1.cell 2 (v := .slice sq m cq) rfl
  have HB : Hid (Bo W2 w.heap.size 46 #[.int .i64 (st : Nat), .int .i64 (inp : Nat), .slice sq m cq]) := B1.kept g2 (by simp)
  have HG : Hid (w.grownBy W2 none) := gb_trans g1 g2
  have HS : Hid (w.heap.size < W1.heap.size) := by have := sz1.out; unfold Hid; omega
  have u64s : IntKind.u64.wrap (st : Int) = (st : Int) := by rw [IntKind.wrap_u64]; omega
  go_enter Tryd.func21, Tryd.ntmps21
  go_wp2
  clear c0 c1 c2
  go_loopw [1, 6] (fun v i wr => ∃ j : Nat, j ≤ inp ∧ i = .int .i64 (j : Nat) ∧ v = .int .u64 ((n / st ^ j : Nat) : Int) ∧ Hid (W2.grownBy wr (some W1.heap.size)) ∧ ∃ F : Nat → Value, Hid (wr.rowIs W1.heap.size 5 inp F) ∧ Hid (∀ k, k < j → F k = .int .u8 ((n / st ^ k % st : Nat) : Int))) (fun _ i _ => inp - (intOf i).toNat)
  case atStart => exact ⟨0, Nat.zero_le _, rfl, by simp, World.grownBy.refl _ _, _, R2, fun k hk => absurd hk (Nat.not_lt_zero _)⟩
  case round =>
    obtain ⟨j, hj, rfl, rfl, gj, F, Rj, hF⟩ := hrel
    have Bj := HB.out.kept gj.out (by have := HS.out; simp; omega)
    have b0 := Bj.cell 0 (v := .int .i64 (st : Nat)) rfl
    have b1 := Bj.cell 1 (v := .int .i64 (inp : Nat)) rfl
    have b2 := Bj.cell 2 (v := .slice sq m cq) rfl
    by_cases hlt : j < inp
    · have hlt' : (j : Int) < (inp : Int) := by omega
      have hv1 : n / st ^ j ≤ n := Nat.div_le_self _ _
      have HN : Hid (n / st ^ (j + 1) = n / st ^ j / st) := by unfold Hid; rw [Nat.div_div_eq_div_mul, Nat.pow_succ]
      obtain ⟨v, hv⟩ : ∃ v, n / st ^ j = v := ⟨_, rfl⟩
      have HV : Hid (n / st ^ j = v) := hv
      rw [hv] at hv1 HN ⊢
      obtain ⟨d, hd⟩ : ∃ d, v % st = d := ⟨_, rfl⟩
      have HD : Hid (v % st = d) := hd
      have hd4 : d < 4 := by rw [← hd]; have := Nat.mod_lt v (show 0 < st by omega); omega
      obtain ⟨q, hq⟩ : ∃ q, v / st = q := ⟨_, rfl⟩
      rw [hq] at HN
      have hqv : q ≤ v := by rw [← hq]; exact Nat.div_le_self _ _
      have e1 : (v : Int) % (st : Int) = (d : Int) := by rw [← hd]; rfl
      have e2 : (v : Int) / (st : Int) = (q : Int) := by rw [← hq]; rfl
      have e1t : (v : Int).tmod (st : Int) = (d : Int) := by rw [← hd]; exact (Int.ofNat_tmod v st).symm
      have e2t : (v : Int).tdiv (st : Int) = (q : Int) := by rw [← hq]; exact (Int.ofNat_tdiv v st).symm
      have hst0 : ¬ st = 0 := by omega
      have w8 : IntKind.u8.wrap (d : Int) = (d : Int) := by rw [IntKind.wrap_u8]; omega
      have wq : IntKind.u64.wrap (q : Int) = (q : Int) := by rw [IntKind.wrap_u64]; omega
      have r0 := World.rowIs.cell Rj.out (i := j) hlt
      have r1 := World.rowIs.frozen Rj.out j
      obtain ⟨X, hX⟩ : ∃ X, wr.setCell ⟨W1.heap.size, j, none⟩ (.int .u8 (d : Nat)) = X := ⟨_, rfl⟩
      have GX0 : W2.grownBy X (some W1.heap.size) := hX ▸ gb_set gj.out j _
      have BX := HB.out.kept GX0 (by have := HS.out; simp; omega)
      have x0 := BX.cell 0 (v := .int .i64 (st : Nat)) rfl
      have x1 := BX.cell 1 (v := .int .i64 (inp : Nat)) rfl
      have x2 := BX.cell 2 (v := .slice sq m cq) rfl
      have RX : Hid (X.rowIs W1.heap.size 5 inp (fun k => if k = j then .int .u8 (d : Nat) else F k)) := hX ▸ World.rowIs.set Rj.out j _
      have HF2 : Hid (∀ k, k < j + 1 → (if k = j then (Value.int .u8 (d : Nat)) else F k) = .int .u8 ((n / st ^ k % st : Nat) : Int)) := fun k hk => by
        by_cases e : k = j
        · subst e; rw [if_pos rfl, HV.out, HD.out]
        · rw [if_neg e]; exact hF.out k (by omega)
      have GX : Hid (W2.grownBy X (some W1.heap.size)) := GX0
      clear hv hd hq GX0 HB Bj BX
      go_wp2
      go_roundw
      case rel => exact ⟨j + 1, hlt, by go_num, by rw [HN.out], GX, _, RX, HF2⟩
      case measure => simp [intOf]; omega
    · obtain rfl : j = inp := by omega
      have hlt' : ¬ (j : Int) < (j : Int) := by omega
      go_wp2
      go_ret
      refine ⟨W1.heap.size, rfl, World.rowIs.congr Rj.out (fun k hk => (by rw [← List.getD_eq_getElem?_getD, dgs_at st j n k hk]; exact hF.out k hk)), by have := HS.out; omega, gb_past HG.out gj.out (by have := HS.out; omega)⟩
end Go.Proofs.YteaionmjbkildabDoor
