/- Alike of like trees. -/
import Derived.Test.YteaionmjbkildabDoorQ30
namespace Go.Proofs.YteaionmjbkildabDoor
open Go.RowKit
set_option linter.unusedVariables false
set_option linter.unusedSimpArgs false
set_option maxRecDepth 100000

theorem intsY (sa sb : Option Addr) (n ca cb : Nat) (hn : n ≤ 17592186043904) (f : Nat → Int) (w : World) (ha : In w sa n f) (hb : In w sb n f) : Calls Tryd.prog 61 #[.slice sa n ca, .slice sb n cb] w fun e w' => e = .returned (.bool true) ∧ ∃ m, w' = w.drewN m := by
  have hee : ((n : Int) != (n : Int)) = false := by simp
  go_enter Tryd.func61, Tryd.ntmps61
  go_wp2
  go_loopw [5] (fun i wr => ∃ k : Nat, k ≤ n ∧ i = .int .i64 k ∧ ∃ m, wr = w.drewN m) (fun i _ => n - (intOf i).toNat)
  case atStart => exact ⟨0, Nat.zero_le _, rfl, 0, rfl⟩
  case round =>
    obtain ⟨k, hk, rfl, hm⟩ := hrel
    have HM : Hid (∃ m, wr = w.drewN m) := hm
    have ha' : In wr sa n f := by obtain ⟨m, rfl⟩ := hm; exact ha
    have hb' : In wr sb n f := by obtain ⟨m, rfl⟩ := hm; exact hb
    clear hm
    by_cases hlt : k < n
    · have hlt' : (k : Int) < (n : Int) := by omega
      obtain ⟨a, rfl⟩ := ha.some (by omega)
      obtain ⟨b, rfl⟩ := hb.some (by omega)
      have ak := ha'.at hlt
      have bk := hb'.at hlt
      obtain ⟨z, hz⟩ : ∃ z, f k = z := ⟨_, rfl⟩
      rw [hz] at ak bk
      have ya : (z != z) = false := by simp
      clear hz
      go_wp2
      go_quiet (fail)
      go_wp2
      go_roundw
      case rel => exact ⟨k + 1, hlt, by go_num, by obtain ⟨m, rfl⟩ := HM.out; exact ⟨m + nq, by rw [World.drewN_drewN]⟩⟩
      case measure => simp [intOf]; omega
    · have hkn : ¬ ((k : Int) < (n : Int)) := by omega
      go_wp2
      go_ret
      exact ⟨rfl, HM.out⟩

set_option maxHeartbeats 2000000 in
theorem alikeY (S I R : Int) (n ca cb qa oa qb ob : Nat) (sa sb : Option Addr) (hsa : 0 < n → sa = some ⟨qa, oa, none⟩) (hsb : 0 < n → sb = some ⟨qb, ob, none⟩) (ta tb : Nat → TN) (hn : n ≤ 4398046510976) (hkn : ∀ j, j < n → (ta j).kn ≤ 17592186043904) (heq : ∀ j, j < n → (ta j).st = (tb j).st ∧ (ta j).kn = (tb j).kn ∧ ∀ i, i < (ta j).kn → (ta j).kf i = (tb j).kf i) (w : World) (hA : Tn w qa oa n ta) (hB : Tn w qb ob n tb) :
    Calls Tryd.prog 37 #[.agg #[.int .i64 S, .int .i64 I, .slice sa n ca, .int .i64 R], .agg #[.int .i64 S, .int .i64 I, .slice sb n cb, .int .i64 R]] w fun e w' => e = .returned (.bool true) ∧ w.grownBy w' none := by
  obtain ⟨W1, hW1, sz1, g1, B1⟩ := boxn w #[.int .i64 S, .int .i64 I, .slice sa n ca, .int .i64 R] 24
  obtain ⟨W2, hW2, sz2, g2, B2⟩ := boxn W1 #[.int .i64 S, .int .i64 I, .slice sb n cb, .int .i64 R] 24
  have B12 := B1.kept g2 (by simp)
  have a0 := B12.cell 0 (v := .int .i64 S) rfl
  have a1 := B12.cell 1 (v := .int .i64 I) rfl
  have a2 := B12.cell 2 (v := .slice sa n ca) rfl
  have a3 := B12.cell 3 (v := .int .i64 R) rfl
  have b0 := B2.cell 0 (v := .int .i64 S) rfl
  have b1 := B2.cell 1 (v := .int .i64 I) rfl
  have b2 := B2.cell 2 (v := .slice sb n cb) rfl
  have b3 := B2.cell 3 (v := .int .i64 R) rfl
  have e1 : (S != S) = false := by simp
  have e2 : (I != I) = false := by simp
  have e3 : (R != R) = false := by simp
  have e4 : ((n : Int) != (n : Int)) = false := by simp
  go_enter Tryd.func37, Tryd.ntmps37
  go_wp2
  clear a0 a1 a2 a3 b0 b1 b2 b3
  go_loopw [5] (fun i wr => ∃ j : Nat, j ≤ n ∧ i = .int .i64 j ∧ w.grownBy wr none ∧ Bo wr w.heap.size 24 #[.int .i64 S, .int .i64 I, .slice sa n ca, .int .i64 R] ∧ Bo wr W1.heap.size 24 #[.int .i64 S, .int .i64 I, .slice sb n cb, .int .i64 R]) (fun i _ => n - (intOf i).toNat)
  case atStart => exact ⟨0, Nat.zero_le _, rfl, gb_trans g1 g2, B12, B2⟩
  case round =>
    obtain ⟨j, hj, rfl, Gj, Aj, Bj⟩ := hrel
    have a2 := Aj.cell 2 (v := .slice sa n ca) rfl
    have b2 := Bj.cell 2 (v := .slice sb n cb) rfl
    by_cases hlt : j < n
    · have hlt' : (j : Int) < (n : Int) := by omega
      obtain rfl := hsa (by omega)
      obtain rfl := hsb (by omega)
      obtain ⟨x0, x1, x2⟩ := (hA.kept Gj) j hlt
      obtain ⟨y0, y1, y2⟩ := (hB.kept Gj) j hlt
      obtain ⟨q1, q2, q3⟩ := heq j hlt
      have hk := hkn j hlt
      have hints := fun m => intsY (ta j).kp (tb j).kp (ta j).kn (ta j).kc (tb j).kc hk (ta j).kf (wr.drewN m) x2 (fun k hk => by rw [q3 k hk]; exact y2 k (q2 ▸ hk))
      rw [← q1] at y0
      rw [← q2] at y1
      have e5 : (((ta j).st : Int) != ((ta j).st : Int)) = false := by simp
      clear q1 q2 q3 heq hkn
      go_wp2
      go_quiet (exact Calls.quiet_of (hints _))
      go_wp2
      go_roundw
      case rel => exact ⟨j + 1, hlt, by go_num, gb_drewN Gj _, Aj.drew, Bj.drew⟩
      case measure => simp [intOf]; omega
    · have hjn' : ¬ ((j : Int) < (n : Int)) := by omega
      go_wp2
      go_ret
      exact ⟨rfl, Gj⟩
end Go.Proofs.YteaionmjbkildabDoor
