/- New of a field of bytes. -/
import Derived.Test.YtjndljjpbkfmiaaGreatDoorZ9
namespace Go.Proofs.YtjndljjpbkfmiaaGreatDoor
open Go.RowKit
set_option linter.unusedVariables false
set_option linter.unusedSimpArgs false
set_option maxRecDepth 100000

theorem blankBytesC (C R S : Nat) (hz : Sz C R S) (w : World) : Calls Tryz.prog 82 #[.agg #[.int .i64 (C : Nat), .int .i64 (R : Nat), .int .i64 (S : Nat)]] w fun e w' => ∃ s q, e = .returned (.pointer (some ⟨s, 0, none⟩)) ∧ Sb w' s q C R S (fun _ => 0) ∧ w.heap.size ≤ s ∧ w.heap.size ≤ q ∧ w.grownBy w' none := by
  obtain ⟨W1, hW1, sz1, g1, B1⟩ := boxn w #[.int .i64 (C : Nat), .int .i64 (R : Nat), .int .i64 (S : Nat)] 120
  have c0 := B1.cell 0 (v := .int .i64 (C : Nat)) rfl
  have c1 := B1.cell 1 (v := .int .i64 (R : Nat)) rfl
  have c2 := B1.cell 2 (v := .int .i64 (S : Nat)) rfl
  have hall := hz.all
  have w1 : IntKind.i64.wrap ((C : Int) * (R : Int)) = ((C * R : Nat) : Int) := by rw [← Int.natCast_mul, IntKind.wrap_i64]; omega
  obtain ⟨n, hn⟩ : ∃ n, C * R = n := ⟨_, rfl⟩
  rw [hn] at w1 hall
  have HN : Hid (C * R = n) := hn
  clear hn
  have hmk := run_make_row' (P := Tryz.prog) 24 5 (.int .u8 0) 1 under8S info8 rfl .i64 .i64 n (by omega) (by omega)
  obtain ⟨W2, hW2, sz2, g2, B2⟩ := boxn W1 (madeCells #[.int .u8 0] n) 5
  have B12 := B1.kept g2 (by simp)
  have d0 := B12.cell 0 (v := .int .i64 (C : Nat)) rfl
  have d1 := B12.cell 1 (v := .int .i64 (R : Nat)) rfl
  have d2 := B12.cell 2 (v := .int .i64 (S : Nat)) rfl
  go_enter Tryz.func82, Tryz.ntmps82
  go_wp2
  go_region
  go_wp2
  go_ret
  have B3 := Bo.new W2 174 #[.int .i64 (C : Nat), .int .i64 (R : Nat), .int .i64 (S : Nat), .slice (some ⟨W1.heap.size, 0, none⟩) n n]
  refine ⟨W2.heap.size, W1.heap.size, rfl, ⟨n, ?_, ?_, (fun _ => .int .u8 0), ?_, fun _ _ => rfl⟩, Nat.le_trans g1.size g2.size, g1.size, gb_drew (gb_alloc (gb_trans g1 g2) _)⟩
  · rw [HN.out]; exact B3
  · rw [HN.out]; exact Nat.le_refl _
  · have hr := World.rowIs_made W1 (.int .u8 0) n 5
    rw [hW2] at hr
    exact rowIs_kept hr (gb_drew (World.grownBy_alloc _ _ none)) (by simp)

theorem blankC (C R S : Nat) (hz : Sz C R S) (w : World) : Calls Tryz.prog 64 #[.agg #[.int .i64 (C : Nat), .int .i64 (R : Nat), .int .i64 (S : Nat)], .bool false] w fun e w' => ∃ s q, e = .returned (.iface 154 (.pointer (some ⟨s, 0, none⟩))) ∧ Sb w' s q C R S (fun _ => 0) ∧ w.heap.size ≤ s ∧ w.heap.size ≤ q ∧ w.grownBy w' none := by
  obtain ⟨W1, hW1, sz1, g1, B1⟩ := boxn w #[.int .i64 (C : Nat), .int .i64 (R : Nat), .int .i64 (S : Nat)] 120
  have c0 := B1.cell 0 (v := .int .i64 (C : Nat)) rfl
  have c1 := B1.cell 1 (v := .int .i64 (R : Nat)) rfl
  have c2 := B1.cell 2 (v := .int .i64 (S : Nat)) rfl
  go_enter Tryz.func64, Tryz.ntmps64
  go_wp2_with (go_at_call 82; refine (blankBytesC C R S hz W1).mono ?_; rintro e V ⟨s, q, rfl, hS, l1, l2, gV⟩)
  go_ret
  exact ⟨s, q, rfl, hS, Nat.le_trans g1.size l1, Nat.le_trans g1.size l2, gb_trans g1 gV⟩

theorem newY (C R S : Nat) (hz : Sz C R S) (w : World) : Calls Tryz.prog 31 #[.int .i64 (C : Nat), .int .i64 (R : Nat), .int .i64 (S : Nat), .bool false] w fun e w' => ∃ b s q, e = .returned (.tuple #[.pointer (some ⟨b, 0, none⟩), .int .i64 0]) ∧ Fb w' b s q C R S (fun _ => 0) ∧ w.heap.size ≤ b ∧ w.heap.size ≤ s ∧ w.heap.size ≤ q ∧ w.grownBy w' none := by
  have he : ckE C R S false = 0 := by
    obtain ⟨h1, h2, h3, h4, h5, h6, h7⟩ := hz
    rw [ckE, if_pos (by omega), if_neg (by simp), if_neg (by rw [← Int.natCast_mul]; omega)]
  have hck := fun w => checkC C R S false w
  rw [he] at hck
  go_enter Tryz.func31, Tryz.ntmps31
  go_wp2_with (first | (go_at_call 63; refine (hck (w.alloc (.cells #[.int .i64 (C : Nat), .int .i64 (R : Nat), .int .i64 (S : Nat)] 120))).mono ?_; rintro e V ⟨rfl, gV⟩; have BV := (Bo.new w 120 #[.int .i64 (C : Nat), .int .i64 (R : Nat), .int .i64 (S : Nat)]).kept gV (by simp); have c0 := BV.cell 0 (v := .int .i64 (C : Nat)) rfl; have c1 := BV.cell 1 (v := .int .i64 (R : Nat)) rfl; have c2 := BV.cell 2 (v := .int .i64 (S : Nat)) rfl) | (go_at_call 64; refine (blankC C R S hz V).mono ?_; rintro e V2 ⟨s, q, rfl, hS, l1, l2, gV2⟩))
  go_ret2
  have g0 : w.grownBy V2 none := gb_trans (gb_trans (World.grownBy_alloc _ _ none) gV) gV2
  have g9 : V2.grownBy (V2.alloc (.cells #[.iface 154 (.pointer (some ⟨s, 0, none⟩))] 117)) none := World.grownBy_alloc _ _ none
  have lV : w.heap.size ≤ V.heap.size := (gb_trans (World.grownBy_alloc w _ none) gV).size
  exact ⟨V2.heap.size, s, q, rfl, ⟨Bo.new V2 _ _, hS.kept g9⟩, g0.size, Nat.le_trans lV l1, Nat.le_trans lV l2, gb_trans g0 g9⟩

theorem newN (C R S E : Int) (p : Bool) (he : ckE C R S p = E) (hE : E ≠ 0) (w : World) : Calls Tryz.prog 31 #[.int .i64 C, .int .i64 R, .int .i64 S, .bool p] w fun e w' => e = .returned (.tuple #[.pointer none, .int .i64 E]) ∧ w.grownBy w' none := by
  have hck := fun w => checkC C R S p w
  rw [he] at hck
  have hE' : (E != 0) = true := by simp [hE]
  clear he
  go_enter Tryz.func31, Tryz.ntmps31
  go_wp2_with (first | (go_at_call 63; refine (hck _).mono ?_; rintro e V ⟨rfl, gV⟩))
  go_ret2
  exact ⟨rfl, gb_trans (World.grownBy_alloc _ _ none) gV⟩
end Go.Proofs.YtjndljjpbkfmiaaGreatDoor
