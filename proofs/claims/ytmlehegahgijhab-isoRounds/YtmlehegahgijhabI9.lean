/- What the statements make of any numbers: a map that may be, a place near by; a number without its sign. -/
import Derived.Test.YtmlehegahgijhabI7
namespace Go.Proofs.Ytmlehegahgijhab
open Go.RowKit
open Fl
set_option linter.unusedVariables false
set_option linter.unusedSimpArgs false
set_option maxRecDepth 100000
abbrev I64 (x : Int) : Prop := -9223372036854775808 ≤ x ∧ x ≤ 9223372036854775807
theorem both0 : ∀ k, k < 8 → both k 0 = k := by decide
/-- A number of at most 2^30. -/
def rd (x : Int) : Int := x.tmod 1073741824
theorem rd_bd (x : Int) : -1073741824 < rd x ∧ rd x < 1073741824 := by
  unfold rd
  have h1 := Int.lt_tmod_of_pos x (show (0:Int) < 1073741824 by decide)
  have h2 := Int.tmod_lt_of_pos x (show (0:Int) < 1073741824 by decide)
  omega
/-- The number of a linear part. -/
def kp (k : Int) : Nat := ((k.tmod 8 + 8).tmod 8).toNat
theorem kp_is (k : Int) : (k.tmod 8 + 8).tmod 8 = (kp k : Int) ∧ kp k < 8 ∧ IntKind.i64.wrap (k.tmod 8 + 8) = k.tmod 8 + 8 := by
  have h1 := Int.lt_tmod_of_pos k (show (0:Int) < 8 by decide)
  have h2 := Int.tmod_lt_of_pos k (show (0:Int) < 8 by decide)
  have h3 := Int.tmod_lt_of_pos (k.tmod 8 + 8) (show (0:Int) < 8 by decide)
  have h4 : 0 ≤ (k.tmod 8 + 8).tmod 8 := Int.tmod_nonneg _ (by omega)
  refine ⟨?_, ?_, ?_⟩
  · unfold kp; omega
  · unfold kp; omega
  · rw [IntKind.wrap_i64]; omega
theorem near_lt {x : Int} (h : x.natAbs ≤ 1099511627776) : nearB x = true := decide_eq_true h
theorem part_val {K : Nat} (h : K < 8) : lx 0 0 0 + 0 = 0 := rfl
theorem l0 (x y : Int) : lx 0 x y = x ∧ ly 0 x y = y := by
  have h1 : tx 0 = 1 := rfl
  have h2 : ty 0 = 0 := rfl
  have h3 : fl4 0 = false := rfl
  unfold lx ly cj
  rw [h1, h2, h3]
  simp
theorem l_zero (k : Nat) : lx k 0 0 = 0 ∧ ly k 0 0 = 0 := by
  unfold lx ly cj
  split <;> simp

set_option maxHeartbeats 2000000 in
theorem made_core (k x y : Int) (K : Nat) (X Y : Int) (hK : K < 8) (h1 : IntKind.i64.wrap (k.tmod 8 + 8) = k.tmod 8 + 8) (h2 : (k.tmod 8 + 8).tmod 8 = (K : Int)) (hx : x.tmod 1073741824 = X) (hy : y.tmod 1073741824 = Y) (hX : nearB X = true) (hY : nearB Y = true) (hP : May (pa K) (pb K) (fl4 K) 0 0 K 0 0) (w : World) :
    Calls Try.prog 8 #[.int .i64 k, .int .i64 x, .int .i64 y] w fun e w' => ∃ p q r s, e = .returned (.tuple #[.agg (mv p q (fl4 K) r s), .bool true]) ∧ May p q (fl4 K) r s K X Y ∧ w.grownBy w' none := by
  obtain ⟨fs, hfs⟩ := underI
  have st := stC
  obtain ⟨W1, hW1, sz1, g1, B1⟩ := boxn w #[.complex .f64 0 0, .bool false, .complex .f64 0 0] 29
  have b1_1_0 := B1.cell 0 (v := .complex .f64 0 0) rfl
  have b1_1_1 := B1.cell 1 (v := .bool false) rfl
  have b1_1_2 := B1.cell 2 (v := .complex .f64 0 0) rfl
  go_enter Try.func8, Try.ntmps8
  go_wp2_with (first | (go_at_call 14; (fail_if_success (guard_hyp g2)); refine (partYes K hK _).mono ?_; rintro e w2 ⟨rfl, g2⟩; have G2 := gb_trans g1 g2; have B1x := B1.kept g2 (by simp); obtain ⟨W3, hW3, sz3, g3, B3⟩ := boxn w2 #[.complex .f64 (pa K) (pb K), .bool (fl4 K), .complex .f64 0 0] 29; have G3 := gb_trans G2 g3; have B1xx := B1x.kept g3 (by simp); have sm3_0 := Bo.same B3 0 (v := .complex .f64 (pa K) (pb K)) rfl; have sm3_1 := Bo.same B3 1 (v := .bool (fl4 K)) rfl; have sm3_2 := Bo.same B3 2 (v := .complex .f64 0 0) rfl; have fz3_0 := B3.frozen 0; have fz3_1 := B3.frozen 1; have fz3_2 := B3.frozen 2; have b1_3_0 := B1xx.cell 0 (v := .complex .f64 0 0) rfl; have b1_3_1 := B1xx.cell 1 (v := .bool false) rfl; have b1_3_2 := B1xx.cell 2 (v := .complex .f64 0 0) rfl; have b3_3_0 := B3.cell 0 (v := .complex .f64 (pa K) (pb K)) rfl; have b3_3_1 := B3.cell 1 (v := .bool (fl4 K)) rfl; have b3_3_2 := B3.cell 2 (v := .complex .f64 0 0) rfl) | (go_at_call 18; (fail_if_success (guard_hyp g4)); refine (shiftM _ _ hX hY _).mono ?_; rintro e w4 ⟨r4, s4, rfl, my4, cl4, g4⟩; have G4 := gb_trans G3 g4; have B1xxx := B1xx.kept g4 (by simp); have B3x := B3.kept g4 (by simp); obtain ⟨W5, hW5, sz5, g5, B5⟩ := boxn w4 #[.complex .f64 4607182418800017408 0, .bool false, .complex .f64 r4 s4] 29; have G5 := gb_trans G4 g5; have B1xxxx := B1xxx.kept g5 (by simp); have B3xx := B3x.kept g5 (by simp); have sm5_0 := Bo.same B5 0 (v := .complex .f64 4607182418800017408 0) rfl; have sm5_1 := Bo.same B5 1 (v := .bool false) rfl; have sm5_2 := Bo.same B5 2 (v := .complex .f64 r4 s4) rfl; have fz5_0 := B5.frozen 0; have fz5_1 := B5.frozen 1; have fz5_2 := B5.frozen 2; have b1_5_0 := B1xxxx.cell 0 (v := .complex .f64 0 0) rfl; have b1_5_1 := B1xxxx.cell 1 (v := .bool false) rfl; have b1_5_2 := B1xxxx.cell 2 (v := .complex .f64 0 0) rfl; have b3_5_0 := B3xx.cell 0 (v := .complex .f64 (pa K) (pb K)) rfl; have b3_5_1 := B3xx.cell 1 (v := .bool (fl4 K)) rfl; have b3_5_2 := B3xx.cell 2 (v := .complex .f64 0 0) rfl; have b5_5_0 := B5.cell 0 (v := .complex .f64 4607182418800017408 0) rfl; have b5_5_1 := B5.cell 1 (v := .bool false) rfl; have b5_5_2 := B5.cell 2 (v := .complex .f64 r4 s4) rfl) | (go_at_call 10; (fail_if_success (guard_hyp g6)); refine (thenYes _ _ _ _ _ _ _ _ _ _ (fl4 K) (by simp) K (both0 K hK) X Y (by rw [(l0 0 0).1, Int.zero_add]) (by rw [(l0 0 0).2, Int.zero_add]) hP my4 hX hY _).mono ?_; rintro e w6 ⟨p6, q6, r6, s6, rfl, my6, cl6, g6⟩; have G6 := gb_trans G5 g6; have B1xxxxx := B1xxxx.kept g6 (by simp); have B3xxx := B3xx.kept g6 (by simp); have B5x := B5.kept g6 (by simp); obtain ⟨W7, hW7, sz7, g7, B7⟩ := boxn w6 #[.complex .f64 p6 q6, .bool (fl4 K), .complex .f64 r6 s6] 29; have G7 := gb_trans G6 g7; have B1xxxxxx := B1xxxxx.kept g7 (by simp); have B3xxxx := B3xxx.kept g7 (by simp); have B5xx := B5x.kept g7 (by simp); have b1_7_0 := B1xxxxxx.cell 0 (v := .complex .f64 0 0) rfl; have b1_7_1 := B1xxxxxx.cell 1 (v := .bool false) rfl; have b1_7_2 := B1xxxxxx.cell 2 (v := .complex .f64 0 0) rfl; have b3_7_0 := B3xxxx.cell 0 (v := .complex .f64 (pa K) (pb K)) rfl; have b3_7_1 := B3xxxx.cell 1 (v := .bool (fl4 K)) rfl; have b3_7_2 := B3xxxx.cell 2 (v := .complex .f64 0 0) rfl; have b5_7_0 := B5xx.cell 0 (v := .complex .f64 4607182418800017408 0) rfl; have b5_7_1 := B5xx.cell 1 (v := .bool false) rfl; have b5_7_2 := B5xx.cell 2 (v := .complex .f64 r4 s4) rfl; have b7_7_0 := B7.cell 0 (v := .complex .f64 p6 q6) rfl; have b7_7_1 := B7.cell 1 (v := .bool (fl4 K)) rfl; have b7_7_2 := B7.cell 2 (v := .complex .f64 r6 s6) rfl))
  have hn1 : ¬ w6.heap.size = w.heap.size := Nat.ne_of_gt B1xxxxx.lt
  have hn2 : ¬ w.heap.size = w6.heap.size := fun h => hn1 h.symm
  go_region_held2 (fun w' => w'.cell? ⟨w6.heap.size, 0, none⟩ = some (.complex .f64 p6 q6) ∧ w'.cell? ⟨w6.heap.size, 1, none⟩ = some (.bool (fl4 K)) ∧ w'.cell? ⟨w6.heap.size, 2, none⟩ = some (.complex .f64 r6 s6)) (go_keep) (first | (go_at_call 19; refine (validYes _ _ _ _ _ my6 _).mono ?_; rintro e w9 ⟨rfl, g9⟩; have BT9 := B7.dr.kept g9 (by simp); have BR9 := B1xxxxxx.dr.kept g9 (by simp); have G9 := gb_trans (gb_drew G7) g9; have tt0 := BT9.cell 0 (v := .complex .f64 p6 q6) rfl; have tt1 := BT9.cell 1 (v := .bool (fl4 K)) rfl; have tt2 := BT9.cell 2 (v := .complex .f64 r6 s6) rfl; have rr0 := BR9.cell 0 (v := .complex .f64 0 0) rfl; have rr1 := BR9.cell 1 (v := .bool false) rfl; have rr2 := BR9.cell 2 (v := .complex .f64 0 0) rfl; have rf0 := BR9.frozen 0; have rf1 := BR9.frozen 1; have rf2 := BR9.frozen 2))
  all_goals go_wp2
  all_goals refine ret_c2 (g := w.heap.size) (cs := mv p6 q6 (fl4 K) r6 s6) rfl hfs infoI rfl (bo3 BR9) rfl ⟨_, _, _, _, rfl, my6, gb3 G9 (Nat.le_refl _)⟩
theorem madeC (k x y : Int) (w : World) :
    Calls Try.prog 8 #[.int .i64 k, .int .i64 x, .int .i64 y] w fun e w' => ∃ p q r s, e = .returned (.tuple #[.agg (mv p q (fl4 (kp k)) r s), .bool true]) ∧ May p q (fl4 (kp k)) r s (kp k) (rd x) (rd y) ∧ w.grownBy w' none := by
  obtain ⟨h1, h2, h3⟩ := kp_is k
  have hx := rd_bd x
  have hy := rd_bd y
  exact made_core k x y (kp k) (rd x) (rd y) h2 h3 h1 rfl rfl (near_lt (by omega)) (near_lt (by omega)) (part_may (kp k) h2).1 w

theorem nearC (x y : Int) (w : World) : Calls Try.prog 9 #[.agg #[.int .i64 x, .int .i64 y]] w fun e w' => e = .returned (.agg #[.int .i64 (rd x), .int .i64 (rd y)]) ∧ w.grownBy w' none := by
  obtain ⟨fs, hfs⟩ := underP
  obtain ⟨W1, hW1, sz1, g1, B1⟩ := boxn w #[.int .i64 x, .int .i64 y] 25
  obtain ⟨W2, hW2, sz2, g2, B2⟩ := boxn W1 #[.int .i64 0, .int .i64 0] 25
  have A2 := B1.kept g2 (by simp)
  have c0 := A2.cell 0 (v := .int .i64 x) rfl
  have c1 := A2.cell 1 (v := .int .i64 y) rfl
  have d0 := B2.cell 0 (v := .int .i64 0) rfl
  have d1 := B2.cell 1 (v := .int .i64 0) rfl
  have f0 := B2.frozen 0
  have f1 := B2.frozen 1
  go_enter Try.func9, Try.ntmps9
  go_wp2
  refine ret_c1 (g := W1.heap.size) (cs := #[.int .i64 (rd x), .int .i64 (rd y)]) rfl hfs infoP rfl (bo2 B2) rfl ⟨rfl, gb2 (gb_trans g1 g2) g1.size⟩

theorem nearE (x y a b : Int) (hx : Hid (rd x = a)) (hy : Hid (rd y = b)) (w : World) : Calls Try.prog 9 #[.agg #[.int .i64 x, .int .i64 y]] w fun e w' => e = .returned (.agg #[.int .i64 a, .int .i64 b]) ∧ w.grownBy w' none := by
  rw [← hx.out, ← hy.out]
  exact nearC x y w

def sz (n : Int) : Int := if n < 0 then -n else n
theorem sizeC (n : Int) (h : -9223372036854775807 ≤ n ∧ n ≤ 9223372036854775807) (w : World) : Calls Try.prog 15 #[.int .i64 n] w fun e w' => e = .returned (.int .i64 (sz n)) ∧ w' = w := by
  unfold sz
  have hw : IntKind.i64.wrap (0 - n) = -n := by rw [IntKind.wrap_i64]; omega
  by_cases q : n < 0
  · rw [if_pos q]
    go_enter Try.func15, Try.ntmps15
    go_wp2
    go_ret
    exact ⟨rfl, rfl⟩
  · rw [if_neg q]
    go_enter Try.func15, Try.ntmps15
    go_wp2
    go_ret
    exact ⟨rfl, rfl⟩
end Go.Proofs.Ytmlehegahgijhab
