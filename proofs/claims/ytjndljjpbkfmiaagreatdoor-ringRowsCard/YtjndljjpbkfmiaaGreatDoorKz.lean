/- Rows of package ring. -/
import Derived.Test.YtjndljjpbkfmiaaGreatDoorK6
import Derived.Test.YtjndljjpbkfmiaaGreatDoorK4b
import Derived.Test.YtjndljjpbkfmiaaGreatDoorK3
import Derived.BigQuiet
import Derived.Test.YtjndljjpbkfmiaaGreatDoorZ11
import Derived.Test.YtjndljjpbkfmiaaGreatDoorZq
import Derived.Test.YtjndljjpbkfmiaaGreatDoorZ10
namespace Go.Proofs.YtjndljjpbkfmiaaGreatDoor
open Go.RowKit
set_option linter.unusedVariables false
set_option linter.unusedSimpArgs false
set_option maxRecDepth 100000

theorem cg_gr {k t z : Int} {C R : Nat} (G : Gr k t z C R) : cgE k C R t z C R = 0 := by
  have := G.r0
  have := G.c0
  unfold cgE
  rw [if_neg (by rw [G.chk]; simp), if_neg (by omega), if_neg (by simp)]
/-- Which cells of a row live. -/
theorem livingR {M : World → Prop} {n0 b C R S : Nat} {g : Nat → Nat} (F : FdM M n0 b C R S g) (hC : C ≤ 65536) (h256 : ∀ i, g i < 256) (y : Nat) (hy : y < R) (w : World) (hM : M w) : Calls Tryz.prog 50 #[.pointer (some ⟨b, 0, none⟩), .int .i64 (y : Nat)] w fun e w' => ∃ d, e = .returned (.slice (some ⟨d, 0, none⟩) C C) ∧ w'.rowIs d 4 C (fun x => .bool (lvB (g (y * C + x)))) ∧ w.heap.size ≤ d ∧ w.grownBy w' none := by
  have hs := statesC F y hy w hM
  have hmk := run_make_row' (P := Tryz.prog) 83 4 (.bool false) 1 underbS' infob' rfl .i64 .i64 C (by omega) (by omega)
  go_enter Tryz.func50, Tryz.ntmps50
  go_wp2_with (go_at_call 39; refine hs.mono ?_; rintro e V1 ⟨d, rfl, h1, h2, h3⟩; obtain ⟨V2, hV2, sz2, g2, B2⟩ := boxn V1 (madeCells #[.bool false] C) 4; have hr2 := World.rowIs_made V1 (.bool false) C 4; rw [hV2] at hr2)
  have lt1 : d < V1.heap.size := by
    obtain ⟨c, hc, _⟩ := h1
    exact (Array.getElem?_eq_some_iff.1 hc).1
  go_loopw [17] (fun i wr => ∃ q : Nat, q ≤ C ∧ i = .int .i64 (q : Nat) ∧ wr.rowIs V1.heap.size 4 C (fun x => if x < q then .bool (lvB (g (y * C + x))) else .bool false) ∧ V2.grownBy wr (some V1.heap.size)) (fun i _ => C - (intOf i).toNat)
  case atStart => exact ⟨0, Nat.zero_le _, rfl, hr2.congr (fun x _ => by rw [if_neg (by omega)]), World.grownBy.refl _ _⟩
  case round =>
    obtain ⟨q, hq, rfl, hrow, gw⟩ := hrel
    by_cases hlt : q < C
    · have hi1 : (q : Int) < (C : Int) := by omega
      have hln := rowIs_kept (rowIs_kept h1 g2 (by simp)) gw (by simp; omega)
      have hc := hln.cell hlt
      have hd := hrow.cell hlt
      have hf := hrow.frozen q
      have hlv : (((g (y * C + q) : Nat) : Int) != 0) = lvB (g (y * C + q)) := by
        unfold lvB
        by_cases h0 : g (y * C + q) = 0
        · simp [h0]
        · have : ((g (y * C + q) : Nat) : Int) ≠ 0 := by omega
          simp [h0]
      go_wp2
      go_roundw
      case rel =>
        refine ⟨q + 1, hlt, by go_num, (hrow.set q _).congr (fun x _ => ?_), gb_set gw _ _⟩
        by_cases hx : x = q
        · subst hx
          rw [if_pos rfl, if_pos (by omega)]
        · rw [if_neg hx]
          by_cases h4 : x < q
          · rw [if_pos h4, if_pos (by omega)]
          · rw [if_neg h4, if_neg (by omega)]
      case measure => simp [intOf]; omega
    · obtain rfl : q = C := by omega
      go_wp2
      go_ret
      exact ⟨V1.heap.size, rfl, hrow.congr (fun x hx => by rw [if_pos hx]), h3.size, gb_past (gb_trans h3 g2) gw h3.size⟩
theorem rows1C {M : World → Prop} {n0 b C R S : Nat} {g : Nat → Nat} (F : FdM M n0 b C R S g) (hC : C ≤ 65536) (h256 : ∀ i, g i < 256) (bf : Nat) (y : Nat) (hy : y < R) (w : World) (hM : M w) (hb : Bo w bf 28 #[.pointer (some ⟨b, 0, none⟩)]) : Calls Tryz.prog 49 #[.int .i64 (y : Nat), .pointer (some ⟨bf, 0, none⟩)] w fun e w' => ∃ d, e = .returned (.slice (some ⟨d, 0, none⟩) C C) ∧ w'.rowIs d 4 C (fun x => .bool (lvB (g (y * C + x)))) ∧ w.heap.size ≤ d ∧ w.grownBy w' none := by
  have hs := livingR F hC h256 y hy w hM
  have h0 := hb.cell 0 (v := .pointer (some ⟨b, 0, none⟩)) rfl
  go_enter Tryz.func49, Tryz.ntmps49
  go_wp2_with (go_at_call 50; refine hs.mono ?_; rintro e V1 ⟨d, rfl, h1, h2, h3⟩)
  go_ret
  exact ⟨d, rfl, h1, h2, h3⟩
set_option maxHeartbeats 1000000 in
theorem rowsX (k x y t z E : Int) (p : Option Addr) (w : World) (hE : (E == 0) = false) (hc : ∀ w', w.grownBy w' none → Calls Tryz.prog 36 #[.agg #[.int .u8 k, .int .i64 x, .int .i64 y, .int .u8 t, .int .i64 z], .pointer p] w' fun e w2 => e = .returned (.int .i64 E) ∧ w'.grownBy w2 none) :
    Calls Tryz.prog 19 #[.agg #[.int .u8 k, .int .i64 x, .int .i64 y, .int .u8 t, .int .i64 z], .pointer p] w fun e w' => e = .returned (.tuple #[.slice none 0 0, .int .i64 E]) ∧ w.grownBy w' none := by
  obtain ⟨W1, hW1, sz1, g1, B1⟩ := boxn w #[.int .u8 k, .int .i64 x, .int .i64 y, .int .u8 t, .int .i64 z] 23
  obtain ⟨W2, hW2, sz2, g2, B2⟩ := boxn W1 #[.pointer p] 28
  have G2 := gb_trans g1 g2
  have T2 := B1.kept g2 (by simp)
  have F2 := B2
  have t2_0 := T2.cell 0 (v := .int .u8 k) rfl
  have t2_1 := T2.cell 1 (v := .int .i64 x) rfl
  have t2_2 := T2.cell 2 (v := .int .i64 y) rfl
  have t2_3 := T2.cell 3 (v := .int .u8 t) rfl
  have t2_4 := T2.cell 4 (v := .int .i64 z) rfl
  have f2 := F2.cell 0 (v := .pointer p) rfl
  have hc2 := hc W2 G2
  go_enter Tryz.func19, Tryz.ntmps19
  go_wp2_with (go_at_call 36; refine hc2.mono ?_; rintro e V1 ⟨rfl, g4⟩)
  go_ret2
  exact ⟨rfl, gb_trans G2 g4⟩
set_option maxHeartbeats 1000000 in
theorem rowsP {k t z : Int} {C R : Nat} (G : Gr k t z C R) {M : World → Prop} {n0 b S : Nat} {g : Nat → Nat} (F : FdM M n0 b C R S g) (hS : 2 < S) (w : World) (hM : M w) :
    Calls Tryz.prog 19 #[.agg #[.int .u8 k, .int .i64 (C : Nat), .int .i64 (R : Nat), .int .u8 t, .int .i64 z], .pointer (some ⟨b, 0, none⟩)] w fun e w' => e = .returned (.tuple #[.slice none 0 0, .int .i64 132]) ∧ w.grownBy w' none := by
  have hc0 := G.c0
  have hcg := cg_gr G
  obtain ⟨W1, hW1, sz1, g1, B1⟩ := boxn w #[.int .u8 k, .int .i64 (C : Nat), .int .i64 (R : Nat), .int .u8 t, .int .i64 z] 23
  obtain ⟨W2, hW2, sz2, g2, B2⟩ := boxn W1 #[.pointer (some ⟨b, 0, none⟩)] 28
  have G2 := gb_trans g1 g2
  have T2 := B1.kept g2 (by simp)
  have F2 := B2
  have t2_0 := T2.cell 0 (v := .int .u8 k) rfl
  have t2_1 := T2.cell 1 (v := .int .i64 (C : Nat)) rfl
  have t2_2 := T2.cell 2 (v := .int .i64 (R : Nat)) rfl
  have t2_3 := T2.cell 3 (v := .int .u8 t) rfl
  have t2_4 := T2.cell 4 (v := .int .i64 z) rfl
  have f2 := F2.cell 0 (v := .pointer (some ⟨b, 0, none⟩)) rfl
  have M2 := F.grown hM G2
  have hc2 := checkGridC F hc0 k C R t z G.t0 W2 M2
  rw [hcg] at hc2
  have hS' : (2 : Int) < (S : Int) := by omega
  go_enter Tryz.func19, Tryz.ntmps19
  go_wp2_with (first | (go_at_call 36; refine hc2.mono ?_; rintro e V1 ⟨rfl, g4⟩; have F4 := F2.kept g4 (by simp); have f4 := F4.cell 0 (v := .pointer (some ⟨b, 0, none⟩)) rfl; have M4 := F.grown M2 g4) | (go_at_call 43; refine (F.states V1 M4).mono ?_; rintro e V2 ⟨rfl, g5⟩))
  go_ret2
  exact ⟨rfl, gb_trans G2 (gb_trans g4 g5)⟩
end Go.Proofs.YtjndljjpbkfmiaaGreatDoor
namespace Go.Proofs.YtjndljjpbkfmiaaGreatDoor
open Go.RowKit
set_option linter.unusedVariables false
set_option linter.unusedSimpArgs false
set_option maxRecDepth 100000

theorem sideC (n : Int) (w : World) : Calls Tryz.prog 55 #[.int .i64 n] w fun e w' => e = .returned (.bool (decide (1 ≤ n ∧ n ≤ 65536))) ∧ w' = w := by
  by_cases h1 : 1 ≤ n
  · by_cases h2 : n ≤ 65536
    · rw [decide_eq_true ⟨h1, h2⟩]
      go_enter Tryz.func55, Tryz.ntmps55
      go_wp2
      go_ret
      exact ⟨by simp [h1, h2], rfl⟩
    · rw [decide_eq_false (fun h => h2 h.2)]
      go_enter Tryz.func55, Tryz.ntmps55
      go_wp2
      go_ret
      exact ⟨by simp [h1, h2], rfl⟩
  · rw [decide_eq_false (fun h => h1 h.1)]
    go_enter Tryz.func55, Tryz.ntmps55
    go_wp2
    go_ret
    exact ⟨by simp [h1], rfl⟩
/-- What Check answers. -/
def fmE (x y : Int) (n : Nat) : Int := if (1 ≤ x ∧ x ≤ 65536) ∧ (1 ≤ y ∧ y ≤ 65536) ∧ x * y ≤ 1048576 ∧ (n : Int) = (x + 2) * (y + 2) then 0 else 140
set_option maxHeartbeats 1000000 in
theorem checkF (x y : Int) (sp : Option Addr) (n c : Nat) (w : World) : Calls Tryz.prog 23 #[.agg #[.int .i64 x, .int .i64 y, .slice sp n c]] w fun e w' => e = .returned (.int .i64 (fmE x y n)) ∧ w.grownBy w' none := by
  obtain ⟨W1, hW1, sz1, g1, B1⟩ := boxn w #[.int .i64 x, .int .i64 y, .slice sp n c] 33
  have b1_0 := B1.cell 0 (v := .int .i64 x) rfl
  have b1_1 := B1.cell 1 (v := .int .i64 y) rfl
  have b1_2 := B1.cell 2 (v := .slice sp n c) rfl
  have hx := fun w => sideC x w
  have hy := fun w => sideC y w
  by_cases h1 : 1 ≤ x ∧ x ≤ 65536
  · rw [decide_eq_true h1] at hx
    by_cases h2 : 1 ≤ y ∧ y ≤ 65536
    · rw [decide_eq_true h2] at hy
      obtain ⟨a, rfl⟩ := Int.eq_ofNat_of_zero_le (show 0 ≤ x by omega)
      obtain ⟨b, rfl⟩ := Int.eq_ofNat_of_zero_le (show 0 ≤ y by omega)
      have m1 : a * b ≤ 65536 * 65536 := Nat.mul_le_mul (by omega) (by omega)
      have m2 : (a + 2) * (b + 2) ≤ 65538 * 65538 := Nat.mul_le_mul (by omega) (by omega)
      have e1 : (a : Int) * (b : Int) = ((a * b : Nat) : Int) := by simp
      have e2 : ((a : Int) + 2) * ((b : Int) + 2) = (((a + 2) * (b + 2) : Nat) : Int) := by simp
      obtain ⟨p, hp⟩ : ∃ p, a * b = p := ⟨_, rfl⟩
      obtain ⟨q, hq⟩ : ∃ q, (a + 2) * (b + 2) = q := ⟨_, rfl⟩
      rw [hp] at m1 e1
      rw [hq] at m2 e2
      have w1 : IntKind.i64.wrap ((a : Int) * (b : Int)) = (p : Int) := by rw [e1, IntKind.wrap_i64]; omega
      have w2 : IntKind.i64.wrap (((a : Int) + 2) * ((b : Int) + 2)) = (q : Int) := by rw [e2, IntKind.wrap_i64]; omega
      have HE : Hid (fmE a b n = if (p : Int) ≤ 1048576 ∧ (n : Int) = q then 0 else 140) := by
        unfold Hid fmE
        rw [e1, e2]
        by_cases hh : (p : Int) ≤ 1048576 ∧ (n : Int) = q
        · rw [if_pos ⟨h1, h2, hh.1, hh.2⟩, if_pos hh]
        · rw [if_neg (fun t => hh ⟨t.2.2.1, t.2.2.2⟩), if_neg hh]
      clear hp hq e1 e2
      by_cases h3 : 1048576 < (p : Int)
      · rw [show fmE a b n = 140 by rw [HE.out, if_neg (by omega)]]
        go_enter Tryz.func23, Tryz.ntmps23
        go_wp2_with (first | (go_at_call 55; (fail_if_success (guard_hyp mk1)); refine (hx _).mono ?_; rintro e w' ⟨rfl, hw'⟩; subst w'; have mk1 : True := trivial) | (go_at_call 55; refine (hy _).mono ?_; rintro e w' ⟨rfl, hw'⟩; subst w'))
        go_ret
        exact ⟨rfl, g1⟩
      · have h3' : decide (1048576 < (p : Int)) = false := decide_eq_false h3
        by_cases h4 : n = q
        · rw [show fmE a b n = 0 by rw [HE.out, if_pos (by omega)]]
          subst h4
          clear h3
          go_enter Tryz.func23, Tryz.ntmps23
          go_wp2_with (first | (go_at_call 55; (fail_if_success (guard_hyp mk1)); refine (hx _).mono ?_; rintro e w' ⟨rfl, hw'⟩; subst w'; have mk1 : True := trivial) | (go_at_call 55; refine (hy _).mono ?_; rintro e w' ⟨rfl, hw'⟩; subst w'))
          go_ret
          exact ⟨rfl, g1⟩
        · rw [show fmE a b n = 140 by rw [HE.out, if_neg (by omega)]]
          have h4' : ((n : Int) != (q : Int)) = true := by simp; omega
          clear h3
          go_enter Tryz.func23, Tryz.ntmps23
          go_wp2_with (first | (go_at_call 55; (fail_if_success (guard_hyp mk1)); refine (hx _).mono ?_; rintro e w' ⟨rfl, hw'⟩; subst w'; have mk1 : True := trivial) | (go_at_call 55; refine (hy _).mono ?_; rintro e w' ⟨rfl, hw'⟩; subst w'))
          go_ret
          exact ⟨rfl, g1⟩
    · rw [decide_eq_false h2] at hy
      rw [show fmE x y n = 140 from if_neg (fun t => h2 t.2.1)]
      clear h1 h2
      go_enter Tryz.func23, Tryz.ntmps23
      go_wp2_with (first | (go_at_call 55; (fail_if_success (guard_hyp mk1)); refine (hx _).mono ?_; rintro e w' ⟨rfl, hw'⟩; subst w'; have mk1 : True := trivial) | (go_at_call 55; refine (hy _).mono ?_; rintro e w' ⟨rfl, hw'⟩; subst w'))
      go_ret
      exact ⟨rfl, g1⟩
  · rw [decide_eq_false h1] at hx
    rw [show fmE x y n = 140 from if_neg (fun t => h1 t.1)]
    clear h1
    go_enter Tryz.func23, Tryz.ntmps23
    go_wp2_with (first | (go_at_call 55; (fail_if_success (guard_hyp mk1)); refine (hx _).mono ?_; rintro e w' ⟨rfl, hw'⟩; subst w'; have mk1 : True := trivial) | (go_at_call 55; refine (hy _).mono ?_; rintro e w' ⟨rfl, hw'⟩; subst w'))
    go_ret
    exact ⟨rfl, g1⟩
end Go.Proofs.YtjndljjpbkfmiaaGreatDoor
namespace Go.Proofs.YtjndljjpbkfmiaaGreatDoor
open Go.RowKit
set_option linter.unusedVariables false
set_option linter.unusedSimpArgs false
set_option maxRecDepth 100000

/-- The offsets of the three neighbourhoods. -/
def ofL (h : Nat) : List (Int × Int) := if h = 1 then [(0, -1), (1, -1), (1, 0), (1, 1), (0, 1), (-1, 1), (-1, 0), (-1, -1)] else if h = 2 then [(0, -1), (1, 0), (0, 1), (-1, 0)] else [(0, -1), (1, 0), (1, 1), (0, 1), (-1, 0), (-1, -1)]
def ofN (h : Nat) : Nat := (ofL h).length
def ofP (h i : Nat) : Int × Int := (ofL h).getD i (0, 0)
/-- The table of the offsets, where it lies. -/
structure Tab (w : World) : Prop where
  at_ : ∀ h, 1 ≤ h → h ≤ 3 → ∃ b o c, w.cell? ⟨0, h, none⟩ = some (.slice (some ⟨b, o, none⟩) (ofN h) c) ∧ ∀ i, i < ofN h → w.cell? ⟨b, o + i * 2, none⟩ = some (.int .i64 (ofP h i).1) ∧ w.cell? ⟨b, o + i * 2 + 1, none⟩ = some (.int .i64 (ofP h i).2)
theorem Tab.kept {w w' : World} (h : Tab w) (hg : w.grownBy w' none) : Tab w' := ⟨fun k h1 h2 => by
  obtain ⟨b, o, c, e1, e2⟩ := h.at_ k h1 h2
  exact ⟨b, o, c, hg.cell e1 (by simp), fun i hi => ⟨hg.cell (e2 i hi).1 (by simp), hg.cell (e2 i hi).2 (by simp)⟩⟩⟩
theorem ofP_bd (h i : Nat) : (-1 ≤ (ofP h i).1 ∧ (ofP h i).1 ≤ 1) ∧ (-1 ≤ (ofP h i).2 ∧ (ofP h i).2 ≤ 1) := by
  unfold ofP ofL
  split
  · match i with
    | 0 | 1 | 2 | 3 | 4 | 5 | 6 | 7 => decide
    | _ + 8 => exact (by decide : ((-1 : Int) ≤ 0 ∧ (0 : Int) ≤ 1) ∧ ((-1 : Int) ≤ 0 ∧ (0 : Int) ≤ 1))
  · split
    · match i with
      | 0 | 1 | 2 | 3 => decide
      | _ + 4 => exact (by decide : ((-1 : Int) ≤ 0 ∧ (0 : Int) ≤ 1) ∧ ((-1 : Int) ≤ 0 ∧ (0 : Int) ≤ 1))
    · match i with
      | 0 | 1 | 2 | 3 | 4 | 5 => decide
      | _ + 6 => exact (by decide : ((-1 : Int) ≤ 0 ∧ (0 : Int) ≤ 1) ∧ ((-1 : Int) ≤ 0 ∧ (0 : Int) ≤ 1))
theorem ofN_le (h : Nat) : ofN h ≤ 8 := by
  unfold ofN ofL
  split
  · decide
  · split <;> decide
set_option maxHeartbeats 1000000 in
theorem aroundY {C R : Nat} (hC : 1 ≤ C ∧ C ≤ 65536) (hR : 1 ≤ R ∧ R ≤ 65536) (hall : C * R ≤ 1048576) (sp : Option Addr) (c : Nat) (f : Nat → Nat) (h x y : Nat) (h1 : 1 ≤ h) (h3 : h ≤ 3) (hx : x < C) (hy : y < R) (w : World) (hb : By w sp ((C + 2) * (R + 2)) f) (hT : Tab w) :
    Calls Tryz.prog 24 #[.agg #[.int .i64 (C : Nat), .int .i64 (R : Nat), .slice sp ((C + 2) * (R + 2)) c], .int .u8 (h : Nat), .int .i64 (x : Nat), .int .i64 (y : Nat)] w fun e w' => ∃ d, e = .returned (.tuple #[.slice (some ⟨d, 0, none⟩) (ofN h) (ofN h), .int .i64 0]) ∧ w'.rowIs d 5 (ofN h) (fun i => .int .u8 (f (ixN C (x + (ofP h i).1) (y + (ofP h i).2)) : Nat)) ∧ w.heap.size ≤ d ∧ w.grownBy w' none := by
  have hck := fun w => checkF C R sp ((C + 2) * (R + 2)) c w
  have hfm : fmE C R ((C + 2) * (R + 2)) = 0 := by
    unfold fmE
    rw [if_pos ⟨by omega, by omega, by rw [← Int.natCast_mul]; omega, by simp⟩]
  rw [hfm] at hck
  obtain ⟨n, hn⟩ : ∃ n, (C + 2) * (R + 2) = n := ⟨_, rfl⟩
  rw [hn] at hck hb ⊢
  obtain ⟨a, ha⟩ := hb.some (by rw [← hn]; exact Nat.mul_pos (by omega) (by omega))
  subst ha
  obtain ⟨tb, to, tc, e1, e2⟩ := hT.at_ h h1 h3
  have hle := ofN_le h
  obtain ⟨m, hm⟩ : ∃ m, ofN h = m := ⟨_, rfl⟩
  rw [hm] at e1 e2 hle ⊢
  have hmk := run_make_row' (P := Tryz.prog) 24 5 (.int .u8 0) 1 under8S info8 rfl .i64 .i64 m (by omega) (by omega)
  obtain ⟨W1, hW1, sz1, g1, B1⟩ := boxn w #[.int .i64 (C : Nat), .int .i64 (R : Nat), .slice (some a) n c] 33
  have b1_0 := B1.cell 0 (v := .int .i64 (C : Nat)) rfl
  have b1_1 := B1.cell 1 (v := .int .i64 (R : Nat)) rfl
  have b1_2 := B1.cell 2 (v := .slice (some a) n c) rfl
  have hh1 : decide ((h : Int) < 1) = false := decide_eq_false (by omega)
  have hh2 : decide (4 ≤ (h : Int)) = false := decide_eq_false (by omega)
  have hh3 : decide ((x : Int) < 0) = false := decide_eq_false (by omega)
  have hh4 : decide ((y : Int) < 0) = false := decide_eq_false (by omega)
  have hx' : decide (C ≤ x) = false := decide_eq_false (by omega)
  have hy' : decide (R ≤ y) = false := decide_eq_false (by omega)
  go_enter Tryz.func24, Tryz.ntmps24
  go_wp2_with (go_at_call 23; refine (hck W1).mono ?_; rintro e V1 ⟨rfl, g2⟩; have B2 := B1.kept g2 (by simp); have b2_0 := B2.cell 0 (v := .int .i64 (C : Nat)) rfl; have b2_1 := B2.cell 1 (v := .int .i64 (R : Nat)) rfl; have b2_2 := B2.cell 2 (v := .slice (some a) n c) rfl; have t2 := (gb_trans g1 g2).cell e1 (by simp); obtain ⟨V2, hV2, sz2, g3, BV2⟩ := boxn V1 (madeCells #[.int .u8 0] m) 5; have hr3 := World.rowIs_made V1 (.int .u8 0) m 5; rw [hV2] at hr3; have G3 := gb_trans g1 (gb_trans g2 g3); have t3 := G3.cell e1 (by simp); have B3 := B2.kept g3 (by simp))
  have lV : V1.heap.size < V2.heap.size := BV2.lt
  have lw : w.heap.size ≤ V1.heap.size := (gb_trans g1 g2).size
  have lB := B2.lt
  have hS : ∀ i, i < m → ∃ q, ixN C (x + (ofP h i).1) (y + (ofP h i).2) = q ∧ q < n := fun i hi => by
    have := ofP_bd h i
    have h5 := ix_lt (C := C) (R := R) (u := x + (ofP h i).1) (v := y + (ofP h i).2) (by omega) (by omega)
    rw [hn] at h5
    exact ⟨_, rfl, h5⟩
  go_loopw [53] (fun i wr => ∃ q : Nat, q ≤ m ∧ i = .int .i64 (q : Nat) ∧ wr.rowIs V1.heap.size 5 m (fun i => if i < q then .int .u8 (f (ixN C (x + (ofP h i).1) (y + (ofP h i).2)) : Nat) else .int .u8 0) ∧ V2.grownBy wr (some V1.heap.size)) (fun i _ => m - (intOf i).toNat)
  case atStart => exact ⟨0, Nat.zero_le _, rfl, hr3.congr (fun i _ => by rw [if_neg (by omega)]), World.grownBy.refl _ _⟩
  case round =>
    obtain ⟨q, hq, rfl, hrow, gw⟩ := hrel
    by_cases hlt : q < m
    · have hi1 : (q : Int) < (m : Int) := by omega
      have Gq : w.grownBy wr none := gb_past G3 gw lw
      have bd := ofP_bd h q
      obtain ⟨ip, hip, hipn⟩ := hS q hlt
      have hidx := fun w => indexC C (x + (ofP h q).1) (y + (ofP h q).2) hC.2 (by omega) (by omega) w
      rw [hip] at hidx
      have HIP : Hid (ixN C (x + (ofP h q).1) (y + (ofP h q).2) = ip) := hip
      clear hip
      have k1 := Gq.cell (e2 q hlt).1 (by simp)
      have k2 := Gq.cell (e2 q hlt).2 (by simp)
      obtain ⟨px, hpx⟩ : ∃ v, (ofP h q).1 = v := ⟨_, rfl⟩
      obtain ⟨py, hpy⟩ : ∃ v, (ofP h q).2 = v := ⟨_, rfl⟩
      rw [hpx] at k1 hidx bd
      rw [hpy] at k2 hidx bd
      have HPX : Hid ((ofP h q).1 = px ∧ (ofP h q).2 = py) := ⟨hpx, hpy⟩
      clear hpx hpy
      have B5 := (B3.kept gw (by simp; omega))
      have b5_0 := B5.cell 0 (v := .int .i64 (C : Nat)) rfl
      have b5_1 := B5.cell 1 (v := .int .i64 (R : Nat)) rfl
      have b5_2 := B5.cell 2 (v := .slice (some a) n c) rfl
      obtain ⟨X1, hX1, szX, gX, BX⟩ := boxn wr #[.int .i64 px, .int .i64 py] 60
      have B6 := B5.kept gX (by simp)
      have b6_0 := B6.cell 0 (v := .int .i64 (C : Nat)) rfl
      have b6_1 := B6.cell 1 (v := .int .i64 (R : Nat)) rfl
      have b6_2 := B6.cell 2 (v := .slice (some a) n c) rfl
      have x0 := BX.cell 0 (v := .int .i64 px) rfl
      have x1 := BX.cell 1 (v := .int .i64 py) rfl
      have r6 := rowIs_kept hrow gX (by simp)
      have rq := r6.cell hlt
      have rf := r6.frozen q
      have hbc := ((hb.kept Gq (by simp)).kept gX (by simp)).at hipn
      have y1 : (ip : Int) < (n : Int) := by omega
      have y2 : IntKind.i64.wrap ((x : Int) + px) = (x : Int) + px := by rw [IntKind.wrap_i64]; omega
      have y3 : IntKind.i64.wrap ((y : Int) + py) = (y : Int) + py := by rw [IntKind.wrap_i64]; omega
      go_wp2
      refine region_tail 18 To.mixed (by kernel_rfl) ?_
      simp only [List.take_succ_cons, List.take_zero, List.drop_succ_cons, List.drop_zero]
      repeat still_step
      still_call (hidx _)
      repeat still_step
      refine wpStill_nil ?_
      go_wp2
      go_roundw
      case rel =>
        refine ⟨q + 1, hlt, by go_num, (World.rowIs.set (w := X1.drew) r6 q _).congr (fun i _ => ?_), gb_set (gb_drew (gb_none gw gX)) _ _⟩
        by_cases hx : i = q
        · subst hx
          rw [if_pos rfl, if_pos (by omega), HPX.out.1, HPX.out.2, ← HIP.out, HPX.out.1, HPX.out.2]
        · rw [if_neg hx]
          by_cases h4 : i < q
          · rw [if_pos h4, if_pos (by omega)]
          · rw [if_neg h4, if_neg (by omega)]
      case measure => simp [intOf]; omega
    · obtain rfl : q = m := by omega
      go_wp2
      go_ret2
      exact ⟨V1.heap.size, rfl, hrow.congr (fun i hi => by rw [if_pos hi]), lw, gb_past G3 gw lw⟩
end Go.Proofs.YtjndljjpbkfmiaaGreatDoor
namespace Go.Proofs.YtjndljjpbkfmiaaGreatDoor
open Go.RowKit
set_option linter.unusedVariables false
set_option linter.unusedSimpArgs false
set_option maxRecDepth 100000

theorem Fb.keptX {w w' : World} {b s q C R S : Nat} {g : Nat → Nat} {r : Option Nat} (h : Fb w b s q C R S g) (hg : w.grownBy w' r) (hr : ∀ i, r = some i → b ≠ i ∧ s ≠ i ∧ q ≠ i) : Fb w' b s q C R S g := by
  refine ⟨h.fld.kept hg (fun e => (hr _ e.symm).1 rfl), ?_⟩
  obtain ⟨K, k1, k2, f0, k3, k4⟩ := h.st.cap
  exact ⟨K, k1.kept hg (fun e => (hr _ e.symm).2.1 rfl), k2, f0, rowIs_kept k3 hg (fun e => (hr _ e.symm).2.2 rfl), k4⟩
theorem Fb.qlt {w : World} {b s q C R S : Nat} {g : Nat → Nat} (h : Fb w b s q C R S g) : b < w.heap.size ∧ s < w.heap.size ∧ q < w.heap.size := by
  obtain ⟨K, k1, k2, f0, ⟨c, hc, _⟩, k4⟩ := h.st.cap
  exact ⟨h.fld.lt, k1.lt, (Array.getElem?_eq_some_iff.1 hc).1⟩
/-- A field of bytes, by what its calls answer. -/
theorem Fb.fdm {b s q C R S : Nat} {g : Nat → Nat} (hz : Sz C R S) (n0 : Nat) (hn : b < n0 ∧ s < n0 ∧ q < n0) : FdM (fun X => Fb X b s q C R S g) n0 b C R S g :=
  ⟨fun X Y r h hg hr => h.keptX hg (fun i e => by have := hr i e; omega), fun X h => fW b s q C R S g X h, fun X h => fH b s q C R S g X h, fun X h => fStates b s q C R S g X h, fun y hy X h => fLineY b s q C R S g hz y hy X h⟩
theorem By.congr {w : World} {sp : Option Addr} {n : Nat} {f f' : Nat → Nat} (h : By w sp n f) (e : ∀ k, k < n → f k = f' k) : By w sp n f' := fun k hk => by
  rw [← e k hk]; exact h k hk
/-- A list of bytes as a function. -/
def lsF (l : List Nat) (k : Nat) : Nat := l.getD k 0
theorem lsF_lt (l : List Nat) (h : l.all (fun x => decide (x < 256)) = true) (k : Nat) : lsF l k < 256 := by
  unfold lsF
  rw [List.getD_eq_getElem?_getD]
  cases hk : l[k]? with
  | none => simp
  | some x =>
    have := List.all_eq_true.1 h x (List.mem_of_getElem? hk)
    simpa using this
theorem by_list (w : World) (l : List Nat) : By (w.alloc (.cells ((l.map fun x => Value.int .u8 (x : Nat)).toArray) 5)) (some ⟨w.heap.size, 0, none⟩) l.length (lsF l) := fun k hk => ⟨_, rfl, by
  have B := Bo.new w 5 ((l.map fun x => Value.int .u8 (x : Nat)).toArray)
  rw [add_mid, Nat.zero_add]
  refine B.cell k ?_
  unfold lsF
  simp [hk]⟩
theorem rowIs_by {w : World} {d n : Nat} {f : Nat → Nat} (h : w.rowIs d 5 n (fun x => .int .u8 (f x : Nat))) : By w (some ⟨d, 0, none⟩) n f := fun k hk => ⟨_, rfl, by rw [add_mid, Nat.zero_add]; exact h.cell hk⟩
theorem sz225 : Sz 2 2 5 := ⟨by decide, by decide, by decide, by decide, by decide, by decide, by decide⟩
theorem grA : Gr 4 0 0 2 2 := ⟨by decide, by decide, by decide, by decide⟩
/-- The cells of the example. -/
def gA1 (j : Nat) : Nat := if 0 * 2 ≤ j ∧ j < 0 * 2 + 2 then lsF [1, 2] (j - 0 * 2) else 0
def gA2 (j : Nat) : Nat := if 1 * 2 ≤ j ∧ j < 1 * 2 + 2 then lsF [3, 4] (j - 1 * 2) else gA1 j
theorem frA : ∀ i, i < 16 → frV 4 0 0 2 2 gA2 i = lsF [1, 4, 3, 2, 4, 1, 2, 3, 2, 3, 4, 1, 3, 2, 1, 4] i := by decide
theorem arA : ∀ i, i < 4 → lsF [1, 4, 3, 2, 4, 1, 2, 3, 2, 3, 4, 1, 3, 2, 1, 4] (ixN 2 (0 + (ofP 2 i).1) (0 + (ofP 2 i).2)) = lsF [4, 2, 3, 4] i := by decide
theorem a_new (w : World) : Calls Tryz.prog 31 #[.int .i64 2, .int .i64 2, .int .i64 5, .bool false] w fun e w' => ∃ b s q, e = .returned (.tuple #[.pointer (some ⟨b, 0, none⟩), .int .i64 0]) ∧ Fb w' b s q 2 2 5 (fun _ => 0) ∧ w.heap.size ≤ b ∧ w.heap.size ≤ s ∧ w.heap.size ≤ q ∧ w.grownBy w' none := newY 2 2 5 sz225 w
theorem a_lay0 {b s q a c : Nat} (w : World) (h : Fb w b s q 2 2 5 (fun _ => 0)) (hb : By w (some ⟨a, 0, none⟩) 2 (lsF [1, 2])) : Calls Tryz.prog 32 #[.pointer (some ⟨b, 0, none⟩), .int .i64 0, .slice (some ⟨a, 0, none⟩) 2 c] w fun e w' => e = .returned (.int .i64 0) ∧ Fb w' b s q 2 2 5 gA1 ∧ w.grownBy w' (some q) :=
  fLayY b s q 2 2 5 _ sz225 0 (by decide) _ c (lsF [1, 2]) (lsF_lt _ (by decide)) (fun k hk => by match k, hk with | 0, _ => decide | 1, _ => decide) w h hb
theorem a_lay1 {b s q a c : Nat} (w : World) (h : Fb w b s q 2 2 5 gA1) (hb : By w (some ⟨a, 0, none⟩) 2 (lsF [3, 4])) : Calls Tryz.prog 32 #[.pointer (some ⟨b, 0, none⟩), .int .i64 1, .slice (some ⟨a, 0, none⟩) 2 c] w fun e w' => e = .returned (.int .i64 0) ∧ Fb w' b s q 2 2 5 gA2 ∧ w.grownBy w' (some q) :=
  fLayY b s q 2 2 5 _ sz225 1 (by decide) _ c (lsF [3, 4]) (lsF_lt _ (by decide)) (fun k hk => by match k, hk with | 0, _ => decide | 1, _ => decide) w h hb
theorem a_bytes {b s q : Nat} (w : World) (h : Fb w b s q 2 2 5 gA2) : Calls Tryz.prog 11 #[.agg #[.int .u8 4, .int .i64 2, .int .i64 2, .int .u8 0, .int .i64 0], .pointer (some ⟨b, 0, none⟩)] w fun e w' => ∃ d, e = .returned (.tuple #[.agg #[.int .i64 2, .int .i64 2, .slice (some ⟨d, 0, none⟩) 16 16], .int .i64 0]) ∧ By w' (some ⟨d, 0, none⟩) 16 (lsF [1, 4, 3, 2, 4, 1, 2, 3, 2, 3, 4, 1, 3, 2, 1, 4]) ∧ w.heap.size ≤ d ∧ w.grownBy w' none := by
  refine (bytesY grA (Fb.fdm (g := gA2) sz225 w.heap.size h.qlt) w (Nat.le_refl _) h).mono ?_
  rintro e w' ⟨d, rfl, h1, h2, h3⟩
  exact ⟨d, rfl, (rowIs_by h1).congr frA, h2, h3⟩
theorem a_rows {b s q : Nat} (w : World) (h : Fb w b s q 2 2 5 gA2) : Calls Tryz.prog 19 #[.agg #[.int .u8 4, .int .i64 2, .int .i64 2, .int .u8 0, .int .i64 0], .pointer (some ⟨b, 0, none⟩)] w fun e w' => e = .returned (.tuple #[.slice none 0 0, .int .i64 132]) ∧ w.grownBy w' none := rowsP grA (Fb.fdm (g := gA2) sz225 w.heap.size h.qlt) (by decide) w h
theorem a_around {d : Nat} (w : World) (hT : Tab w) (h : By w (some ⟨d, 0, none⟩) 16 (lsF [1, 4, 3, 2, 4, 1, 2, 3, 2, 3, 4, 1, 3, 2, 1, 4])) : Calls Tryz.prog 24 #[.agg #[.int .i64 2, .int .i64 2, .slice (some ⟨d, 0, none⟩) 16 16], .int .u8 2, .int .i64 0, .int .i64 0] w fun e w' => ∃ l, e = .returned (.tuple #[.slice (some ⟨l, 0, none⟩) 4 4, .int .i64 0]) ∧ By w' (some ⟨l, 0, none⟩) 4 (lsF [4, 2, 3, 4]) ∧ w.heap.size ≤ l ∧ w.grownBy w' none := by
  refine (aroundY (C := 2) (R := 2) (by decide) (by decide) (by decide) (some ⟨d, 0, none⟩) 16 (lsF [1, 4, 3, 2, 4, 1, 2, 3, 2, 3, 4, 1, 3, 2, 1, 4]) 2 0 0 (by decide) (by decide) (by decide) (by decide) w h hT).mono ?_
  rintro e w' ⟨l, rfl, h1, h2, h3⟩
  exact ⟨l, rfl, (rowIs_by h1).congr arA, h2, h3⟩
set_option maxHeartbeats 1000000 in
theorem aliveC (w : World) (hT : Tab w) : Calls Tryz.prog 7 #[] w fun e w' => e = .returned (.bool true) ∧ w.grownBy w' none := by
  go_enter Tryz.func7, Tryz.ntmps7
  go_wp2_with (first | (go_at_call 31; refine (a_new w).mono ?_; rintro e V1 ⟨b, s, q, rfl, h1, lb, ls, lq, g1⟩; have c1 : By (V1.alloc (.cells #[.int .u8 1, .int .u8 2] 5)) (some ⟨V1.heap.size, 0, none⟩) 2 (lsF [1, 2]) := by_list V1 [1, 2]; have k1 : V1.grownBy (V1.alloc (.cells #[.int .u8 1, .int .u8 2] 5)) none := World.grownBy_alloc _ _ none; have h2 := h1.kept k1) | ((fail_if_success (guard_hyp g2)); go_at_call 32; refine (a_lay0 _ h2 c1).mono ?_; rintro e V2 ⟨rfl, h3, g2⟩; have c2 : By (V2.alloc (.cells #[.int .u8 3, .int .u8 4] 5)) (some ⟨V2.heap.size, 0, none⟩) 2 (lsF [3, 4]) := by_list V2 [3, 4]; have k2 : V2.grownBy (V2.alloc (.cells #[.int .u8 3, .int .u8 4] 5)) none := World.grownBy_alloc _ _ none; have h4 := h3.kept k2) | (guard_hyp g2; go_at_call 32; refine (a_lay1 _ h4 c2).mono ?_; rintro e V3 ⟨rfl, h5, g3⟩; have G3 := gb_past (gb_trans (gb_past (gb_trans g1 k1) g2 lq) k2) g3 lq; have T3 := hT.kept G3) | (go_at_call 11; refine (a_bytes V3 h5).mono ?_; rintro e V4 ⟨d, rfl, h6, ld, g4⟩; obtain ⟨V5, hV5, sz5, g5, B5⟩ := boxn V4 #[.int .i64 2, .int .i64 2, .slice (some ⟨d, 0, none⟩) 16 16] 33; have h7 := h6.kept g5 (by simp); have h8 := h5.kept (gb_trans g4 g5); have T5 := T3.kept (gb_trans g4 g5); have b5_0 := B5.cell 0 (v := .int .i64 2) rfl; have b5_1 := B5.cell 1 (v := .int .i64 2) rfl; have b5_2 := B5.cell 2 (v := .slice (some ⟨d, 0, none⟩) 16 16) rfl) | (go_at_call 24; refine (a_around V5 T5 h7).mono ?_; rintro e V6 ⟨l, rfl, h9, ll, g6⟩; have h10 := h8.kept g6) | (go_at_call 19; refine (a_rows V6 h10).mono ?_; rintro e V7 ⟨rfl, g7⟩; have g67 := gb_trans g6 g7; have B7 := B5.kept g67 (by simp); have b7_0 := B7.cell 0 (v := .int .i64 2) rfl; have b7_1 := B7.cell 1 (v := .int .i64 2) rfl; have b7_2 := B7.cell 2 (v := .slice (some ⟨d, 0, none⟩) 16 16) rfl; have h11 := h7.kept g67 (by simp); have h12 := h9.kept g7 (by simp); have cs1 := by_str 16 h11 (lsF_lt _ (by decide)); obtain ⟨V8, hV8⟩ : ∃ V8, V7.alloc (.cells #[.int .u8 1, .int .u8 4, .int .u8 3, .int .u8 2, .int .u8 4, .int .u8 1, .int .u8 2, .int .u8 3, .int .u8 2, .int .u8 3, .int .u8 4, .int .u8 1, .int .u8 3, .int .u8 2, .int .u8 1, .int .u8 4] 5) = V8 := ⟨_, rfl⟩; have c3 : By V8 (some ⟨V7.heap.size, 0, none⟩) 16 (lsF [1, 4, 3, 2, 4, 1, 2, 3, 2, 3, 4, 1, 3, 2, 1, 4]) := hV8 ▸ by_list V7 [1, 4, 3, 2, 4, 1, 2, 3, 2, 3, 4, 1, 3, 2, 1, 4]; have k3 : V7.grownBy V8 none := hV8 ▸ World.grownBy_alloc _ _ none; have cs2 := by_str 16 c3 (lsF_lt _ (by decide)); have h13 := h12.kept k3 (by simp); have cs3 := by_str 4 h13 (lsF_lt _ (by decide)); obtain ⟨V9, hV9⟩ : ∃ V9, V8.alloc (.cells #[.int .u8 4, .int .u8 2, .int .u8 3, .int .u8 4] 5) = V9 := ⟨_, rfl⟩; have c4 : By V9 (some ⟨V8.heap.size, 0, none⟩) 4 (lsF [4, 2, 3, 4]) := hV9 ▸ by_list V8 [4, 2, 3, 4]; have k4 : V8.grownBy V9 none := hV9 ▸ World.grownBy_alloc _ _ none; have cs4 := by_str 4 c4 (lsF_lt _ (by decide))))
  go_ret
  exact ⟨rfl, gb_trans G3 (gb_trans g4 (gb_trans g5 (gb_trans g67 (gb_trans k3 k4))))⟩
end Go.Proofs.YtjndljjpbkfmiaaGreatDoor
