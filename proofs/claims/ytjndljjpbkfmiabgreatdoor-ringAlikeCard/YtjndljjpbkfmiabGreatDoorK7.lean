/- Rows of package ring. -/
import Derived.Test.YtjndljjpbkfmiabGreatDoorK6
import Derived.Test.YtjndljjpbkfmiabGreatDoorK4b
namespace Go.Proofs.YtjndljjpbkfmiabGreatDoor
open Go.RowKit
set_option linter.unusedVariables false
set_option linter.unusedSimpArgs false
set_option maxRecDepth 100000

theorem cg_gr {k t z : Int} {C R : Nat} (G : Gr k t z C R) : cgE k C R t z C R = 0 := by
  have := G.r0
  have := G.c0
  unfold cgE
  rw [if_neg (by rw [G.chk]; simp), if_neg (by omega), if_neg (by simp)]
/-- Which cells of a row live. -/
theorem livingR {M : World → Prop} {n0 b C R S : Nat} {g : Nat → Nat} (F : FdM M n0 b C R S g) (hC : C ≤ 65536) (h256 : ∀ i, g i < 256) (y : Nat) (hy : y < R) (w : World) (hM : M w) : Calls Tryz.prog 23 #[.pointer (some ⟨b, 0, none⟩), .int .i64 (y : Nat)] w fun e w' => ∃ d, e = .returned (.slice (some ⟨d, 0, none⟩) C C) ∧ w'.rowIs d 4 C (fun x => .bool (lvB (g (y * C + x)))) ∧ w.heap.size ≤ d ∧ w.grownBy w' none := by
  have hs := statesC F y hy w hM
  have hmk := run_make_row' (P := Tryz.prog) 62 4 (.bool false) 1 underbS' infob' rfl .i64 .i64 C (by omega) (by omega)
  go_enter Tryz.func23, Tryz.ntmps23
  go_wp2_with (go_at_call 19; refine hs.mono ?_; rintro e V1 ⟨d, rfl, h1, h2, h3⟩; obtain ⟨V2, hV2, sz2, g2, B2⟩ := boxn V1 (madeCells #[.bool false] C) 4; have hr2 := World.rowIs_made V1 (.bool false) C 4; rw [hV2] at hr2)
  have lt1 : d < V1.heap.size := by
    obtain ⟨c, hc, _⟩ := h1
    exact (Array.getElem?_eq_some_iff.1 hc).1
  go_loopw [17] (fun i wr => ∃ q : Nat, q ≤ C ∧ i = .int .i64 (q : Nat) ∧ wr.rowIs V1.heap.size 4 C (fun x => if x < q then .bool (lvB (g (y * C + x))) else .bool false) ∧ V2.grownBy wr (some V1.heap.size)) (fun i _ => C - (intOf i).toNat)
  case atStart => exact ⟨0, Nat.zero_le _, rfl, hr2.congr (fun x _ => by rw [if_neg (by omega)]), World.grownBy.refl _ _⟩
  case round =>
    obtain ⟨q, hq, rfl, hrow, gw⟩ := hrel
    by_cases hlt : q < C
    · have hi1 : (q : Int) < (C : Int) := by omega
      have hln := rowIs_kept (rowIs_kept h1 g2 (by simp)) gw (by simp; omega)
      have hc := hln.cell hlt
      have hd := hrow.cell hlt
      have hf := hrow.frozen q
      have hlv : (((g (y * C + q) : Nat) : Int) != 0) = lvB (g (y * C + q)) := by
        unfold lvB
        by_cases h0 : g (y * C + q) = 0
        · simp [h0]
        · have : ((g (y * C + q) : Nat) : Int) ≠ 0 := by omega
          simp [h0]
      go_wp2
      go_roundw
      case rel =>
        refine ⟨q + 1, hlt, by go_num, (hrow.set q _).congr (fun x _ => ?_), gb_set gw _ _⟩
        by_cases hx : x = q
        · subst hx
          rw [if_pos rfl, if_pos (by omega)]
        · rw [if_neg hx]
          by_cases h4 : x < q
          · rw [if_pos h4, if_pos (by omega)]
          · rw [if_neg h4, if_neg (by omega)]
      case measure => simp [intOf]; omega
    · obtain rfl : q = C := by omega
      go_wp2
      go_ret
      exact ⟨V1.heap.size, rfl, hrow.congr (fun x hx => by rw [if_pos hx]), h3.size, gb_past (gb_trans h3 g2) gw h3.size⟩
theorem rows1C {M : World → Prop} {n0 b C R S : Nat} {g : Nat → Nat} (F : FdM M n0 b C R S g) (hC : C ≤ 65536) (h256 : ∀ i, g i < 256) (bf : Nat) (y : Nat) (hy : y < R) (w : World) (hM : M w) (hb : Bo w bf 29 #[.pointer (some ⟨b, 0, none⟩)]) : Calls Tryz.prog 22 #[.int .i64 (y : Nat), .pointer (some ⟨bf, 0, none⟩)] w fun e w' => ∃ d, e = .returned (.slice (some ⟨d, 0, none⟩) C C) ∧ w'.rowIs d 4 C (fun x => .bool (lvB (g (y * C + x)))) ∧ w.heap.size ≤ d ∧ w.grownBy w' none := by
  have hs := livingR F hC h256 y hy w hM
  have h0 := hb.cell 0 (v := .pointer (some ⟨b, 0, none⟩)) rfl
  go_enter Tryz.func22, Tryz.ntmps22
  go_wp2_with (go_at_call 23; refine hs.mono ?_; rintro e V1 ⟨d, rfl, h1, h2, h3⟩)
  go_ret
  exact ⟨d, rfl, h1, h2, h3⟩
set_option maxHeartbeats 1000000 in
theorem rowsX (k x y t z E : Int) (p : Option Addr) (w : World) (hE : (E == 0) = false) (hc : ∀ w', w.grownBy w' none → Calls Tryz.prog 16 #[.agg #[.int .u8 k, .int .i64 x, .int .i64 y, .int .u8 t, .int .i64 z], .pointer p] w' fun e w2 => e = .returned (.int .i64 E) ∧ w'.grownBy w2 none) :
    Calls Tryz.prog 8 #[.agg #[.int .u8 k, .int .i64 x, .int .i64 y, .int .u8 t, .int .i64 z], .pointer p] w fun e w' => e = .returned (.tuple #[.slice none 0 0, .int .i64 E]) ∧ w.grownBy w' none := by
  obtain ⟨W1, hW1, sz1, g1, B1⟩ := boxn w #[.int .u8 k, .int .i64 x, .int .i64 y, .int .u8 t, .int .i64 z] 27
  obtain ⟨W2, hW2, sz2, g2, B2⟩ := boxn W1 #[.pointer p] 29
  have G2 := gb_trans g1 g2
  have T2 := B1.kept g2 (by simp)
  have F2 := B2
  have t2_0 := T2.cell 0 (v := .int .u8 k) rfl
  have t2_1 := T2.cell 1 (v := .int .i64 x) rfl
  have t2_2 := T2.cell 2 (v := .int .i64 y) rfl
  have t2_3 := T2.cell 3 (v := .int .u8 t) rfl
  have t2_4 := T2.cell 4 (v := .int .i64 z) rfl
  have f2 := F2.cell 0 (v := .pointer p) rfl
  have hc2 := hc W2 G2
  go_enter Tryz.func8, Tryz.ntmps8
  go_wp2_with (go_at_call 16; refine hc2.mono ?_; rintro e V1 ⟨rfl, g4⟩)
  go_ret2
  exact ⟨rfl, gb_trans G2 g4⟩
set_option maxHeartbeats 1000000 in
theorem rowsP {k t z : Int} {C R : Nat} (G : Gr k t z C R) {M : World → Prop} {n0 b S : Nat} {g : Nat → Nat} (F : FdM M n0 b C R S g) (hS : 2 < S) (w : World) (hM : M w) :
    Calls Tryz.prog 8 #[.agg #[.int .u8 k, .int .i64 (C : Nat), .int .i64 (R : Nat), .int .u8 t, .int .i64 z], .pointer (some ⟨b, 0, none⟩)] w fun e w' => e = .returned (.tuple #[.slice none 0 0, .int .i64 132]) ∧ w.grownBy w' none := by
  have hc0 := G.c0
  have hcg := cg_gr G
  obtain ⟨W1, hW1, sz1, g1, B1⟩ := boxn w #[.int .u8 k, .int .i64 (C : Nat), .int .i64 (R : Nat), .int .u8 t, .int .i64 z] 27
  obtain ⟨W2, hW2, sz2, g2, B2⟩ := boxn W1 #[.pointer (some ⟨b, 0, none⟩)] 29
  have G2 := gb_trans g1 g2
  have T2 := B1.kept g2 (by simp)
  have F2 := B2
  have t2_0 := T2.cell 0 (v := .int .u8 k) rfl
  have t2_1 := T2.cell 1 (v := .int .i64 (C : Nat)) rfl
  have t2_2 := T2.cell 2 (v := .int .i64 (R : Nat)) rfl
  have t2_3 := T2.cell 3 (v := .int .u8 t) rfl
  have t2_4 := T2.cell 4 (v := .int .i64 z) rfl
  have f2 := F2.cell 0 (v := .pointer (some ⟨b, 0, none⟩)) rfl
  have M2 := F.grown hM G2
  have hc2 := checkGridC F hc0 k C R t z G.t0 W2 M2
  rw [hcg] at hc2
  have hS' : (2 : Int) < (S : Int) := by omega
  go_enter Tryz.func8, Tryz.ntmps8
  go_wp2_with (first | (go_at_call 16; refine hc2.mono ?_; rintro e V1 ⟨rfl, g4⟩; have F4 := F2.kept g4 (by simp); have f4 := F4.cell 0 (v := .pointer (some ⟨b, 0, none⟩)) rfl; have M4 := F.grown M2 g4) | (go_at_call 20; refine (F.states V1 M4).mono ?_; rintro e V2 ⟨rfl, g5⟩))
  go_ret2
  exact ⟨rfl, gb_trans G2 (gb_trans g4 g5)⟩
end Go.Proofs.YtjndljjpbkfmiabGreatDoor
