/- Around: the document's and package ring's, whatever they are asked. -/
import Derived.Test.YtjndljjpbkfmiaaGreatDoorK20
import Derived.Test.YtjndljjpbkfmiaaGreatDoorK4u
import Derived.Deep.AppendLies
import Derived.Deep.RegionHeldLaw
namespace Go.Proofs.YtjndljjpbkfmiaaGreatDoor
open Go.RowKit
set_option linter.unusedVariables false
set_option linter.unusedSimpArgs false
set_option maxRecDepth 100000

set_option maxHeartbeats 1000000 in
theorem around1 (x y u v : Int) (h : Nat) (sp : Option Addr) (n c : Nat) (hE : fmE x y n = 140) (w : World) : Calls Tryz.prog 24 #[.agg #[.int .i64 x, .int .i64 y, .slice sp n c], .int .u8 (h : Nat), .int .i64 u, .int .i64 v] w fun e w' => e = .returned (.tuple #[.slice none 0 0, .int .i64 140]) ∧ w.grownBy w' none := by
  obtain ⟨W1, hW1, sz1, g1, B1⟩ := boxn w #[.int .i64 x, .int .i64 y, .slice sp n c] 33
  have b1_0 := B1.cell 0 (v := .int .i64 x) rfl
  have b1_1 := B1.cell 1 (v := .int .i64 y) rfl
  have b1_2 := B1.cell 2 (v := .slice sp n c) rfl
  have hc := checkF x y sp n c W1
  rw [hE] at hc
  go_enter Tryz.func24, Tryz.ntmps24
  go_wp2_with (go_at_call 23; refine hc.mono ?_; rintro e V1 ⟨rfl, g2⟩)
  go_ret2
  exact ⟨rfl, gb_trans g1 g2⟩
set_option maxHeartbeats 1000000 in
theorem around2 (x y u v : Int) (h : Nat) (h255 : h ≤ 255) (hn : ¬ (1 ≤ h ∧ h ≤ 3)) (sp : Option Addr) (n c : Nat) (hE : fmE x y n = 0) (w : World) : Calls Tryz.prog 24 #[.agg #[.int .i64 x, .int .i64 y, .slice sp n c], .int .u8 (h : Nat), .int .i64 u, .int .i64 v] w fun e w' => e = .returned (.tuple #[.slice none 0 0, .int .i64 70]) ∧ w.grownBy w' none := by
  obtain ⟨W1, hW1, sz1, g1, B1⟩ := boxn w #[.int .i64 x, .int .i64 y, .slice sp n c] 33
  have b1_0 := B1.cell 0 (v := .int .i64 x) rfl
  have b1_1 := B1.cell 1 (v := .int .i64 y) rfl
  have b1_2 := B1.cell 2 (v := .slice sp n c) rfl
  have hc := checkF x y sp n c W1
  rw [hE] at hc
  by_cases h0 : h < 1
  · have q1 : (h : Int) < 1 := by omega
    go_enter Tryz.func24, Tryz.ntmps24
    go_wp2_with (go_at_call 23; refine hc.mono ?_; rintro e V1 ⟨rfl, g2⟩)
    go_ret2
    exact ⟨rfl, gb_trans g1 g2⟩
  · have q1 : ¬ (h : Int) < 1 := by omega
    have q2 : (4 : Int) ≤ (h : Int) := by omega
    go_enter Tryz.func24, Tryz.ntmps24
    go_wp2_with (go_at_call 23; refine hc.mono ?_; rintro e V1 ⟨rfl, g2⟩)
    go_ret2
    exact ⟨rfl, gb_trans g1 g2⟩
set_option maxHeartbeats 1000000 in
theorem around3 (x y u v : Int) (h : Nat) (h1 : 1 ≤ h) (h3 : h ≤ 3) (sp : Option Addr) (n c : Nat) (hE : fmE x y n = 0) (hp : ¬ (0 ≤ u ∧ u < x ∧ 0 ≤ v ∧ v < y)) (w : World) : Calls Tryz.prog 24 #[.agg #[.int .i64 x, .int .i64 y, .slice sp n c], .int .u8 (h : Nat), .int .i64 u, .int .i64 v] w fun e w' => e = .returned (.tuple #[.slice none 0 0, .int .i64 130]) ∧ w.grownBy w' none := by
  obtain ⟨W1, hW1, sz1, g1, B1⟩ := boxn w #[.int .i64 x, .int .i64 y, .slice sp n c] 33
  have b1_0 := B1.cell 0 (v := .int .i64 x) rfl
  have b1_1 := B1.cell 1 (v := .int .i64 y) rfl
  have b1_2 := B1.cell 2 (v := .slice sp n c) rfl
  have hc := checkF x y sp n c W1
  rw [hE] at hc
  have q1 : ¬ (h : Int) < 1 := by omega
  have q2 : ¬ (4 : Int) ≤ (h : Int) := by omega
  by_cases p0 : u < 0
  · clear hp
    go_enter Tryz.func24, Tryz.ntmps24
    go_wp2_with (first | (go_at_call 23; refine hc.mono ?_; rintro e V1 ⟨rfl, g2⟩; have B2 := B1.kept g2 (by simp); have b2_0 := B2.cell 0 (v := .int .i64 x) rfl; have b2_1 := B2.cell 1 (v := .int .i64 y) rfl; have b2_2 := B2.cell 2 (v := .slice sp n c) rfl))
    go_ret2
    exact ⟨rfl, gb_trans g1 g2⟩
  · have d0 : decide (u < 0) = false := decide_eq_false p0
    by_cases p1 : x ≤ u
    · clear hp
      go_enter Tryz.func24, Tryz.ntmps24
      go_wp2_with (first | (go_at_call 23; refine hc.mono ?_; rintro e V1 ⟨rfl, g2⟩; have B2 := B1.kept g2 (by simp); have b2_0 := B2.cell 0 (v := .int .i64 x) rfl; have b2_1 := B2.cell 1 (v := .int .i64 y) rfl; have b2_2 := B2.cell 2 (v := .slice sp n c) rfl))
      go_ret2
      exact ⟨rfl, gb_trans g1 g2⟩
    · have d1 : decide (x ≤ u) = false := decide_eq_false p1
      by_cases p2 : v < 0
      · clear hp
        go_enter Tryz.func24, Tryz.ntmps24
        go_wp2_with (first | (go_at_call 23; refine hc.mono ?_; rintro e V1 ⟨rfl, g2⟩; have B2 := B1.kept g2 (by simp); have b2_0 := B2.cell 0 (v := .int .i64 x) rfl; have b2_1 := B2.cell 1 (v := .int .i64 y) rfl; have b2_2 := B2.cell 2 (v := .slice sp n c) rfl))
        go_ret2
        exact ⟨rfl, gb_trans g1 g2⟩
      · have d2 : decide (v < 0) = false := decide_eq_false p2
        by_cases p3 : y ≤ v
        · clear hp
          go_enter Tryz.func24, Tryz.ntmps24
          go_wp2_with (first | (go_at_call 23; refine hc.mono ?_; rintro e V1 ⟨rfl, g2⟩; have B2 := B1.kept g2 (by simp); have b2_0 := B2.cell 0 (v := .int .i64 x) rfl; have b2_1 := B2.cell 1 (v := .int .i64 y) rfl; have b2_2 := B2.cell 2 (v := .slice sp n c) rfl))
          go_ret2
          exact ⟨rfl, gb_trans g1 g2⟩
        · have d3 : decide (y ≤ v) = false := decide_eq_false p3
          exact absurd (by omega) hp

set_option maxHeartbeats 1000000 in
theorem refAround1 (x y u v : Int) (h : Nat) (sp : Option Addr) (n c : Nat) (hE : fmE x y n = 140) (w : World) : Calls Tryz.prog 22 #[.agg #[.int .i64 x, .int .i64 y, .slice sp n c], .int .u8 (h : Nat), .int .i64 u, .int .i64 v] w fun e w' => e = .returned (.tuple #[.slice none 0 0, .int .i64 140]) ∧ w.grownBy w' none := by
  obtain ⟨W1, hW1, sz1, g1, B1⟩ := boxn w #[.int .i64 x, .int .i64 y, .slice sp n c] 33
  have b1_0 := B1.cell 0 (v := .int .i64 x) rfl
  have b1_1 := B1.cell 1 (v := .int .i64 y) rfl
  have b1_2 := B1.cell 2 (v := .slice sp n c) rfl
  have hc := refCheckF x y sp n c W1
  rw [hE] at hc
  go_enter Tryz.func22, Tryz.ntmps22
  go_wp2_with (go_at_call 25; refine hc.mono ?_; rintro e V1 ⟨rfl, g2⟩)
  go_ret2
  exact ⟨rfl, gb_trans g1 g2⟩
set_option maxHeartbeats 1000000 in
theorem refAround2 (x y u v : Int) (h : Nat) (h255 : h ≤ 255) (hn : ¬ (1 ≤ h ∧ h ≤ 3)) (sp : Option Addr) (n c : Nat) (hE : fmE x y n = 0) (w : World) : Calls Tryz.prog 22 #[.agg #[.int .i64 x, .int .i64 y, .slice sp n c], .int .u8 (h : Nat), .int .i64 u, .int .i64 v] w fun e w' => e = .returned (.tuple #[.slice none 0 0, .int .i64 70]) ∧ w.grownBy w' none := by
  obtain ⟨W1, hW1, sz1, g1, B1⟩ := boxn w #[.int .i64 x, .int .i64 y, .slice sp n c] 33
  have b1_0 := B1.cell 0 (v := .int .i64 x) rfl
  have b1_1 := B1.cell 1 (v := .int .i64 y) rfl
  have b1_2 := B1.cell 2 (v := .slice sp n c) rfl
  have hc := refCheckF x y sp n c W1
  rw [hE] at hc
  have ho := fun w => refOffN h hn w
  go_enter Tryz.func22, Tryz.ntmps22
  go_wp2_with (first | (go_at_call 25; refine hc.mono ?_; rintro e V1 ⟨rfl, g2⟩) | (go_at_call 53; refine (ho V1).mono ?_; rintro e V2 ⟨rfl, g3⟩))
  go_ret2
  exact ⟨rfl, gb_trans g1 (gb_trans g2 g3)⟩
set_option maxHeartbeats 1000000 in
theorem refAround3 (x y u v : Int) (h : Nat) (h1 : 1 ≤ h) (h3 : h ≤ 3) (sp : Option Addr) (n c : Nat) (hE : fmE x y n = 0) (hp : ¬ (0 ≤ u ∧ u < x ∧ 0 ≤ v ∧ v < y)) (w : World) : Calls Tryz.prog 22 #[.agg #[.int .i64 x, .int .i64 y, .slice sp n c], .int .u8 (h : Nat), .int .i64 u, .int .i64 v] w fun e w' => e = .returned (.tuple #[.slice none 0 0, .int .i64 130]) ∧ w.grownBy w' none := by
  obtain ⟨W1, hW1, sz1, g1, B1⟩ := boxn w #[.int .i64 x, .int .i64 y, .slice sp n c] 33
  have b1_0 := B1.cell 0 (v := .int .i64 x) rfl
  have b1_1 := B1.cell 1 (v := .int .i64 y) rfl
  have b1_2 := B1.cell 2 (v := .slice sp n c) rfl
  have hc := refCheckF x y sp n c W1
  rw [hE] at hc
  have ho := fun w => refOffY h h1 h3 w
  by_cases p0 : u < 0
  · clear hp
    go_enter Tryz.func22, Tryz.ntmps22
    go_wp2_with (first | (go_at_call 25; refine hc.mono ?_; rintro e V1 ⟨rfl, g2⟩; have B2 := B1.kept g2 (by simp); have b2_0 := B2.cell 0 (v := .int .i64 x) rfl; have b2_1 := B2.cell 1 (v := .int .i64 y) rfl; have b2_2 := B2.cell 2 (v := .slice sp n c) rfl) | (go_at_call 53; refine (ho V1).mono ?_; rintro e V2 ⟨b, rfl, _, _, g3⟩; have B3 := B2.kept g3 (by simp); have b3_0 := B3.cell 0 (v := .int .i64 x) rfl; have b3_1 := B3.cell 1 (v := .int .i64 y) rfl; have b3_2 := B3.cell 2 (v := .slice sp n c) rfl))
    go_ret2
    exact ⟨rfl, gb_trans g1 (gb_trans g2 g3)⟩
  · have d0 : decide (u < 0) = false := decide_eq_false p0
    by_cases p1 : x ≤ u
    · clear hp
      go_enter Tryz.func22, Tryz.ntmps22
      go_wp2_with (first | (go_at_call 25; refine hc.mono ?_; rintro e V1 ⟨rfl, g2⟩; have B2 := B1.kept g2 (by simp); have b2_0 := B2.cell 0 (v := .int .i64 x) rfl; have b2_1 := B2.cell 1 (v := .int .i64 y) rfl; have b2_2 := B2.cell 2 (v := .slice sp n c) rfl) | (go_at_call 53; refine (ho V1).mono ?_; rintro e V2 ⟨b, rfl, _, _, g3⟩; have B3 := B2.kept g3 (by simp); have b3_0 := B3.cell 0 (v := .int .i64 x) rfl; have b3_1 := B3.cell 1 (v := .int .i64 y) rfl; have b3_2 := B3.cell 2 (v := .slice sp n c) rfl))
      go_ret2
      exact ⟨rfl, gb_trans g1 (gb_trans g2 g3)⟩
    · have d1 : decide (x ≤ u) = false := decide_eq_false p1
      by_cases p2 : v < 0
      · clear hp
        go_enter Tryz.func22, Tryz.ntmps22
        go_wp2_with (first | (go_at_call 25; refine hc.mono ?_; rintro e V1 ⟨rfl, g2⟩; have B2 := B1.kept g2 (by simp); have b2_0 := B2.cell 0 (v := .int .i64 x) rfl; have b2_1 := B2.cell 1 (v := .int .i64 y) rfl; have b2_2 := B2.cell 2 (v := .slice sp n c) rfl) | (go_at_call 53; refine (ho V1).mono ?_; rintro e V2 ⟨b, rfl, _, _, g3⟩; have B3 := B2.kept g3 (by simp); have b3_0 := B3.cell 0 (v := .int .i64 x) rfl; have b3_1 := B3.cell 1 (v := .int .i64 y) rfl; have b3_2 := B3.cell 2 (v := .slice sp n c) rfl))
        go_ret2
        exact ⟨rfl, gb_trans g1 (gb_trans g2 g3)⟩
      · have d2 : decide (v < 0) = false := decide_eq_false p2
        by_cases p3 : y ≤ v
        · clear hp
          go_enter Tryz.func22, Tryz.ntmps22
          go_wp2_with (first | (go_at_call 25; refine hc.mono ?_; rintro e V1 ⟨rfl, g2⟩; have B2 := B1.kept g2 (by simp); have b2_0 := B2.cell 0 (v := .int .i64 x) rfl; have b2_1 := B2.cell 1 (v := .int .i64 y) rfl; have b2_2 := B2.cell 2 (v := .slice sp n c) rfl) | (go_at_call 53; refine (ho V1).mono ?_; rintro e V2 ⟨b, rfl, _, _, g3⟩; have B3 := B2.kept g3 (by simp); have b3_0 := B3.cell 0 (v := .int .i64 x) rfl; have b3_1 := B3.cell 1 (v := .int .i64 y) rfl; have b3_2 := B3.cell 2 (v := .slice sp n c) rfl))
          go_ret2
          exact ⟨rfl, gb_trans g1 (gb_trans g2 g3)⟩
        · have d3 : decide (y ≤ v) = false := decide_eq_false p3
          exact absurd (by omega) hp

theorem new1 (w : World) (v : Value) : ∀ (l : Nat) (u : Value), [v][l]? = some u → (w.alloc (.cells #[v] 5)).cell? ((⟨w.heap.size, 0, none⟩ : Addr).add l) = some u := fun l u h => by
  match l, h with
  | 0, h =>
    cases h
    exact (Bo.new w 5 #[v]).cell 0 rfl
theorem own_mono {w : World} {base base' : Nat} {e : TypeId} {size : Nat} {v : Value} {n : Nat} {xs : List Value} (h : w.ownsRow base e size v n xs) (hb : base' ≤ base) : w.ownsRow base' e size v n xs :=
  ⟨h.1, h.2.imp id fun ⟨g, cap, cur, h1, h2, h3⟩ => ⟨g, cap, cur, h1, Nat.le_trans hb h2, h3⟩⟩
theorem bysV_succ (f : Nat → Nat) (m : Nat) : bysV f (m + 1) = bysV f m ++ [.int .u8 (f m : Nat)] := by simp [bysV, List.range_succ]
set_option maxHeartbeats 1000000 in
theorem refAroundY {C R : Nat} (hC : 1 ≤ C ∧ C ≤ 65536) (hR : 1 ≤ R ∧ R ≤ 65536) (sp : Option Addr) (n c : Nat) (hn : n = (C + 2) * (R + 2)) (hE : fmE C R n = 0) (f : Nat → Nat) (h x y : Nat) (h1 : 1 ≤ h) (h3 : h ≤ 3) (hx : x < C) (hy : y < R) (w : World) (hb : By w sp n f) :
    Calls Tryz.prog 22 #[.agg #[.int .i64 (C : Nat), .int .i64 (R : Nat), .slice sp n c], .int .u8 (h : Nat), .int .i64 (x : Nat), .int .i64 (y : Nat)] w fun e w' => ∃ v, e = .returned (.tuple #[v, .int .i64 0]) ∧ w'.ownsRow w.heap.size 5 1 v (ofN h) (bysV (fun i => f (ixN C (x + (ofP h i).1) (y + (ofP h i).2))) (ofN h)) ∧ w.grownBy w' none := by
  obtain ⟨a, ha⟩ := hb.some (by rw [hn]; exact Nat.mul_pos (by omega) (by omega))
  subst ha
  obtain ⟨i8, HI8⟩ : ∃ i, Hid (Tryz.prog.info? 5 = some i ∧ i.zero = some (.int .u8 0) ∧ i.size = 1 ∧ i.bytes = 1) := by
    obtain ⟨i, h1, h2, h3, h4⟩ := info_parts info8
    exact ⟨i, h1, h2, h3, h4⟩
  obtain ⟨W1, hW1, sz1, g1, B1⟩ := boxn w #[.int .i64 (C : Nat), .int .i64 (R : Nat), .slice (some a) n c] 33
  have b1_0 := B1.cell 0 (v := .int .i64 (C : Nat)) rfl
  have b1_1 := B1.cell 1 (v := .int .i64 (R : Nat)) rfl
  have b1_2 := B1.cell 2 (v := .slice (some a) n c) rfl
  have hc := refCheckF C R (some a) n c W1
  rw [hE] at hc
  have ho := fun w => refOffY h h1 h3 w
  have hh3 : decide ((x : Int) < 0) = false := decide_eq_false (by omega)
  have hh4 : decide ((y : Int) < 0) = false := decide_eq_false (by omega)
  have hx' : decide (C ≤ x) = false := decide_eq_false (by omega)
  have hy' : decide (R ≤ y) = false := decide_eq_false (by omega)
  have hle := ofN_le h
  obtain ⟨m, hm⟩ : ∃ m, ofN h = m := ⟨_, rfl⟩
  rw [hm] at hle ho ⊢
  have HN : Hid (n = (C + 2) * (R + 2)) := hn
  clear hn
  obtain ⟨F, hF⟩ : ∃ F : Nat → Nat, (fun i => f (ixN C (x + (ofP h i).1) (y + (ofP h i).2))) = F := ⟨_, rfl⟩
  rw [hF]
  have HF : Hid (∀ i, F i = f (ixN C (x + (ofP h i).1) (y + (ofP h i).2))) := by intro i; rw [← hF]
  clear hF
  go_enter Tryz.func22, Tryz.ntmps22
  go_wp2_with (first | (go_at_call 25; refine hc.mono ?_; rintro e V1 ⟨rfl, g2⟩; have B2 := B1.kept g2 (by simp); have b2_0 := B2.cell 0 (v := .int .i64 (C : Nat)) rfl; have b2_1 := B2.cell 1 (v := .int .i64 (R : Nat)) rfl; have b2_2 := B2.cell 2 (v := .slice (some a) n c) rfl) | (go_at_call 53; refine (ho V1).mono ?_; rintro e V2 ⟨ob, rfl, hob, lob, g3⟩; have B3 := B2.kept g3 (by simp); have b3_0 := B3.cell 0 (v := .int .i64 (C : Nat)) rfl; have b3_1 := B3.cell 1 (v := .int .i64 (R : Nat)) rfl; have b3_2 := B3.cell 2 (v := .slice (some a) n c) rfl))
  have G3 := gb_trans g1 (gb_trans g2 g3)
  go_loopw [14, 13] (fun i o wr => ∃ (q : Nat) (ov : Value), ov = o ∧ q ≤ m ∧ i = .int .i64 (q : Nat) ∧ wr.ownsRow V2.heap.size 5 1 ov q (bysV F q) ∧ V2.grownBy wr none) (fun i _ _ => m - (intOf i).toNat)
  case atStart => exact ⟨0, _, rfl, Nat.zero_le _, rfl, World.ownsRow_nil _ _ _ _, World.grownBy.refl _ _⟩
  case round =>
    obtain ⟨q, ov, rfl, hq, rfl, hown, gw⟩ := hrel
    by_cases hlt : q < m
    · have hi1 : (q : Int) < (m : Int) := by omega
      have hq0 : (0 : Int) ≤ (q : Int) := by omega
      have bd := ofP_bd h q
      have hixn := ix_lt (C := C) (R := R) (u := x + (ofP h q).1) (v := y + (ofP h q).2) (by omega) (by omega)
      rw [← HN.out] at hixn
      have Gw := gb_trans G3 gw
      have hbw := hb.kept Gw (by simp)
      have k1 := gw.cell (hob q hlt).1 (by simp)
      have k2 := gw.cell (hob q hlt).2 (by simp)
      have hat := fun (X : World) (hX : wr.grownBy X none) => refAtC (R := R) hC.2 (some a) n c f (x + (ofP h q).1) (y + (ofP h q).2) (by omega) (by omega) hixn X (hbw.kept hX (by simp))
      rw [← HF.out q] at hat
      obtain ⟨px, hpx⟩ : ∃ v, (ofP h q).1 = v := ⟨_, rfl⟩
      obtain ⟨py, hpy⟩ : ∃ v, (ofP h q).2 = v := ⟨_, rfl⟩
      rw [hpx] at k1 hat bd
      rw [hpy] at k2 hat bd
      clear hpx hpy hixn
      have y2 : IntKind.i64.wrap ((x : Int) + px) = (x : Int) + px := by rw [IntKind.wrap_i64]; omega
      have y3 : IntKind.i64.wrap ((y : Int) + py) = (y : Int) + py := by rw [IntKind.wrap_i64]; omega
      have B5 := B3.kept gw (by simp)
      have b5_0 := B5.cell 0 (v := .int .i64 (C : Nat)) rfl
      have b5_1 := B5.cell 1 (v := .int .i64 (R : Nat)) rfl
      have b5_2 := B5.cell 2 (v := .slice (some a) n c) rfl
      have hatd := hat wr.drew (gb_drew (World.grownBy.refl _ _))
      have k1d : wr.drew.cell? ⟨ob, q * 2, none⟩ = some (.int .i64 px) := k1
      have k2d : wr.drew.cell? ⟨ob, q * 2 + 1, none⟩ = some (.int .i64 py) := k2
      have B5d := B5.dr
      have lobk : ob < V2.heap.size := cell_lt (hob q hlt).1
      have lbk : w.heap.size < V2.heap.size := B3.lt
      have hownd : wr.drew.ownsRow V2.heap.size 5 1 ov q (bysV F q) := hown
      have hsz : V2.heap.size ≤ wr.heap.size := gw.size
      obtain ⟨fq, hfq⟩ : ∃ v, F q = v := ⟨_, rfl⟩
      rw [hfq] at hatd
      have HFQ : Hid (F q = fq) := hfq
      clear hfq hat
      go_wp2
      go_region_held_law (fun w' => w'.cell? ⟨ob, q * 2, none⟩ = some (.int .i64 px) ∧ w'.cell? ⟨ob, q * 2 + 1, none⟩ = some (.int .i64 py) ∧ w'.cell? ⟨w.heap.size, 0, none⟩ = some (.int .i64 (C : Nat)) ∧ w'.cell? ⟨w.heap.size, 1, none⟩ = some (.int .i64 (R : Nat)) ∧ w'.cell? ⟨w.heap.size, 2, none⟩ = some (.slice (some a) n c)) (go_keep) (first | (go_at_call 54; refine hatd.mono ?_; rintro e X1 ⟨rfl, gX⟩; have z1 := gX.cell k1d (by simp); have z2 := gX.cell k2d (by simp); have BX := B5d.kept gX (by simp); have bX_0 := BX.cell 0 (v := .int .i64 (C : Nat)) rfl; have bX_1 := BX.cell 1 (v := .int .i64 (R : Nat)) rfl; have bX_2 := BX.cell 2 (v := .slice (some a) n c) rfl; obtain ⟨X2, hX2⟩ : ∃ X2, X1.alloc (.cells #[.int .u8 (fq : Nat)] 5) = X2 := ⟨_, rfl⟩; have gX2 : X1.grownBy X2 none := (by rw [← hX2]; exact World.grownBy_alloc _ _ _); have z3 := gX2.cell z1 (by simp); have z4 := gX2.cell z2 (by simp); have BX2 := BX.kept gX2 (by simp); have bY_0 := BX2.cell 0 (v := .int .i64 (C : Nat)) rfl; have bY_1 := BX2.cell 1 (v := .int .i64 (R : Nat)) rfl; have bY_2 := BX2.cell 2 (v := .slice (some a) n c) rfl; have nX : ∀ l u, [Value.int .u8 (fq : Nat)][l]? = some u → X2.cell? ((⟨X1.heap.size, 0, none⟩ : Addr).add l) = some u := (by rw [← hX2]; exact new1 X1 _); have own2 := (hownd.kept gX (Classical.em _)).kept gX2 (Classical.em _); have sX : V2.heap.size ≤ X2.heap.size := Nat.le_trans hsz (Nat.le_trans gX.size gX2.size)) | (refine step_append_lies _ rfl (.tmp 51) (.tmp 68) 24 rfl V2.heap.size 5 i8 (.int .u8 0) 1 1 under8S HI8.out.1 HI8.out.2.1 HI8.out.2.2.1 HI8.out.2.2.2 rfl (by decide) _ q (bysV F q) rfl own2 ⟨X1.heap.size, 0, none⟩ 1 1 [.int .u8 (fq : Nat)] rfl rfl nX (by intro u hu; simp at hu; subst hu; rfl) (by decide) (by unfold maxLen; omega) (by omega) sX _ rfl ?_; intro g6 c6 w' own' g' at' lt'; have z5 := g'.cell z3 (fun e => Nat.not_le_of_lt lobk (own2.lt ob e.symm).1); have z6 := g'.cell z4 (fun e => Nat.not_le_of_lt lobk (own2.lt ob e.symm).1); have BX3 := BX2.kept g' (fun e => Nat.not_le_of_lt lbk (own2.lt w.heap.size e.symm).1); have bZ_0 := BX3.cell 0 (v := .int .i64 (C : Nat)) rfl; have bZ_1 := BX3.cell 1 (v := .int .i64 (R : Nat)) rfl; have bZ_2 := BX3.cell 2 (v := .slice (some a) n c) rfl))
      go_wp2
      go_roundw
      case rel =>
        refine ⟨q + 1, _, rfl, hlt, by go_num, ?_, ?_⟩
        · rw [bysV_succ, HFQ.out]; exact own'
        · exact gb_beyond (gb_trans (gb_trans (gb_drew gw) gX) gX2) g' (fun i e => (own2.lt _ e).1)
      case measure => simp [intOf]; omega
    · obtain rfl : q = m := by omega
      go_wp2
      go_ret2
      exact ⟨ov, rfl, own_mono hown G3.size, gb_trans G3 gw⟩
end Go.Proofs.YtjndljjpbkfmiaaGreatDoor
