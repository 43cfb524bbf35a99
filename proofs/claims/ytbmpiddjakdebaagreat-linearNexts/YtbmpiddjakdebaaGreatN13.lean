/- What is wrong with what Jump is asked. -/
import Derived.Test.YtbmpiddjakdebaaGreatNc
import Derived.Test.YtbmpiddjakdebaaGreatTa
namespace Go.Proofs.YtbmpiddjakdebaaGreat
open Go.RowKit
set_option linter.unusedVariables false
set_option linter.unusedSimpArgs false
set_option maxRecDepth 100000

namespace Ln
/-- What is wrong with a torus. -/
def toE (k x y t z : Int) : Int := if Tp.chk k x y t z ≠ 0 then 9 else if k ≠ 2 then 40 else if (To.enB k x y t z x || To.enB k x y t z y) = true then 42 else 0
set_option maxHeartbeats 1000000 in
theorem checkTorusC (k x y t z : Int) (ht : 0 ≤ t) (w : World) : Calls Tryz.prog 50 #[.agg #[.int .u8 k, .int .i64 x, .int .i64 y, .int .u8 t, .int .i64 z]] w fun e w' => e = .returned (.int .i64 (toE k x y t z)) ∧ w.grownBy w' none := by
  obtain ⟨W1, hW1, sz1, g1, B1⟩ := boxn w #[.int .u8 k, .int .i64 x, .int .i64 y, .int .u8 t, .int .i64 z] 23
  have c0 := B1.cell 0 (v := .int .u8 k) rfl; have c1 := B1.cell 1 (v := .int .i64 x) rfl; have c2 := B1.cell 2 (v := .int .i64 y) rfl; have c3 := B1.cell 3 (v := .int .u8 t) rfl; have c4 := B1.cell 4 (v := .int .i64 z) rfl
  have he := To.endlC k x y t z ht W1
  unfold toE
  obtain ⟨ch, hch⟩ : ∃ c, Tp.chk k x y t z = c := ⟨_, rfl⟩
  obtain ⟨eb, heb⟩ : ∃ c, To.enB k x y t z x = c := ⟨_, rfl⟩
  obtain ⟨ec, hec⟩ : ∃ c, To.enB k x y t z y = c := ⟨_, rfl⟩
  rw [hch, heb, hec] at he
  rw [hch, heb, hec]
  clear hch heb hec
  by_cases h1 : ch = 0
  · subst h1
    rw [if_neg (by simp)]
    by_cases h2 : k = 2
    · subst h2
      rw [if_neg (by simp)]
      cases eb <;> cases ec
      all_goals
        simp only [Bool.or_true, Bool.or_false, Bool.true_or, if_true, if_false, Bool.false_eq_true]
        go_enter Tryz.func50, Tryz.ntmps50
        go_wp2_with (first | (go_at_call 70; refine he.mono ?_; rintro e w2 ⟨rfl, g2⟩; have B2 := B1.kept g2 (by simp); have d0 := B2.cell 0 (v := .int .u8 2) rfl; have d1 := B2.cell 1 (v := .int .i64 x) rfl; have d2 := B2.cell 2 (v := .int .i64 y) rfl; have d3 := B2.cell 3 (v := .int .u8 t) rfl; have d4 := B2.cell 4 (v := .int .i64 z) rfl) | go_in)
        go_ret
        exact ⟨rfl, gb_trans g1 g2⟩
    · rw [if_pos h2]
      have hk : (k != 2) = true := by simp [h2]
      go_enter Tryz.func50, Tryz.ntmps50
      go_wp2_with (first | (go_at_call 70; refine he.mono ?_; rintro e w2 ⟨rfl, g2⟩; have B2 := B1.kept g2 (by simp); have d0 := B2.cell 0 (v := .int .u8 k) rfl; have d1 := B2.cell 1 (v := .int .i64 x) rfl; have d2 := B2.cell 2 (v := .int .i64 y) rfl; have d3 := B2.cell 3 (v := .int .u8 t) rfl; have d4 := B2.cell 4 (v := .int .i64 z) rfl) | go_in)
      go_ret
      exact ⟨rfl, gb_trans g1 g2⟩
  · rw [if_pos h1]
    have hk : (ch != 0) = true := by simp [h1]
    go_enter Tryz.func50, Tryz.ntmps50
    go_wp2_with (first | (go_at_call 70; refine he.mono ?_; rintro e w2 ⟨rfl, g2⟩) | go_in)
    go_ret
    exact ⟨rfl, gb_trans g1 g2⟩
def bdE (x y : Int) : Int := if 1048576 < x * y then 4 else 0
theorem checkBudgetC (k x y t z : Int) (h : -9223372036854775808 ≤ x * y ∧ x * y ≤ 9223372036854775807) (w : World) : Calls Tryz.prog 52 #[.agg #[.int .u8 k, .int .i64 x, .int .i64 y, .int .u8 t, .int .i64 z]] w fun e w' => e = .returned (.int .i64 (bdE x y)) ∧ w.grownBy w' none := by
  obtain ⟨W1, hW1, sz1, g1, B1⟩ := boxn w #[.int .u8 k, .int .i64 x, .int .i64 y, .int .u8 t, .int .i64 z] 23
  have c0 := B1.cell 0 (v := .int .u8 k) rfl; have c1 := B1.cell 1 (v := .int .i64 x) rfl; have c2 := B1.cell 2 (v := .int .i64 y) rfl; have c3 := B1.cell 3 (v := .int .u8 t) rfl; have c4 := B1.cell 4 (v := .int .i64 z) rfl
  have hw : IntKind.i64.wrap (x * y) = x * y := by rw [IntKind.wrap_i64]; omega
  unfold bdE
  by_cases h1 : 1048576 < x * y
  · rw [if_pos h1]
    go_enter Tryz.func52, Tryz.ntmps52
    go_wp2
    go_ret
    exact ⟨rfl, g1⟩
  · rw [if_neg h1]
    go_enter Tryz.func52, Tryz.ntmps52
    go_wp2
    go_ret
    exact ⟨rfl, g1⟩
/-- Are all places of the grid? -/
def alH (k x y t z : Int) (f : Nat → Pt) : Nat → Bool
  | 0 => true
  | n + 1 => alH k x y t z f n && To.hasV k x y t z (f n).1 (f n).2
theorem alH_no {k x y t z : Int} {f : Nat → Pt} {j : Nat} (h : To.hasV k x y t z (f j).1 (f j).2 = false) : ∀ n, j < n → alH k x y t z f n = false
  | 0, hj => by omega
  | n + 1, hj => by
    show (alH k x y t z f n && _) = false
    by_cases e : j = n
    · subst e; rw [h, Bool.and_false]
    · rw [alH_no h n (by omega), Bool.false_and]
def ceL (k x y t z : Int) (f : Nat → Pt) (n : Nat) : Int := if alH k x y t z f n = true then (if tw f n = true then 6 else 0) else 130
set_option maxHeartbeats 1000000 in
theorem checkCellsC (k x y t z : Int) (ht : 0 ≤ t) (sp : Option Addr) (n cap : Nat) (f : Nat → Pt) (hf : ∀ k, k < n → PtOk (f k)) (hn : n < 1073741824) (w : World) (h : Pl w sp n f) :
    Calls Tryz.prog 51 #[.agg #[.int .u8 k, .int .i64 x, .int .i64 y, .int .u8 t, .int .i64 z], .slice sp n cap] w fun e w' => e = .returned (.int .i64 (ceL k x y t z f n)) ∧ w.grownBy w' none := by
  have kT := fun w1 (g1 : w.grownBy w1 none) => hasTwiceC sp n cap f hf hn w1 (h.kept g1 (by simp))
  obtain ⟨W1, hW1, sz1, g1, B1⟩ := boxn w #[.int .u8 k, .int .i64 x, .int .i64 y, .int .u8 t, .int .i64 z] 23
  obtain ⟨r, hr⟩ : ∃ r, alH k x y t z f n = r := ⟨_, rfl⟩
  have HR : Hid (alH k x y t z f n = r) := hr
  unfold ceL
  rw [hr]
  clear hr
  go_enter Tryz.func51, Tryz.ntmps51
  go_wp2
  go_loopw [11] (fun v wr => ∃ j : Nat, j ≤ n ∧ v = .int .i64 j ∧ Hid (alH k x y t z f j = true) ∧ W1.grownBy wr none) (fun v _ => n - (intOf v).toNat)
  case atStart => exact ⟨0, Nat.zero_le _, rfl, rfl, World.grownBy.refl _ _⟩
  case round =>
    obtain ⟨j, hj, rfl, HK, gq⟩ := hrel
    have gk := gb_trans g1 gq
    have Bk := B1.kept gq (by simp)
    have b0 := Bk.cell 0 (v := .int .u8 k) rfl; have b1 := Bk.cell 1 (v := .int .i64 x) rfl; have b2 := Bk.cell 2 (v := .int .i64 y) rfl; have b3 := Bk.cell 3 (v := .int .u8 t) rfl; have b4 := Bk.cell 4 (v := .int .i64 z) rfl
    by_cases hlt : j < n
    · have hlt' : (j : Int) < (n : Int) := by omega
      obtain ⟨q, o, rfl, c0, c1⟩ := (h.kept gk (by simp)) j hlt
      have HS : Hid (alH k x y t z f (j + 1) = (alH k x y t z f j && To.hasV k x y t z (f j).1 (f j).2)) := rfl
      have HNO : Hid (To.hasV k x y t z (f j).1 (f j).2 = false → alH k x y t z f n = false) := fun hh => alH_no hh n hlt
      obtain ⟨p, hp⟩ : ∃ p, f j = p := ⟨_, rfl⟩
      rw [hp] at c0 c1 HS HNO
      clear hp
      obtain ⟨a, b⟩ := p
      obtain ⟨W3, hW3, sz3, g3, B3⟩ := boxn wr #[.int .i64 a, .int .i64 b] 40
      have d0 := B3.cell 0 (v := .int .i64 a) rfl
      have d1 := B3.cell 1 (v := .int .i64 b) rfl
      have G3 := gb_trans gq g3
      have Bk3 := Bk.kept g3 (by simp)
      have a0 := Bk3.cell 0 (v := .int .u8 k) rfl; have a1 := Bk3.cell 1 (v := .int .i64 x) rfl; have a2 := Bk3.cell 2 (v := .int .i64 y) rfl; have a3 := Bk3.cell 3 (v := .int .u8 t) rfl; have a4 := Bk3.cell 4 (v := .int .i64 z) rfl
      have kh := To.hasC k x y t z a b ht W3
      simp only at HS HNO
      obtain ⟨he, hhe⟩ : ∃ e, To.hasE k x y t z a b = e := ⟨_, rfl⟩
      rw [hhe] at kh
      clear hhe
      cases hx : To.hasV k x y t z a b
      · rw [hx] at kh HNO
        have h0 : r = false := HR.out.symm.trans (HNO.out rfl)
        subst h0
        clear hx HS HNO HK
        go_wp2_with (first | (go_at_call 71; refine kh.mono ?_; rintro e w4 ⟨rfl, g4⟩) | go_in)
        go_ret
        exact ⟨rfl, gb_trans g1 (gb_trans G3 g4)⟩
      · rw [hx] at kh HS
        have HK1 : Hid (alH k x y t z f (j + 1) = true) := by unfold Hid; rw [HS.out, HK.out]; rfl
        clear hx HS HNO HK
        go_wp2_with (first | (go_at_call 71; refine kh.mono ?_; rintro e w4 ⟨rfl, g4⟩) | go_in)
        go_roundw
        case rel => exact ⟨j + 1, by omega, by go_num, HK1, gb_trans G3 g4⟩
        case measure => simp [intOf]; omega
    · have hkn : j = n := by omega
      subst hkn
      have hlt' : ¬ (j : Int) < (j : Int) := by omega
      have h0 : r = true := HR.out.symm.trans HK.out
      subst h0
      have kT2 := kT wr gk
      cases h3 : tw f j
      all_goals
        rw [h3] at kT2
        go_wp2_with (first | (go_at_call 65; refine kT2.mono ?_; rintro e w4 ⟨rfl, g4⟩) | go_in)
        go_ret
        exact ⟨rfl, gb_trans gk g4⟩
/-- What is wrong with what Jump is asked. -/
def jpE (k x y t z : Int) (f : Nat → Pt) (n : Nat) (h : Nat → Pt) (m : Nat) (g : Int) : Int := if toE k x y t z ≠ 0 then toE k x y t z else orL [ckO f n 1099511627776, ceL k x y t z h m, ckG g, bdE x y]
theorem toE_zero {k x y t z : Int} (h : toE k x y t z = 0) : Tp.chk k x y t z = 0 ∧ k = 2 := by
  unfold toE at h
  split at h
  · omega
  · split at h
    · omega
    · rename_i h1 h2
      exact ⟨Classical.not_not.1 h1, Classical.not_not.1 h2⟩
set_option maxHeartbeats 1000000 in
theorem checkJumpC (k x y t z : Int) (ht : 0 ≤ t) (s1 : Option Addr) (n c1 : Nat) (f : Nat → Pt) (hf : ∀ k, k < n → PtOk (f k)) (hn : n < 1073741824) (s2 : Option Addr) (m c2 : Nat) (h : Nat → Pt) (hh : ∀ k, k < m → PtOk (h k)) (hm : m < 1073741824) (g : Int) (w : World) (H1 : Pl w s1 n f) (H2 : Pl w s2 m h) :
    Calls Tryz.prog 26 #[.agg #[.int .u8 k, .int .i64 x, .int .i64 y, .int .u8 t, .int .i64 z], .slice s1 n c1, .slice s2 m c2, .int .i64 g] w fun e w' => e = .returned (.int .i64 (jpE k x y t z f n h m g)) ∧ w.grownBy w' none := by
  have k0 := fun w1 => checkTorusC k x y t z ht w1
  obtain ⟨W0, hW0, sz0, g0, B0⟩ := boxn w #[.int .u8 k, .int .i64 x, .int .i64 y, .int .u8 t, .int .i64 z] 23
  have b0 := B0.cell 0 (v := .int .u8 k) rfl; have b1 := B0.cell 1 (v := .int .i64 x) rfl; have b2 := B0.cell 2 (v := .int .i64 y) rfl; have b3 := B0.cell 3 (v := .int .u8 t) rfl; have b4 := B0.cell 4 (v := .int .i64 z) rfl
  unfold jpE
  by_cases h0 : toE k x y t z = 0
  · obtain ⟨hc, hk⟩ := toE_zero h0
    have ok := Tp.ok_of hc
    have hx := ok.wide
    have hy := ok.high
    have hxy : -9223372036854775808 ≤ x * y ∧ x * y ≤ 9223372036854775807 := by
      obtain ⟨a, rfl⟩ : ∃ a : Nat, x = a := ⟨x.toNat, by omega⟩
      obtain ⟨b, rfl⟩ : ∃ b : Nat, y = b := ⟨y.toNat, by omega⟩
      have : a * b ≤ 65536 * 65536 := Nat.mul_le_mul (by omega) (by omega)
      rw [← Int.natCast_mul]
      omega
    rw [if_neg (by simp [h0])]
    rw [h0] at k0
    have k1 := fun w1 (g1 : w.grownBy w1 none) => checkC s1 n c1 f hf hn w1 (H1.kept g1 (by simp))
    have k2 := fun w1 (g1 : w.grownBy w1 none) => checkCellsC k x y t z ht s2 m c2 h hh hm w1 (H2.kept g1 (by simp))
    have k3 := fun w1 => checkGenC g w1
    have k4 := fun w1 => checkBudgetC k x y t z hxy w1
    obtain ⟨e1, he1⟩ : ∃ e, ckO f n 1099511627776 = e := ⟨_, rfl⟩
    obtain ⟨e2, he2⟩ : ∃ e, ceL k x y t z h m = e := ⟨_, rfl⟩
    obtain ⟨e3, he3⟩ : ∃ e, ckG g = e := ⟨_, rfl⟩
    obtain ⟨e4, he4⟩ : ∃ e, bdE x y = e := ⟨_, rfl⟩
    rw [he1] at k1 ⊢
    rw [he2] at k2 ⊢
    rw [he3] at k3 ⊢
    rw [he4] at k4 ⊢
    clear he1 he2 he3 he4 hxy hx hy ok hc hk h0
    obtain ⟨r, hr⟩ : ∃ r, orL [e1, e2, e3, e4] = r := ⟨_, rfl⟩
    have HR : Hid (orL [e1, e2, e3, e4] = r) := hr
    rw [hr]
    clear hr
    have kO : ∀ W : World, Calls Tryz.prog 34 #[.slice (some ⟨W.heap.size, 0, none⟩) 4 4] (W.alloc (.cells #[.int .i64 e1, .int .i64 e2, .int .i64 e3, .int .i64 e4] 34)) fun e w' => e = .returned (.int .i64 r) ∧ w' = W.alloc (.cells #[.int .i64 e1, .int .i64 e2, .int .i64 e3, .int .i64 e4] 34) := fun W => by
      have := orE W.heap.size 4 [e1, e2, e3, e4] (by simp) (W.alloc (.cells #[.int .i64 e1, .int .i64 e2, .int .i64 e3, .int .i64 e4] 34)) (fun k x hx => by
        match k, hx with
        | 0, hx => cases hx; exact World.news_of_block (heap_alloc_new _ _) 0 _ rfl
        | 1, hx => cases hx; exact World.news_of_block (heap_alloc_new _ _) 1 _ rfl
        | 2, hx => cases hx; exact World.news_of_block (heap_alloc_new _ _) 2 _ rfl
        | 3, hx => cases hx; exact World.news_of_block (heap_alloc_new _ _) 3 _ rfl)
      rw [HR.out] at this
      exact this
    go_enter Tryz.func26, Tryz.ntmps26
    go_wp2_with (first | (go_at_call 50; refine (k0 _).mono ?_; rintro e w1 ⟨rfl, g1'⟩; have g1 := gb_trans g0 g1'; have B1 := (B0.kept g1' (by simp)).dr; have p0 := B1.cell 0 (v := .int .u8 k) rfl; have p1 := B1.cell 1 (v := .int .i64 x) rfl; have p2 := B1.cell 2 (v := .int .i64 y) rfl; have p3 := B1.cell 3 (v := .int .u8 t) rfl; have p4 := B1.cell 4 (v := .int .i64 z) rfl) | go_in)
    go_region_held2 (fun w' => w'.cell? ⟨w.heap.size, 0, none⟩ = some (.int .u8 k) ∧ w'.cell? ⟨w.heap.size, 1, none⟩ = some (.int .i64 x) ∧ w'.cell? ⟨w.heap.size, 2, none⟩ = some (.int .i64 y) ∧ w'.cell? ⟨w.heap.size, 3, none⟩ = some (.int .u8 t) ∧ w'.cell? ⟨w.heap.size, 4, none⟩ = some (.int .i64 z)) (go_keep) (first | (go_at_call 39; refine (k1 _ (gb_drew g1)).mono ?_; rintro e w2 ⟨rfl, g2⟩; have g12 := gb_trans (gb_drew g1) g2; have B2 := B1.kept g2 (by simp); have q0 := B2.cell 0 (v := .int .u8 k) rfl; have q1 := B2.cell 1 (v := .int .i64 x) rfl; have q2 := B2.cell 2 (v := .int .i64 y) rfl; have q3 := B2.cell 3 (v := .int .u8 t) rfl; have q4 := B2.cell 4 (v := .int .i64 z) rfl) | (go_at_call 51; refine (k2 _ g12).mono ?_; rintro e w3 ⟨rfl, g3⟩; have g13 := gb_trans g12 g3; have B3 := B2.kept g3 (by simp); have u0 := B3.cell 0 (v := .int .u8 k) rfl; have u1 := B3.cell 1 (v := .int .i64 x) rfl; have u2 := B3.cell 2 (v := .int .i64 y) rfl; have u3 := B3.cell 3 (v := .int .u8 t) rfl; have u4 := B3.cell 4 (v := .int .i64 z) rfl) | (go_at_call 36; refine (k3 _).mono ?_; rintro e w4 ⟨rfl, hw4⟩; subst w4) | (go_at_call 52; refine (k4 _).mono ?_; rintro e w5 ⟨rfl, g5⟩; have g15 := gb_trans g13 g5; have B5 := B3.kept g5 (by simp); have v0 := B5.cell 0 (v := .int .u8 k) rfl; have v1 := B5.cell 1 (v := .int .i64 x) rfl; have v2 := B5.cell 2 (v := .int .i64 y) rfl; have v3 := B5.cell 3 (v := .int .u8 t) rfl; have v4 := B5.cell 4 (v := .int .i64 z) rfl; obtain ⟨W6, hW6⟩ : ∃ W6, w5.alloc (.cells #[.int .i64 e1, .int .i64 e2, .int .i64 e3, .int .i64 e4] 34) = W6 := ⟨_, rfl⟩; have kO6 := kO w5; rw [hW6] at kO6; have gA : w5.grownBy W6 none := (by rw [← hW6]; exact World.grownBy_alloc _ _ _); have B6 := B5.kept gA (by simp); have s0 := B6.cell 0 (v := .int .u8 k) rfl; have s1 := B6.cell 1 (v := .int .i64 x) rfl; have s2 := B6.cell 2 (v := .int .i64 y) rfl; have s3 := B6.cell 3 (v := .int .u8 t) rfl; have s4 := B6.cell 4 (v := .int .i64 z) rfl; have g16 := gb_trans g15 gA) | (go_at_call 34; refine kO6.mono ?_; rintro e w6 ⟨rfl, hw6⟩; subst w6))
    all_goals go_wp2
    all_goals go_ret
    all_goals exact ⟨rfl, g16⟩
  · rw [if_pos h0]
    generalize toE k x y t z = r at k0 h0 ⊢
    have hb : (r != 0) = true := by simp [h0]
    go_enter Tryz.func26, Tryz.ntmps26
    go_wp2_with (first | (go_at_call 50; refine (k0 _).mono ?_; rintro e w1 ⟨rfl, g1⟩) | go_in)
    go_ret
    exact ⟨rfl, gb_trans g0 g1⟩
end Ln
end Go.Proofs.YtbmpiddjakdebaaGreat
