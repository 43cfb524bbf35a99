/- Set at every place and state. -/
import Derived.Test.YthjiiljglgmkpaaGreatDoorK30
import Derived.Test.YthjiiljglgmkpaaGreatDoorK31
import Derived.Deep.RegionHeld2
namespace Go.Proofs.YthjiiljglgmkpaaGreatDoor
open Go.RowKit
set_option linter.unusedVariables false
set_option linter.unusedSimpArgs false
set_option maxRecDepth 100000

theorem gb_wk {w w' : World} {r : Option Nat} (h : w.grownBy w' none) : w.grownBy w' r := ⟨h.os, h.tape, h.output, h.size, fun k hk _ => h.block k hk (by simp)⟩
/-- Is the place there? -/
def hasXY (C R : Nat) (x y : Int) : Prop := 0 ≤ x ∧ x < C ∧ 0 ≤ y ∧ y < R
instance (C R : Nat) (x y : Int) : Decidable (hasXY C R x y) := by unfold hasXY; infer_instance
/-- What Set answers. -/
def stE (C R S : Nat) (x y : Int) (u : Nat) : Int := if hasXY C R x y then (if u < S then 0 else 7) else 130
/-- The cells behind Set. -/
def stG (C R S : Nat) (x y : Int) (u : Nat) (g : Nat → Nat) (k : Nat) : Nat := if hasXY C R x y ∧ u < S ∧ k = y.toNat * C + x.toNat then u else g k
theorem stG_not {C R S : Nat} {x y : Int} {u : Nat} (g : Nat → Nat) (h : ¬ (hasXY C R x y ∧ u < S)) : stG C R S x y u g = g := funext fun k => by unfold stG; rw [if_neg (fun e => h ⟨e.1, e.2.1⟩)]
theorem stG_yes {C R S x y u : Nat} (g : Nat → Nat) (hx : x < C) (hy : y < R) (hu : u < S) : stG C R S x y u g = fun k => if k = y * C + x then u else g k := funext fun k => by
  unfold stG hasXY
  have e : ((y : Int).toNat * C + (x : Int).toNat) = y * C + x := by simp
  rw [e]
  by_cases h : k = y * C + x
  · rw [if_pos ⟨⟨by omega, by omega, by omega, by omega⟩, hu, h⟩, if_pos h]
  · rw [if_neg (fun e => h e.2.2), if_neg h]
/-- Set of every place and state: a field of bytes. -/
theorem fSetA (b s q C R S : Nat) (g : Nat → Nat) (hz : Sz C R S) (x y : Int) (u : Nat) (hu8 : u < 256) (w : World) (h : Fb w b s q C R S g) : Calls Tryz.prog 17 #[.pointer (some ⟨b, 0, none⟩), .int .i64 x, .int .i64 y, .int .u8 (u : Nat)] w fun e w' => e = .returned (.int .i64 (stE C R S x y u)) ∧ Fb w' b s q C R S (stG C R S x y u g) ∧ w.grownBy w' (some q) := by
  by_cases hp : hasXY C R x y
  · have hp' := hp
    obtain ⟨p1, p2, p3, p4⟩ := hp'
    obtain ⟨a, rfl⟩ := Int.eq_ofNat_of_zero_le p1
    obtain ⟨c, rfl⟩ := Int.eq_ofNat_of_zero_le p3
    by_cases hu : u < S
    · refine (fSetY b s q C R S g hz a c u (by omega) (by omega) hu w h).mono ?_
      rintro e w' ⟨rfl, k1, k2⟩
      exact ⟨by unfold stE; rw [if_pos hp, if_pos hu], by rw [stG_yes g (by omega) (by omega) hu]; exact k1, k2⟩
    · refine (fSetS b s q C R S g hz a c u (by omega) (by omega) hu8 hu w h).mono ?_
      rintro e w' ⟨rfl, k2⟩
      exact ⟨by unfold stE; rw [if_pos hp, if_neg hu], by rw [stG_not g (fun e => hu e.2)]; exact h.kept k2, gb_wk k2⟩
  · refine (fSetN b s q C R S g hz x y u hp w h).mono ?_
    rintro e w' ⟨rfl, k2⟩
    exact ⟨by unfold stE; rw [if_neg hp], by rw [stG_not g (fun e => hp e.1)]; exact h.kept k2, gb_wk k2⟩
/-- The same of bits. -/
theorem Tt.fSetA (b s : Nat) (q : Nat × (Nat → Nat)) (C R S : Nat) (g : Nat → Nat) (hz : Sz C R S) (x y : Int) (u : Nat) (hu8 : u < 256) (w : World) (h : Tt.Fb w b s q C R S g) : Calls Tryz.prog 17 #[.pointer (some ⟨b, 0, none⟩), .int .i64 x, .int .i64 y, .int .u8 (u : Nat)] w fun e w' => e = .returned (.int .i64 (stE C R S x y u)) ∧ Tt.Fb w' b s q C R S (stG C R S x y u g) ∧ ∃ j, j < R ∧ w.grownBy w' (some (q.2 j)) := by
  have hr0 := hz.r0
  by_cases hp : hasXY C R x y
  · have hp' := hp
    obtain ⟨p1, p2, p3, p4⟩ := hp'
    obtain ⟨a, rfl⟩ := Int.eq_ofNat_of_zero_le p1
    obtain ⟨c, rfl⟩ := Int.eq_ofNat_of_zero_le p3
    by_cases hu : u < S
    · refine (Tt.fSetY b s q C R S g hz a c u (by omega) (by omega) hu w h).mono ?_
      rintro e w' ⟨rfl, k1, k2⟩
      exact ⟨by unfold stE; rw [if_pos hp, if_pos hu], by rw [stG_yes g (by omega) (by omega) hu]; exact k1, c, by omega, k2⟩
    · refine (Tt.fSetS b s q C R S g hz a c u (by omega) (by omega) hu8 hu w h).mono ?_
      rintro e w' ⟨rfl, k2⟩
      exact ⟨by unfold stE; rw [if_pos hp, if_neg hu], by rw [stG_not g (fun e => hu e.2)]; exact h.kept k2, 0, hr0, gb_wk k2⟩
  · refine (Tt.fSetN b s q C R S g hz x y u hp w h).mono ?_
    rintro e w' ⟨rfl, k2⟩
    exact ⟨by unfold stE; rw [if_neg hp], by rw [stG_not g (fun e => hp e.1)]; exact h.kept k2, 0, hr0, gb_wk k2⟩
set_option maxHeartbeats 1000000 in
/-- The document's Has. -/
theorem refHasC (r d C R S : Nat) (pk : Bool) (g : Nat → Nat) (x y : Int) (w : World) (h : Rf w r d C R S pk g) : Calls Tryz.prog 68 #[.pointer (some ⟨r, 0, none⟩), .int .i64 x, .int .i64 y] w fun e w' => e = .returned (.bool (decide (hasXY C R x y))) ∧ w' = w := by
  have c0 := h.fld.cell 0 (v := .int .i64 (C : Nat)) rfl
  have c1 := h.fld.cell 1 (v := .int .i64 (R : Nat)) rfl
  clear h
  by_cases h1 : 0 ≤ x
  · by_cases h2 : x < (C : Int)
    · by_cases h3 : 0 ≤ y
      · by_cases h4 : y < (R : Int)
        · rw [decide_eq_true (show hasXY C R x y from ⟨h1, h2, h3, h4⟩)]
          go_enter Tryz.func68, Tryz.ntmps68
          go_wp2
          go_ret
          exact ⟨rfl, rfl⟩
        · rw [decide_eq_false (show ¬ hasXY C R x y from fun e => h4 e.2.2.2)]
          go_enter Tryz.func68, Tryz.ntmps68
          go_wp2
          go_ret
          exact ⟨rfl, rfl⟩
      · rw [decide_eq_false (show ¬ hasXY C R x y from fun e => h3 e.2.2.1)]
        go_enter Tryz.func68, Tryz.ntmps68
        go_wp2
        go_ret
        exact ⟨rfl, rfl⟩
    · rw [decide_eq_false (show ¬ hasXY C R x y from fun e => h2 e.2.1)]
      go_enter Tryz.func68, Tryz.ntmps68
      go_wp2
      go_ret
      exact ⟨rfl, rfl⟩
  · rw [decide_eq_false (show ¬ hasXY C R x y from fun e => h1 e.1)]
    go_enter Tryz.func68, Tryz.ntmps68
    go_wp2
    go_ret
    exact ⟨rfl, rfl⟩
set_option maxHeartbeats 1000000 in
/-- The document's Set of every place and state. -/
theorem refSetA (r d C R S : Nat) (pk : Bool) (g : Nat → Nat) (hz : Sz C R S) (x y : Int) (u : Nat) (hu8 : u < 256) (w : World) (h : Rf w r d C R S pk g) : Calls Tryz.prog 38 #[.pointer (some ⟨r, 0, none⟩), .int .i64 x, .int .i64 y, .int .u8 (u : Nat)] w fun e w' => e = .returned (.int .i64 (stE C R S x y u)) ∧ Rf w' r d C R S pk (stG C R S x y u g) ∧ w.grownBy w' (some d) := by
  have c0 := h.fld.cell 0 (v := .int .i64 (C : Nat)) rfl
  have c2 := h.fld.cell 2 (v := .int .i64 (S : Nat)) rfl
  have c4 := h.fld.cell 4 (v := .slice (some ⟨d, 0, none⟩) (C * R) (C * R)) rfl
  have hh := refHasC r d C R S pk g x y w h
  have hs1 := hz.s1
  have hc1 := hz.c1
  have hr1 := hz.r1
  by_cases hp : hasXY C R x y
  · rw [decide_eq_true hp] at hh
    have hp' := hp
    obtain ⟨p1, p2, p3, p4⟩ := hp'
    obtain ⟨a, rfl⟩ := Int.eq_ofNat_of_zero_le p1
    obtain ⟨c, rfl⟩ := Int.eq_ofNat_of_zero_le p3
    have ha : a < C := by omega
    have hc : c < R := by omega
    by_cases hu : u < S
    · have hu' : ¬ (S : Int) ≤ (u : Int) := by omega
      have hk := row_le (C := C) hc
      have hall : c * C + a < C * R := by omega
      have hbig : C * R ≤ 1048576 := by have := hz.all; omega
      have e1 : IntKind.i64.wrap ((c : Int) * (C : Int)) = ((c * C : Nat) : Int) := by rw [← Int.natCast_mul, IntKind.wrap_i64]; omega
      have e2 : IntKind.i64.wrap (((c * C : Nat) : Int) + (a : Int)) = ((c * C + a : Nat) : Int) := by rw [← Int.natCast_add, IntKind.wrap_i64]; omega
      have hrow : w.drew.rowIs d 5 (C * R) (fun k => .int .u8 (g k : Nat)) := h.row
      have hrc := hrow.cell (i := c * C + a) hall
      have hrf := hrow.frozen (c * C + a)
      obtain ⟨n, hn⟩ : ∃ n, c * C + a = n := ⟨_, rfl⟩
      rw [hn] at hrc hrf
      obtain ⟨X, hX⟩ : ∃ X, w.drew.setCell ⟨d, n, none⟩ (.int .u8 (u : Nat)) = X := ⟨_, rfl⟩
      have G0 : w.drew.grownBy X (some d) := hX ▸ gb_set (World.grownBy.refl _ _) _ _
      have G : w.grownBy X (some d) := gb_trans (gb_drew (World.grownBy.refl _ _)) G0
      have B7 := h.fld.kept G (fun e => h.apart (Option.some.inj e))
      have n0 := B7.cell 0 (v := .int .i64 (C : Nat)) rfl
      have n4 := B7.cell 4 (v := .slice (some ⟨d, 0, none⟩) (C * R) (C * R)) rfl
      have B6 : Bo w.drew r 91 #[.int .i64 (C : Nat), .int .i64 (R : Nat), .int .i64 (S : Nat), .bool pk, .slice (some ⟨d, 0, none⟩) (C * R) (C * R)] := h.fld
      have m0 := B6.cell 0 (v := .int .i64 (C : Nat)) rfl
      have m4 := B6.cell 4 (v := .slice (some ⟨d, 0, none⟩) (C * R) (C * R)) rfl
      have HF : Hid (Rf X r d C R S pk (stG C R S a c u g) ∧ w.grownBy X (some d)) := by
        refine ⟨⟨B7, ?_⟩, G⟩
        rw [← hX]
        refine (World.rowIs.set hrow n _).congr (fun k hk => ?_)
        rw [stG_yes g ha hc hu, hn]
        by_cases e : k = n
        · rw [if_pos e]; simp only [if_pos e]
        · rw [if_neg e]; simp only [if_neg e]
      obtain ⟨m, hm⟩ : ∃ m, C * R = m := ⟨_, rfl⟩
      have e2' : IntKind.i64.wrap (((c * C : Nat) : Int) + (a : Int)) = (n : Int) := by rw [e2, hn]
      obtain ⟨z, hzz⟩ : ∃ z, c * C = z := ⟨_, rfl⟩
      rw [hzz] at e1 e2'
      rw [hn] at hall
      rw [hm] at c4 m4 n4 hall
      have HE : Hid (stE C R S a c u = 0) := by unfold Hid stE; rw [if_pos hp, if_pos hu]
      clear e2 hn hk hbig h hp hm hzz hrow B6 B7 G G0
      have hall' : (n : Int) < (m : Int) := by omega
      rw [HE.out]
      go_enter Tryz.func38, Tryz.ntmps38
      go_wp2_with (go_at_call 68; refine hh.mono ?_; rintro e V ⟨rfl, hV⟩; subst V)
      go_region_held2 (fun w' => w'.cell? ⟨r, 0, none⟩ = some (.int .i64 (C : Nat)) ∧ w'.cell? ⟨r, 4, none⟩ = some (.slice (some ⟨d, 0, none⟩) m m)) (go_keep) (fail)
      go_wp2
      go_ret
      exact ⟨rfl, HF.out⟩
    · have hu' : (S : Int) ≤ (u : Int) := by omega
      have HE : Hid (stE C R S a c u = 7) := by unfold Hid stE; rw [if_pos hp, if_neg hu]
      have HF : Hid (Rf w r d C R S pk (stG C R S a c u g)) := by unfold Hid; rw [stG_not g (fun e => hu e.2)]; exact h
      clear h hp
      rw [HE.out]
      go_enter Tryz.func38, Tryz.ntmps38
      go_wp2_with (go_at_call 68; refine hh.mono ?_; rintro e V ⟨rfl, hV⟩; subst V)
      go_ret
      exact ⟨rfl, HF.out, World.grownBy.refl _ _⟩
  · rw [decide_eq_false hp] at hh
    have HE : Hid (stE C R S x y u = 130) := by unfold Hid stE; rw [if_neg hp]
    have HF : Hid (Rf w r d C R S pk (stG C R S x y u g)) := by unfold Hid; rw [stG_not g (fun e => hp e.1)]; exact h
    clear h hp
    rw [HE.out]
    go_enter Tryz.func38, Tryz.ntmps38
    go_wp2_with (go_at_call 68; refine hh.mono ?_; rintro e V ⟨rfl, hV⟩; subst V)
    go_ret
    exact ⟨rfl, HF.out, World.grownBy.refl _ _⟩
end Go.Proofs.YthjiiljglgmkpaaGreatDoor
