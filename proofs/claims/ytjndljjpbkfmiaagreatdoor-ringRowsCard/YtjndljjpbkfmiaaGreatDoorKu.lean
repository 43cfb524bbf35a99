/- The document's Asked, state. -/
import Derived.Test.YtjndljjpbkfmiaaGreatDoorKs
import Derived.Test.YtjndljjpbkfmiaaGreatDoorFq
import Derived.Test.YtjndljjpbkfmiaaGreatDoorT5
import Derived.Test.YtjndljjpbkfmiaaGreatDoorKw
namespace Go.Proofs.YtjndljjpbkfmiaaGreatDoor
open Go.RowKit
set_option linter.unusedVariables false
set_option linter.unusedSimpArgs false
set_option maxRecDepth 100000

theorem askedN (v : Value) (k x y t z : Int) (w : World) : Calls Tryz.prog 34 #[.agg #[.int .u8 k, .int .i64 x, .int .i64 y, .int .u8 t, .int .i64 z], .pointer none] w fun e w' => e = .returned (.int .i64 1) ∧ w.grownBy w' none := by
  go_enter Tryz.func34, Tryz.ntmps34
  go_wp2
  go_ret
  exact ⟨rfl, World.grownBy_alloc _ _ none⟩
set_option maxHeartbeats 1000000 in
theorem askedC (k x y t z : Int) (ht : 0 ≤ t) (r d C R S : Nat) (pk : Bool) (g : Nat → Nat) (w : World) (h : Rf w r d C R S pk g) : Calls Tryz.prog 34 #[.agg #[.int .u8 k, .int .i64 x, .int .i64 y, .int .u8 t, .int .i64 z], .pointer (some ⟨r, 0, none⟩)] w fun e w' => e = .returned (.int .i64 (cgE k x y t z C R)) ∧ w.grownBy w' none := by
  obtain ⟨W1, hW1, sz1, g1, B1⟩ := boxn w #[.int .u8 k, .int .i64 x, .int .i64 y, .int .u8 t, .int .i64 z] 23
  have b0 := B1.cell 0 (v := .int .u8 k) rfl
  have b1 := B1.cell 1 (v := .int .i64 x) rfl
  have b2 := B1.cell 2 (v := .int .i64 y) rfl
  have b3 := B1.cell 3 (v := .int .u8 t) rfl
  have b4 := B1.cell 4 (v := .int .i64 z) rfl
  have h1 := h.kept g1 (by simp) (by simp)
  have hc := To.refCheckC k x y t z ht W1
  obtain ⟨E, hE⟩ : ∃ E, Tp.chk k x y t z = E := ⟨_, rfl⟩
  have HX : Hid (cgE k x y t z C R = if ¬ E = 0 then 9 else if x = 0 ∨ y = 0 then 42 else if ¬ (x = C ∧ y = R) then 21 else 0) := by unfold Hid cgE; rw [hE]
  rw [hE] at hc
  clear hE
  by_cases h0 : E = 0
  · subst h0
    by_cases hx0 : x = 0
    · have hX : cgE k x y t z C R = 42 := by rw [HX.out, if_neg (by simp), if_pos (.inl hx0)]
      rw [hX]
      clear hX HX
      subst hx0
      go_enter Tryz.func34, Tryz.ntmps34
      go_wp2_with (go_at_call 65; refine hc.mono ?_; rintro e V ⟨rfl, gV⟩; have BV := B1.kept gV (by simp); have v0 := BV.cell 0 (v := .int .u8 k) rfl; have v1 := BV.cell 1 (v := .int .i64 0) rfl; have v2 := BV.cell 2 (v := .int .i64 y) rfl; have v3 := BV.cell 3 (v := .int .u8 t) rfl; have v4 := BV.cell 4 (v := .int .i64 z) rfl)
      go_ret
      exact ⟨rfl, gb_trans g1 gV⟩
    · have ex : (x == 0) = false := by simpa using hx0
      by_cases hy0 : y = 0
      · have hX : cgE k x y t z C R = 42 := by rw [HX.out, if_neg (by simp), if_pos (.inr hy0)]
        rw [hX]
        clear hX HX hx0
        subst hy0
        go_enter Tryz.func34, Tryz.ntmps34
        go_wp2_with (go_at_call 65; refine hc.mono ?_; rintro e V ⟨rfl, gV⟩; have BV := B1.kept gV (by simp); have v0 := BV.cell 0 (v := .int .u8 k) rfl; have v1 := BV.cell 1 (v := .int .i64 x) rfl; have v2 := BV.cell 2 (v := .int .i64 0) rfl; have v3 := BV.cell 3 (v := .int .u8 t) rfl; have v4 := BV.cell 4 (v := .int .i64 z) rfl)
        go_ret
        exact ⟨rfl, gb_trans g1 gV⟩
      · have ey : (y == 0) = false := by simpa using hy0
        have HV : ∀ X, W1.grownBy X none → X.cell? ⟨r, 0, none⟩ = some (.int .i64 (C : Nat)) ∧ X.cell? ⟨r, 1, none⟩ = some (.int .i64 (R : Nat)) := fun X hX => ⟨(h1.kept hX (by simp) (by simp)).fld.cell 0 rfl, (h1.kept hX (by simp) (by simp)).fld.cell 1 rfl⟩
        have hneg : ¬ (x = 0 ∨ y = 0) := by omega
        by_cases hxC : x = C
        · have exC : (x != (C : Int)) = false := by simp [hxC]
          by_cases hyR : y = R
          · have eyR : (y != (R : Int)) = false := by simp [hyR]
            have hX : cgE k x y t z C R = 0 := by rw [HX.out, if_neg (by simp), if_neg hneg, if_neg (by omega)]
            rw [hX]
            clear hX HX hx0 hy0 hxC hyR hneg
            go_enter Tryz.func34, Tryz.ntmps34
            go_wp2_with (go_at_call 65; refine hc.mono ?_; rintro e V ⟨rfl, gV⟩; have BV := B1.kept gV (by simp); have v0 := BV.cell 0 (v := .int .u8 k) rfl; have v1 := BV.cell 1 (v := .int .i64 x) rfl; have v2 := BV.cell 2 (v := .int .i64 y) rfl; have v3 := BV.cell 3 (v := .int .u8 t) rfl; have v4 := BV.cell 4 (v := .int .i64 z) rfl; obtain ⟨p0, p1⟩ := HV V gV)
            go_quiet (fail)
            go_wp2
            go_ret
            exact ⟨rfl, gb_drewN (gb_trans g1 gV) _⟩
          · have eyR : (y != (R : Int)) = true := by simp; exact hyR
            have hX : cgE k x y t z C R = 21 := by rw [HX.out, if_neg (by simp), if_neg hneg, if_pos (by omega)]
            rw [hX]
            clear hX HX hx0 hy0 hxC hneg
            have eyR2 : binOp .neq 3 (.int .i64 y) (.int .i64 (R : Nat)) = pure (.bool true) := by rw [binOp_neq, eyR]
            clear eyR hyR
            go_enter Tryz.func34, Tryz.ntmps34
            go_wp2_with (go_at_call 65; refine hc.mono ?_; rintro e V ⟨rfl, gV⟩; have BV := B1.kept gV (by simp); have v0 := BV.cell 0 (v := .int .u8 k) rfl; have v1 := BV.cell 1 (v := .int .i64 x) rfl; have v2 := BV.cell 2 (v := .int .i64 y) rfl; have v3 := BV.cell 3 (v := .int .u8 t) rfl; have v4 := BV.cell 4 (v := .int .i64 z) rfl; obtain ⟨p0, p1⟩ := HV V gV)
            go_quiet (fail)
            go_wp2
            go_ret
            exact ⟨rfl, gb_drewN (gb_trans g1 gV) _⟩
        · have hX : cgE k x y t z C R = 21 := by rw [HX.out, if_neg (by simp), if_neg hneg, if_pos (by omega)]
          have exC2 : binOp .neq 3 (.int .i64 x) (.int .i64 (C : Nat)) = pure (.bool true) := by rw [binOp_neq, show (x != (C : Int)) = true by simp; exact hxC]
          rw [hX]
          clear hX HX hx0 hy0 hneg hxC
          go_enter Tryz.func34, Tryz.ntmps34
          go_wp2_with (go_at_call 65; refine hc.mono ?_; rintro e V ⟨rfl, gV⟩; have BV := B1.kept gV (by simp); have v0 := BV.cell 0 (v := .int .u8 k) rfl; have v1 := BV.cell 1 (v := .int .i64 x) rfl; have v2 := BV.cell 2 (v := .int .i64 y) rfl; have v3 := BV.cell 3 (v := .int .u8 t) rfl; have v4 := BV.cell 4 (v := .int .i64 z) rfl; obtain ⟨p0, p1⟩ := HV V gV)
          go_quiet (fail)
          go_wp2
          go_ret
          exact ⟨rfl, gb_drewN (gb_trans g1 gV) _⟩
  · have hX : cgE k x y t z C R = 9 := by rw [HX.out, if_pos h0]
    have h0' : (E == 0) = false := by simpa using h0
    rw [hX]
    clear hX HX h0
    go_enter Tryz.func34, Tryz.ntmps34
    go_wp2_with (go_at_call 65; refine hc.mono ?_; rintro e V ⟨rfl, gV⟩)
    go_ret
    exact ⟨rfl, gb_trans g1 gV⟩
theorem fi_sub (n : Nat) (u : Int) (h1 : -1 ≤ u) (h2 : u ≤ 65536) (hn : n ≤ 65536) : u - (n : Int) / 2 = u + To.fi n := by unfold To.fi; omega
theorem fi_add (n : Nat) (u : Nat) : (u : Int) + To.fi n + (n : Int) / 2 = (u : Int) := by unfold To.fi; omega
set_option maxHeartbeats 400000 in
theorem stateC {k t z : Int} {C R : Nat} (G : Gr k t z C R) (r d S : Nat) (pk : Bool) (g : Nat → Nat) (hz : Sz C R S) (u v : Int) (hu : -1 ≤ u ∧ u ≤ C) (hv : -1 ≤ v ∧ v ≤ R) (w : World) (h : Rf w r d C R S pk g) : Calls Tryz.prog 35 #[.agg #[.int .u8 k, .int .i64 (C : Nat), .int .i64 (R : Nat), .int .u8 t, .int .i64 z], .pointer (some ⟨r, 0, none⟩), .int .i64 u, .int .i64 v] w fun e w' => e = .returned (.int .u8 (plS k t z C R g u v : Nat)) ∧ w.grownBy w' none := by
  have hb := fc_bd G hu hv
  have b1 := fi_mem C G.c1
  have b2 := fi_mem R G.r1
  have c1 := G.c1
  have r1 := G.r1
  have hr := fun w => Fd.refRingC k C R t z (u + To.fi C) (v + To.fi R) G.t0 w
  have hB : Fd.riB k C R t z (u + To.fi C) (v + To.fi R) = fcB k t z C R u v := rfl
  rw [hB] at hr
  have s1 := fi_sub C u hu.1 (by omega) c1
  have s2 := fi_sub R v hv.1 (by omega) r1
  have HPL : Hid (plS k t z C R g u v = if fcB k t z C R u v then g (fcY k t z C R u v * C + fcX k t z C R u v) else 0) := rfl
  obtain ⟨U, hU⟩ : ∃ U, u + To.fi C = U := ⟨_, rfl⟩
  obtain ⟨V, hV⟩ : ∃ V, v + To.fi R = V := ⟨_, rfl⟩
  rw [hU] at s1
  rw [hV] at s2
  rw [hU, hV] at hr hB hb
  have lU : -32769 ≤ U ∧ U ≤ 65536 := by omega
  have lV : -32769 ≤ V ∧ V ≤ 65536 := by omega
  have wU : IntKind.i64.wrap U = U := by rw [IntKind.wrap_i64]; omega
  have wV : IntKind.i64.wrap V = V := by rw [IntKind.wrap_i64]; omega
  have HR : Hid (∀ w, Calls Tryz.prog 66 #[.agg #[.int .u8 k, .int .i64 (C : Nat), .int .i64 (R : Nat), .int .u8 t, .int .i64 z], .agg #[.int .i64 U, .int .i64 V]] w fun e w' => e = .returned (.tuple #[.agg (Fd.riV k C R t z U V), .bool (fcB k t z C R u v), .int .i64 (Fd.riE k C R t z U V)]) ∧ w.grownBy w' none) := hr
  clear hr hU hV b1 b2
  obtain ⟨W1, hW1, sz1, g1, B1⟩ := boxn w #[.int .u8 k, .int .i64 (C : Nat), .int .i64 (R : Nat), .int .u8 t, .int .i64 z] 23
  have b0 := B1.cell 0 (v := .int .u8 k) rfl
  have b1 := B1.cell 1 (v := .int .i64 (C : Nat)) rfl
  have b2 := B1.cell 2 (v := .int .i64 (R : Nat)) rfl
  have b3 := B1.cell 3 (v := .int .u8 t) rfl
  have b4 := B1.cell 4 (v := .int .i64 z) rfl
  have h1 := h.kept g1 (by simp) (by simp)
  cases hf : fcB k t z C R u v
  · rw [Fd.riV_no (hB.trans hf), hf] at HR
    rw [hf, if_neg (by decide)] at HPL
    have hX := HPL.out
    rw [hX]
    clear hX HPL hb hB hf hu hv lU lV
    obtain ⟨E, hE⟩ : ∃ E, Fd.riE k C R t z U V = E := ⟨_, rfl⟩
    rw [hE] at HR
    clear hE
    obtain ⟨W2, hW2, sz2, g2, B2⟩ := boxn W1 #[.int .i64 0, .int .i64 0] 60
    go_enter Tryz.func35, Tryz.ntmps35
    go_wp2_with (go_at_call 66; refine (HR.out _).mono ?_; rintro e V2 ⟨rfl, g3⟩)
    go_ret
    exact ⟨rfl, gb_alloc (gb_trans g1 g3) _⟩
  · rw [Fd.riV_yes (hB.trans hf), hf, hb.2.2.1, hb.2.2.2.1] at HR
    rw [hf, if_pos rfl] at HPL
    have hX := HPL.out
    rw [hX]
    have hx := hb.1
    have hy := hb.2.1
    obtain ⟨X, hXe⟩ : ∃ X, fcX k t z C R u v = X := ⟨_, rfl⟩
    obtain ⟨Y, hYe⟩ : ∃ Y, fcY k t z C R u v = Y := ⟨_, rfl⟩
    rw [hXe] at HR hx
    rw [hYe] at HR hy
    rw [hXe, hYe]
    clear hX HPL hb hB hf hu hv lU lV hXe hYe
    obtain ⟨E, hE⟩ : ∃ E, Fd.riE k C R t z U V = E := ⟨_, rfl⟩
    rw [hE] at HR
    clear hE
    have a1 := fi_add C X
    have a2 := fi_add R Y
    have b1 := fi_mem C c1
    have b2 := fi_mem R r1
    obtain ⟨P, hP⟩ : ∃ P, (X : Int) + To.fi C = P := ⟨_, rfl⟩
    obtain ⟨Q, hQ⟩ : ∃ Q, (Y : Int) + To.fi R = Q := ⟨_, rfl⟩
    rw [hP] at HR a1
    rw [hQ] at HR a2
    have wX : IntKind.i64.wrap (X : Int) = (X : Int) := by rw [IntKind.wrap_i64]; omega
    have wY : IntKind.i64.wrap (Y : Int) = (Y : Int) := by rw [IntKind.wrap_i64]; omega
    clear hP hQ b1 b2
    go_enter Tryz.func35, Tryz.ntmps35
    go_wp2_with (first | (go_at_call 66; refine (HR.out _).mono ?_; rintro e V2 ⟨rfl, g3⟩; obtain ⟨W4, hW4, sz4, g4, B4⟩ := boxn V2 #[.int .i64 P, .int .i64 Q] 60; have g34 := gb_trans g3 g4; have T4 := B1.kept g34 (by simp); have q0 := T4.cell 0 (v := .int .u8 k) rfl; have q1 := T4.cell 1 (v := .int .i64 (C : Nat)) rfl; have q2 := T4.cell 2 (v := .int .i64 (R : Nat)) rfl; have q3 := T4.cell 3 (v := .int .u8 t) rfl; have q4 := T4.cell 4 (v := .int .i64 z) rfl; have p0 := B4.cell 0 (v := .int .i64 P) rfl; have p1 := B4.cell 1 (v := .int .i64 Q) rfl; have h4 := h1.kept g34 (by simp) (by simp); have hat := ratC r d C R S pk g hz X Y hx hy W4 h4) | (go_at_call 45; refine hat.mono ?_; rintro e V5 ⟨rfl, g5⟩))
    go_ret
    exact ⟨rfl, gb_trans g1 (gb_trans g34 g5)⟩
end Go.Proofs.YtjndljjpbkfmiaaGreatDoor
namespace Go.Proofs.YtjndljjpbkfmiaaGreatDoor
open Go.RowKit
set_option linter.unusedVariables false
set_option linter.unusedSimpArgs false
set_option maxRecDepth 100000

theorem gb_beyondX {a b c : World} {r q : Option Nat} (h : a.grownBy b r) (k : b.grownBy c q) (hq : ∀ i, q = some i → a.heap.size ≤ i) : a.grownBy c r := by
  cases q with
  | none => exact gb_none h k
  | some i => exact gb_past h k (hq i rfl)
theorem refBytesX (k x y t z E : Int) (p : Option Addr) (hE : (E == 0) = false) (w : World) (ha : ∀ w', w.grownBy w' none → Calls Tryz.prog 34 #[.agg #[.int .u8 k, .int .i64 x, .int .i64 y, .int .u8 t, .int .i64 z], .pointer p] w' fun e w2 => e = .returned (.int .i64 E) ∧ w'.grownBy w2 none) : Calls Tryz.prog 10 #[.agg #[.int .u8 k, .int .i64 x, .int .i64 y, .int .u8 t, .int .i64 z], .pointer p] w fun e w' => e = .returned (.tuple #[.agg #[.int .i64 0, .int .i64 0, .slice none 0 0], .int .i64 E]) ∧ w.grownBy w' none := by
  obtain ⟨W1, hW1, sz1, g1, B1⟩ := boxn w #[.int .u8 k, .int .i64 x, .int .i64 y, .int .u8 t, .int .i64 z] 23
  have b0 := B1.cell 0 (v := .int .u8 k) rfl
  have b1 := B1.cell 1 (v := .int .i64 x) rfl
  have b2 := B1.cell 2 (v := .int .i64 y) rfl
  have b3 := B1.cell 3 (v := .int .u8 t) rfl
  have b4 := B1.cell 4 (v := .int .i64 z) rfl
  obtain ⟨W2, hW2, sz2, g2, B2⟩ := boxn W1 #[.int .i64 0, .int .i64 0, .slice none 0 0] 33
  have B12 := B1.kept g2 (by simp)
  have q0 := B12.cell 0 (v := .int .u8 k) rfl
  have q1 := B12.cell 1 (v := .int .i64 x) rfl
  have q2 := B12.cell 2 (v := .int .i64 y) rfl
  have q3 := B12.cell 3 (v := .int .u8 t) rfl
  have q4 := B12.cell 4 (v := .int .i64 z) rfl
  have ha2 := ha W2 (gb_trans g1 g2)
  obtain ⟨fs, hfs⟩ := underF
  go_enter Tryz.func10, Tryz.ntmps10
  go_wp2_with (go_at_call 34; refine ha2.mono ?_; rintro e V1 ⟨rfl, g3⟩; have B3 := B2.kept g3 (by simp); have z0 := B3.cell 0 (v := .int .i64 0) rfl; have z1 := B3.cell 1 (v := .int .i64 0) rfl; have z2 := B3.cell 2 (v := .slice none 0 0) rfl; have y0 := B3.frozen 0; have y1 := B3.frozen 1; have y2 := B3.frozen 2)
  refine ret_c2 (g := W1.heap.size) (cs := #[.int .i64 0, .int .i64 0, .slice none 0 0]) rfl hfs infoF rfl (bo3 B3) rfl ⟨rfl, gb3 (gb_trans g1 (gb_trans g2 g3)) g1.size⟩
set_option maxHeartbeats 2000000 in
theorem refBytesY {k t z : Int} {C R : Nat} (G : Gr k t z C R) (r d S : Nat) (pk : Bool) (g : Nat → Nat) (hz : Sz C R S) (w : World) (h : Rf w r d C R S pk g) : Calls Tryz.prog 10 #[.agg #[.int .u8 k, .int .i64 (C : Nat), .int .i64 (R : Nat), .int .u8 t, .int .i64 z], .pointer (some ⟨r, 0, none⟩)] w fun e w' => ∃ p c, e = .returned (.tuple #[.agg #[.int .i64 (C : Nat), .int .i64 (R : Nat), .slice p ((C + 2) * (R + 2)) c], .int .i64 0]) ∧ By w' p ((C + 2) * (R + 2)) (frV k t z C R g) ∧ (∀ a, p = some a → w.heap.size ≤ a.block) ∧ w.grownBy w' none := by
  have hcg := cg_gr G
  have c1 := G.c1
  have r1 := G.r1
  obtain ⟨W1, hW1, sz1, g1, B1⟩ := boxn w #[.int .u8 k, .int .i64 (C : Nat), .int .i64 (R : Nat), .int .u8 t, .int .i64 z] 23
  have b0 := B1.cell 0 (v := .int .u8 k) rfl
  have b1 := B1.cell 1 (v := .int .i64 (C : Nat)) rfl
  have b2 := B1.cell 2 (v := .int .i64 (R : Nat)) rfl
  have b3 := B1.cell 3 (v := .int .u8 t) rfl
  have b4 := B1.cell 4 (v := .int .i64 z) rfl
  obtain ⟨W2, hW2, sz2, g2, B2⟩ := boxn W1 #[.int .i64 0, .int .i64 0, .slice none 0 0] 33
  have B12 := B1.kept g2 (by simp)
  have q0 := B12.cell 0 (v := .int .u8 k) rfl
  have q1 := B12.cell 1 (v := .int .i64 (C : Nat)) rfl
  have q2 := B12.cell 2 (v := .int .i64 (R : Nat)) rfl
  have q3 := B12.cell 3 (v := .int .u8 t) rfl
  have q4 := B12.cell 4 (v := .int .i64 z) rfl
  have h2 := h.kept (gb_trans g1 g2) (by simp) (by simp)
  have ha2 := askedC k C R t z G.t0 r d C R S pk g W2 h2
  rw [hcg] at ha2
  obtain ⟨fs, hfs⟩ := underF
  go_enter Tryz.func10, Tryz.ntmps10
  go_wp2_with (go_at_call 34; refine ha2.mono ?_; rintro e V1 ⟨rfl, g3⟩; have B3 := B2.kept g3 (by simp); have T3 := B12.kept g3 (by simp); have t0 := T3.cell 0 (v := .int .u8 k) rfl; have t1 := T3.cell 1 (v := .int .i64 (C : Nat)) rfl; have t2 := T3.cell 2 (v := .int .i64 (R : Nat)) rfl; have t3 := T3.cell 3 (v := .int .u8 t) rfl; have t4 := T3.cell 4 (v := .int .i64 z) rfl; have h3 := h2.kept g3 (by simp) (by simp))
  have G3 := gb_trans g1 (gb_trans g2 g3)
  obtain ⟨W5, hW5, sz5, g5, O5⟩ := boxn V1 #[.int .i64 (C : Nat), .int .i64 (R : Nat), .slice none 0 0] 33
  rw [hW5]
  clear hW5
  have lob : V1.heap.size < W5.heap.size := O5.lt
  obtain ⟨ob, hob⟩ : ∃ ob, V1.heap.size = ob := ⟨_, rfl⟩
  rw [hob] at O5 lob ⊢
  have HOB : Hid (V1.heap.size = ob) := hob
  clear hob
  obtain ⟨i8, HI8⟩ : ∃ i, Hid (Tryz.prog.info? 5 = some i ∧ i.zero = some (.int .u8 0) ∧ i.size = 1 ∧ i.bytes = 1) := by
    obtain ⟨i, h1, h2, h3, h4⟩ := info_parts info8
    exact ⟨i, h1, h2, h3, h4⟩
  obtain ⟨F, hF⟩ : ∃ F : Nat → Nat, frV k t z C R g = F := ⟨_, rfl⟩
  have HF : Hid (frV k t z C R g = F) := hF
  clear hF
  have hwo : w.heap.size ≠ ob := by have := T3.lt; have := HOB.out; omega
  have hro : r ≠ ob := by have := h3.lts; have := HOB.out; omega
  have hdo : d ≠ ob := by have := h3.lts; have := HOB.out; omega
  have hro2 : W1.heap.size ≠ ob := by have := B3.lt; have := HOB.out; omega
  have T5 := T3.kept g5 (by simp)
  have h5 := h3.kept g5 (by simp) (by simp)
  have B25 := B3.kept g5 (by simp)
  have lt5 := T5.lt
  obtain ⟨m2, hm2⟩ : ∃ m2, C + 2 = m2 := ⟨_, rfl⟩
  have HM2 : Hid (C + 2 = m2) := hm2
  have hmul : ∀ Y, Y ≤ R + 2 → Y * m2 ≤ 4295229444 := fun Y hY => Nat.le_trans (Nat.mul_le_mul hY (show m2 ≤ 65538 by omega)) (Nat.le_trans (Nat.mul_le_mul_right _ (show R + 2 ≤ 65538 by omega)) (by decide))
  have HMU : Hid (∀ Y, Y ≤ R + 2 → Y * m2 ≤ 4295229444) := hmul
  clear hmul hm2
  go_loopw [8] (fun i wr => ∃ (Y : Nat) (v : Int) (ov : Value), Hid (v = (Y : Int) - 1) ∧ Y ≤ R + 2 ∧ i = .int .i64 v ∧ Bo wr ob 33 #[.int .i64 (C : Nat), .int .i64 (R : Nat), ov] ∧ wr.ownsRow W5.heap.size 5 1 ov (Y * m2) (bysV F (Y * m2)) ∧ W5.grownBy wr (some ob)) (fun i _ => (R + 2 : Int).toNat - (intOf i + 1).toNat)
  case atStart => exact ⟨0, -1, _, (by unfold Hid; omega), Nat.zero_le _, rfl, O5, by rw [Nat.zero_mul]; exact World.ownsRow_nil _ _ _ _, World.grownBy.refl _ _⟩
  case round =>
    obtain ⟨Y, v, ov, HV, hY, rfl, Oy, own, gw⟩ := hrel
    have hv := HV.out
    have Ty := T5.kept gw (by simp; exact hwo)
    have y0 := Ty.cell 0 (v := .int .u8 k) rfl
    have y1 := Ty.cell 1 (v := .int .i64 (C : Nat)) rfl
    have y2 := Ty.cell 2 (v := .int .i64 (R : Nat)) rfl
    have y3 := Ty.cell 3 (v := .int .u8 t) rfl
    have y4 := Ty.cell 4 (v := .int .i64 z) rfl
    by_cases hlt : Y < R + 2
    · have hv1 : v ≤ (R : Int) := by omega
      have hv0 : -1 ≤ v := by omega
      clear hv
      go_wp2
      go_loopw [9] (fun i wr2 => ∃ (X : Nat) (u : Int) (ov : Value), Hid (u = (X : Int) - 1) ∧ X ≤ m2 ∧ i = .int .i64 u ∧ Bo wr2 ob 33 #[.int .i64 (C : Nat), .int .i64 (R : Nat), ov] ∧ wr2.ownsRow W5.heap.size 5 1 ov (Y * m2 + X) (bysV F (Y * m2 + X)) ∧ W5.grownBy wr2 (some ob)) (fun i _ => (m2 : Int).toNat - (intOf i + 1).toNat)
      case atStart => exact ⟨0, -1, ov, (by unfold Hid; omega), Nat.zero_le _, rfl, Oy, own, gw⟩
      case round =>
        obtain ⟨X, u, ov, HU, hX, rfl, Ox, own, gw⟩ := hrel
        have hu := HU.out
        have hm2 := HM2.out
        have Tx := T5.kept gw (by simp; exact hwo)
        have x0 := Tx.cell 0 (v := .int .u8 k) rfl
        have x1 := Tx.cell 1 (v := .int .i64 (C : Nat)) rfl
        have x2 := Tx.cell 2 (v := .int .i64 (R : Nat)) rfl
        have x3 := Tx.cell 3 (v := .int .u8 t) rfl
        have x4 := Tx.cell 4 (v := .int .i64 z) rfl
        by_cases hxl : X < m2
        · have hu1 : u ≤ (C : Int) := by omega
          have hu0 : -1 ≤ u := by omega
          have ho2 := Ox.cell 2 (v := ov) rfl
          have hx := h5.kept gw (by simp; exact hro) (by simp; exact hdo)
          have hst := stateC G r d S pk g hz u v ⟨hu0, hu1⟩ ⟨hv0, hv1⟩ wr.drew ⟨hx.fld, hx.row⟩
          have hq : plS k t z C R g u v = F (Y * m2 + X) := by
            rw [← HF.out, ← fr_ix k t z g ⟨hu0, hu1⟩ hv0]
            obtain ⟨a, b, ea, eb, ei⟩ := ix_nat (C := C) hu0 hv0
            have ea' : a = X := by omega
            have eb' : b = Y := by have := HV.out; omega
            rw [ei, ea', eb', hm2]
          rw [hq] at hst
          have hyb := HMU.out Y hY
          obtain ⟨q, hqe⟩ : ∃ q, Y * m2 + X = q := ⟨_, rfl⟩
          have HQ : Hid (Y * m2 + X = q) := hqe
          rw [hqe] at own hst
          have hqb : q ≤ 4295300000 := by omega
          obtain ⟨fq, hfq⟩ : ∃ fq, F q = fq := ⟨_, rfl⟩
          rw [hfq] at hst
          have HFQ : Hid (F q = fq) := hfq
          clear hfq hqe hq hyb hu hm2
          have ownd : wr.drew.ownsRow W5.heap.size 5 1 ov q (bysV F q) := own
          have Od := Ox.dr
          have hszw : W5.heap.size ≤ wr.heap.size := gw.size
          go_wp2
          go_region_law (first | (refine step_append_lies _ rfl (.tmp 35) (.tmp 41) 24 rfl W5.heap.size 5 i8 (.int .u8 0) 1 1 under8S HI8.out.1 HI8.out.2.1 HI8.out.2.2.1 HI8.out.2.2.2 rfl (by decide) _ q (bysV F q) rfl own2 ⟨X1.heap.size, 0, none⟩ 1 1 [.int .u8 (fq : Nat)] rfl rfl nX (by intro u hu; simp at hu; subst hu; rfl) (by decide) (by unfold maxLen; omega) (by omega) sX _ rfl ?_; intro g6 c6 w' own' g' at' lt'; have OX3 := OX2.kept g' (fun e => Nat.not_le_of_lt lob (own2.lt ob e.symm).1); have oX3 := OX3.cell 2 (v := ov) rfl; have fX3 := OX3.frozen 2) | (go_simp; go_wp2_with (go_at_call 35; refine hst.mono ?_; rintro e X1 ⟨rfl, gX⟩; have OX := Od.kept gX (by simp); have oX := OX.cell 2 (v := ov) rfl; obtain ⟨X2, hX2⟩ : ∃ X2, X1.alloc (.cells #[.int .u8 (fq : Nat)] 5) = X2 := ⟨_, rfl⟩; have gX2 : X1.grownBy X2 none := (by rw [← hX2]; exact World.grownBy_alloc _ _ _); have OX2 := OX.kept gX2 (by simp); have oX2 := OX2.cell 2 (v := ov) rfl; have nX : ∀ l u, [Value.int .u8 (fq : Nat)][l]? = some u → X2.cell? ((⟨X1.heap.size, 0, none⟩ : Addr).add l) = some u := (by rw [← hX2]; exact new1 X1 _); have own2 := (ownd.kept gX (Classical.em _)).kept gX2 (Classical.em _); have sX : W5.heap.size ≤ X2.heap.size := Nat.le_trans hszw (Nat.le_trans gX.size gX2.size))))
          all_goals go_wp2
          all_goals go_roundw
          all_goals first
            | (simp [intOf]; have := HU.out; omega)
            | skip
          all_goals
            refine ⟨X + 1, u + 1, _, (by unfold Hid; have := HU.out; omega), hxl, rfl, (by simpa using OX3.set 2 (.slice (some ⟨g6, 0, none⟩) (q + 1) c6)), ?_, gb_set (gb_beyondX (gb_none (gb_none (gb_drew gw) gX) gX2) g' (fun i e => (own2.lt _ e).1)) _ _⟩
            have own3 := own'.kept (gb_set (World.grownBy.refl w' (some ob)) 2 (.slice (some ⟨g6, 0, none⟩) (q + 1) c6)) (.inr (fun e => Nat.not_le_of_lt lob (own'.lt ob e).1))
            have e1 : Y * m2 + (X + 1) = q + 1 := by have := HQ.out; omega
            rw [e1, bysV_succ, HFQ.out]
            exact own3
        · have hXm : X = m2 := by omega
          subst X
          have hu2 : ¬ u ≤ (C : Int) := by omega
          clear hu hm2
          go_wp2
          go_roundw
          case rel =>
            have e1 : (Y + 1) * m2 = Y * m2 + m2 := by rw [Nat.succ_mul]
            refine ⟨Y + 1, v + 1, ov, (by unfold Hid; have := HV.out; omega), hlt, rfl, Ox, by rw [e1]; exact own, gw⟩
          case measure => simp [intOf]; have := HV.out; omega
    · have hYR : Y = R + 2 := by omega
      have hv2 : ¬ v ≤ (R : Int) := by omega
      obtain ⟨mq, hmq⟩ : ∃ mq, Y * m2 = mq := ⟨_, rfl⟩
      have HMQ : Hid ((C + 2) * (R + 2) = mq) := by
        unfold Hid
        rw [← hmq, hYR, HM2.out, Nat.mul_comm]
      rw [hmq] at own
      clear hmq
      obtain ⟨p, c, rfl, hby, hown, _⟩ := own_by own
      have hpb : ∀ a, p = some a → W5.heap.size ≤ a.block := fun a e => (own.lt _ (hown a e)).1
      have HPB : Hid (∀ a, p = some a → W5.heap.size ≤ a.block) := hpb
      clear hpb hown
      have Zy := B25.kept gw (by simp; exact hro2)
      have z0 := Zy.cell 0 (v := .int .i64 0) rfl
      have z1 := Zy.cell 1 (v := .int .i64 0) rfl
      have z2 := Zy.cell 2 (v := .slice none 0 0) rfl
      have zf0 := Zy.frozen 0
      have zf1 := Zy.frozen 1
      have zf2 := Zy.frozen 2
      have o0 := Oy.cell 0 (v := .int .i64 (C : Nat)) rfl
      have o1 := Oy.cell 1 (v := .int .i64 (R : Nat)) rfl
      have o2 := Oy.cell 2 (v := .slice p mq c) rfl
      obtain ⟨W7, hW7⟩ : ∃ W7, ((wr.setCell ⟨W1.heap.size, 0, none⟩ (.int .i64 (C : Nat))).setCell ⟨W1.heap.size, 1, none⟩ (.int .i64 (R : Nat))).setCell ⟨W1.heap.size, 2, none⟩ (.slice p mq c) = W7 := ⟨_, rfl⟩
      have B7 : Bo W7 W1.heap.size 33 #[.int .i64 (C : Nat), .int .i64 (R : Nat), .slice p mq c] := hW7 ▸ bo3 Zy
      have g7 : wr.grownBy W7 (some W1.heap.size) := hW7 ▸ gb_set (gb_set (gb_set (World.grownBy.refl _ _) _ _) _ _) _ _
      clear hv
      have R1 : By W7 p ((C + 2) * (R + 2)) (frV k t z C R g) := by
        rw [HMQ.out, HF.out]
        refine hby.kept g7 (fun a e h => ?_)
        have := HPB.out a e
        have h2 := B2.lt
        have h3 := (gb_trans g3 g5).size
        simp at h
        omega
      have R2 : ∀ a, p = some a → w.heap.size ≤ a.block := fun a e => by
        have := HPB.out a e
        have h3 := (gb_trans G3 g5).size
        omega
      have R3 : w.grownBy W7 none := gb_past (gb_past (gb_trans G3 g5) gw (by rw [← HOB.out]; exact G3.size)) g7 g1.size
      have RR : Hid (By W7 p ((C + 2) * (R + 2)) (frV k t z C R g) ∧ (∀ a, p = some a → w.heap.size ≤ a.block) ∧ w.grownBy W7 none) := ⟨R1, R2, R3⟩
      clear R1 R2 R3
      go_wp2
      refine ret_c2 (g := W1.heap.size) (cs := #[.int .i64 (C : Nat), .int .i64 (R : Nat), .slice p mq c]) rfl hfs infoF rfl B7 rfl ?_
      have e0 := HMQ.out
      first
        | exact ⟨p, c, (by rw [e0]; rfl), RR.out.1, RR.out.2.1, RR.out.2.2⟩
        | exact ⟨p, ⟨c, (by rw [e0]; rfl)⟩, RR.out.1, RR.out.2.1, RR.out.2.2⟩
end Go.Proofs.YtjndljjpbkfmiaaGreatDoor
