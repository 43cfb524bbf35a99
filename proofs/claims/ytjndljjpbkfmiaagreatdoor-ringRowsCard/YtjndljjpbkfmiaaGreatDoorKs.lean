/- great; stays, turned. -/
import Derived.Test.YtjndljjpbkfmiaaGreatDoorKr
namespace Go.Proofs.YtjndljjpbkfmiaaGreatDoor
open Go.RowKit
set_option linter.unusedVariables false
set_option linter.unusedSimpArgs false
set_option maxRecDepth 100000

/-- What is grown, and written in the blocks of L alone. -/
structure Gx (L : Nat → Prop) (w w' : World) : Prop where
  os : w'.os = w.os
  tape : w'.tape = w.tape
  output : w'.output = w.output
  size : w.heap.size ≤ w'.heap.size
  block : ∀ i, i < w.heap.size → ¬ L i → w'.heap[i]? = w.heap[i]?
theorem Gx.of {L : Nat → Prop} {w w' : World} {o : Option Nat} (h : w.grownBy w' o) (ho : ∀ i, o = some i → L i) : Gx L w w' := ⟨h.os, h.tape, h.output, h.size, fun i hi hL => h.block i hi (fun e => hL (ho i e.symm))⟩
theorem Gx.none {L : Nat → Prop} {w w' : World} (h : w.grownBy w' Option.none) : Gx L w w' := Gx.of h (fun i e => by cases e)
theorem Gx.refl (L : Nat → Prop) (w : World) : Gx L w w := Gx.none (World.grownBy.refl _ _)
theorem Gx.trans {L : Nat → Prop} {a b c : World} (h : Gx L a b) (k : Gx L b c) : Gx L a c := ⟨k.os.trans h.os, k.tape.trans h.tape, k.output.trans h.output, Nat.le_trans h.size k.size, fun i hi hL => (k.block i (Nat.lt_of_lt_of_le hi h.size) hL).trans (h.block i hi hL)⟩
theorem Gx.below {L : Nat → Prop} {w0 w w' : World} (h0 : Below w0.heap.size w0 w) (h : Gx L w w') (hL : ∀ i, L i → w0.heap.size ≤ i) : Below w0.heap.size w0 w' := by
  obtain ⟨h1, h2, h3, h4, h5⟩ := h0
  exact ⟨h.os.trans h1, h.tape.trans h2, h.output.trans h3, Nat.le_trans h4 h.size, fun k hk => (h.block k (Nat.lt_of_lt_of_le hk h4) (fun e => by have := hL k e; omega)).trans (h5 k hk)⟩
theorem Gx.row {L : Nat → Prop} {w w' : World} {b n : Nat} {t : TypeId} {f : Nat → Value} (h : Gx L w w') (hr : w.rowIs b t n f) (hb : ¬ L b) : w'.rowIs b t n f := hr.of_block (h.block b hr.lt hb)
theorem Gx.bo {L : Nat → Prop} {w w' : World} {b : Nat} {t : TypeId} {cs : Array Value} (h : Gx L w w') (hr : Bo w b t cs) (hb : ¬ L b) : Bo w' b t cs := (h.block b hr.lt hb).trans hr
/-- Has a field more cells than are gone through? -/
def grB (x y : Int) : Bool := decide (0 < x) && (decide (0 < y) && (decide (4000 < x) || decide (4000 < y) || decide (4000 < x * y)))
theorem greatC (x y : Int) (hx : x ≤ 9223372036854775807) (hy : y ≤ 9223372036854775807) (v2 v3 v4 : Value) (w : World) : Calls Tryz.prog 8 #[.agg #[.int .i64 x, .int .i64 y, v2, v3, v4]] w fun e w' => e = .returned (.bool (grB x y)) ∧ w.grownBy w' none := by
  obtain ⟨W1, hW1, sz1, g1, B1⟩ := boxn w #[.int .i64 x, .int .i64 y, v2, v3, v4] 26
  have b0 := B1.cell 0 (v := .int .i64 x) rfl
  have b1 := B1.cell 1 (v := .int .i64 y) rfl
  by_cases h1 : 0 < x
  · by_cases h2 : 0 < y
    · by_cases h3 : 4000 < x
      · have hX : grB x y = true := by simp [grB, h1, h2, h3]
        rw [hX]
        clear hX
        go_enter Tryz.func8, Tryz.ntmps8
        go_wp2
        go_ret
        exact ⟨rfl, g1⟩
      · have d3 : decide (4000 < x) = false := decide_eq_false h3
        by_cases h4 : 4000 < y
        · have hX : grB x y = true := by simp [grB, h1, h2, h4]
          rw [hX]
          clear hX
          go_enter Tryz.func8, Tryz.ntmps8
          go_wp2
          go_ret
          exact ⟨rfl, g1⟩
        · have d4 : decide (4000 < y) = false := decide_eq_false h4
          have hX : grB x y = decide (4000 < x * y) := by simp [grB, h1, h2, h3, h4]
          rw [hX]
          have hm : 0 ≤ x * y ∧ x * y ≤ 16000000 := by
            obtain ⟨p, rfl⟩ := Int.eq_ofNat_of_zero_le (show 0 ≤ x by omega)
            obtain ⟨q, rfl⟩ := Int.eq_ofNat_of_zero_le (show 0 ≤ y by omega)
            have : p * q ≤ 4000 * 4000 := Nat.mul_le_mul (by omega) (by omega)
            rw [← Int.natCast_mul]
            omega
          have hw : IntKind.i64.wrap (x * y) = x * y := by rw [IntKind.wrap_i64]; omega
          clear hX hm
          go_enter Tryz.func8, Tryz.ntmps8
          go_wp2
          go_ret
          exact ⟨rfl, g1⟩
    · have d2 : decide (0 < y) = false := decide_eq_false h2
      have hX : grB x y = false := by simp [grB, h2]
      rw [hX]
      clear hX
      go_enter Tryz.func8, Tryz.ntmps8
      go_wp2
      go_ret
      exact ⟨rfl, g1⟩
  · have d1 : decide (0 < x) = false := decide_eq_false h1
    have hX : grB x y = false := by simp [grB, h1]
    rw [hX]
    clear hX
    go_enter Tryz.func8, Tryz.ntmps8
    go_wp2
    go_ret
    exact ⟨rfl, g1⟩
theorem ratC (r d C R S : Nat) (pk : Bool) (g : Nat → Nat) (hz : Sz C R S) (x y : Nat) (hx : x < C) (hy : y < R) (w : World) (h : Rf w r d C R S pk g) : Calls Tryz.prog 45 #[.pointer (some ⟨r, 0, none⟩), .int .i64 (x : Nat), .int .i64 (y : Nat)] w fun e w' => e = .returned (.int .u8 (g (y * C + x) : Nat)) ∧ w.grownBy w' none := by
  have hall := hz.all
  have hrow := row_le (C := C) hy
  have hc := h.row.cell (i := y * C + x) (by omega)
  obtain ⟨mm, hmm⟩ : ∃ mm, C * R = mm := ⟨_, rfl⟩
  have c0 := h.fld.cell 0 (v := .int .i64 (C : Nat)) rfl
  have c4 := h.fld.cell 4 (v := .slice (some ⟨d, 0, none⟩) mm mm) (by rw [← hmm]; rfl)
  obtain ⟨a, ha⟩ : ∃ a, y * C = a := ⟨_, rfl⟩
  have w1 : IntKind.i64.wrap ((y : Int) * (C : Int)) = (a : Int) := by rw [← Int.natCast_mul, ha, IntKind.wrap_i64]; omega
  obtain ⟨k, hk⟩ : ∃ k, a + x = k := ⟨_, rfl⟩
  have hkI : (a : Int) + (x : Int) = (k : Int) := by omega
  have hkm : (k : Int) < (mm : Int) := by omega
  have wk : IntKind.i64.wrap (k : Int) = (k : Int) := by rw [IntKind.wrap_i64]; omega
  rw [ha, hk] at hc ⊢
  clear ha hk hmm
  go_enter Tryz.func45, Tryz.ntmps45
  go_wp2
  go_quiet (fail)
  go_wp2
  go_ret
  exact ⟨rfl, gb_drewN (World.grownBy.refl _ _) _⟩
end Go.Proofs.YtjndljjpbkfmiaaGreatDoor
namespace Go.Proofs.YtjndljjpbkfmiaaGreatDoor
open Go.RowKit
set_option linter.unusedVariables false
set_option linter.unusedSimpArgs false
set_option maxRecDepth 100000

theorem staysN (w : World) : Calls Tryz.prog 13 #[.pointer none, .pointer none] w fun e w' => e = .returned (.bool true) ∧ w.grownBy w' none := by
  go_enter Tryz.func13, Tryz.ntmps13
  go_wp2
  go_ret
  exact ⟨rfl, World.grownBy.refl _ _⟩
theorem eq_bool (p : Bool) : (p == p) = true := by simp
set_option maxHeartbeats 2000000 in
theorem staysY {M : (Nat → Nat) → World → Prop} {L : Nat → Prop} {b C R S : Nat} {pk : Bool} (F : FdX M L b C R S pk) (hz : Sz C R S) (r d : Nat) (g : Nat → Nat) (h256 : ∀ i, g i < 256) (w : World) (hM : M g w) (hR : Rf w r d C R S pk g) : Calls Tryz.prog 13 #[.pointer (some ⟨b, 0, none⟩), .pointer (some ⟨r, 0, none⟩)] w fun e w' => e = .returned (.bool true) ∧ w.grownBy w' none := by
  have hall := hz.all
  have hc0 := hz.c0
  have hr1 := hz.r1
  have hc1 := hz.c1
  have c0 := hR.fld.cell 0 (v := .int .i64 (C : Nat)) rfl
  have c1 := hR.fld.cell 1 (v := .int .i64 (R : Nat)) rfl
  have c2 := hR.fld.cell 2 (v := .int .i64 (S : Nat)) rfl
  have c3 := hR.fld.cell 3 (v := .bool pk) rfl
  go_enter Tryz.func13, Tryz.ntmps13
  go_wp2
  go_loopw [5] (fun i wr => ∃ y : Nat, y ≤ R ∧ i = .int .i64 (y : Nat) ∧ w.grownBy wr none) (fun i _ => R - (intOf i).toNat)
  case atStart => exact ⟨0, Nat.zero_le _, rfl, World.grownBy.refl _ _⟩
  case round =>
    obtain ⟨y, hy, rfl, Gy⟩ := hrel
    have hMy := F.grown hM Gy
    have hRy := hR.kept Gy (by simp) (by simp)
    have y0 := hRy.fld.cell 0 (v := .int .i64 (C : Nat)) rfl
    have y1 := hRy.fld.cell 1 (v := .int .i64 (R : Nat)) rfl
    have y2 := hRy.fld.cell 2 (v := .int .i64 (S : Nat)) rfl
    have y3 := hRy.fld.cell 3 (v := .bool pk) rfl
    by_cases hlt : y < R
    · have hlt' : (y : Int) < (R : Int) := by omega
      have hl := F.line g y hlt wr hMy
      have hrow := row_le (C := C) hlt
      obtain ⟨mm, hmm⟩ : ∃ mm, C * R = mm := ⟨_, rfl⟩
      obtain ⟨a, ha⟩ : ∃ a, y * C = a := ⟨_, rfl⟩
      have w1 : IntKind.i64.wrap ((y : Int) * (C : Int)) = (a : Int) := by rw [← Int.natCast_mul, ha, IntKind.wrap_i64]; omega
      have w2 : IntKind.i64.wrap ((y : Int) + 1) = ((y + 1 : Nat) : Int) := by rw [IntKind.wrap_i64]; omega
      have w3 : IntKind.i64.wrap (((y : Int) + 1) * (C : Int)) = (a : Int) + (C : Int) := by
        have e : ((y : Int) + 1) * (C : Int) = (a : Int) + (C : Int) := by rw [Int.add_mul, Int.one_mul, ← ha, Int.natCast_mul]
        rw [e, IntKind.wrap_i64]; omega
      rw [ha] at hrow hl
      rw [hmm] at hrow hall
      have HBd : ∀ X, wr.grownBy X none → By X (some ⟨d, a, none⟩) C (fun x => g (a + x)) := fun X hX k hk => ⟨_, rfl, by
        rw [add_mid]
        exact (hRy.kept hX (by simp) (by simp)).row.cell (by omega)⟩
      have x1 : (a : Int) + (C : Int) ≤ (mm : Int) := by omega
      have x0 : 0 ≤ (a : Int) + (C : Int) := by omega
      have x2 : ((a : Int) + (C : Int)).toNat = a + C := by omega
      have x3 : a + C - a = C := by omega
      have x4 : ¬ mm = a := by omega
      have hgg : ∀ i, (fun x => g (a + x)) i < 256 := fun i => h256 _
      clear ha
      go_wp2_with (go_at_call 40; refine hl.mono ?_; rintro e V1 ⟨l, rfl, r1, ll, g2⟩; have hR1 := hRy.kept g2 (by simp) (by simp); have v0 := hR1.fld.cell 0 (v := .int .i64 (C : Nat)) rfl; have v1 := hR1.fld.cell 1 (v := .int .i64 (R : Nat)) rfl; have v2 := hR1.fld.cell 2 (v := .int .i64 (S : Nat)) rfl; have v3 := hR1.fld.cell 3 (v := .bool pk) rfl; have v4 := hR1.fld.cell 4 (v := .slice (some ⟨d, 0, none⟩) mm mm) (by rw [← hmm]; rfl); have s1 := fun nq => by_str (w := V1.drewN nq) C (rowIs_by r1) hgg; have s2 := fun nq => by_str (w := V1.drewN nq) (mm - a) (HBd V1 g2) hgg)
      go_quiet (fail)
      go_wp2
      go_roundw
      case rel => exact ⟨y + 1, hlt, by go_num, gb_drewN (gb_trans Gy g2) _⟩
      case measure => simp [intOf]; omega
    · have hyR : y = R := by omega
      subst y
      have md : M g wr.drew := F.grown hMy (gb_drew (World.grownBy.refl _ _))
      go_wp2
      go_region_held2 (fun w' => w'.cell? ⟨r, 0, none⟩ = some (.int .i64 (C : Nat)) ∧ w'.cell? ⟨r, 1, none⟩ = some (.int .i64 (R : Nat)) ∧ w'.cell? ⟨r, 2, none⟩ = some (.int .i64 (S : Nat)) ∧ w'.cell? ⟨r, 3, none⟩ = some (.bool pk)) (go_keep) (first | (go_at_call 41; refine (F.wide g _ md).mono ?_; rintro e V2 ⟨rfl, g2⟩; have G2 := gb_trans (gb_drew Gy) g2; have hR2 := hR.kept G2 (by simp) (by simp); have p0 := hR2.fld.cell 0 (v := .int .i64 (C : Nat)) rfl; have p1 := hR2.fld.cell 1 (v := .int .i64 (R : Nat)) rfl; have p2 := hR2.fld.cell 2 (v := .int .i64 (S : Nat)) rfl; have p3 := hR2.fld.cell 3 (v := .bool pk) rfl; have m2 := F.grown md g2) | (go_at_call 42; refine (F.high g _ m2).mono ?_; rintro e V3 ⟨rfl, g3⟩; have G3 := gb_trans G2 g3; have hR3 := hR.kept G3 (by simp) (by simp); have q0 := hR3.fld.cell 0 (v := .int .i64 (C : Nat)) rfl; have q1 := hR3.fld.cell 1 (v := .int .i64 (R : Nat)) rfl; have q2 := hR3.fld.cell 2 (v := .int .i64 (S : Nat)) rfl; have q3 := hR3.fld.cell 3 (v := .bool pk) rfl; have m3 := F.grown m2 g3) | (go_at_call 43; refine (F.states g _ m3).mono ?_; rintro e V4 ⟨rfl, g4⟩; have G4 := gb_trans G3 g4; have hR4 := hR.kept G4 (by simp) (by simp); have u0 := hR4.fld.cell 0 (v := .int .i64 (C : Nat)) rfl; have u1 := hR4.fld.cell 1 (v := .int .i64 (R : Nat)) rfl; have u2 := hR4.fld.cell 2 (v := .int .i64 (S : Nat)) rfl; have u3 := hR4.fld.cell 3 (v := .bool pk) rfl; have m4 := F.grown m3 g4) | (go_at_call 44; refine (F.packed g _ m4).mono ?_; rintro e V5 ⟨rfl, g5⟩; have G5 := gb_trans G4 g5; have hR5 := hR.kept G5 (by simp) (by simp); have x0 := hR5.fld.cell 0 (v := .int .i64 (C : Nat)) rfl; have x1 := hR5.fld.cell 1 (v := .int .i64 (R : Nat)) rfl; have x2 := hR5.fld.cell 2 (v := .int .i64 (S : Nat)) rfl; have x3 := hR5.fld.cell 3 (v := .bool pk) rfl))
      all_goals go_wp2
      all_goals go_ret
      all_goals exact ⟨rfl, G5⟩
/-- The first m cells of one, the others of another. -/
def mixG (gN g : Nat → Nat) (m k : Nat) : Nat := if k < m then gN k else g k
set_option maxHeartbeats 2000000 in
theorem turnedY {M : (Nat → Nat) → World → Prop} {L : Nat → Prop} {b C R S : Nat} {pk : Bool} (F : FdX M L b C R S pk) (hz : Sz C R S) (r d : Nat) (g : Nat → Nat) (h256 : ∀ i, g i < 256) (w : World) (hM : M g w) (hR : Rf w r d C R S pk g) (hnr : ¬ L r) (hnd : ¬ L d) : Calls Tryz.prog 17 #[.pointer (some ⟨b, 0, none⟩), .pointer (some ⟨r, 0, none⟩)] w fun e w' => e = .returned (.bool true) ∧ M (fun k => (g k + 1) % S) w' ∧ Rf w' r d C R S pk (fun k => (g k + 1) % S) ∧ Gx (fun i => L i ∨ i = d) w w' := by
  have hall := hz.all
  have hc0 := hz.c0
  have hr1 := hz.r1
  have hc1 := hz.c1
  have c0 := hR.fld.cell 0 (v := .int .i64 (C : Nat)) rfl
  have c1 := hR.fld.cell 1 (v := .int .i64 (R : Nat)) rfl
  have c2 := hR.fld.cell 2 (v := .int .i64 (S : Nat)) rfl
  have c3 := hR.fld.cell 3 (v := .bool pk) rfl
  have hnr' : ∀ i, (L i ∨ i = d) → i ≠ r := fun i hi e => by
    rcases hi with h | h
    · exact hnr (e ▸ h)
    · exact hR.apart (by omega)
  obtain ⟨gN, hgN⟩ : ∃ gN : Nat → Nat, (fun k => (g k + 1) % S) = gN := ⟨_, rfl⟩
  have HN : Hid (∀ k, gN k = (g k + 1) % S) := fun k => by rw [← hgN]
  rw [hgN]
  clear hgN
  have hrd := hR.apart
  go_enter Tryz.func17, Tryz.ntmps17
  go_wp2
  go_loopw [5] (fun i wr => ∃ y : Nat, y ≤ R ∧ i = .int .i64 (y : Nat) ∧ M (mixG gN g (y * C)) wr ∧ Rf wr r d C R S pk (mixG gN g (y * C)) ∧ Gx (fun i => L i ∨ i = d) w wr) (fun i _ => R - (intOf i).toNat)
  case atStart => exact ⟨0, Nat.zero_le _, rfl, F.congr _ _ _ hM (fun k _ => by unfold mixG; rw [Nat.zero_mul, if_neg (by omega)]), hR.congr (fun k _ => by unfold mixG; rw [Nat.zero_mul, if_neg (by omega)]), Gx.refl _ _⟩
  case round =>
    obtain ⟨y, hy, rfl, hMy, hRy, Gy⟩ := hrel
    have y0 := hRy.fld.cell 0 (v := .int .i64 (C : Nat)) rfl
    have y1 := hRy.fld.cell 1 (v := .int .i64 (R : Nat)) rfl
    have y2 := hRy.fld.cell 2 (v := .int .i64 (S : Nat)) rfl
    have y3 := hRy.fld.cell 3 (v := .bool pk) rfl
    by_cases hlt : y < R
    · have hlt' : (y : Int) < (R : Int) := by omega
      have hrow := row_le (C := C) hlt
      obtain ⟨a, ha⟩ : ∃ a, y * C = a := ⟨_, rfl⟩
      have w1 : IntKind.i64.wrap ((y : Int) * (C : Int)) = (a : Int) := by rw [← Int.natCast_mul, ha, IntKind.wrap_i64]; omega
      have HA : Hid (y * C = a) := ha
      rw [ha] at hMy hRy hrow
      clear ha
      go_wp2
      go_loopw [6] (fun j wr2 => ∃ x : Nat, x ≤ C ∧ j = .int .i64 (x : Nat) ∧ M (mixG gN g (a + x)) wr2 ∧ Rf wr2 r d C R S pk (mixG gN g (a + x)) ∧ Gx (fun i => L i ∨ i = d) w wr2) (fun j _ => C - (intOf j).toNat)
      case atStart => exact ⟨0, Nat.zero_le _, rfl, hMy, hRy, Gy⟩
      case round =>
        obtain ⟨x, hx, rfl, hMx, hRx, Gx2⟩ := hrel
        have x0 := hRx.fld.cell 0 (v := .int .i64 (C : Nat)) rfl
        have x1 := hRx.fld.cell 1 (v := .int .i64 (R : Nat)) rfl
        have x2 := hRx.fld.cell 2 (v := .int .i64 (S : Nat)) rfl
        have x3 := hRx.fld.cell 3 (v := .bool pk) rfl
        by_cases hxl : x < C
        · have hxl' : (x : Int) < (C : Int) := by omega
          have hkC : a + x < C * R := by omega
          obtain ⟨mm, hmm⟩ : ∃ mm, C * R = mm := ⟨_, rfl⟩
          have HMM : Hid (C * R = mm) := hmm
          have hat := ratC r d C R S pk (mixG gN g (a + x)) hz x y hxl hlt wr.drew ⟨hRx.fld, hRx.row⟩
          obtain ⟨k, hk⟩ : ∃ k, a + x = k := ⟨_, rfl⟩
          have hkI : (a : Int) + (x : Int) = (k : Int) := by omega
          have HKx : Hid (a + x = k) := hk
          have hkR : (k : Int) < (mm : Int) := by omega
          have wk : IntKind.i64.wrap (k : Int) = (k : Int) := by rw [IntKind.wrap_i64]; omega
          have hgk : mixG gN g (a + x) (y * C + x) = g k := by unfold mixG; rw [HA.out, if_neg (by omega), hk]
          rw [hgk] at hat
          have hgk2 := HN.out k
          have h25 := h256 k
          have hs0 := hz.s0
          have hs1 := hz.s1
          obtain ⟨v, hv⟩ : ∃ v, g k = v := ⟨_, rfl⟩
          rw [hv] at hat hgk2 h25
          obtain ⟨u, hu⟩ : ∃ u, (v + 1) % S = u := ⟨_, rfl⟩
          have hul : u < S := by rw [← hu]; exact Nat.mod_lt _ (by omega)
          rw [hu] at hgk2
          have hS0 : ¬ S = 0 := by omega
          have htm : Int.tmod ((v : Int) + 1) (S : Int) = (u : Int) := by rw [show (v : Int) + 1 = ((v + 1 : Nat) : Int) by omega, Int.tmod_eq_emod_of_nonneg (Int.natCast_nonneg _), ← hu]; rfl
          have wv : IntKind.i64.wrap ((v : Int) + 1) = (v : Int) + 1 := by rw [IntKind.wrap_i64]; omega
          have wv2 : IntKind.i64.wrap (v : Int) = (v : Int) := by rw [IntKind.wrap_i64]; omega
          have wu : IntKind.i64.wrap (u : Int) = (u : Int) := by rw [IntKind.wrap_i64]; omega
          have wu8 : IntKind.u8.wrap (u : Int) = (u : Int) := by rw [IntKind.wrap_u8]; omega
          clear hk hmm hgk hv hu
          go_wp2
          go_region_held2 (fun w' => w'.cell? ⟨r, 2, none⟩ = some (.int .i64 (S : Nat))) (go_keep) (first | (go_at_call 45; refine hat.mono ?_; rintro e V2 ⟨rfl, g20⟩; have g2 : wr.grownBy V2 none := gb_trans (gb_drew (World.grownBy.refl _ _)) g20; have hM2 := F.grown hMx g2; have hR2 := hRx.kept g2 (by simp) (by simp); have p0 := hR2.fld.cell 0 (v := .int .i64 (C : Nat)) rfl; have p1 := hR2.fld.cell 1 (v := .int .i64 (R : Nat)) rfl; have p2 := hR2.fld.cell 2 (v := .int .i64 (S : Nat)) rfl; have p3 := hR2.fld.cell 3 (v := .bool pk) rfl; have hset := F.set _ x y u hxl hlt hul V2 hM2))
          go_wp2_with (go_at_call 46; refine hset.mono ?_; rintro e V3 ⟨rfl, hM3, li, hLi, g3⟩; have hR3 := hR2.kept g3 (fun e => hnr (by cases e; exact hLi)) (fun e => hnd (by cases e; exact hLi)); have q0 := hR3.fld.cell 0 (v := .int .i64 (C : Nat)) rfl; have q1 := hR3.fld.cell 1 (v := .int .i64 (R : Nat)) rfl; have q2 := hR3.fld.cell 2 (v := .int .i64 (S : Nat)) rfl; have q3 := hR3.fld.cell 3 (v := .bool pk) rfl; have q4 := hR3.fld.cell 4 (v := .slice (some ⟨d, 0, none⟩) mm mm) (by rw [← HMM.out]; rfl); have qc := hR3.row.cell (i := k) (by rw [← HKx.out]; exact hkC); have qf := hR3.row.frozen k)
          refine region_tail 14 (by kernel_rfl) (by kernel_rfl) ?_
          simp only [List.take_succ_cons, List.take_zero, List.drop_succ_cons, List.drop_zero]
          repeat still_step
          refine wpStill_nil ?_
          go_wp2
          go_roundw
          case rel =>
            have g4 : V3.grownBy (V3.setCell ⟨d, k, none⟩ (.int .u8 (u : Nat))).drew (some d) := gb_drew (gb_set (World.grownBy.refl _ _) _ _)
            have hkx := HKx.out
            have hkm : ∀ j, (if j = y * C + x then u else mixG gN g (a + x) j) = mixG gN g (a + (x + 1)) j := fun j => by
              unfold mixG
              rw [HA.out, hkx]
              by_cases h1 : j = k
              · subst h1; rw [if_pos rfl, if_pos (by omega), hgk2]
              · rw [if_neg h1]
                by_cases h2 : j < k
                · rw [if_pos h2, if_pos (by omega)]
                · rw [if_neg h2, if_neg (by omega)]
            refine ⟨x + 1, hxl, by go_num, F.congr _ _ _ (F.kept _ _ _ _ hM3 g4 (fun i e => by cases e; exact hnd)) (fun j _ => hkm j), ⟨hR3.fld.kept g4 (by simp; exact hrd), ?_⟩, (Gx2.trans (Gx.none g2)).trans ((Gx.of g3 (fun i e => by cases e; exact .inl hLi)).trans (Gx.of g4 (fun i e => by cases e; exact .inr rfl)))⟩
            refine World.rowIs.congr (World.rowIs.set hR3.row k (.int .u8 (u : Nat))) fun j _ => ?_
            have h := hkm j
            rw [HA.out, hkx] at h
            rw [← h]
            by_cases h1 : j = k
            · rw [if_pos h1, if_pos h1]
            · rw [if_neg h1, if_neg h1, hkx]
          case measure => simp [intOf]; omega
        · have hxC : x = C := by omega
          subst x
          go_wp2
          go_roundw
          case rel =>
            have e1 : (y + 1) * C = a + C := by rw [Nat.succ_mul, HA.out]
            exact ⟨y + 1, hlt, by go_num, by rw [e1]; exact hMx, by rw [e1]; exact hRx, Gx2⟩
          case measure => simp [intOf]; omega
    · have hyR : y = R := by omega
      subst y
      go_wp2
      go_ret
      have e1 : R * C = C * R := Nat.mul_comm _ _
      exact ⟨rfl, F.congr _ _ _ hMy (fun k hk => by unfold mixG; rw [if_pos (by omega)]), hRy.congr (fun k hk => by unfold mixG; rw [if_pos (by omega)]), Gy⟩
end Go.Proofs.YtjndljjpbkfmiaaGreatDoor
