/- PackedThen: n generations and then m are n and m together. -/
import Derived.Test.YthjiiljglgmkpaaGreatDoorP6
import Derived.Test.YthjiiljglgmkpaaGreatDoorX10tt
import Derived.Test.YthjiiljglgmkpaaGreatDoorX10ty
import Derived.Test.YthjiiljglgmkpaaGreatDoorX13
namespace Go.Proofs.YthjiiljglgmkpaaGreatDoor.Pd
open Go.RowKit
set_option linter.unusedVariables false
set_option linter.unusedSimpArgs false
set_option maxRecDepth 100000

theorem it_add (ho bo st : Nat) (k t z : Int) (C R : Nat) (g : Nat → Nat) (n : Nat) : ∀ m, itG ho bo st k t z C R (itG ho bo st k t z C R g n) m = itG ho bo st k t z C R g (n + m)
  | 0 => rfl
  | m + 1 => by
    show nxG _ _ _ _ _ = nxG _ _ _ _ _
    rw [it_add ho bo st k t z C R g n m]
    rfl
theorem stG_lt {C R S : Nat} {x y : Int} {u : Nat} {g : Nat → Nat} (h : ∀ i, g i < S) (i : Nat) : stG C R S x y u g i < S := by
  unfold stG
  split
  · rename_i e; exact e.2.1
  · exact h i
theorem mg_lt {C R S : Nat} (hS : 0 < S) (f : Nat → Int × Int × Nat) : ∀ j i, mg C R S f j i < S
  | 0, _ => hS
  | j + 1, i => stG_lt (mg_lt hS f j) i
/-- A field that was made, by what its calls answer; what comes of a clone that is packed, and of Same with a field of bits. -/
structure MF (w : World) (b C R S : Nat) (pk : Bool) (g : Nat → Nat) (M : (Nat → Nat) → World → Prop) (L : Nat → Prop) : Prop where
  x : FdX M L b C R S pk
  m : M g w
  sz : Sz C R S
  b8 : ∀ i, g i < 256
  cl : S = 2 → ∀ v, w.grownBy v none → Calls Tryz.prog 26 #[.pointer (some ⟨b, 0, none⟩)] v fun e v' => ∃ b2, e = .returned (.pointer (some ⟨b2, 0, none⟩)) ∧ v.heap.size ≤ b2 ∧ v.grownBy v' none ∧ Calls Tryz.prog 27 #[.pointer (some ⟨b2, 0, none⟩), .bool true] v' (fun e v3 => e = .returned (.int .i64 0) ∧ ∃ s3 q3, Tt.Fb v3 b2 s3 q3 C R 2 g ∧ (∀ i, LQ b2 s3 q3 R i → v.heap.size ≤ i) ∧ v'.grownBy v3 (some b2))
  sm : S = 2 → ∀ v b1 s1 q1 g1, w.grownBy v none → Tt.Fb v b1 s1 q1 C R 2 g1 → (∀ k, k < C * R → g1 k = g k) → Calls Tryz.prog 19 #[.pointer (some ⟨b1, 0, none⟩), .pointer (some ⟨b, 0, none⟩)] v fun e v' => e = .returned (.bool true) ∧ v.grownBy v' none
theorem ckE_ok {C R S : Int} {pk : Bool} (h : ckE C R S pk = 0) : ∃ c r k : Nat, C = c ∧ R = r ∧ S = k ∧ Sz c r k ∧ (pk = true → k = 2) := by
  unfold ckE at h
  by_cases h1 : 1 ≤ C ∧ C ≤ 65536 ∧ 1 ≤ R ∧ R ≤ 65536 ∧ 2 ≤ S ∧ S ≤ 256
  · rw [if_pos h1] at h
    by_cases h2 : pk = true ∧ S ≠ 2
    · rw [if_pos h2] at h; cases h
    · rw [if_neg h2] at h
      by_cases h3 : 1048576 < C * R
      · rw [if_pos h3] at h; cases h
      · obtain ⟨c, rfl⟩ := Int.eq_ofNat_of_zero_le (show 0 ≤ C by omega)
        obtain ⟨r, rfl⟩ := Int.eq_ofNat_of_zero_le (show 0 ≤ R by omega)
        obtain ⟨k, rfl⟩ := Int.eq_ofNat_of_zero_le (show 0 ≤ S by omega)
        rw [← Int.natCast_mul] at h3
        refine ⟨c, r, k, rfl, rfl, rfl, ⟨by omega, by omega, by omega, by omega, by omega, by omega, by omega⟩, fun e => ?_⟩
        by_cases h4 : k = 2
        · exact h4
        · exact absurd ⟨e, by omega⟩ h2
  · rw [if_neg h1] at h; cases h
/-- made of a grid that may be. -/
theorem madeF (C R S : Nat) (pk : Bool) (hz : Sz C R S) (hpk : pk = true → S = 2) (sp : Option Addr) (n cp : Nat) (hn : n < 4611686018427387904) (f : Nat → Int × Int × Nat) (h8 : ∀ i, i < n → (f i).2.2 < 256) (w : World) (hc : Ce w sp n f) :
    Calls Tryz.prog 12 #[.agg #[.int .i64 (C : Nat), .int .i64 (R : Nat), .int .i64 (S : Nat), .bool pk, .slice sp n cp]] w fun e w' => ∃ r b g M L, e = .returned (.tuple #[.pointer (some ⟨r, 0, none⟩), .pointer (some ⟨b, 0, none⟩), .bool true]) ∧ MF w' b C R S pk g M L ∧ w.grownBy w' none := by
  have hs0 : 0 < S := by have := hz.s0; omega
  have hs1 := hz.s1
  cases pk with
  | false =>
    refine (madeY C R S hz sp n cp hn f h8 w hc).mono ?_
    rintro e w' ⟨r, d, b, s, q, he, hR, hF, _, _, _, _, _, hg⟩
    refine ⟨r, b, mg C R S f n, _, _, he, ⟨Fb.fdx hz, hF, hz, fun i => Nat.lt_of_lt_of_le (mg_lt hs0 f n i) hs1, ?_, ?_⟩, hg⟩
    · rintro rfl
      exact cloneB hz (fun k _ => mg_lt (by decide) f n k) w' hF
    · rintro rfl v b1 s1 q1 g1 hv h1 he1
      exact samety b1 s1 q1 b s q C R g1 (mg C R 2 f n) hz v h1 (hF.kept hv) he1
  | true =>
    obtain rfl := hpk rfl
    refine (madeT C R hz sp n cp hn f h8 w hc).mono ?_
    rintro e w' ⟨r, d, b, s, q, he, hR, hF, _, _, _, _, _, _, hg⟩
    refine ⟨r, b, mg C R 2 f n, _, _, he, ⟨Tt.Fb.fdx hz, hF, hz, fun i => Nat.lt_of_lt_of_le (mg_lt hs0 f n i) hs1, ?_, ?_⟩, hg⟩
    · rintro _
      exact cloneT hz w' hF
    · rintro _ v b1 s1 q1 g1 hv h1 he1
      exact samett b1 s1 q1 b s q C R g1 (mg C R 2 f n) hz v h1 (hF.kept hv) he1
theorem bgE_small {ho bo st : Nat} {k t z n : Int} {C R : Nat} (h : bgE ho bo st k C R t z C R 2 n = 0) (m : Int) (h0 : 0 ≤ m) (h1 : m ≤ 1125899906842624) : bgE ho bo st k C R t z C R 2 m = if (67108864 : Int) / ((C * R : Nat) : Int) < m then 4 else 0 := by
  obtain ⟨e1, e2, _, _, _⟩ := bgE_zero h
  unfold bgE
  rw [if_neg (by simp [e1]), if_neg (by rw [e2]; decide), if_neg (by omega), if_neg (by omega), if_neg (by simp [e2])]
/-- Run's error, and whatever it answers. -/
theorem runW {M : (Nat → Nat) → World → Prop} {L : Nat → Prop} {b C R S : Nat} {pk : Bool} (F : FdX M L b C R S pk) (hz : Sz C R S) (g : Nat → Nat) (h256 : ∀ i, g i < 256) (ho bo st : Nat) (hh : ho < 256) (hb : bo < 65536) (hs : st < 65536) (k t z n : Int) (ht : 0 ≤ t) (w : World) (hM : M g w) (hv : Hid (Hv w)) (hT : Wo.Tab64 w) (hCl : bgE ho bo st k C R t z C R S n = 0 → ∀ v, w.grownBy v none → Calls Tryz.prog 26 #[.pointer (some ⟨b, 0, none⟩)] v fun e v' => ∃ b2, e = .returned (.pointer (some ⟨b2, 0, none⟩)) ∧ v.heap.size ≤ b2 ∧ v.grownBy v' none ∧ Calls Tryz.prog 27 #[.pointer (some ⟨b2, 0, none⟩), .bool true] v' (fun e v3 => e = .returned (.int .i64 0) ∧ ∃ s3 q3, Tt.Fb v3 b2 s3 q3 C R 2 g ∧ (∀ i, LQ b2 s3 q3 R i → v.heap.size ≤ i) ∧ v'.grownBy v3 (some b2))) :
    Calls Tryz.prog 8 #[.agg #[.int .u8 (ho : Nat), .int .u16 (bo : Nat), .int .u16 (st : Nat)], .agg #[.int .u8 k, .int .i64 (C : Nat), .int .i64 (R : Nat), .int .u8 t, .int .i64 z], .pointer (some ⟨b, 0, none⟩), .int .i64 n] w fun e w' => ∃ p, e = .returned (.tuple #[.pointer p, .int .i64 (bgE ho bo st k C R t z C R S n)]) ∧ w.grownBy w' none := by
  by_cases hE : bgE ho bo st k C R t z C R S n = 0
  · refine (runY F hz g h256 ho bo st hh hb hs k t z n ht w hM hv hT hE (hCl hE)).mono ?_
    rintro e w' ⟨b2, rfl, _, _, _, _, hg⟩
    exact ⟨_, by rw [hE], hg⟩
  · refine (runN (F.fdm g w.heap.size (F.lts g w hM)) hz h256 ho bo st hh hb hs k C R t z n ht w (Nat.le_refl _) hM hv hE).mono ?_
    rintro e w' ⟨rfl, hg⟩
    exact ⟨_, rfl, hg⟩
set_option maxHeartbeats 4000000 in
theorem then_none (ho bo st k x y t z : Int) (C R S : Int) (pk : Bool) (sp : Option Addr) (n cp : Nat) (a m : Int) (w : World) (hv : Hv w) (hT : Wo.Tab64 w) (hE : ckE C R S pk ≠ 0) :
    Calls Tryz.prog 6 #[.agg #[.int .u8 ho, .int .u16 bo, .int .u16 st], .agg #[.int .u8 k, .int .i64 x, .int .i64 y, .int .u8 t, .int .i64 z], .agg #[.int .i64 C, .int .i64 R, .int .i64 S, .bool pk, .slice sp n cp], .int .i64 a, .int .i64 m] w fun e w' => e = .returned (.bool true) ∧ w.grownBy w' none := by
  obtain ⟨W1, hW1, sz1, g1, B1⟩ := boxn w #[.int .u8 ho, .int .u16 bo, .int .u16 st] 28
  obtain ⟨W2, hW2, sz2, g2, B2⟩ := boxn W1 #[.int .u8 k, .int .i64 x, .int .i64 y, .int .u8 t, .int .i64 z] 30
  obtain ⟨W3, hW3, sz3, g3, B3⟩ := boxn W2 #[.int .i64 C, .int .i64 R, .int .i64 S, .bool pk, .slice sp n cp] 41
  have G3 : w.grownBy W3 none := gb_trans g1 (gb_trans g2 g3)
  have P1 := B1.kept (gb_trans g2 g3) (by simp)
  have P2 := B2.kept g3 (by simp)
  have tlt : 1 < w.heap.size := cell_lt (hT 0 (by decide))
  have HV : Hid (Hv w) := hv
  have HT : Hid (Wo.Tab64 w) := hT
  have kA := aliveC W3 (hvK HV G3) (hT.below (gb_below G3) tlt)
  clear hv hT
  go_enter Tryz.func6, Tryz.ntmps6
  go_wp2_with (first | (go_at_call 11; refine kA.mono ?_; rintro e V4 ⟨rfl, g4⟩; clear kA; have B4 := B3.kept g4 (by simp); have c0 := B4.cell 0 (v := .int .i64 C) rfl; have c1 := B4.cell 1 (v := .int .i64 R) rfl; have c2 := B4.cell 2 (v := .int .i64 S) rfl; have c3 := B4.cell 3 (v := .bool pk) rfl; have c4 := B4.cell 4 (v := .slice sp n cp) rfl; have kM := madeN C R S pk sp n cp hE V4) | (go_at_call 12; refine kM.mono ?_; rintro e V5 ⟨rfl, g5⟩; clear kM; have g45 := gb_trans g4 g5; have dL := P1.kept g45 (by simp); have dl0 := dL.cell 0 (v := .int .u8 ho) rfl; have dl1 := dL.cell 1 (v := .int .u16 bo) rfl; have dl2 := dL.cell 2 (v := .int .u16 st) rfl; have dT := P2.kept g45 (by simp); have dt0 := dT.cell 0 (v := .int .u8 k) rfl; have dt1 := dT.cell 1 (v := .int .i64 x) rfl; have dt2 := dT.cell 2 (v := .int .i64 y) rfl; have dt3 := dT.cell 3 (v := .int .u8 t) rfl; have dt4 := dT.cell 4 (v := .int .i64 z) rfl; have kR := runNone ho bo st k x y t z a none V5 (.inl rfl)) | (go_at_call 8; refine kR.mono ?_; rintro e V6 ⟨rfl, g6⟩; clear kR))
  go_ret
  exact ⟨rfl, gb_trans G3 (gb_trans g45 g6)⟩
set_option maxHeartbeats 4000000 in
theorem then_bad (ho bo st : Nat) (hh : ho < 256) (hb : bo < 65536) (hs : st < 65536) (k x y t z : Int) (ht : 0 ≤ t) (C R S : Nat) (pk : Bool) (hz : Sz C R S) (hpk : pk = true → S = 2) (sp : Option Addr) (n cp : Nat) (hn : n < 4611686018427387904) (f : Nat → Int × Int × Nat) (h8 : ∀ i, i < n → (f i).2.2 < 256) (a m : Int) (w : World) (hv : Hv w) (hT : Wo.Tab64 w) (hE : ¬ bgE ho bo st k x y t z C R S a = 0) (hc : Ce w sp n f) :
    Calls Tryz.prog 6 #[.agg #[.int .u8 (ho : Nat), .int .u16 (bo : Nat), .int .u16 (st : Nat)], .agg #[.int .u8 k, .int .i64 x, .int .i64 y, .int .u8 t, .int .i64 z], .agg #[.int .i64 (C : Nat), .int .i64 (R : Nat), .int .i64 (S : Nat), .bool pk, .slice sp n cp], .int .i64 a, .int .i64 m] w fun e w' => e = .returned (.bool true) ∧ w.grownBy w' none := by
  obtain ⟨W1, hW1, sz1, g1, B1⟩ := boxn w #[.int .u8 (ho : Nat), .int .u16 (bo : Nat), .int .u16 (st : Nat)] 28
  obtain ⟨W2, hW2, sz2, g2, B2⟩ := boxn W1 #[.int .u8 k, .int .i64 x, .int .i64 y, .int .u8 t, .int .i64 z] 30
  obtain ⟨W3, hW3, sz3, g3, B3⟩ := boxn W2 #[.int .i64 (C : Nat), .int .i64 (R : Nat), .int .i64 (S : Nat), .bool pk, .slice sp n cp] 41
  have G3 : w.grownBy W3 none := gb_trans g1 (gb_trans g2 g3)
  have P1 := B1.kept (gb_trans g2 g3) (by simp)
  have P2 := B2.kept g3 (by simp)
  have tlt : 1 < w.heap.size := cell_lt (hT 0 (by decide))
  have HV : Hid (Hv w) := hv
  have HT : Hid (Wo.Tab64 w) := hT
  have kA := aliveC W3 (hvK HV G3) (hT.below (gb_below G3) tlt)
  have kM' := fun V (gV : w.grownBy V none) => madeF C R S pk hz hpk sp n cp hn f h8 V (fun i hi => by obtain ⟨aa, e1, e2, e3, e4⟩ := hc i hi; exact ⟨aa, e1, gV.cell e2 (by simp), gV.cell e3 (by simp), gV.cell e4 (by simp)⟩)
  have HZ : Hid (Sz C R S) := hz
  clear hc h8 hz
  clear hv hT
  go_enter Tryz.func6, Tryz.ntmps6
  go_wp2_with (first | (go_at_call 11; refine kA.mono ?_; rintro e V4 ⟨rfl, g4⟩; clear kA; have B4 := B3.kept g4 (by simp); have c0 := B4.cell 0 (v := .int .i64 (C : Nat)) rfl; have c1 := B4.cell 1 (v := .int .i64 (R : Nat)) rfl; have c2 := B4.cell 2 (v := .int .i64 (S : Nat)) rfl; have c3 := B4.cell 3 (v := .bool pk) rfl; have c4 := B4.cell 4 (v := .slice sp n cp) rfl; have kM := kM' V4 (gb_trans G3 g4); clear kM') | (go_at_call 12; refine kM.mono ?_; rintro e V5 ⟨r, b, g, M, L, rfl, hF, g5⟩; clear kM; have HF : Hid (MF V5 b C R S pk g M L) := hF; clear hF; have g45 := gb_trans g4 g5; have G5 := gb_trans G3 g45; have dL := P1.kept g45 (by simp); have dl0 := dL.cell 0 (v := .int .u8 (ho : Nat)) rfl; have dl1 := dL.cell 1 (v := .int .u16 (bo : Nat)) rfl; have dl2 := dL.cell 2 (v := .int .u16 (st : Nat)) rfl; have dT := P2.kept g45 (by simp); have dt0 := dT.cell 0 (v := .int .u8 k) rfl; have dt1 := dT.cell 1 (v := .int .i64 x) rfl; have dt2 := dT.cell 2 (v := .int .i64 y) rfl; have dt3 := dT.cell 3 (v := .int .u8 t) rfl; have dt4 := dT.cell 4 (v := .int .i64 z) rfl; have kR := runN (HF.out.x.fdm g V5.heap.size (HF.out.x.lts g V5 HF.out.m)) HZ.out HF.out.b8 ho bo st hh hb hs k x y t z a ht V5 (Nat.le_refl _) HF.out.m (hvK HV G5) hE; generalize bgE ho bo st k x y t z C R S a = E at kR hE; have hE1 : (E != 0) = true := by simpa using hE) | (go_at_call 8; refine kR.mono ?_; rintro e V6 ⟨rfl, g6⟩; clear kR))
  go_ret
  exact ⟨rfl, gb_trans G5 g6⟩
set_option maxHeartbeats 4000000 in
theorem then_far1 (ho bo st : Nat) (hh : ho < 256) (hb : bo < 65536) (hs : st < 65536) (k t z : Int) (ht : 0 ≤ t) (C R : Nat) (pk : Bool) (hz : Sz C R 2) (sp : Option Addr) (n cp : Nat) (hn : n < 4611686018427387904) (f : Nat → Int × Int × Nat) (h8 : ∀ i, i < n → (f i).2.2 < 256) (a m : Int) (w : World) (hv : Hv w) (hT : Wo.Tab64 w) (hE : bgE ho bo st k C R t z C R 2 a = 0) (hm : m < 0) (hc : Ce w sp n f) :
    Calls Tryz.prog 6 #[.agg #[.int .u8 (ho : Nat), .int .u16 (bo : Nat), .int .u16 (st : Nat)], .agg #[.int .u8 k, .int .i64 (C : Nat), .int .i64 (R : Nat), .int .u8 t, .int .i64 z], .agg #[.int .i64 (C : Nat), .int .i64 (R : Nat), .int .i64 2, .bool pk, .slice sp n cp], .int .i64 a, .int .i64 m] w fun e w' => e = .returned (.bool true) ∧ w.grownBy w' none := by
  obtain ⟨W1, hW1, sz1, g1, B1⟩ := boxn w #[.int .u8 (ho : Nat), .int .u16 (bo : Nat), .int .u16 (st : Nat)] 28
  obtain ⟨W2, hW2, sz2, g2, B2⟩ := boxn W1 #[.int .u8 k, .int .i64 (C : Nat), .int .i64 (R : Nat), .int .u8 t, .int .i64 z] 30
  obtain ⟨W3, hW3, sz3, g3, B3⟩ := boxn W2 #[.int .i64 (C : Nat), .int .i64 (R : Nat), .int .i64 2, .bool pk, .slice sp n cp] 41
  have G3 : w.grownBy W3 none := gb_trans g1 (gb_trans g2 g3)
  have P1 := B1.kept (gb_trans g2 g3) (by simp)
  have P2 := B2.kept g3 (by simp)
  have tlt : 1 < w.heap.size := cell_lt (hT 0 (by decide))
  have HV : Hid (Hv w) := hv
  have HT : Hid (Wo.Tab64 w) := hT
  have kA := aliveC W3 (hvK HV G3) (hT.below (gb_below G3) tlt)
  have kM' := fun V (gV : w.grownBy V none) => madeF C R 2 pk hz (fun _ => rfl) sp n cp hn f h8 V (fun i hi => by obtain ⟨aa, e1, e2, e3, e4⟩ := hc i hi; exact ⟨aa, e1, gV.cell e2 (by simp), gV.cell e3 (by simp), gV.cell e4 (by simp)⟩)
  have HZ : Hid (Sz C R 2) := hz
  clear hc h8 hz
  clear hv hT
  go_enter Tryz.func6, Tryz.ntmps6
  go_wp2_with (first | (go_at_call 11; refine kA.mono ?_; rintro e V4 ⟨rfl, g4⟩; clear kA; have B4 := B3.kept g4 (by simp); have c0 := B4.cell 0 (v := .int .i64 (C : Nat)) rfl; have c1 := B4.cell 1 (v := .int .i64 (R : Nat)) rfl; have c2 := B4.cell 2 (v := .int .i64 2) rfl; have c3 := B4.cell 3 (v := .bool pk) rfl; have c4 := B4.cell 4 (v := .slice sp n cp) rfl; have kM := kM' V4 (gb_trans G3 g4); clear kM') | (go_at_call 12; refine kM.mono ?_; rintro e V5 ⟨r, b, g, M, L, rfl, hF, g5⟩; clear kM; have HF : Hid (MF V5 b C R 2 pk g M L) := hF; clear hF; have g45 := gb_trans g4 g5; have G5 := gb_trans G3 g45; have dL := P1.kept g45 (by simp); have dl0 := dL.cell 0 (v := .int .u8 (ho : Nat)) rfl; have dl1 := dL.cell 1 (v := .int .u16 (bo : Nat)) rfl; have dl2 := dL.cell 2 (v := .int .u16 (st : Nat)) rfl; have dT := P2.kept g45 (by simp); have dt0 := dT.cell 0 (v := .int .u8 k) rfl; have dt1 := dT.cell 1 (v := .int .i64 (C : Nat)) rfl; have dt2 := dT.cell 2 (v := .int .i64 (R : Nat)) rfl; have dt3 := dT.cell 3 (v := .int .u8 t) rfl; have dt4 := dT.cell 4 (v := .int .i64 z) rfl; have kR := runY HF.out.x HZ.out g HF.out.b8 ho bo st hh hb hs k t z a ht V5 HF.out.m (hvK HV G5) (HT.out.below (gb_below G5) tlt) hE (HF.out.cl rfl)) | (go_at_call 8; refine kR.mono ?_; rintro e V6 ⟨b2, rfl, s3, q3, hF3, hl3, g6⟩; clear kR hF3 hl3))
  go_ret
  exact ⟨rfl, gb_trans G5 g6⟩
set_option maxHeartbeats 4000000 in
theorem then_far2 (ho bo st : Nat) (hh : ho < 256) (hb : bo < 65536) (hs : st < 65536) (k t z : Int) (ht : 0 ≤ t) (C R : Nat) (pk : Bool) (hz : Sz C R 2) (sp : Option Addr) (n cp : Nat) (hn : n < 4611686018427387904) (f : Nat → Int × Int × Nat) (h8 : ∀ i, i < n → (f i).2.2 < 256) (a m : Int) (w : World) (hv : Hv w) (hT : Wo.Tab64 w) (hE : bgE ho bo st k C R t z C R 2 a = 0) (hm0 : ¬ m < 0) (hm : 1000 < m) (hc : Ce w sp n f) :
    Calls Tryz.prog 6 #[.agg #[.int .u8 (ho : Nat), .int .u16 (bo : Nat), .int .u16 (st : Nat)], .agg #[.int .u8 k, .int .i64 (C : Nat), .int .i64 (R : Nat), .int .u8 t, .int .i64 z], .agg #[.int .i64 (C : Nat), .int .i64 (R : Nat), .int .i64 2, .bool pk, .slice sp n cp], .int .i64 a, .int .i64 m] w fun e w' => e = .returned (.bool true) ∧ w.grownBy w' none := by
  obtain ⟨W1, hW1, sz1, g1, B1⟩ := boxn w #[.int .u8 (ho : Nat), .int .u16 (bo : Nat), .int .u16 (st : Nat)] 28
  obtain ⟨W2, hW2, sz2, g2, B2⟩ := boxn W1 #[.int .u8 k, .int .i64 (C : Nat), .int .i64 (R : Nat), .int .u8 t, .int .i64 z] 30
  obtain ⟨W3, hW3, sz3, g3, B3⟩ := boxn W2 #[.int .i64 (C : Nat), .int .i64 (R : Nat), .int .i64 2, .bool pk, .slice sp n cp] 41
  have G3 : w.grownBy W3 none := gb_trans g1 (gb_trans g2 g3)
  have P1 := B1.kept (gb_trans g2 g3) (by simp)
  have P2 := B2.kept g3 (by simp)
  have tlt : 1 < w.heap.size := cell_lt (hT 0 (by decide))
  have HV : Hid (Hv w) := hv
  have HT : Hid (Wo.Tab64 w) := hT
  have kA := aliveC W3 (hvK HV G3) (hT.below (gb_below G3) tlt)
  have kM' := fun V (gV : w.grownBy V none) => madeF C R 2 pk hz (fun _ => rfl) sp n cp hn f h8 V (fun i hi => by obtain ⟨aa, e1, e2, e3, e4⟩ := hc i hi; exact ⟨aa, e1, gV.cell e2 (by simp), gV.cell e3 (by simp), gV.cell e4 (by simp)⟩)
  have HZ : Hid (Sz C R 2) := hz
  clear hc h8 hz
  clear hv hT
  go_enter Tryz.func6, Tryz.ntmps6
  go_wp2_with (first | (go_at_call 11; refine kA.mono ?_; rintro e V4 ⟨rfl, g4⟩; clear kA; have B4 := B3.kept g4 (by simp); have c0 := B4.cell 0 (v := .int .i64 (C : Nat)) rfl; have c1 := B4.cell 1 (v := .int .i64 (R : Nat)) rfl; have c2 := B4.cell 2 (v := .int .i64 2) rfl; have c3 := B4.cell 3 (v := .bool pk) rfl; have c4 := B4.cell 4 (v := .slice sp n cp) rfl; have kM := kM' V4 (gb_trans G3 g4); clear kM') | (go_at_call 12; refine kM.mono ?_; rintro e V5 ⟨r, b, g, M, L, rfl, hF, g5⟩; clear kM; have HF : Hid (MF V5 b C R 2 pk g M L) := hF; clear hF; have g45 := gb_trans g4 g5; have G5 := gb_trans G3 g45; have dL := P1.kept g45 (by simp); have dl0 := dL.cell 0 (v := .int .u8 (ho : Nat)) rfl; have dl1 := dL.cell 1 (v := .int .u16 (bo : Nat)) rfl; have dl2 := dL.cell 2 (v := .int .u16 (st : Nat)) rfl; have dT := P2.kept g45 (by simp); have dt0 := dT.cell 0 (v := .int .u8 k) rfl; have dt1 := dT.cell 1 (v := .int .i64 (C : Nat)) rfl; have dt2 := dT.cell 2 (v := .int .i64 (R : Nat)) rfl; have dt3 := dT.cell 3 (v := .int .u8 t) rfl; have dt4 := dT.cell 4 (v := .int .i64 z) rfl; have kR := runY HF.out.x HZ.out g HF.out.b8 ho bo st hh hb hs k t z a ht V5 HF.out.m (hvK HV G5) (HT.out.below (gb_below G5) tlt) hE (HF.out.cl rfl)) | (go_at_call 8; refine kR.mono ?_; rintro e V6 ⟨b2, rfl, s3, q3, hF3, hl3, g6⟩; clear kR hF3 hl3))
  go_ret
  exact ⟨rfl, gb_trans G5 g6⟩
set_option maxHeartbeats 4000000 in
theorem then_far3 (ho bo st : Nat) (hh : ho < 256) (hb : bo < 65536) (hs : st < 65536) (k t z : Int) (ht : 0 ≤ t) (C R : Nat) (pk : Bool) (hz : Sz C R 2) (sp : Option Addr) (n cp : Nat) (hn : n < 4611686018427387904) (f : Nat → Int × Int × Nat) (h8 : ∀ i, i < n → (f i).2.2 < 256) (a m : Int) (w : World) (hv : Hv w) (hT : Wo.Tab64 w) (hE : bgE ho bo st k C R t z C R 2 a = 0) (hm0 : ¬ m < 0) (hm1 : ¬ 1000 < m) (hm : 1000 < a) (hc : Ce w sp n f) :
    Calls Tryz.prog 6 #[.agg #[.int .u8 (ho : Nat), .int .u16 (bo : Nat), .int .u16 (st : Nat)], .agg #[.int .u8 k, .int .i64 (C : Nat), .int .i64 (R : Nat), .int .u8 t, .int .i64 z], .agg #[.int .i64 (C : Nat), .int .i64 (R : Nat), .int .i64 2, .bool pk, .slice sp n cp], .int .i64 a, .int .i64 m] w fun e w' => e = .returned (.bool true) ∧ w.grownBy w' none := by
  obtain ⟨W1, hW1, sz1, g1, B1⟩ := boxn w #[.int .u8 (ho : Nat), .int .u16 (bo : Nat), .int .u16 (st : Nat)] 28
  obtain ⟨W2, hW2, sz2, g2, B2⟩ := boxn W1 #[.int .u8 k, .int .i64 (C : Nat), .int .i64 (R : Nat), .int .u8 t, .int .i64 z] 30
  obtain ⟨W3, hW3, sz3, g3, B3⟩ := boxn W2 #[.int .i64 (C : Nat), .int .i64 (R : Nat), .int .i64 2, .bool pk, .slice sp n cp] 41
  have G3 : w.grownBy W3 none := gb_trans g1 (gb_trans g2 g3)
  have P1 := B1.kept (gb_trans g2 g3) (by simp)
  have P2 := B2.kept g3 (by simp)
  have tlt : 1 < w.heap.size := cell_lt (hT 0 (by decide))
  have HV : Hid (Hv w) := hv
  have HT : Hid (Wo.Tab64 w) := hT
  have kA := aliveC W3 (hvK HV G3) (hT.below (gb_below G3) tlt)
  have kM' := fun V (gV : w.grownBy V none) => madeF C R 2 pk hz (fun _ => rfl) sp n cp hn f h8 V (fun i hi => by obtain ⟨aa, e1, e2, e3, e4⟩ := hc i hi; exact ⟨aa, e1, gV.cell e2 (by simp), gV.cell e3 (by simp), gV.cell e4 (by simp)⟩)
  have HZ : Hid (Sz C R 2) := hz
  clear hc h8 hz
  clear hv hT
  go_enter Tryz.func6, Tryz.ntmps6
  go_wp2_with (first | (go_at_call 11; refine kA.mono ?_; rintro e V4 ⟨rfl, g4⟩; clear kA; have B4 := B3.kept g4 (by simp); have c0 := B4.cell 0 (v := .int .i64 (C : Nat)) rfl; have c1 := B4.cell 1 (v := .int .i64 (R : Nat)) rfl; have c2 := B4.cell 2 (v := .int .i64 2) rfl; have c3 := B4.cell 3 (v := .bool pk) rfl; have c4 := B4.cell 4 (v := .slice sp n cp) rfl; have kM := kM' V4 (gb_trans G3 g4); clear kM') | (go_at_call 12; refine kM.mono ?_; rintro e V5 ⟨r, b, g, M, L, rfl, hF, g5⟩; clear kM; have HF : Hid (MF V5 b C R 2 pk g M L) := hF; clear hF; have g45 := gb_trans g4 g5; have G5 := gb_trans G3 g45; have dL := P1.kept g45 (by simp); have dl0 := dL.cell 0 (v := .int .u8 (ho : Nat)) rfl; have dl1 := dL.cell 1 (v := .int .u16 (bo : Nat)) rfl; have dl2 := dL.cell 2 (v := .int .u16 (st : Nat)) rfl; have dT := P2.kept g45 (by simp); have dt0 := dT.cell 0 (v := .int .u8 k) rfl; have dt1 := dT.cell 1 (v := .int .i64 (C : Nat)) rfl; have dt2 := dT.cell 2 (v := .int .i64 (R : Nat)) rfl; have dt3 := dT.cell 3 (v := .int .u8 t) rfl; have dt4 := dT.cell 4 (v := .int .i64 z) rfl; have kR := runY HF.out.x HZ.out g HF.out.b8 ho bo st hh hb hs k t z a ht V5 HF.out.m (hvK HV G5) (HT.out.below (gb_below G5) tlt) hE (HF.out.cl rfl)) | (go_at_call 8; refine kR.mono ?_; rintro e V6 ⟨b2, rfl, s3, q3, hF3, hl3, g6⟩; clear kR hF3 hl3))
  go_ret
  exact ⟨rfl, gb_trans G5 g6⟩
set_option maxHeartbeats 4000000 in
theorem then_over0 (ho bo st : Nat) (hh : ho < 256) (hb : bo < 65536) (hs : st < 65536) (k t z : Int) (ht : 0 ≤ t) (C R : Nat) (pk : Bool) (hz : Sz C R 2) (sp : Option Addr) (n cp : Nat) (hn : n < 4611686018427387904) (f : Nat → Int × Int × Nat) (h8 : ∀ i, i < n → (f i).2.2 < 256) (a m : Int) (w : World) (hv : Hv w) (hT : Wo.Tab64 w) (hE : bgE ho bo st k C R t z C R 2 a = 0) (ha0 : 0 ≤ a) (hm0 : ¬ m < 0) (hm1 : ¬ 1000 < m) (hm2 : ¬ 1000 < a) (hE1 : bgE ho bo st k C R t z C R 2 m = 0) (hE2 : bgE ho bo st k C R t z C R 2 (a + m) = 4) (hc : Ce w sp n f) :
    Calls Tryz.prog 6 #[.agg #[.int .u8 (ho : Nat), .int .u16 (bo : Nat), .int .u16 (st : Nat)], .agg #[.int .u8 k, .int .i64 (C : Nat), .int .i64 (R : Nat), .int .u8 t, .int .i64 z], .agg #[.int .i64 (C : Nat), .int .i64 (R : Nat), .int .i64 2, .bool pk, .slice sp n cp], .int .i64 a, .int .i64 m] w fun e w' => e = .returned (.bool true) ∧ w.grownBy w' none := by
  obtain ⟨W1, hW1, sz1, g1, B1⟩ := boxn w #[.int .u8 (ho : Nat), .int .u16 (bo : Nat), .int .u16 (st : Nat)] 28
  obtain ⟨W2, hW2, sz2, g2, B2⟩ := boxn W1 #[.int .u8 k, .int .i64 (C : Nat), .int .i64 (R : Nat), .int .u8 t, .int .i64 z] 30
  obtain ⟨W3, hW3, sz3, g3, B3⟩ := boxn W2 #[.int .i64 (C : Nat), .int .i64 (R : Nat), .int .i64 2, .bool pk, .slice sp n cp] 41
  have G3 : w.grownBy W3 none := gb_trans g1 (gb_trans g2 g3)
  have P1 := B1.kept (gb_trans g2 g3) (by simp)
  have P2 := B2.kept g3 (by simp)
  have tlt : 1 < w.heap.size := cell_lt (hT 0 (by decide))
  have HV : Hid (Hv w) := hv
  have HT : Hid (Wo.Tab64 w) := hT
  have kA := aliveC W3 (hvK HV G3) (hT.below (gb_below G3) tlt)
  have kM' := fun V (gV : w.grownBy V none) => madeF C R 2 pk hz (fun _ => rfl) sp n cp hn f h8 V (fun i hi => by obtain ⟨aa, e1, e2, e3, e4⟩ := hc i hi; exact ⟨aa, e1, gV.cell e2 (by simp), gV.cell e3 (by simp), gV.cell e4 (by simp)⟩)
  have HZ : Hid (Sz C R 2) := hz
  clear hc h8 hz
  have hwr : IntKind.i64.wrap (a + m) = a + m := by rw [IntKind.wrap_i64]; omega
  clear hv hT
  go_enter Tryz.func6, Tryz.ntmps6
  go_wp2_with (first | (go_at_call 11; refine kA.mono ?_; rintro e V4 ⟨rfl, g4⟩; clear kA; have B4 := B3.kept g4 (by simp); have c0 := B4.cell 0 (v := .int .i64 (C : Nat)) rfl; have c1 := B4.cell 1 (v := .int .i64 (R : Nat)) rfl; have c2 := B4.cell 2 (v := .int .i64 2) rfl; have c3 := B4.cell 3 (v := .bool pk) rfl; have c4 := B4.cell 4 (v := .slice sp n cp) rfl; have kM := kM' V4 (gb_trans G3 g4); clear kM') | (go_at_call 12; refine kM.mono ?_; rintro e V5 ⟨r, b, g, M, L, rfl, hF, g5⟩; clear kM; have HF : Hid (MF V5 b C R 2 pk g M L) := hF; clear hF; have g45 := gb_trans g4 g5; have G5 := gb_trans G3 g45; have dL := P1.kept g45 (by simp); have dl0 := dL.cell 0 (v := .int .u8 (ho : Nat)) rfl; have dl1 := dL.cell 1 (v := .int .u16 (bo : Nat)) rfl; have dl2 := dL.cell 2 (v := .int .u16 (st : Nat)) rfl; have dT := P2.kept g45 (by simp); have dt0 := dT.cell 0 (v := .int .u8 k) rfl; have dt1 := dT.cell 1 (v := .int .i64 (C : Nat)) rfl; have dt2 := dT.cell 2 (v := .int .i64 (R : Nat)) rfl; have dt3 := dT.cell 3 (v := .int .u8 t) rfl; have dt4 := dT.cell 4 (v := .int .i64 z) rfl; have kR := runY HF.out.x HZ.out g HF.out.b8 ho bo st hh hb hs k t z a ht V5 HF.out.m (hvK HV G5) (HT.out.below (gb_below G5) tlt) hE (HF.out.cl rfl)) | (go_at_call 8; (fail_if_success (guard_hyp g6)); refine kR.mono ?_; rintro e V6 ⟨b2, rfl, s3, q3, hF3, hl3, g6⟩; clear kR hl3; have HF3 : Hid (Tt.Fb V6 b2 s3 q3 C R 2 (itG ho bo st k t z C R g a.toNat)) := hF3; clear hF3; have G6 := gb_trans G5 g6; have g46 := gb_trans g45 g6; have pL := P1.kept g46 (by simp); have pl0 := pL.cell 0 (v := .int .u8 (ho : Nat)) rfl; have pl1 := pL.cell 1 (v := .int .u16 (bo : Nat)) rfl; have pl2 := pL.cell 2 (v := .int .u16 (st : Nat)) rfl; have pT := P2.kept g46 (by simp); have pt0 := pT.cell 0 (v := .int .u8 k) rfl; have pt1 := pT.cell 1 (v := .int .i64 (C : Nat)) rfl; have pt2 := pT.cell 2 (v := .int .i64 (R : Nat)) rfl; have pt3 := pT.cell 3 (v := .int .u8 t) rfl; have pt4 := pT.cell 4 (v := .int .i64 z) rfl; have kR := runW (Tt.Fb.fdx HZ.out) HZ.out _ (it_256 ho bo st k t z C R HF.out.b8 a.toNat) ho bo st hh hb hs k t z m ht V6 HF3.out (hvK HV G6) (HT.out.below (gb_below G6) tlt) (fun _ => cloneT HZ.out V6 HF3.out); rw [hE1] at kR) | (go_at_call 8; guard_hyp g6; (fail_if_success (guard_hyp g7)); refine kR.mono ?_; rintro e V7 ⟨p7, rfl, g7⟩; clear kR; have G7 := gb_trans G6 g7; have g47 := gb_trans g46 g7; have g57 := gb_trans g6 g7; have qL := P1.kept g47 (by simp); have ql0 := qL.cell 0 (v := .int .u8 (ho : Nat)) rfl; have ql1 := qL.cell 1 (v := .int .u16 (bo : Nat)) rfl; have ql2 := qL.cell 2 (v := .int .u16 (st : Nat)) rfl; have qT := P2.kept g47 (by simp); have qt0 := qT.cell 0 (v := .int .u8 k) rfl; have qt1 := qT.cell 1 (v := .int .i64 (C : Nat)) rfl; have qt2 := qT.cell 2 (v := .int .i64 (R : Nat)) rfl; have qt3 := qT.cell 3 (v := .int .u8 t) rfl; have qt4 := qT.cell 4 (v := .int .i64 z) rfl; have kR := runN (HF.out.x.fdm g V7.heap.size (HF.out.x.lts g V7 (HF.out.x.grown HF.out.m g57))) HZ.out HF.out.b8 ho bo st hh hb hs k C R t z (a + m) ht V7 (Nat.le_refl _) (HF.out.x.grown HF.out.m g57) (hvK HV G7) (by rw [hE2]; decide); rw [hE2] at kR) | (go_at_call 8; guard_hyp g7; refine kR.mono ?_; rintro e V8 ⟨rfl, g8⟩; clear kR))
  go_ret
  exact ⟨rfl, gb_trans G7 g8⟩
set_option maxHeartbeats 4000000 in
theorem then_over4 (ho bo st : Nat) (hh : ho < 256) (hb : bo < 65536) (hs : st < 65536) (k t z : Int) (ht : 0 ≤ t) (C R : Nat) (pk : Bool) (hz : Sz C R 2) (sp : Option Addr) (n cp : Nat) (hn : n < 4611686018427387904) (f : Nat → Int × Int × Nat) (h8 : ∀ i, i < n → (f i).2.2 < 256) (a m : Int) (w : World) (hv : Hv w) (hT : Wo.Tab64 w) (hE : bgE ho bo st k C R t z C R 2 a = 0) (ha0 : 0 ≤ a) (hm0 : ¬ m < 0) (hm1 : ¬ 1000 < m) (hm2 : ¬ 1000 < a) (hE1 : bgE ho bo st k C R t z C R 2 m = 4) (hE2 : bgE ho bo st k C R t z C R 2 (a + m) = 4) (hc : Ce w sp n f) :
    Calls Tryz.prog 6 #[.agg #[.int .u8 (ho : Nat), .int .u16 (bo : Nat), .int .u16 (st : Nat)], .agg #[.int .u8 k, .int .i64 (C : Nat), .int .i64 (R : Nat), .int .u8 t, .int .i64 z], .agg #[.int .i64 (C : Nat), .int .i64 (R : Nat), .int .i64 2, .bool pk, .slice sp n cp], .int .i64 a, .int .i64 m] w fun e w' => e = .returned (.bool true) ∧ w.grownBy w' none := by
  obtain ⟨W1, hW1, sz1, g1, B1⟩ := boxn w #[.int .u8 (ho : Nat), .int .u16 (bo : Nat), .int .u16 (st : Nat)] 28
  obtain ⟨W2, hW2, sz2, g2, B2⟩ := boxn W1 #[.int .u8 k, .int .i64 (C : Nat), .int .i64 (R : Nat), .int .u8 t, .int .i64 z] 30
  obtain ⟨W3, hW3, sz3, g3, B3⟩ := boxn W2 #[.int .i64 (C : Nat), .int .i64 (R : Nat), .int .i64 2, .bool pk, .slice sp n cp] 41
  have G3 : w.grownBy W3 none := gb_trans g1 (gb_trans g2 g3)
  have P1 := B1.kept (gb_trans g2 g3) (by simp)
  have P2 := B2.kept g3 (by simp)
  have tlt : 1 < w.heap.size := cell_lt (hT 0 (by decide))
  have HV : Hid (Hv w) := hv
  have HT : Hid (Wo.Tab64 w) := hT
  have kA := aliveC W3 (hvK HV G3) (hT.below (gb_below G3) tlt)
  have kM' := fun V (gV : w.grownBy V none) => madeF C R 2 pk hz (fun _ => rfl) sp n cp hn f h8 V (fun i hi => by obtain ⟨aa, e1, e2, e3, e4⟩ := hc i hi; exact ⟨aa, e1, gV.cell e2 (by simp), gV.cell e3 (by simp), gV.cell e4 (by simp)⟩)
  have HZ : Hid (Sz C R 2) := hz
  clear hc h8 hz
  have hwr : IntKind.i64.wrap (a + m) = a + m := by rw [IntKind.wrap_i64]; omega
  clear hv hT
  go_enter Tryz.func6, Tryz.ntmps6
  go_wp2_with (first | (go_at_call 11; refine kA.mono ?_; rintro e V4 ⟨rfl, g4⟩; clear kA; have B4 := B3.kept g4 (by simp); have c0 := B4.cell 0 (v := .int .i64 (C : Nat)) rfl; have c1 := B4.cell 1 (v := .int .i64 (R : Nat)) rfl; have c2 := B4.cell 2 (v := .int .i64 2) rfl; have c3 := B4.cell 3 (v := .bool pk) rfl; have c4 := B4.cell 4 (v := .slice sp n cp) rfl; have kM := kM' V4 (gb_trans G3 g4); clear kM') | (go_at_call 12; refine kM.mono ?_; rintro e V5 ⟨r, b, g, M, L, rfl, hF, g5⟩; clear kM; have HF : Hid (MF V5 b C R 2 pk g M L) := hF; clear hF; have g45 := gb_trans g4 g5; have G5 := gb_trans G3 g45; have dL := P1.kept g45 (by simp); have dl0 := dL.cell 0 (v := .int .u8 (ho : Nat)) rfl; have dl1 := dL.cell 1 (v := .int .u16 (bo : Nat)) rfl; have dl2 := dL.cell 2 (v := .int .u16 (st : Nat)) rfl; have dT := P2.kept g45 (by simp); have dt0 := dT.cell 0 (v := .int .u8 k) rfl; have dt1 := dT.cell 1 (v := .int .i64 (C : Nat)) rfl; have dt2 := dT.cell 2 (v := .int .i64 (R : Nat)) rfl; have dt3 := dT.cell 3 (v := .int .u8 t) rfl; have dt4 := dT.cell 4 (v := .int .i64 z) rfl; have kR := runY HF.out.x HZ.out g HF.out.b8 ho bo st hh hb hs k t z a ht V5 HF.out.m (hvK HV G5) (HT.out.below (gb_below G5) tlt) hE (HF.out.cl rfl)) | (go_at_call 8; (fail_if_success (guard_hyp g6)); refine kR.mono ?_; rintro e V6 ⟨b2, rfl, s3, q3, hF3, hl3, g6⟩; clear kR hl3; have HF3 : Hid (Tt.Fb V6 b2 s3 q3 C R 2 (itG ho bo st k t z C R g a.toNat)) := hF3; clear hF3; have G6 := gb_trans G5 g6; have g46 := gb_trans g45 g6; have pL := P1.kept g46 (by simp); have pl0 := pL.cell 0 (v := .int .u8 (ho : Nat)) rfl; have pl1 := pL.cell 1 (v := .int .u16 (bo : Nat)) rfl; have pl2 := pL.cell 2 (v := .int .u16 (st : Nat)) rfl; have pT := P2.kept g46 (by simp); have pt0 := pT.cell 0 (v := .int .u8 k) rfl; have pt1 := pT.cell 1 (v := .int .i64 (C : Nat)) rfl; have pt2 := pT.cell 2 (v := .int .i64 (R : Nat)) rfl; have pt3 := pT.cell 3 (v := .int .u8 t) rfl; have pt4 := pT.cell 4 (v := .int .i64 z) rfl; have kR := runW (Tt.Fb.fdx HZ.out) HZ.out _ (it_256 ho bo st k t z C R HF.out.b8 a.toNat) ho bo st hh hb hs k t z m ht V6 HF3.out (hvK HV G6) (HT.out.below (gb_below G6) tlt) (fun _ => cloneT HZ.out V6 HF3.out); rw [hE1] at kR) | (go_at_call 8; guard_hyp g6; (fail_if_success (guard_hyp g7)); refine kR.mono ?_; rintro e V7 ⟨p7, rfl, g7⟩; clear kR; have G7 := gb_trans G6 g7; have g47 := gb_trans g46 g7; have g57 := gb_trans g6 g7; have qL := P1.kept g47 (by simp); have ql0 := qL.cell 0 (v := .int .u8 (ho : Nat)) rfl; have ql1 := qL.cell 1 (v := .int .u16 (bo : Nat)) rfl; have ql2 := qL.cell 2 (v := .int .u16 (st : Nat)) rfl; have qT := P2.kept g47 (by simp); have qt0 := qT.cell 0 (v := .int .u8 k) rfl; have qt1 := qT.cell 1 (v := .int .i64 (C : Nat)) rfl; have qt2 := qT.cell 2 (v := .int .i64 (R : Nat)) rfl; have qt3 := qT.cell 3 (v := .int .u8 t) rfl; have qt4 := qT.cell 4 (v := .int .i64 z) rfl; have kR := runN (HF.out.x.fdm g V7.heap.size (HF.out.x.lts g V7 (HF.out.x.grown HF.out.m g57))) HZ.out HF.out.b8 ho bo st hh hb hs k C R t z (a + m) ht V7 (Nat.le_refl _) (HF.out.x.grown HF.out.m g57) (hvK HV G7) (by rw [hE2]; decide); rw [hE2] at kR) | (go_at_call 8; guard_hyp g7; refine kR.mono ?_; rintro e V8 ⟨rfl, g8⟩; clear kR))
  go_ret
  exact ⟨rfl, gb_trans G7 g8⟩
set_option maxHeartbeats 4000000 in
theorem then_yes (ho bo st : Nat) (hh : ho < 256) (hb : bo < 65536) (hs : st < 65536) (k t z : Int) (ht : 0 ≤ t) (C R : Nat) (pk : Bool) (hz : Sz C R 2) (sp : Option Addr) (n cp : Nat) (hn : n < 4611686018427387904) (f : Nat → Int × Int × Nat) (h8 : ∀ i, i < n → (f i).2.2 < 256) (a m : Int) (w : World) (hv : Hv w) (hT : Wo.Tab64 w) (hE : bgE ho bo st k C R t z C R 2 a = 0) (ha0 : 0 ≤ a) (hm0 : ¬ m < 0) (hm1 : ¬ 1000 < m) (hm2 : ¬ 1000 < a) (hE1 : bgE ho bo st k C R t z C R 2 m = 0) (hE2 : bgE ho bo st k C R t z C R 2 (a + m) = 0) (hE3 : bgE ho bo st k C R t z C R 2 0 = 0) (hc : Ce w sp n f) :
    Calls Tryz.prog 6 #[.agg #[.int .u8 (ho : Nat), .int .u16 (bo : Nat), .int .u16 (st : Nat)], .agg #[.int .u8 k, .int .i64 (C : Nat), .int .i64 (R : Nat), .int .u8 t, .int .i64 z], .agg #[.int .i64 (C : Nat), .int .i64 (R : Nat), .int .i64 2, .bool pk, .slice sp n cp], .int .i64 a, .int .i64 m] w fun e w' => e = .returned (.bool true) ∧ w.grownBy w' none := by
  obtain ⟨W1, hW1, sz1, g1, B1⟩ := boxn w #[.int .u8 (ho : Nat), .int .u16 (bo : Nat), .int .u16 (st : Nat)] 28
  obtain ⟨W2, hW2, sz2, g2, B2⟩ := boxn W1 #[.int .u8 k, .int .i64 (C : Nat), .int .i64 (R : Nat), .int .u8 t, .int .i64 z] 30
  obtain ⟨W3, hW3, sz3, g3, B3⟩ := boxn W2 #[.int .i64 (C : Nat), .int .i64 (R : Nat), .int .i64 2, .bool pk, .slice sp n cp] 41
  have G3 : w.grownBy W3 none := gb_trans g1 (gb_trans g2 g3)
  have P1 := B1.kept (gb_trans g2 g3) (by simp)
  have P2 := B2.kept g3 (by simp)
  have tlt : 1 < w.heap.size := cell_lt (hT 0 (by decide))
  have HV : Hid (Hv w) := hv
  have HT : Hid (Wo.Tab64 w) := hT
  have kA := aliveC W3 (hvK HV G3) (hT.below (gb_below G3) tlt)
  have kM' := fun V (gV : w.grownBy V none) => madeF C R 2 pk hz (fun _ => rfl) sp n cp hn f h8 V (fun i hi => by obtain ⟨aa, e1, e2, e3, e4⟩ := hc i hi; exact ⟨aa, e1, gV.cell e2 (by simp), gV.cell e3 (by simp), gV.cell e4 (by simp)⟩)
  have HZ : Hid (Sz C R 2) := hz
  clear hc h8 hz
  have hwr : IntKind.i64.wrap (a + m) = a + m := by rw [IntKind.wrap_i64]; omega
  have hsum : Hid (a.toNat + m.toNat = (a + m).toNat) := by unfold Hid; omega
  clear hv hT
  go_enter Tryz.func6, Tryz.ntmps6
  go_wp2_with (first | (go_at_call 11; refine kA.mono ?_; rintro e V4 ⟨rfl, g4⟩; clear kA; have B4 := B3.kept g4 (by simp); have c0 := B4.cell 0 (v := .int .i64 (C : Nat)) rfl; have c1 := B4.cell 1 (v := .int .i64 (R : Nat)) rfl; have c2 := B4.cell 2 (v := .int .i64 2) rfl; have c3 := B4.cell 3 (v := .bool pk) rfl; have c4 := B4.cell 4 (v := .slice sp n cp) rfl; have kM := kM' V4 (gb_trans G3 g4); clear kM') | (go_at_call 12; refine kM.mono ?_; rintro e V5 ⟨r, b, g, M, L, rfl, hF, g5⟩; clear kM; have HF : Hid (MF V5 b C R 2 pk g M L) := hF; clear hF; have g45 := gb_trans g4 g5; have G5 := gb_trans G3 g45; have dL := P1.kept g45 (by simp); have dl0 := dL.cell 0 (v := .int .u8 (ho : Nat)) rfl; have dl1 := dL.cell 1 (v := .int .u16 (bo : Nat)) rfl; have dl2 := dL.cell 2 (v := .int .u16 (st : Nat)) rfl; have dT := P2.kept g45 (by simp); have dt0 := dT.cell 0 (v := .int .u8 k) rfl; have dt1 := dT.cell 1 (v := .int .i64 (C : Nat)) rfl; have dt2 := dT.cell 2 (v := .int .i64 (R : Nat)) rfl; have dt3 := dT.cell 3 (v := .int .u8 t) rfl; have dt4 := dT.cell 4 (v := .int .i64 z) rfl; have kR := runY HF.out.x HZ.out g HF.out.b8 ho bo st hh hb hs k t z a ht V5 HF.out.m (hvK HV G5) (HT.out.below (gb_below G5) tlt) hE (HF.out.cl rfl)) | (go_at_call 8; (fail_if_success (guard_hyp g6)); refine kR.mono ?_; rintro e V6 ⟨b2, rfl, s3, q3, hF3, hl3, g6⟩; clear kR hl3; have HF3 : Hid (Tt.Fb V6 b2 s3 q3 C R 2 (itG ho bo st k t z C R g a.toNat)) := hF3; clear hF3; have G6 := gb_trans G5 g6; have g46 := gb_trans g45 g6; have pL := P1.kept g46 (by simp); have pl0 := pL.cell 0 (v := .int .u8 (ho : Nat)) rfl; have pl1 := pL.cell 1 (v := .int .u16 (bo : Nat)) rfl; have pl2 := pL.cell 2 (v := .int .u16 (st : Nat)) rfl; have pT := P2.kept g46 (by simp); have pt0 := pT.cell 0 (v := .int .u8 k) rfl; have pt1 := pT.cell 1 (v := .int .i64 (C : Nat)) rfl; have pt2 := pT.cell 2 (v := .int .i64 (R : Nat)) rfl; have pt3 := pT.cell 3 (v := .int .u8 t) rfl; have pt4 := pT.cell 4 (v := .int .i64 z) rfl; have kR := runY (Tt.Fb.fdx HZ.out) HZ.out _ (it_256 ho bo st k t z C R HF.out.b8 a.toNat) ho bo st hh hb hs k t z m ht V6 HF3.out (hvK HV G6) (HT.out.below (gb_below G6) tlt) hE1 (cloneT HZ.out V6 HF3.out)) | (go_at_call 8; guard_hyp g6; (fail_if_success (guard_hyp g7)); refine kR.mono ?_; rintro e V7 ⟨b4, rfl, s4, q4, hF4, hl4, g7⟩; clear kR hl4; have HF4 : Hid (Tt.Fb V7 b4 s4 q4 C R 2 (itG ho bo st k t z C R (itG ho bo st k t z C R g a.toNat) m.toNat)) := hF4; clear hF4; have G7 := gb_trans G6 g7; have g47 := gb_trans g46 g7; have g57 := gb_trans g6 g7; have qL := P1.kept g47 (by simp); have ql0 := qL.cell 0 (v := .int .u8 (ho : Nat)) rfl; have ql1 := qL.cell 1 (v := .int .u16 (bo : Nat)) rfl; have ql2 := qL.cell 2 (v := .int .u16 (st : Nat)) rfl; have qT := P2.kept g47 (by simp); have qt0 := qT.cell 0 (v := .int .u8 k) rfl; have qt1 := qT.cell 1 (v := .int .i64 (C : Nat)) rfl; have qt2 := qT.cell 2 (v := .int .i64 (R : Nat)) rfl; have qt3 := qT.cell 3 (v := .int .u8 t) rfl; have qt4 := qT.cell 4 (v := .int .i64 z) rfl; have kR := runY HF.out.x HZ.out g HF.out.b8 ho bo st hh hb hs k t z (a + m) ht V7 (HF.out.x.grown HF.out.m g57) (hvK HV G7) (HT.out.below (gb_below G7) tlt) hE2 (fun v hg => HF.out.cl rfl v (gb_trans g57 hg))) | (go_at_call 8; guard_hyp g7; (fail_if_success (guard_hyp g8)); refine kR.mono ?_; rintro e V8 ⟨b5, rfl, s5, q5, hF5, hl5, g8⟩; clear kR hl5; have HF5 : Hid (Tt.Fb V8 b5 s5 q5 C R 2 (itG ho bo st k t z C R g (a + m).toNat)) := hF5; clear hF5; have G8 := gb_trans G7 g8; have g48 := gb_trans g47 g8; have g58 := gb_trans g57 g8; have uL := P1.kept g48 (by simp); have ul0 := uL.cell 0 (v := .int .u8 (ho : Nat)) rfl; have ul1 := uL.cell 1 (v := .int .u16 (bo : Nat)) rfl; have ul2 := uL.cell 2 (v := .int .u16 (st : Nat)) rfl; have uT := P2.kept g48 (by simp); have ut0 := uT.cell 0 (v := .int .u8 k) rfl; have ut1 := uT.cell 1 (v := .int .i64 (C : Nat)) rfl; have ut2 := uT.cell 2 (v := .int .i64 (R : Nat)) rfl; have ut3 := uT.cell 3 (v := .int .u8 t) rfl; have ut4 := uT.cell 4 (v := .int .i64 z) rfl; have kR := runY HF.out.x HZ.out g HF.out.b8 ho bo st hh hb hs k t z 0 ht V8 (HF.out.x.grown HF.out.m g58) (hvK HV G8) (HT.out.below (gb_below G8) tlt) hE3 (fun v hg => HF.out.cl rfl v (gb_trans g58 hg))) | (go_at_call 8; guard_hyp g8; refine kR.mono ?_; rintro e V9 ⟨b6, rfl, s6, q6, hF6, hl6, g9⟩; clear kR hl6; have HF6 : Hid (Tt.Fb V9 b6 s6 q6 C R 2 g) := hF6; have kPk := (Tt.Fb.fdx (b := b6) (s := s6) (q := q6) HZ.out).packed g; clear hF6; have G9 := gb_trans G8 g9; have g59 := gb_trans g58 g9; have kS := samett b4 s4 q4 b5 s5 q5 C R _ _ HZ.out V9 ((HF4.out.kept g8).kept g9) (HF5.out.kept g9) (fun kk _ => by rw [it_add, hsum.out])) | (go_at_call 19; (fail_if_success (guard_hyp g10)); refine kS.mono ?_; rintro e V10 ⟨rfl, g10⟩; clear kS; have kS := HF.out.sm rfl V10 b6 s6 q6 g (gb_trans g59 g10) (HF6.out.kept g10) (fun _ _ => rfl)) | (go_at_call 19; guard_hyp g10; refine kS.mono ?_; rintro e V11 ⟨rfl, g11⟩; clear kS; have kPk := kPk V11 ((HF6.out.kept g10).kept g11)) | (go_at_call 20; refine kPk.mono ?_; rintro e V12 ⟨rfl, g12⟩; clear kPk))
  go_ret
  exact ⟨rfl, gb_trans G9 (gb_trans g10 (gb_trans g11 g12))⟩
theorem then_walk (xa xb xc k x y t z : Int) (C R S : Int) (pk : Bool) (n cp : Nat) (sp : Option Addr) (f : Nat → Int × Int × Nat) (a m : Int) (w : World) (ya : 0 ≤ xa ∧ xa ≤ 255) (yb : 0 ≤ xb ∧ xb ≤ 65535) (yc : 0 ≤ xc ∧ xc ≤ 65535) (_ : 0 ≤ k ∧ k ≤ 255) (_ : -9223372036854775808 ≤ x ∧ x ≤ 9223372036854775807) (_ : -9223372036854775808 ≤ y ∧ y ≤ 9223372036854775807) (yt : 0 ≤ t ∧ t ≤ 255) (_ : -9223372036854775808 ≤ z ∧ z ≤ 9223372036854775807) (hn : n ≤ 8796093021952) (h8 : ∀ i, i < n → (f i).2.2 < 256) (hc : Ce w sp n f) (a0 : -9223372036854775808 ≤ a) (a1 : a ≤ 9223372036854775807) (m0 : -9223372036854775808 ≤ m) (m1 : m ≤ 9223372036854775807) (hv : Hv w) (hT : Wo.Tab64 w) :
    Calls Tryz.prog 6 #[.agg #[.int .u8 xa, .int .u16 xb, .int .u16 xc], .agg #[.int .u8 k, .int .i64 x, .int .i64 y, .int .u8 t, .int .i64 z], .agg #[.int .i64 C, .int .i64 R, .int .i64 S, .bool pk, .slice sp n cp], .int .i64 a, .int .i64 m] w fun e w' => e = .returned (.bool true) ∧ Below w.heap.size w w' := by
  have key : Calls Tryz.prog 6 #[.agg #[.int .u8 xa, .int .u16 xb, .int .u16 xc], .agg #[.int .u8 k, .int .i64 x, .int .i64 y, .int .u8 t, .int .i64 z], .agg #[.int .i64 C, .int .i64 R, .int .i64 S, .bool pk, .slice sp n cp], .int .i64 a, .int .i64 m] w fun e w' => e = .returned (.bool true) ∧ w.grownBy w' none := by
    obtain ⟨ho, rfl⟩ : ∃ ho : Nat, xa = ho := ⟨xa.toNat, by omega⟩
    obtain ⟨bo, rfl⟩ : ∃ bo : Nat, xb = bo := ⟨xb.toNat, by omega⟩
    obtain ⟨st, rfl⟩ : ∃ st : Nat, xc = st := ⟨xc.toNat, by omega⟩
    by_cases hE : ckE C R S pk = 0
    · obtain ⟨c, r, s, rfl, rfl, rfl, hz, hpk⟩ := ckE_ok hE
      by_cases hB : bgE ho bo st k x y t z c r s a = 0
      · obtain ⟨_, e2, e3, e4, e5⟩ := bgE_zero hB
        obtain ⟨e6, e7⟩ := rwE_zero e2
        obtain ⟨rfl, rfl, _⟩ := cgE_zero yt.1 hz.c0 hz.r0 e6
        obtain rfl : s = 2 := by have := hz.s0; omega
        by_cases q1 : m < 0
        · exact then_far1 ho bo st (by omega) (by omega) (by omega) k t z yt.1 c r pk hz sp n cp (by omega) f h8 a m w hv hT hB q1 hc
        by_cases q2 : 1000 < m
        · exact then_far2 ho bo st (by omega) (by omega) (by omega) k t z yt.1 c r pk hz sp n cp (by omega) f h8 a m w hv hT hB q1 q2 hc
        by_cases q3 : 1000 < a
        · exact then_far3 ho bo st (by omega) (by omega) (by omega) k t z yt.1 c r pk hz sp n cp (by omega) f h8 a m w hv hT hB q1 q2 q3 hc
        have b1 := bgE_small hB m (by omega) (by omega)
        have b2 := bgE_small hB (a + m) (by omega) (by omega)
        have b3 := bgE_small hB 0 (by omega) (by omega)
        rw [if_neg (by omega)] at b3
        by_cases q5 : (67108864 : Int) / ((c * r : Nat) : Int) < a + m
        · rw [if_pos q5] at b2
          by_cases q6 : (67108864 : Int) / ((c * r : Nat) : Int) < m
          · rw [if_pos q6] at b1
            exact then_over4 ho bo st (by omega) (by omega) (by omega) k t z yt.1 c r pk hz sp n cp (by omega) f h8 a m w hv hT hB e3 q1 q2 q3 b1 b2 hc
          · rw [if_neg q6] at b1
            exact then_over0 ho bo st (by omega) (by omega) (by omega) k t z yt.1 c r pk hz sp n cp (by omega) f h8 a m w hv hT hB e3 q1 q2 q3 b1 b2 hc
        · rw [if_neg q5] at b2
          rw [if_neg (by omega)] at b1
          exact then_yes ho bo st (by omega) (by omega) (by omega) k t z yt.1 c r pk hz sp n cp (by omega) f h8 a m w hv hT hB e3 q1 q2 q3 b1 b2 b3 hc
      · exact then_bad ho bo st (by omega) (by omega) (by omega) k x y t z yt.1 c r s pk hz hpk sp n cp (by omega) f h8 a m w hv hT hB hc
    · exact then_none ho bo st k x y t z C R S pk sp n cp a m w hv hT hE
  exact key.mono fun e w' ⟨he, hg⟩ => ⟨he, gb_below hg⟩
end Go.Proofs.YthjiiljglgmkpaaGreatDoor.Pd
