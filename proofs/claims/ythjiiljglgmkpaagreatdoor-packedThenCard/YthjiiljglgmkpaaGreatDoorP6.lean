/- alive: three cells in a row turn. -/
import Derived.Test.YthjiiljglgmkpaaGreatDoorP5
import Derived.Test.YthjiiljglgmkpaaGreatDoorXb
import Derived.Test.YthjiiljglgmkpaaGreatDoorY15
import Derived.Test.YthjiiljglgmkpaaGreatDoorX9
namespace Go.Proofs.YthjiiljglgmkpaaGreatDoor.Pd
open Go.RowKit
set_option linter.unusedVariables false
set_option linter.unusedSimpArgs false
set_option maxRecDepth 100000

/-- A field of bytes is cloned, and packed. -/
theorem cloneB {b s q C R : Nat} {g : Nat → Nat} (hz : Sz C R 2) (hlow : ∀ k, k < C * R → g k < 2) (w : World) (h : _root_.Go.Proofs.YthjiiljglgmkpaaGreatDoor.Fb w b s q C R 2 g) : ∀ v, w.grownBy v none → Calls Tryz.prog 26 #[.pointer (some ⟨b, 0, none⟩)] v fun e v' => ∃ b2, e = .returned (.pointer (some ⟨b2, 0, none⟩)) ∧ v.heap.size ≤ b2 ∧ v.grownBy v' none ∧ Calls Tryz.prog 27 #[.pointer (some ⟨b2, 0, none⟩), .bool true] v' (fun e v3 => e = .returned (.int .i64 0) ∧ ∃ s3 q3, Tt.Fb v3 b2 s3 q3 C R 2 g ∧ (∀ i, LQ b2 s3 q3 R i → v.heap.size ≤ i) ∧ v'.grownBy v3 (some b2)) := fun v hg => by
  refine (fClone b s q C R 2 g hz v (h.kept hg)).mono ?_
  rintro e v' ⟨b2, s2, q2, rfl, h2, l1, l2, l3, g2⟩
  refine ⟨b2, rfl, l1, g2, ?_⟩
  refine (Tt.fPackY b2 s2 q2 C R g hz hlow v' h2).mono ?_
  rintro e v3 ⟨s3, q3, rfl, h3, m1, m2, m3, g3⟩
  have := g2.size
  refine ⟨rfl, s3, q3, h3, fun i hi => ?_, g3⟩
  rcases hi with rfl | rfl | rfl | ⟨j, hj, rfl⟩
  · exact l1
  · omega
  · omega
  · have := m3 j hj; omega
/-- A field of bits is cloned. -/
theorem cloneT {b s : Nat} {q : Nat × (Nat → Nat)} {C R : Nat} {g : Nat → Nat} (hz : Sz C R 2) (w : World) (h : Tt.Fb w b s q C R 2 g) : ∀ v, w.grownBy v none → Calls Tryz.prog 26 #[.pointer (some ⟨b, 0, none⟩)] v fun e v' => ∃ b2, e = .returned (.pointer (some ⟨b2, 0, none⟩)) ∧ v.heap.size ≤ b2 ∧ v.grownBy v' none ∧ Calls Tryz.prog 27 #[.pointer (some ⟨b2, 0, none⟩), .bool true] v' (fun e v3 => e = .returned (.int .i64 0) ∧ ∃ s3 q3, Tt.Fb v3 b2 s3 q3 C R 2 g ∧ (∀ i, LQ b2 s3 q3 R i → v.heap.size ≤ i) ∧ v'.grownBy v3 (some b2)) := fun v hg => by
  refine (Tt.fCloneB b s q C R g hz v (h.kept hg)).mono ?_
  rintro e v' ⟨b2, rfl, s2, q2, h2, l1, l2, l3, l4, g2⟩
  refine ⟨b2, rfl, l1, g2, ?_⟩
  refine (Tt.fPackB b2 s2 q2 C R g hz v' h2).mono ?_
  rintro e v3 ⟨rfl, g3⟩
  refine ⟨rfl, s2, q2, h2.kept g3, fun i hi => ?_, gb_none (World.grownBy.refl _ _) g3⟩
  rcases hi with rfl | rfl | rfl | ⟨j, hj, rfl⟩
  · exact l1
  · exact l2
  · exact l3
  · exact l4 j hj
theorem infoLf : (Tryz.prog.info? 28).map (·.size) = some 3 := by kernel_rfl
theorem underLf : ∃ fs, Tryz.prog.underlying 28 = some (.struct fs) := ⟨_, Tryz.underlying28⟩
theorem conwayC (w : World) : Calls Tryz.prog 10 #[] w fun e w' => e = .returned (.agg #[.int .u8 1, .int .u16 8, .int .u16 12]) ∧ w.grownBy w' none := by
  obtain ⟨fs, hfs'⟩ := underLf
  have hfs : Hid (Tryz.prog.underlying 28 = some (.struct fs)) := hfs'
  clear hfs'
  obtain ⟨W1, hW1, sz1, g1, B1⟩ := boxn w #[.int .u8 1, .int .u16 8, .int .u16 12] 28
  go_enter Tryz.func10, Tryz.ntmps10
  go_wp2
  refine ret_c1 (g := w.heap.size) (cs := #[.int .u8 1, .int .u16 8, .int .u16 12]) rfl hfs.out infoLf rfl B1 rfl ⟨rfl, g1⟩
set_option maxHeartbeats 2000000 in
theorem nextY {M : (Nat → Nat) → World → Prop} {L : Nat → Prop} {b C R S : Nat} {pk : Bool} (F : FdX M L b C R S pk) (hz : Sz C R S) (g : Nat → Nat) (h256 : ∀ i, g i < 256) (ho bo st : Nat) (hh : ho < 256) (hb : bo < 65536) (hs : st < 65536) (k t z : Int) (ht : 0 ≤ t) (w : World) (hM : M g w) (hv : Hid (Hv w)) (hT : Wo.Tab64 w) (hE : bgE ho bo st k C R t z C R S 1 = 0) (hCl : ∀ v, w.grownBy v none → Calls Tryz.prog 26 #[.pointer (some ⟨b, 0, none⟩)] v fun e v' => ∃ b2, e = .returned (.pointer (some ⟨b2, 0, none⟩)) ∧ v.heap.size ≤ b2 ∧ v.grownBy v' none ∧ Calls Tryz.prog 27 #[.pointer (some ⟨b2, 0, none⟩), .bool true] v' (fun e v3 => e = .returned (.int .i64 0) ∧ ∃ s3 q3, Tt.Fb v3 b2 s3 q3 C R 2 g ∧ (∀ i, LQ b2 s3 q3 R i → v.heap.size ≤ i) ∧ v'.grownBy v3 (some b2))) :
    Calls Tryz.prog 14 #[.agg #[.int .u8 (ho : Nat), .int .u16 (bo : Nat), .int .u16 (st : Nat)], .agg #[.int .u8 k, .int .i64 (C : Nat), .int .i64 (R : Nat), .int .u8 t, .int .i64 z], .pointer (some ⟨b, 0, none⟩)] w fun e w' => ∃ b2, e = .returned (.tuple #[.pointer (some ⟨b2, 0, none⟩), .int .i64 0]) ∧ ∃ s3 q3, Tt.Fb w' b2 s3 q3 C R 2 (itG ho bo st k t z C R g 1) ∧ (∀ i, LQ b2 s3 q3 R i → w.heap.size ≤ i) ∧ w.grownBy w' none := by
  obtain ⟨W1, hW1, sz1, g1, B1⟩ := boxn w #[.int .u8 (ho : Nat), .int .u16 (bo : Nat), .int .u16 (st : Nat)] 28
  obtain ⟨W2, hW2, sz2, g2, B2⟩ := boxn W1 #[.int .u8 k, .int .i64 (C : Nat), .int .i64 (R : Nat), .int .u8 t, .int .i64 z] 30
  have G2 := gb_trans g1 g2
  have kR := runY F hz g h256 ho bo st hh hb hs k t z 1 ht W2 (F.grown hM G2) (hvK hv G2) (hT.below (gb_below G2) (cell_lt (hT 0 (by decide)))) hE (fun v hg => hCl v (gb_trans G2 hg))
  have L2 := B1.kept g2 (by simp)
  have l0 := L2.cell 0 (v := .int .u8 (ho : Nat)) rfl
  have l1 := L2.cell 1 (v := .int .u16 (bo : Nat)) rfl
  have l2 := L2.cell 2 (v := .int .u16 (st : Nat)) rfl
  have t0 := B2.cell 0 (v := .int .u8 k) rfl
  have t1 := B2.cell 1 (v := .int .i64 (C : Nat)) rfl
  have t2 := B2.cell 2 (v := .int .i64 (R : Nat)) rfl
  have t3 := B2.cell 3 (v := .int .u8 t) rfl
  have t4 := B2.cell 4 (v := .int .i64 z) rfl
  have s2 := G2.size
  have HG2 : Hid (w.grownBy W2 none) := G2
  clear F h256 hM hE hv hT hCl
  go_enter Tryz.func14, Tryz.ntmps14
  go_wp2_with (first | (go_at_call 8; refine kR.mono ?_; rintro e V3 ⟨b2, rfl, s3, q3, M3, l3, g3⟩))
  go_ret2
  exact ⟨b2, rfl, s3, q3, M3, fun i hi => by have := l3 i hi; omega, gb_trans HG2.out g3⟩
theorem sz332 : Sz 3 3 2 := ⟨by decide, by decide, by decide, by decide, by decide, by decide, by decide⟩
/-- Its cells, once a row lives. -/
def gB (j : Nat) : Nat := if 1 * 3 ≤ j ∧ j < 1 * 3 + 3 then lsF [1, 1, 1] (j - 1 * 3) else 0
theorem gB_lt (j : Nat) : gB j < 256 := by
  unfold gB
  split
  · exact lsF_lt _ (by decide) _
  · decide
theorem gB_low : ∀ k, k < 3 * 3 → gB k < 2 := by decide
theorem itA : ∀ x, x < 3 → (itG 1 8 12 1 0 0 3 3 gB 1) (0 * 3 + x) = lsF [0, 1, 0] x := by decide +kernel
theorem popA : popN (itG 1 8 12 1 0 0 3 3 gB 1) 3 3 = 3 := by decide +kernel
theorem bgA : bgE 1 8 12 1 (3 : Nat) (3 : Nat) 0 0 3 3 2 1 = 0 := by decide +kernel
theorem a_new (w : World) : Calls Tryz.prog 33 #[.int .i64 3, .int .i64 3, .int .i64 2, .bool false] w fun e w' => ∃ b s q, e = .returned (.tuple #[.pointer (some ⟨b, 0, none⟩), .int .i64 0]) ∧ _root_.Go.Proofs.YthjiiljglgmkpaaGreatDoor.Fb w' b s q 3 3 2 (fun _ => 0) ∧ w.heap.size ≤ b ∧ w.heap.size ≤ s ∧ w.heap.size ≤ q ∧ w.grownBy w' none := newY 3 3 2 sz332 w
theorem a_lay {b s q a c : Nat} (w : World) (h : _root_.Go.Proofs.YthjiiljglgmkpaaGreatDoor.Fb w b s q 3 3 2 (fun _ => 0)) (hb : By w (some ⟨a, 0, none⟩) 3 (lsF [1, 1, 1])) : Calls Tryz.prog 34 #[.pointer (some ⟨b, 0, none⟩), .int .i64 1, .slice (some ⟨a, 0, none⟩) 3 c] w fun e w' => e = .returned (.int .i64 0) ∧ _root_.Go.Proofs.YthjiiljglgmkpaaGreatDoor.Fb w' b s q 3 3 2 gB ∧ w.grownBy w' (some q) :=
  fLayY b s q 3 3 2 (fun _ => 0) sz332 1 (by decide) (some ⟨a, 0, none⟩) c (lsF [1, 1, 1]) (lsF_lt _ (by decide)) (by decide) w h hb
theorem a_next {b s q : Nat} (w : World) (h : _root_.Go.Proofs.YthjiiljglgmkpaaGreatDoor.Fb w b s q 3 3 2 gB) (hv : Hid (Hv w)) (hT : Wo.Tab64 w) :
    Calls Tryz.prog 14 #[.agg #[.int .u8 1, .int .u16 8, .int .u16 12], .agg #[.int .u8 1, .int .i64 3, .int .i64 3, .int .u8 0, .int .i64 0], .pointer (some ⟨b, 0, none⟩)] w fun e w' => ∃ b2, e = .returned (.tuple #[.pointer (some ⟨b2, 0, none⟩), .int .i64 0]) ∧ ∃ s3 q3, Tt.Fb w' b2 s3 q3 3 3 2 (itG 1 8 12 1 0 0 3 3 gB 1) ∧ (∀ i, LQ b2 s3 q3 3 i → w.heap.size ≤ i) ∧ w.grownBy w' none :=
  nextY (Fb.fdx (s := s) (q := q) sz332) sz332 gB gB_lt 1 8 12 (by decide) (by decide) (by decide) 1 0 0 (by decide) w h hv hT bgA (cloneB sz332 gB_low w h)
theorem a_line {M : (Nat → Nat) → World → Prop} {L : Nat → Prop} {b : Nat} (F : FdX M L b 3 3 2 true) (w : World) (h : M (itG 1 8 12 1 0 0 3 3 gB 1) w) : Calls Tryz.prog 35 #[.pointer (some ⟨b, 0, none⟩), .int .i64 0] w fun e w' => ∃ d, e = .returned (.tuple #[.slice (some ⟨d, 0, none⟩) 3 3, .int .i64 0]) ∧ By w' (some ⟨d, 0, none⟩) 3 (lsF [0, 1, 0]) ∧ w.grownBy w' none := by
  refine (F.line _ 0 (by decide) w h).mono ?_
  rintro e w' ⟨d, he, hr, _, g⟩
  exact ⟨d, he, (rowIs_by hr).congr (fun x hx => itA x hx), g⟩
theorem a_pop {M : (Nat → Nat) → World → Prop} {L : Nat → Prop} {b : Nat} (F : FdX M L b 3 3 2 true) (w : World) (h : M (itG 1 8 12 1 0 0 3 3 gB 1) w) : Calls Tryz.prog 36 #[.pointer (some ⟨b, 0, none⟩)] w fun e w' => e = .returned (.int .i64 3) ∧ w.grownBy w' none := by
  have := F.pop _ w h
  rw [popA] at this
  exact this
theorem a_pline (ra rh rb : Nat) (w : World) (hv : Hid (Hv w)) (h1 : Wd w (some ⟨ra, 0, none⟩) 1 (fun _ => 14)) (h2 : Wd w (some ⟨rh, 0, none⟩) 1 (fun _ => 0)) (h3 : Wd w (some ⟨rb, 0, none⟩) 1 (fun _ => 0)) :
    Calls Tryz.prog 9 #[.agg #[.int .u8 1, .int .u16 8, .int .u16 12], .agg #[.int .i64 5, .slice (some ⟨ra, 0, none⟩) 1 1], .agg #[.int .i64 5, .slice (some ⟨rh, 0, none⟩) 1 1], .agg #[.int .i64 5, .slice (some ⟨rb, 0, none⟩) 1 1]] w fun e w' => ∃ z, e = .returned (.tuple #[.agg #[.int .i64 3, .slice (some ⟨z, 0, none⟩) 1 1], .int .i64 0]) ∧ w'.cell? ⟨z, 0, none⟩ = some (.int .u64 2) ∧ w.grownBy w' none := by
  have := lineAll 1 8 12 (by decide) (by decide) (by decide) 5 1 1 (some ⟨ra, 0, none⟩) (fun _ => 14) (fun _ _ => by decide) (by decide) 5 1 1 (some ⟨rh, 0, none⟩) (fun _ => 0) (fun _ _ => by decide) (by decide) 5 1 1 (some ⟨rb, 0, none⟩) (fun _ => 0) (fun _ _ => by decide) (by decide) w hv h1 h2 h3
  refine this.mono ?_
  have e1 : aE 1 8 12 5 5 5 1 1 1 (fun _ => 14) (fun _ => 0) (fun _ => 0) = 0 := by decide +kernel
  have e2 : aM 1 8 12 5 5 5 1 1 1 (fun _ => 14) (fun _ => 0) (fun _ => 0) = 3 := by decide +kernel
  have e3 : aK 1 8 12 5 5 5 1 1 1 (fun _ => 14) (fun _ => 0) (fun _ => 0) = 1 := by decide +kernel
  have e4 : aF 1 8 12 5 (fun _ => 14) (fun _ => 0) (fun _ => 0) 0 = 2 := by decide +kernel
  rw [e1, e2, e3]
  rintro e w' ⟨sp, he, hs, g⟩
  rcases hs with ⟨_, h0⟩ | ⟨z, rfl, hr, _⟩
  · cases h0
  · refine ⟨z, he, ?_, g⟩
    have := hr.cell (show 0 < 1 by decide)
    rw [this, e4]
    rfl
theorem wd_one {w : World} {b v : Nat} {x : Value} (h : Bo w b 37 #[x]) (hx : x = .int .u64 (v : Nat)) : Wd w (some ⟨b, 0, none⟩) 1 (fun _ => v) := fun k hk => ⟨_, rfl, by
  obtain rfl : k = 0 := by omega
  subst hx
  rw [add_mid, Nat.zero_add]
  exact h.cell 0 rfl⟩
set_option maxHeartbeats 4000000 in
theorem aliveC (w : World) (hv : Hid (Hv w)) (hT : Wo.Tab64 w) : Calls Tryz.prog 11 #[] w fun e w' => e = .returned (.bool true) ∧ w.grownBy w' none := by
  have tlt : 1 < w.heap.size := cell_lt (hT 0 (by decide))
  have HT : Hid (Wo.Tab64 w) := hT
  clear hT
  go_enter Tryz.func11, Tryz.ntmps11
  go_wp2_with (first | (go_at_call 33; refine (a_new w).mono ?_; rintro e V1 ⟨b, s, q, rfl, h1, lb, ls, lq, g1⟩; obtain ⟨W2, hW2, sz2, g2, B2⟩ := boxn V1 #[.int .u8 1, .int .u8 1, .int .u8 1] 5; have by2 : By W2 (some ⟨V1.heap.size, 0, none⟩) 3 (lsF [1, 1, 1]) := hW2 ▸ by_list V1 [1, 1, 1]; have kLay := a_lay (c := 3) W2 (h1.kept g2) by2) | (go_at_call 34; refine kLay.mono ?_; rintro e V3 ⟨rfl, h3, g3⟩; clear kLay; have G3 : w.grownBy V3 none := gb_past (gb_trans g1 g2) g3 lq) | (go_at_call 10; (fail_if_success (guard_hyp gc1)); refine (conwayC V3).mono ?_; rintro e Vc ⟨rfl, gc1⟩; have Gc1 := gb_trans G3 gc1; have kNx := a_next Vc (h3.kept gc1) (hvK hv Gc1) (HT.out.below (gb_below Gc1) tlt)) | (go_at_call 10; guard_hyp gc1; refine (conwayC V5).mono ?_; rintro e Vd ⟨rfl, gc2⟩; obtain ⟨W6, hW6, sz6, g6, B6⟩ := boxn Vd #[.int .u64 14] 37; obtain ⟨W7, hW7, sz7, g7, B7⟩ := boxn W6 #[.int .u64 0] 37; obtain ⟨W8, hW8, sz8, g8, B8⟩ := boxn W7 #[.int .u64 0] 37; have G8 := gb_trans G5 (gb_trans gc2 (gb_trans g6 (gb_trans g7 g8))); have kPl := a_pline Vd.heap.size W6.heap.size W7.heap.size W8 (hvK hv G8) (wd_one ((B6.kept g7 (by simp)).kept g8 (by simp)) rfl) (wd_one (B7.kept g8 (by simp)) rfl) (wd_one B8 rfl)) | (go_at_call 14; refine kNx.mono ?_; rintro e V4 ⟨b2, rfl, s3, q3, M4, l4, g4⟩; clear kNx; have G4 := gb_trans Gc1 g4; have F' : FdX (fun g X => Tt.Fb X b2 s3 q3 3 3 2 g) (LQ b2 s3 q3 3) b2 3 3 2 true := Tt.Fb.fdx sz332; have kLi := a_line F' V4 M4) | (go_at_call 35; refine kLi.mono ?_; rintro e V5 ⟨d, rfl, by5, g5⟩; clear kLi; have G5 := gb_trans G4 g5) | (go_at_call 9; refine kPl.mono ?_; rintro e V9 ⟨zz, rfl, cz, g9⟩; clear kPl; obtain ⟨W10, hW10, i0, i1, sz10, g10, B10⟩ := box2 V9 (.int .i64 3) (.slice (some ⟨zz, 0, none⟩) 1 1) 33; have cz10 := g10.cell cz (by simp); have g59 := gb_trans gc2 (gb_trans g6 (gb_trans g7 (gb_trans g8 (gb_trans g9 g10)))); have q1 := by_str 3 (by5.kept g59 (by simp)) (lsF_lt _ (by decide)); obtain ⟨W11, hW11, sz11, g11, B11⟩ := boxn W10 #[.int .u8 0, .int .u8 1, .int .u8 0] 5; have by11 : By W11 (some ⟨W10.heap.size, 0, none⟩) 3 (lsF [0, 1, 0]) := hW11 ▸ by_list W10 [0, 1, 0]; have q2 := by_str 3 by11 (lsF_lt _ (by decide)); have M11 := F'.grown M4 (gb_trans g5 (gb_trans g59 g11)); have kPo := a_pop F' W11 M11; have B10b := B10.kept g11 (by simp)) | (go_at_call 36; refine kPo.mono ?_; rintro e V12 ⟨rfl, g12⟩; clear kPo; have B12 := B10b.kept g12 (by simp); have j0 := B12.cell0; have j1 := B12.cell1; have cz12 := g12.cell (g11.cell cz10 (by simp)) (by simp)) | go_in)
  go_ret
  exact ⟨rfl, gb_trans G5 (gb_trans g59 (gb_trans g11 g12))⟩
end Go.Proofs.YthjiiljglgmkpaaGreatDoor.Pd
