/- alive: three cells in a row turn. -/
import Derived.Test.YthjiiljglgmkpaaGreatDoorPa
import Derived.Test.YthjiiljglgmkpaaGreatDoorXb
import Derived.Test.YthjiiljglgmkpaaGreatDoorY15
namespace Go.Proofs.YthjiiljglgmkpaaGreatDoor.Pd
open Go.RowKit
set_option linter.unusedVariables false
set_option linter.unusedSimpArgs false
set_option maxRecDepth 100000

/-- A field of bytes is cloned, and packed. -/
theorem cloneB {b s q C R : Nat} {g : Nat → Nat} (hz : Sz C R 2) (hlow : ∀ k, k < C * R → g k < 2) (w : World) (h : _root_.Go.Proofs.YthjiiljglgmkpaaGreatDoor.Fb w b s q C R 2 g) : ∀ v, w.grownBy v none → Calls Tryz.prog 26 #[.pointer (some ⟨b, 0, none⟩)] v fun e v' => ∃ b2, e = .returned (.pointer (some ⟨b2, 0, none⟩)) ∧ v.heap.size ≤ b2 ∧ v.grownBy v' none ∧ Calls Tryz.prog 27 #[.pointer (some ⟨b2, 0, none⟩), .bool true] v' (fun e v3 => e = .returned (.int .i64 0) ∧ ∃ M' L', FdX M' L' b2 C R 2 true ∧ M' g v3 ∧ (∀ i, L' i → v.heap.size ≤ i) ∧ v'.grownBy v3 (some b2)) := fun v hg => by
  refine (fClone b s q C R 2 g hz v (h.kept hg)).mono ?_
  rintro e v' ⟨b2, s2, q2, rfl, h2, l1, l2, l3, g2⟩
  refine ⟨b2, rfl, l1, g2, ?_⟩
  refine (Tt.fPackY b2 s2 q2 C R g hz hlow v' h2).mono ?_
  rintro e v3 ⟨s3, q3, rfl, h3, m1, m2, m3, g3⟩
  have := g2.size
  refine ⟨rfl, _, _, Tt.Fb.fdx (s := s3) (q := q3) hz, h3, fun i hi => ?_, g3⟩
  rcases hi with rfl | rfl | rfl | ⟨j, hj, rfl⟩
  · exact l1
  · omega
  · omega
  · have := m3 j hj; omega
theorem infoLf : (Tryz.prog.info? 28).map (·.size) = some 3 := by kernel_rfl
theorem underLf : ∃ fs, Tryz.prog.underlying 28 = some (.struct fs) := ⟨_, Tryz.underlying28⟩
theorem conwayC (w : World) : Calls Tryz.prog 10 #[] w fun e w' => e = .returned (.agg #[.int .u8 1, .int .u16 8, .int .u16 12]) ∧ w.grownBy w' none := by
  obtain ⟨fs, hfs'⟩ := underLf
  have hfs : Hid (Tryz.prog.underlying 28 = some (.struct fs)) := hfs'
  clear hfs'
  obtain ⟨W1, hW1, sz1, g1, B1⟩ := boxn w #[.int .u8 1, .int .u16 8, .int .u16 12] 28
  go_enter Tryz.func10, Tryz.ntmps10
  go_wp2
  refine ret_c1 (g := w.heap.size) (cs := #[.int .u8 1, .int .u16 8, .int .u16 12]) rfl hfs.out infoLf rfl B1 rfl ⟨rfl, g1⟩
set_option maxHeartbeats 2000000 in
theorem nextY {M : (Nat → Nat) → World → Prop} {L : Nat → Prop} {b C R S : Nat} {pk : Bool} (F : FdX M L b C R S pk) (hz : Sz C R S) (g : Nat → Nat) (h256 : ∀ i, g i < 256) (ho bo st : Nat) (hh : ho < 256) (hb : bo < 65536) (hs : st < 65536) (k t z : Int) (ht : 0 ≤ t) (w : World) (hM : M g w) (hv : Hid (Hv w)) (hT : Wo.Tab64 w) (hE : bgE ho bo st k C R t z C R S 1 = 0) (hCl : ∀ v, w.grownBy v none → Calls Tryz.prog 26 #[.pointer (some ⟨b, 0, none⟩)] v fun e v' => ∃ b2, e = .returned (.pointer (some ⟨b2, 0, none⟩)) ∧ v.heap.size ≤ b2 ∧ v.grownBy v' none ∧ Calls Tryz.prog 27 #[.pointer (some ⟨b2, 0, none⟩), .bool true] v' (fun e v3 => e = .returned (.int .i64 0) ∧ ∃ M' L', FdX M' L' b2 C R 2 true ∧ M' g v3 ∧ (∀ i, L' i → v.heap.size ≤ i) ∧ v'.grownBy v3 (some b2))) :
    Calls Tryz.prog 14 #[.agg #[.int .u8 (ho : Nat), .int .u16 (bo : Nat), .int .u16 (st : Nat)], .agg #[.int .u8 k, .int .i64 (C : Nat), .int .i64 (R : Nat), .int .u8 t, .int .i64 z], .pointer (some ⟨b, 0, none⟩)] w fun e w' => ∃ b2, e = .returned (.tuple #[.pointer (some ⟨b2, 0, none⟩), .int .i64 0]) ∧ ∃ M' L', FdX M' L' b2 C R 2 true ∧ M' (itG ho bo st k t z C R g 1) w' ∧ (∀ i, L' i → w.heap.size ≤ i) ∧ w.grownBy w' none := by
  obtain ⟨W1, hW1, sz1, g1, B1⟩ := boxn w #[.int .u8 (ho : Nat), .int .u16 (bo : Nat), .int .u16 (st : Nat)] 28
  obtain ⟨W2, hW2, sz2, g2, B2⟩ := boxn W1 #[.int .u8 k, .int .i64 (C : Nat), .int .i64 (R : Nat), .int .u8 t, .int .i64 z] 30
  have G2 := gb_trans g1 g2
  have kR := runY F hz g h256 ho bo st hh hb hs k t z 1 ht W2 (F.grown hM G2) (hvK hv G2) (hT.below (gb_below G2) (cell_lt (hT 0 (by decide)))) hE (fun v hg => hCl v (gb_trans G2 hg))
  have L2 := B1.kept g2 (by simp)
  have l0 := L2.cell 0 (v := .int .u8 (ho : Nat)) rfl
  have l1 := L2.cell 1 (v := .int .u16 (bo : Nat)) rfl
  have l2 := L2.cell 2 (v := .int .u16 (st : Nat)) rfl
  have t0 := B2.cell 0 (v := .int .u8 k) rfl
  have t1 := B2.cell 1 (v := .int .i64 (C : Nat)) rfl
  have t2 := B2.cell 2 (v := .int .i64 (R : Nat)) rfl
  have t3 := B2.cell 3 (v := .int .u8 t) rfl
  have t4 := B2.cell 4 (v := .int .i64 z) rfl
  have s2 := G2.size
  have HG2 : Hid (w.grownBy W2 none) := G2
  clear F h256 hM hE hv hT hCl
  go_enter Tryz.func14, Tryz.ntmps14
  go_wp2_with (first | (go_at_call 8; refine kR.mono ?_; rintro e V3 ⟨b2, rfl, M', L', F', M3, l3, g3⟩))
  go_ret2
  exact ⟨b2, rfl, M', L', F', M3, fun i hi => by have := l3 i hi; omega, gb_trans HG2.out g3⟩
theorem sz332 : Sz 3 3 2 := ⟨by decide, by decide, by decide, by decide, by decide, by decide, by decide⟩
/-- Its cells, once a row lives. -/
def gB (j : Nat) : Nat := if 1 * 3 ≤ j ∧ j < 1 * 3 + 3 then lsF [1, 1, 1] (j - 1 * 3) else 0
theorem gB_lt (j : Nat) : gB j < 256 := by
  unfold gB
  split
  · exact lsF_lt _ (by decide) _
  · decide
theorem gB_low : ∀ k, k < 3 * 3 → gB k < 2 := by decide
theorem itA : ∀ x, x < 3 → (itG 1 8 12 1 0 0 3 3 gB 1) (0 * 3 + x) = lsF [0, 1, 0] x := by decide +kernel
theorem popA : popN (itG 1 8 12 1 0 0 3 3 gB 1) 3 3 = 3 := by decide +kernel
theorem bgA : bgE 1 8 12 1 (3 : Nat) (3 : Nat) 0 0 3 3 2 1 = 0 := by decide +kernel
theorem a_new (w : World) : Calls Tryz.prog 33 #[.int .i64 3, .int .i64 3, .int .i64 2, .bool false] w fun e w' => ∃ b s q, e = .returned (.tuple #[.pointer (some ⟨b, 0, none⟩), .int .i64 0]) ∧ _root_.Go.Proofs.YthjiiljglgmkpaaGreatDoor.Fb w' b s q 3 3 2 (fun _ => 0) ∧ w.heap.size ≤ b ∧ w.heap.size ≤ s ∧ w.heap.size ≤ q ∧ w.grownBy w' none := newY 3 3 2 sz332 w
theorem a_lay {b s q a c : Nat} (w : World) (h : _root_.Go.Proofs.YthjiiljglgmkpaaGreatDoor.Fb w b s q 3 3 2 (fun _ => 0)) (hb : By w (some ⟨a, 0, none⟩) 3 (lsF [1, 1, 1])) : Calls Tryz.prog 34 #[.pointer (some ⟨b, 0, none⟩), .int .i64 1, .slice (some ⟨a, 0, none⟩) 3 c] w fun e w' => e = .returned (.int .i64 0) ∧ _root_.Go.Proofs.YthjiiljglgmkpaaGreatDoor.Fb w' b s q 3 3 2 gB ∧ w.grownBy w' (some q) :=
  fLayY b s q 3 3 2 (fun _ => 0) sz332 1 (by decide) (some ⟨a, 0, none⟩) c (lsF [1, 1, 1]) (lsF_lt _ (by decide)) (by decide) w h hb
theorem a_next {b s q : Nat} (w : World) (h : _root_.Go.Proofs.YthjiiljglgmkpaaGreatDoor.Fb w b s q 3 3 2 gB) (hv : Hid (Hv w)) (hT : Wo.Tab64 w) :
    Calls Tryz.prog 14 #[.agg #[.int .u8 1, .int .u16 8, .int .u16 12], .agg #[.int .u8 1, .int .i64 3, .int .i64 3, .int .u8 0, .int .i64 0], .pointer (some ⟨b, 0, none⟩)] w fun e w' => ∃ b2, e = .returned (.tuple #[.pointer (some ⟨b2, 0, none⟩), .int .i64 0]) ∧ ∃ M' L', FdX M' L' b2 3 3 2 true ∧ M' (itG 1 8 12 1 0 0 3 3 gB 1) w' ∧ (∀ i, L' i → w.heap.size ≤ i) ∧ w.grownBy w' none :=
  nextY (Fb.fdx (s := s) (q := q) sz332) sz332 gB gB_lt 1 8 12 (by decide) (by decide) (by decide) 1 0 0 (by decide) w h hv hT bgA (cloneB sz332 gB_low w h)
theorem a_line {M : (Nat → Nat) → World → Prop} {L : Nat → Prop} {b : Nat} (F : FdX M L b 3 3 2 true) (w : World) (h : M (itG 1 8 12 1 0 0 3 3 gB 1) w) : Calls Tryz.prog 35 #[.pointer (some ⟨b, 0, none⟩), .int .i64 0] w fun e w' => ∃ d, e = .returned (.tuple #[.slice (some ⟨d, 0, none⟩) 3 3, .int .i64 0]) ∧ By w' (some ⟨d, 0, none⟩) 3 (lsF [0, 1, 0]) ∧ w.grownBy w' none := by
  refine (F.line _ 0 (by decide) w h).mono ?_
  rintro e w' ⟨d, he, hr, _, g⟩
  exact ⟨d, he, (rowIs_by hr).congr (fun x hx => itA x hx), g⟩
theorem a_pop {M : (Nat → Nat) → World → Prop} {L : Nat → Prop} {b : Nat} (F : FdX M L b 3 3 2 true) (w : World) (h : M (itG 1 8 12 1 0 0 3 3 gB 1) w) : Calls Tryz.prog 36 #[.pointer (some ⟨b, 0, none⟩)] w fun e w' => e = .returned (.int .i64 3) ∧ w.grownBy w' none := by
  have := F.pop _ w h
  rw [popA] at this
  exact this
theorem a_pline (ra rh rb : Nat) (w : World) (hv : Hid (Hv w)) (h1 : Wd w (some ⟨ra, 0, none⟩) 1 (fun _ => 14)) (h2 : Wd w (some ⟨rh, 0, none⟩) 1 (fun _ => 0)) (h3 : Wd w (some ⟨rb, 0, none⟩) 1 (fun _ => 0)) :
    Calls Tryz.prog 9 #[.agg #[.int .u8 1, .int .u16 8, .int .u16 12], .agg #[.int .i64 5, .slice (some ⟨ra, 0, none⟩) 1 1], .agg #[.int .i64 5, .slice (some ⟨rh, 0, none⟩) 1 1], .agg #[.int .i64 5, .slice (some ⟨rb, 0, none⟩) 1 1]] w fun e w' => ∃ z, e = .returned (.tuple #[.agg #[.int .i64 3, .slice (some ⟨z, 0, none⟩) 1 1], .int .i64 0]) ∧ w'.cell? ⟨z, 0, none⟩ = some (.int .u64 2) ∧ w.grownBy w' none := by
  have := lineAll 1 8 12 (by decide) (by decide) (by decide) 5 1 1 (some ⟨ra, 0, none⟩) (fun _ => 14) (fun _ _ => by decide) (by decide) 5 1 1 (some ⟨rh, 0, none⟩) (fun _ => 0) (fun _ _ => by decide) (by decide) 5 1 1 (some ⟨rb, 0, none⟩) (fun _ => 0) (fun _ _ => by decide) (by decide) w hv h1 h2 h3
  refine this.mono ?_
  have e1 : aE 1 8 12 5 5 5 1 1 1 (fun _ => 14) (fun _ => 0) (fun _ => 0) = 0 := by decide +kernel
  have e2 : aM 1 8 12 5 5 5 1 1 1 (fun _ => 14) (fun _ => 0) (fun _ => 0) = 3 := by decide +kernel
  have e3 : aK 1 8 12 5 5 5 1 1 1 (fun _ => 14) (fun _ => 0) (fun _ => 0) = 1 := by decide +kernel
  have e4 : aF 1 8 12 5 (fun _ => 14) (fun _ => 0) (fun _ => 0) 0 = 2 := by decide +kernel
  rw [e1, e2, e3]
  rintro e w' ⟨sp, he, hs, g⟩
  rcases hs with ⟨_, h0⟩ | ⟨z, rfl, hr, _⟩
  · cases h0
  · refine ⟨z, he, ?_, g⟩
    have := hr.cell (show 0 < 1 by decide)
    rw [this, e4]
    rfl
theorem wd_one {w : World} {b v : Nat} {x : Value} (h : Bo w b 37 #[x]) (hx : x = .int .u64 (v : Nat)) : Wd w (some ⟨b, 0, none⟩) 1 (fun _ => v) := fun k hk => ⟨_, rfl, by
  obtain rfl : k = 0 := by omega
  subst hx
  rw [add_mid, Nat.zero_add]
  exact h.cell 0 rfl⟩
set_option maxHeartbeats 4000000 in
theorem aliveC (w : World) (hv : Hid (Hv w)) (hT : Wo.Tab64 w) : Calls Tryz.prog 11 #[] w fun e w' => e = .returned (.bool true) ∧ w.grownBy w' none := by
  have tlt : 1 < w.heap.size := cell_lt (hT 0 (by decide))
  have HT : Hid (Wo.Tab64 w) := hT
  clear hT
  go_enter Tryz.func11, Tryz.ntmps11
  go_wp2_with (first | (go_at_call 33; refine (a_new w).mono ?_; rintro e V1 ⟨b, s, q, rfl, h1, lb, ls, lq, g1⟩; obtain ⟨W2, hW2, sz2, g2, B2⟩ := boxn V1 #[.int .u8 1, .int .u8 1, .int .u8 1] 5; have by2 : By W2 (some ⟨V1.heap.size, 0, none⟩) 3 (lsF [1, 1, 1]) := hW2 ▸ by_list V1 [1, 1, 1]; have kLay := a_lay (c := 3) W2 (h1.kept g2) by2) | (go_at_call 34; refine kLay.mono ?_; rintro e V3 ⟨rfl, h3, g3⟩; clear kLay; have G3 : w.grownBy V3 none := gb_past (gb_trans g1 g2) g3 lq) | (go_at_call 10; (fail_if_success (guard_hyp gc1)); refine (conwayC V3).mono ?_; rintro e Vc ⟨rfl, gc1⟩; have Gc1 := gb_trans G3 gc1; have kNx := a_next Vc (h3.kept gc1) (hvK hv Gc1) (HT.out.below (gb_below Gc1) tlt)) | (go_at_call 10; guard_hyp gc1; refine (conwayC V5).mono ?_; rintro e Vd ⟨rfl, gc2⟩; obtain ⟨W6, hW6, sz6, g6, B6⟩ := boxn Vd #[.int .u64 14] 37; obtain ⟨W7, hW7, sz7, g7, B7⟩ := boxn W6 #[.int .u64 0] 37; obtain ⟨W8, hW8, sz8, g8, B8⟩ := boxn W7 #[.int .u64 0] 37; have G8 := gb_trans G5 (gb_trans gc2 (gb_trans g6 (gb_trans g7 g8))); have kPl := a_pline Vd.heap.size W6.heap.size W7.heap.size W8 (hvK hv G8) (wd_one ((B6.kept g7 (by simp)).kept g8 (by simp)) rfl) (wd_one (B7.kept g8 (by simp)) rfl) (wd_one B8 rfl)) | (go_at_call 14; refine kNx.mono ?_; rintro e V4 ⟨b2, rfl, M', L', F', M4, l4, g4⟩; clear kNx; have G4 := gb_trans Gc1 g4; have kLi := a_line F' V4 M4) | (go_at_call 35; refine kLi.mono ?_; rintro e V5 ⟨d, rfl, by5, g5⟩; clear kLi; have G5 := gb_trans G4 g5) | (go_at_call 9; refine kPl.mono ?_; rintro e V9 ⟨zz, rfl, cz, g9⟩; clear kPl; obtain ⟨W10, hW10, i0, i1, sz10, g10, B10⟩ := box2 V9 (.int .i64 3) (.slice (some ⟨zz, 0, none⟩) 1 1) 33; have cz10 := g10.cell cz (by simp); have g59 := gb_trans gc2 (gb_trans g6 (gb_trans g7 (gb_trans g8 (gb_trans g9 g10)))); have q1 := by_str 3 (by5.kept g59 (by simp)) (lsF_lt _ (by decide)); obtain ⟨W11, hW11, sz11, g11, B11⟩ := boxn W10 #[.int .u8 0, .int .u8 1, .int .u8 0] 5; have by11 : By W11 (some ⟨W10.heap.size, 0, none⟩) 3 (lsF [0, 1, 0]) := hW11 ▸ by_list W10 [0, 1, 0]; have q2 := by_str 3 by11 (lsF_lt _ (by decide)); have M11 := F'.grown M4 (gb_trans g5 (gb_trans g59 g11)); have kPo := a_pop F' W11 M11; have B10b := B10.kept g11 (by simp)) | (go_at_call 36; refine kPo.mono ?_; rintro e V12 ⟨rfl, g12⟩; clear kPo; have B12 := B10b.kept g12 (by simp); have j0 := B12.cell0; have j1 := B12.cell1; have cz12 := g12.cell (g11.cell cz10 (by simp)) (by simp)) | go_in)
  go_ret
  exact ⟨rfl, gb_trans G5 (gb_trans g59 (gb_trans g11 g12))⟩
end Go.Proofs.YthjiiljglgmkpaaGreatDoor.Pd
namespace Go.Proofs.YthjiiljglgmkpaaGreatDoor.Pd
open Go.RowKit
set_option linter.unusedVariables false
set_option linter.unusedSimpArgs false
set_option maxRecDepth 100000

set_option maxHeartbeats 1000000 in
theorem nextNone (ho bo st k x y t z : Int) (p : Option Addr) (w : World) (hp : Nf w p) :
    Calls Tryz.prog 14 #[.agg #[.int .u8 ho, .int .u16 bo, .int .u16 st], .agg #[.int .u8 k, .int .i64 x, .int .i64 y, .int .u8 t, .int .i64 z], .pointer p] w fun e w' => e = .returned (.tuple #[.pointer none, .int .i64 1]) ∧ w.grownBy w' none := by
  obtain ⟨W1, hW1, sz1, g1, B1⟩ := boxn w #[.int .u8 ho, .int .u16 bo, .int .u16 st] 28
  obtain ⟨W2, hW2, sz2, g2, B2⟩ := boxn W1 #[.int .u8 k, .int .i64 x, .int .i64 y, .int .u8 t, .int .i64 z] 30
  have hp2 : Nf W2 p := by
    rcases hp with h | ⟨b, h, B⟩
    · exact .inl h
    · exact .inr ⟨b, h, (B.kept g1 (by simp)).kept g2 (by simp)⟩
  have kR := runNone ho bo st k x y t z 1 p W2 hp2
  have L2 := B1.kept g2 (by simp)
  have l0 := L2.cell 0 (v := .int .u8 ho) rfl
  have l1 := L2.cell 1 (v := .int .u16 bo) rfl
  have l2 := L2.cell 2 (v := .int .u16 st) rfl
  have t0 := B2.cell 0 (v := .int .u8 k) rfl
  have t1 := B2.cell 1 (v := .int .i64 x) rfl
  have t2 := B2.cell 2 (v := .int .i64 y) rfl
  have t3 := B2.cell 3 (v := .int .u8 t) rfl
  have t4 := B2.cell 4 (v := .int .i64 z) rfl
  clear hp hp2
  go_enter Tryz.func14, Tryz.ntmps14
  go_wp2_with (first | (go_at_call 8; refine kR.mono ?_; rintro e V3 ⟨rfl, g3⟩))
  go_ret2
  exact ⟨rfl, gb_trans g1 (gb_trans g2 g3)⟩
set_option maxHeartbeats 4000000 in
theorem none_walk (ho bo st k x y t z n : Int) (w : World) (hv : Hv w) (hT : Wo.Tab64 w) :
    Calls Tryz.prog 5 #[.agg #[.int .u8 ho, .int .u16 bo, .int .u16 st], .agg #[.int .u8 k, .int .i64 x, .int .i64 y, .int .u8 t, .int .i64 z], .int .i64 n] w fun e w' => e = .returned (.bool true) ∧ Below w.heap.size w w' := by
  obtain ⟨W1, hW1, sz1, g1, B1⟩ := boxn w #[.int .u8 ho, .int .u16 bo, .int .u16 st] 28
  obtain ⟨W2, hW2, sz2, g2, B2⟩ := boxn W1 #[.int .u8 k, .int .i64 x, .int .i64 y, .int .u8 t, .int .i64 z] 30
  have tlt : 1 < w.heap.size := cell_lt (hT 0 (by decide))
  have HT : Hid (Wo.Tab64 w) := hT
  have HV : Hid (Hv w) := hv
  have L2 := B1.kept g2 (by simp)
  have l0 := L2.cell 0 (v := .int .u8 ho) rfl
  have l1 := L2.cell 1 (v := .int .u16 bo) rfl
  have l2 := L2.cell 2 (v := .int .u16 st) rfl
  have t0 := B2.cell 0 (v := .int .u8 k) rfl
  have t1 := B2.cell 1 (v := .int .i64 x) rfl
  have t2 := B2.cell 2 (v := .int .i64 y) rfl
  have t3 := B2.cell 3 (v := .int .u8 t) rfl
  have t4 := B2.cell 4 (v := .int .i64 z) rfl
  clear hv hT
  go_enter Tryz.func5, Tryz.ntmps5
  obtain ⟨W3, hW3, sz3, g3, B3⟩ := boxn W2 #[.nilIface] 57
  have G3 := gb_trans g1 (gb_trans g2 g3)
  have L3 := L2.kept g3 (by simp)
  have T3 := B2.kept g3 (by simp)
  have m0 := L3.cell 0 (v := .int .u8 ho) rfl
  have m1 := L3.cell 1 (v := .int .u16 bo) rfl
  have m2 := L3.cell 2 (v := .int .u16 st) rfl
  have u0 := T3.cell 0 (v := .int .u8 k) rfl
  have u1 := T3.cell 1 (v := .int .i64 x) rfl
  have u2 := T3.cell 2 (v := .int .i64 y) rfl
  have u3 := T3.cell 3 (v := .int .u8 t) rfl
  have u4 := T3.cell 4 (v := .int .i64 z) rfl
  go_wp2_with (first | (go_at_call 8; (fail_if_success (guard_hyp g4)); refine (runNone ho bo st k x y t z n none W3 (.inl rfl)).mono ?_; rintro e V4 ⟨rfl, g4⟩; have L4 := L3.kept g4 (by simp); have T4 := T3.kept g4 (by simp); have p0 := L4.cell 0 (v := .int .u8 ho) rfl; have p1 := L4.cell 1 (v := .int .u16 bo) rfl; have p2 := L4.cell 2 (v := .int .u16 st) rfl; have q0 := T4.cell 0 (v := .int .u8 k) rfl; have q1 := T4.cell 1 (v := .int .i64 x) rfl; have q2 := T4.cell 2 (v := .int .i64 y) rfl; have q3 := T4.cell 3 (v := .int .u8 t) rfl; have q4 := T4.cell 4 (v := .int .i64 z) rfl; have F4 := B3.kept g4 (by simp)) | (go_at_call 8; guard_hyp g4; refine (runNone ho bo st k x y t z n (some ⟨W2.heap.size, 0, none⟩) V4 (.inr ⟨_, rfl, F4⟩)).mono ?_; rintro e V5 ⟨rfl, g5⟩; have L5 := L4.kept g5 (by simp); have T5 := T4.kept g5 (by simp); have r0 := L5.cell 0 (v := .int .u8 ho) rfl; have r1 := L5.cell 1 (v := .int .u16 bo) rfl; have r2 := L5.cell 2 (v := .int .u16 st) rfl; have s0 := T5.cell 0 (v := .int .u8 k) rfl; have s1 := T5.cell 1 (v := .int .i64 x) rfl; have s2 := T5.cell 2 (v := .int .i64 y) rfl; have s3 := T5.cell 3 (v := .int .u8 t) rfl; have s4 := T5.cell 4 (v := .int .i64 z) rfl) | (go_at_call 14; refine (nextNone ho bo st k x y t z none V5 (.inl rfl)).mono ?_; rintro e V6 ⟨rfl, g6⟩; have G6 := gb_trans G3 (gb_trans g4 (gb_trans g5 g6)); have kA := aliveC V6 (hvK HV G6) (HT.out.below (gb_below G6) tlt)) | (go_at_call 11; refine kA.mono ?_; rintro e V7 ⟨rfl, g7⟩; clear kA))
  go_ret
  exact ⟨rfl, gb_below (gb_trans G6 g7)⟩
theorem b_line0 (w : World) (hv : Hid (Hv w)) : Calls Tryz.prog 9 #[.agg #[.int .u8 0, .int .u16 0, .int .u16 0], .agg #[.int .i64 0, .slice none 0 0], .agg #[.int .i64 0, .slice none 0 0], .agg #[.int .i64 0, .slice none 0 0]] w fun e w' => e = .returned (.tuple #[.agg #[.int .i64 0, .slice none 0 0], .int .i64 8]) ∧ w.grownBy w' none := by
  have hz : Wd w none 0 (fun _ => 0) := fun k hk => absurd hk (Nat.not_lt_zero _)
  have hE : ¬ aE 0 0 0 0 0 0 0 0 0 (fun _ => 0) (fun _ => 0) (fun _ => 0) = 0 := by decide +kernel
  have := lineN 0 0 0 (by decide) (by decide) (by decide) 0 0 0 none (fun _ => 0) (fun _ _ => by decide) (by decide) 0 0 0 none (fun _ => 0) (fun _ _ => by decide) (by decide) 0 0 0 none (fun _ => 0) (fun _ _ => by decide) (by decide) w hv hz hz hz hE
  exact this
theorem b_line1 (r : Nat) (w : World) (hv : Hid (Hv w)) (h1 : Wd w (some ⟨r, 0, none⟩) 1 (fun _ => 0)) : Calls Tryz.prog 9 #[.agg #[.int .u8 1, .int .u16 8, .int .u16 12], .agg #[.int .i64 2, .slice (some ⟨r, 0, none⟩) 1 1], .agg #[.int .i64 0, .slice none 0 0], .agg #[.int .i64 0, .slice none 0 0]] w fun e w' => e = .returned (.tuple #[.agg #[.int .i64 0, .slice none 0 0], .int .i64 20]) ∧ w.grownBy w' none := by
  have hz : Wd w none 0 (fun _ => 0) := fun k hk => absurd hk (Nat.not_lt_zero _)
  have hE : ¬ aE 1 8 12 2 0 0 1 0 0 (fun _ => 0) (fun _ => 0) (fun _ => 0) = 0 := by decide +kernel
  have := lineN 1 8 12 (by decide) (by decide) (by decide) 2 1 1 (some ⟨r, 0, none⟩) (fun _ => 0) (fun _ _ => by decide) (by decide) 0 0 0 none (fun _ => 0) (fun _ _ => by decide) (by decide) 0 0 0 none (fun _ => 0) (fun _ _ => by decide) (by decide) w hv h1 hz hz hE
  exact this
set_option maxHeartbeats 4000000 in
theorem names_walk (w : World) (hv : Hv w) (hT : Wo.Tab64 w) :
    Calls Tryz.prog 3 #[] w fun e w' => e = .returned (.bool true) ∧ Below w.heap.size w w' := by
  have tlt : 1 < w.heap.size := cell_lt (hT 0 (by decide))
  have HT : Hid (Wo.Tab64 w) := hT
  have HV : Hid (Hv w) := hv
  clear hv hT
  go_enter Tryz.func3, Tryz.ntmps3
  go_wp2_with (first | (go_at_call 8; refine (runNone 0 0 0 0 0 0 0 0 (-1) none w (.inl rfl)).mono ?_; rintro e V1 ⟨rfl, g1⟩; have kL0 := b_line0 V1 (hvK HV g1)) | (go_at_call 9; (fail_if_success (guard_hyp g2)); refine kL0.mono ?_; rintro e V2 ⟨rfl, g2⟩; clear kL0; have G2 := gb_trans g1 g2; obtain ⟨W3, hW3, i0, i1, sz3, g3, B3⟩ := box2 V2 (.int .i64 0) (.slice none 0 0) 33; have m0 := Bo.same B3 0 (v := .int .i64 0) rfl; have m1 := Bo.same B3 1 (v := .slice none 0 0) rfl; have f30 := B3.free0; have f31 := B3.free1; have G3 := gb_trans G2 g3) | (go_at_call 10; refine (conwayC W3).mono ?_; rintro e V4 ⟨rfl, g4⟩; obtain ⟨W5, hW5, sz5, g5, B5⟩ := boxn V4 #[.int .u64 0] 37; have G5 := gb_trans G3 (gb_trans g4 g5); have kL1 := b_line1 V4.heap.size W5 (hvK HV G5) (wd_one B5 rfl)) | (go_at_call 9; guard_hyp g2; refine kL1.mono ?_; rintro e V6 ⟨rfl, g6⟩; clear kL1; have G6 := gb_trans G5 g6; obtain ⟨W7, hW7, k0, k1, sz7, g7, B7⟩ := box2 V6 (.int .i64 0) (.slice none 0 0) 33; have n0 := Bo.same B7 0 (v := .int .i64 0) rfl; have n1 := Bo.same B7 1 (v := .slice none 0 0) rfl; have f70 := B7.free0; have f71 := B7.free1; have G7 := gb_trans G6 g7; have kA := aliveC W7 (hvK HV G7) (HT.out.below (gb_below G7) tlt)) | (go_at_call 11; refine kA.mono ?_; rintro e V8 ⟨rfl, g8⟩; clear kA))
  go_ret
  exact ⟨rfl, gb_below (gb_trans G7 g8)⟩
theorem none_top (ho bo st k x y t z n : Int) (w : World) (_ : 0 ≤ ho ∧ ho ≤ 255) (_ : 0 ≤ bo ∧ bo ≤ 65535) (_ : 0 ≤ st ∧ st ≤ 65535) (_ : 0 ≤ k ∧ k ≤ 255) (_ : -9223372036854775808 ≤ x ∧ x ≤ 9223372036854775807) (_ : -9223372036854775808 ≤ y ∧ y ≤ 9223372036854775807) (_ : 0 ≤ t ∧ t ≤ 255) (_ : -9223372036854775808 ≤ z ∧ z ≤ 9223372036854775807) (_ : -9223372036854775808 ≤ n) (_ : n ≤ 9223372036854775807) (hv : Hv w) (hT : Wo.Tab64 w) :
    Calls Tryz.prog 5 #[.agg #[.int .u8 ho, .int .u16 bo, .int .u16 st], .agg #[.int .u8 k, .int .i64 x, .int .i64 y, .int .u8 t, .int .i64 z], .int .i64 n] w fun e w' => e = .returned (.bool true) ∧ Below w.heap.size w w' := none_walk ho bo st k x y t z n w hv hT
end Go.Proofs.YthjiiljglgmkpaaGreatDoor.Pd
