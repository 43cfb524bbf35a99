/- What Parse of the document answers behind the second list (End, H). -/
import Derived.Test.YtlkdenanbofliaaGreatDoorL22
namespace Go.Proofs.YtlkdenanbofliaaGreatDoor
open Go.RowKit
set_option linter.unusedVariables false
set_option linter.unusedSimpArgs false
set_option maxRecDepth 100000

set_option maxHeartbeats 8000000 in
theorem pdEndH (s : ByteArray) (hs : ¬ (1048576 : Int) < (s.size : Int)) (h66 : ∀ w, Calls Tryz.prog 37 #[.string s, .int .i64 0, .int .u8 66] w fun e w' => e = .returned (.bool true) ∧ w' = w) (a1 v1 : Nat) (hl1 : ∀ w, Calls Tryz.prog 38 #[.string s, .int .i64 1] w fun e w' => e = .returned (.tuple #[.agg (bl (fun j => v1.testBit j)), .int .i64 a1, .int .i64 (-1)]) ∧ w.grownBy w' none) (ha : a1 < s.size) (ha1 : ¬ (s.size : Int) ≤ (a1 : Int)) (hc : ((Sc.bt s a1 : Nat) : Int) = 47)(h83 : ∀ w, Calls Tryz.prog 37 #[.string s, .int .i64 ((a1 : Int) + 1), .int .u8 83] w fun e w' => e = .returned (.bool true) ∧ w' = w) (a2 v2 : Nat) (hl2 : ∀ w, Calls Tryz.prog 38 #[.string s, .int .i64 ((a1 : Int) + 1 + 1)] w fun e w' => e = .returned (.tuple #[.agg (bl (fun j => v2.testBit j)), .int .i64 a2, .int .i64 (-1)]) ∧ w.grownBy w' none) (hv1 : v1 < 1024) (hv2 : v2 < 1024) (ha22 : a2 ≤ s.size) (h86 : ∀ w, Calls Tryz.prog 37 #[.string s, .int .i64 a2, .int .u8 86] w fun e w' => e = .returned (.bool false) ∧ w' = w) (h72 : ∀ w, Calls Tryz.prog 37 #[.string s, .int .i64 a2, .int .u8 72] w fun e w' => e = .returned (.bool true) ∧ w' = w) (hE : ((a2 : Int) + 1) < (s.size : Int)) (w : World) : Calls Tryz.prog 20 #[.string s] w fun e w' => e = .returned (.tuple #[.agg #[.int .u8 0, .int .u16 0, .int .u16 0], .int .i64 ((a2 : Int) + 1), .int .i64 80]) ∧ w.grownBy w' none := by
  have hs' : (s.size : Int) ≤ 1048576 := by omega
  have hw3 : IntKind.i64.wrap ((a2 : Int) + 1) = (a2 : Int) + 1 := by rw [IntKind.wrap_i64]; omega
  have hbt := Sc.bt_at ha
  have ha2 : (a1 : Int) < (s.size : Int) := by omega
  have ha3 : decide (s.size ≤ a1) = false := by simp; omega
  have hc2 : (((Sc.bt s a1 : Nat) : Int) != 47) = false := by simp; omega
  have hw1 : IntKind.i64.wrap ((a1 : Int) + 1) = (a1 : Int) + 1 := by rw [IntKind.wrap_i64]; omega
  have hw2 : IntKind.i64.wrap ((a1 : Int) + 1 + 1) = (a1 : Int) + 1 + 1 := by rw [IntKind.wrap_i64]; omega
  obtain ⟨fs, hfs'⟩ := underLf
  have hfs : Hid (Tryz.prog.underlying 25 = some (.struct fs)) := hfs'
  clear hfs'
  obtain ⟨W1, hW1, sz1, g1, B1⟩ := boxn w #[.int .u8 0, .int .u16 0, .int .u16 0] 25
  obtain ⟨la, HA⟩ : ∃ la, Hid (((bl (fun j => v1.testBit j))).toList = la) := ⟨_, rfl⟩
  obtain ⟨lb, HB⟩ : ∃ lb, Hid (((bl (fun j => v2.testBit j))).toList = lb) := ⟨_, rfl⟩
  have ilA : (Tryz.prog.info? 68).map (·.size) = some la.length := by rw [← HA.out]; exact infoBl
  have ilB : (Tryz.prog.info? 68).map (·.size) = some lb.length := by rw [← HB.out]; exact infoBl
  have uTB := Tryz.underlying68
  have n1 : ∀ w, Calls Tryz.prog 39 #[.agg la.toArray] w fun e w' => e = .returned (.int .u16 ((v1 : Nat) : Int)) ∧ w.grownBy w' none := fun w => by have := numberD (fun j => v1.testBit j) w; rw [nm_tb hv1] at this; rw [← HA.out]; exact this
  have n2 : ∀ w, Calls Tryz.prog 39 #[.agg lb.toArray] w fun e w' => e = .returned (.int .u16 ((v2 : Nat) : Int)) ∧ w.grownBy w' none := fun w => by have := numberD (fun j => v2.testBit j) w; rw [nm_tb hv2] at this; rw [← HB.out]; exact this
  go_enter Tryz.func20, Tryz.ntmps20
  go_wp2_with (first | (go_at_call 37; (fail_if_success (guard_hyp mk1)); refine (h66 _).mono ?_; rintro e w' ⟨rfl, hw'⟩; subst w'; have mk1 : True := trivial) | (go_at_call 38; (fail_if_success (guard_hyp g3)); refine (hl1 _).mono ?_; rintro e w3 ⟨rfl, g3⟩; have B13 := B1.kept g3 (by simp); have G3 := gb_trans g1 g3; obtain ⟨W4, hW4, sz4, g4, B4⟩ := boxn w3 #[.bool false, .bool false, .bool false, .bool false, .bool false, .bool false, .bool false, .bool false, .bool false, .bool false] 68; have B14 := B13.kept g4 (by simp); have G4 := gb_trans G3 g4; have N31 : Hid (w3.heap.size ≠ w.heap.size) := (by have := B13.lt; unfold Hid; omega)) | (refine wpList_st (op := ⟨_, .store 68 _ _, _, _, _, _⟩) rfl 68 _ _ rfl w3.heap.size (bl (fun j => v1.testBit j)) rfl rfl B4 infoBl rfl (bl_one _) ?_; intro W5 hW5 B5; have B15 : Bo W5 w.heap.size 25 #[.int .u8 0, .int .u16 0, .int .u16 0] := hW5 ▸ B14.row2 N31.out; have G5 : w.grownBy W5 none := hW5 ▸ gb_row2 G4 G3.size) | (go_at_call 37; (fail_if_success (guard_hyp mk2)); refine (h83 _).mono ?_; rintro e w' ⟨rfl, hw'⟩; subst w'; have mk2 : True := trivial) | (go_at_call 38; (fail_if_success (guard_hyp g6)); refine (hl2 _).mono ?_; rintro e w6 ⟨rfl, g6⟩; have B16 := B15.kept g6 (by simp); have B56 := B5.kept g6 (by simp); have G6 := gb_trans G5 g6; obtain ⟨W7, hW7, sz7, g7, B7⟩ := boxn w6 #[.bool false, .bool false, .bool false, .bool false, .bool false, .bool false, .bool false, .bool false, .bool false, .bool false] 68; have B17 := B16.kept g7 (by simp); have B57 := B56.kept g7 (by simp); have G7 := gb_trans G6 g7; have N61 : Hid (w6.heap.size ≠ w.heap.size) := (by have := B16.lt; unfold Hid; omega); have N63 : Hid (w6.heap.size ≠ w3.heap.size) := (by have := B56.lt; unfold Hid; omega)) | (refine wpList_st (op := ⟨_, .store 68 _ _, _, _, _, _⟩) rfl 68 _ _ rfl w6.heap.size (bl (fun j => v2.testBit j)) rfl rfl B7 infoBl rfl (bl_one _) ?_; intro W8 hW8 B8; have B18 : Bo W8 w.heap.size 25 #[.int .u8 0, .int .u16 0, .int .u16 0] := hW8 ▸ B17.row2 N61.out; have B58 : Bo W8 w3.heap.size 68 (bl (fun j => v1.testBit j)) := hW8 ▸ B57.row2 N63.out; have G8 : w.grownBy W8 none := hW8 ▸ gb_row2 G7 G6.size))
  have R8 := B18
  have P8 := B58
  have Q8 := B8
  have a8 := ra_of' P8 HA
  have b8 := ra_of' Q8 HB
  obtain ⟨wz, hwz, szz, gz, Lz⟩ := boxn W8 #[.int .u8 0, .int .u16 0, .int .u16 0] 25
  have Rz := R8.kept gz (by simp)
  have Pz := P8.kept gz (by simp)
  have Qz := Q8.kept gz (by simp)
  have Gz := gb_trans G8 gz
  have az := ra_of' Pz HA
  have bz := ra_of' Qz HB
  refine wp_region_held_drew (S := fun w' => w'.rangeAt w3.heap.size 0 la ∧ w'.rangeAt w6.heap.size 0 lb) (by kernel_rfl) ⟨a8, b8⟩ (fun hHeld => ?_)
  refine wpAnyH_take (i := 0) (v := .agg la.toArray) rfl (by kernel_rfl) (by kernel_rfl) (by kernel_rfl) (fun _ _ _ h => h) (yieldsIf_load_mid (by rfl) _ _ rfl _ _ rfl la _ (fun w hSw => hSw.1) uTB rfl ilA) (by assumption) ?_
  try simp only [Act.put, List.setIfInBounds_toArray, List.set_cons_zero, List.set_cons_succ]
  refine wpAnyH_take (i := 2) (v := .agg lb.toArray) rfl (by kernel_rfl) (by kernel_rfl) (by kernel_rfl) (fun _ _ _ h => h) (yieldsIf_load_mid (by rfl) _ _ rfl _ _ rfl lb _ (fun w hSw => hSw.2) uTB rfl ilB) (by assumption) ?_
  try simp only [Act.put, List.setIfInBounds_toArray, List.set_cons_zero, List.set_cons_succ]
  refine wpAnyH_ready (rs := [1, 5]) (by kernel_rfl) (by simp) ?_
  refine AllReadyH.cons rfl (fun K hK => ?_) (AllReadyH.cons rfl (fun K hK => ?_) AllReadyH.nil)
  · go_simp
    go_wp2_with (go_at_call 39; refine (n1 _).mono ?_; rintro e w10 ⟨rfl, g10⟩; have R10 := R8.dr.kept g10 (by simp); have P10 := P8.dr.kept g10 (by simp); have Q10 := Q8.dr.kept g10 (by simp); have G10 := gb_trans (gb_drew G8) g10; have a10 := ra_of' P10 HA; have b10 := ra_of' Q10 HB)
    refine hK.out _ _ ⟨a10, b10⟩ (fun hHeld => ?_)
    clear hK K
    try simp only [Act.put, List.setIfInBounds_toArray, List.set_cons_zero, List.set_cons_succ]
    obtain ⟨wu, hwu, szu, gu, Lu⟩ := boxn w10 #[.int .u8 0, .int .u16 0, .int .u16 0] 25
    have Ru := R10.kept gu (by simp)
    have Pu := P10.kept gu (by simp)
    have Qu := Q10.kept gu (by simp)
    have Gu := gb_trans G10 gu
    have au := ra_of' Pu HA
    have bu := ra_of' Qu HB
    refine wpAnyH_ready (rs := [3, 5]) (by kernel_rfl) (by simp) ?_
    refine AllReadyH.cons rfl (fun K hK => ?_) (AllReadyH.cons rfl (fun K hK => ?_) AllReadyH.nil)
    · go_simp
      go_wp2_with (go_at_call 39; refine (n2 _).mono ?_; rintro e w11 ⟨rfl, g11⟩; have R11 := R10.kept g11 (by simp); have P11 := P10.kept g11 (by simp); have Q11 := Q10.kept g11 (by simp); have G11 := gb_trans G10 g11; have a11 := ra_of' P11 HA; have b11 := ra_of' Q11 HB)
      refine hK.out _ _ ⟨a11, b11⟩ (fun hHeld => ?_)
      clear hK K
      try simp only [Act.put, List.setIfInBounds_toArray, List.set_cons_zero, List.set_cons_succ]
      obtain ⟨wx, hwx, szx, gx, Lx⟩ := boxn w11 #[.int .u8 0, .int .u16 0, .int .u16 0] 25
      have Rx := R11.kept gx (by simp)
      have Px := P11.kept gx (by simp)
      have Qx := Q11.kept gx (by simp)
      have Gx := gb_trans G11 gx
      have ax := ra_of' Px HA
      have bx := ra_of' Qx HB
      refine wpAnyH_take (i := 4) (v := .agg #[.int .u8 1, .int .u16 v1, .int .u16 v2]) rfl (by kernel_rfl) (by kernel_rfl) (by kernel_rfl) (fun _ _ _ h => h) (Or.inl ⟨by rfl, fun w hSw => by (dsimp only at hSw; go_simp)⟩) (by assumption) ?_
      try simp only [Act.put, List.setIfInBounds_toArray, List.set_cons_zero, List.set_cons_succ]
      refine wpAnyH_ready (rs := [5]) (by kernel_rfl) (by simp) ?_
      refine AllReadyH.cons rfl (fun K hK => ?_) AllReadyH.nil
      go_simp
      refine hK.out _ _ ⟨ax, bx⟩ (fun hHeld => ?_)
      clear hK K
      try simp only [Act.put, List.setIfInBounds_toArray, List.set_cons_zero, List.set_cons_succ]
      have zL : w.heap.size ≤ w11.heap.size := G11.size
      have RQ := R11
      have PQ := P11
      have QQ := Q11
      have f0 := Lx.frozen 0
      have f1 := Lx.frozen 1
      have f2 := Lx.frozen 2
      have z0 := Lx.cell 0 (v := .int .u8 0) rfl
      have z1 := Lx.cell 1 (v := .int .u16 0) rfl
      have z2 := Lx.cell 2 (v := .int .u16 0) rfl
      have nR : Hid (w11.heap.size ≠ w.heap.size) := by have := RQ.lt; unfold Hid; omega
      have nP : Hid (w11.heap.size ≠ w3.heap.size) := by have := PQ.lt; unfold Hid; omega
      have nQ : Hid (w11.heap.size ≠ w6.heap.size) := by have := QQ.lt; unfold Hid; omega
      obtain ⟨WL, hWL⟩ : ∃ WL, ((wx.setCell ⟨w11.heap.size, 0, none⟩ (.int .u8 1)).setCell ⟨w11.heap.size, 1, none⟩ (.int .u16 v1)).setCell ⟨w11.heap.size, 2, none⟩ (.int .u16 v2) = WL := ⟨_, rfl⟩
      have BL : Bo WL (w11.heap.size) 25 #[.int .u8 1, .int .u16 v1, .int .u16 v2] := hWL ▸ ((Lx.set 0 _).set 1 _).set 2 _
      have BR : Bo WL w.heap.size 25 #[.int .u8 0, .int .u16 0, .int .u16 0] := hWL ▸ ((Rx.set2 nR.out).set2 nR.out).set2 nR.out
      have PL : Bo WL w3.heap.size 68 (bl (fun j => v1.testBit j)) := hWL ▸ ((Px.set2 nP.out).set2 nP.out).set2 nP.out
      have QL : Bo WL w6.heap.size 68 (bl (fun j => v2.testBit j)) := hWL ▸ ((Qx.set2 nQ.out).set2 nQ.out).set2 nQ.out
      have GL : w.grownBy WL none := hWL ▸ gb_new (gb_new (gb_new Gx zL (.int .u8 1)) zL (.int .u16 v1)) zL (.int .u16 v2)
      have aL := ra_of' PL HA
      have bL := ra_of' QL HB
      refine wpAnyH_ready (rs := [6]) (by kernel_rfl) (by simp) ?_
      refine AllReadyH.cons rfl (fun K hK => ?_) AllReadyH.nil
      go_simp
      refine hK.out _ _ ⟨aL, bL⟩ (fun hHeld => ?_)
      clear hK K
      try simp only [Act.put, List.setIfInBounds_toArray, List.set_cons_zero, List.set_cons_succ]
      refine wpAnyH_done (by kernel_rfl) ?_ _
      clear R8 P8 Q8 a8 b8 PL QL aL bL z0 z1 z2 f0 f1 f2
      have fl := BL.frozen 0
      have cl := BL.cell 0 (v := .int .u8 1) rfl
      obtain ⟨WM, hWM⟩ : ∃ WM, WL.setCell ⟨w11.heap.size, 0, none⟩ (.int .u8 3) = WM := ⟨_, rfl⟩
      have BM : Bo WM (w11.heap.size) 25 #[.int .u8 3, .int .u16 v1, .int .u16 v2] := hWM ▸ BL.set 0 _
      have BRM : Bo WM w.heap.size 25 #[.int .u8 0, .int .u16 0, .int .u16 0] := hWM ▸ BR.set2 nR.out
      have GM : w.grownBy WM none := hWM ▸ gb_new GL zL (.int .u8 3)
      go_wp2_with (first | (go_at_call 37; (fail_if_success (guard_hyp mk3)); refine (h86 _).mono ?_; rintro e w' ⟨rfl, hw'⟩; subst w'; have mk3 : True := trivial) | (go_at_call 37; (fail_if_success (guard_hyp mk4)); refine (h72 _).mono ?_; rintro e w' ⟨rfl, hw'⟩; subst w'; have mk4 : True := trivial) | (refine wpList_st (op := ⟨_, .store 25 _ _, _, _, _, _⟩) rfl 25 _ _ rfl w.heap.size #[.int .u8 0, .int .u16 0, .int .u16 0] rfl rfl BRM infoLf rfl (by simp [Value.oneCell']) ?_; intro W99 hW99 B99))
      refine ret_c3 (g := w.heap.size) (cs := #[.int .u8 0, .int .u16 0, .int .u16 0]) rfl hfs.out infoLf rfl B99 rfl ⟨rfl, hW99 ▸ gb_row2 GM (Nat.le_refl _)⟩
    · go_simp
      refine hK.out _ _ ⟨au, bu⟩ (fun hHeld => ?_)
      clear hK K
      try simp only [Act.put, List.setIfInBounds_toArray, List.set_cons_zero, List.set_cons_succ]
      refine wpAnyH_ready (rs := [3]) (by kernel_rfl) (by simp) ?_
      refine AllReadyH.cons rfl (fun K hK => ?_) AllReadyH.nil
      go_simp
      go_wp2_with (go_at_call 39; refine (n2 _).mono ?_; rintro e w11 ⟨rfl, g11⟩; have R11 := Ru.kept g11 (by simp); have P11 := Pu.kept g11 (by simp); have Q11 := Qu.kept g11 (by simp); have L11 := Lu.kept g11 (by simp); have G11 := gb_trans Gu g11; have a11 := ra_of' P11 HA; have b11 := ra_of' Q11 HB)
      refine hK.out _ _ ⟨a11, b11⟩ (fun hHeld => ?_)
      clear hK K
      try simp only [Act.put, List.setIfInBounds_toArray, List.set_cons_zero, List.set_cons_succ]
      have zL : w.heap.size ≤ w10.heap.size := G10.size
      have RQ := R10
      have PQ := P10
      have QQ := Q10
      have f0 := L11.frozen 0
      have f1 := L11.frozen 1
      have f2 := L11.frozen 2
      have z0 := L11.cell 0 (v := .int .u8 0) rfl
      have z1 := L11.cell 1 (v := .int .u16 0) rfl
      have z2 := L11.cell 2 (v := .int .u16 0) rfl
      have nR : Hid (w10.heap.size ≠ w.heap.size) := by have := RQ.lt; unfold Hid; omega
      have nP : Hid (w10.heap.size ≠ w3.heap.size) := by have := PQ.lt; unfold Hid; omega
      have nQ : Hid (w10.heap.size ≠ w6.heap.size) := by have := QQ.lt; unfold Hid; omega
      obtain ⟨WL, hWL⟩ : ∃ WL, ((w11.setCell ⟨w10.heap.size, 0, none⟩ (.int .u8 1)).setCell ⟨w10.heap.size, 1, none⟩ (.int .u16 v1)).setCell ⟨w10.heap.size, 2, none⟩ (.int .u16 v2) = WL := ⟨_, rfl⟩
      have BL : Bo WL (w10.heap.size) 25 #[.int .u8 1, .int .u16 v1, .int .u16 v2] := hWL ▸ ((L11.set 0 _).set 1 _).set 2 _
      have BR : Bo WL w.heap.size 25 #[.int .u8 0, .int .u16 0, .int .u16 0] := hWL ▸ ((R11.set2 nR.out).set2 nR.out).set2 nR.out
      have PL : Bo WL w3.heap.size 68 (bl (fun j => v1.testBit j)) := hWL ▸ ((P11.set2 nP.out).set2 nP.out).set2 nP.out
      have QL : Bo WL w6.heap.size 68 (bl (fun j => v2.testBit j)) := hWL ▸ ((Q11.set2 nQ.out).set2 nQ.out).set2 nQ.out
      have GL : w.grownBy WL none := hWL ▸ gb_new (gb_new (gb_new G11 zL (.int .u8 1)) zL (.int .u16 v1)) zL (.int .u16 v2)
      have aL := ra_of' PL HA
      have bL := ra_of' QL HB
      refine wpAnyH_take (i := 4) (v := .agg #[.int .u8 1, .int .u16 v1, .int .u16 v2]) rfl (by kernel_rfl) (by kernel_rfl) (by kernel_rfl) (fun _ _ _ h => h) (Or.inl ⟨by rfl, fun w hSw => by (dsimp only at hSw; go_simp)⟩) (by assumption) ?_
      try simp only [Act.put, List.setIfInBounds_toArray, List.set_cons_zero, List.set_cons_succ]
      refine wpAnyH_ready (rs := [6]) (by kernel_rfl) (by simp) ?_
      refine AllReadyH.cons rfl (fun K hK => ?_) AllReadyH.nil
      go_simp
      refine hK.out _ _ ⟨aL, bL⟩ (fun hHeld => ?_)
      clear hK K
      try simp only [Act.put, List.setIfInBounds_toArray, List.set_cons_zero, List.set_cons_succ]
      refine wpAnyH_done (by kernel_rfl) ?_ _
      clear R8 P8 Q8 a8 b8 PL QL aL bL z0 z1 z2 f0 f1 f2
      have fl := BL.frozen 0
      have cl := BL.cell 0 (v := .int .u8 1) rfl
      obtain ⟨WM, hWM⟩ : ∃ WM, WL.setCell ⟨w10.heap.size, 0, none⟩ (.int .u8 3) = WM := ⟨_, rfl⟩
      have BM : Bo WM (w10.heap.size) 25 #[.int .u8 3, .int .u16 v1, .int .u16 v2] := hWM ▸ BL.set 0 _
      have BRM : Bo WM w.heap.size 25 #[.int .u8 0, .int .u16 0, .int .u16 0] := hWM ▸ BR.set2 nR.out
      have GM : w.grownBy WM none := hWM ▸ gb_new GL zL (.int .u8 3)
      go_wp2_with (first | (go_at_call 37; (fail_if_success (guard_hyp mk3)); refine (h86 _).mono ?_; rintro e w' ⟨rfl, hw'⟩; subst w'; have mk3 : True := trivial) | (go_at_call 37; (fail_if_success (guard_hyp mk4)); refine (h72 _).mono ?_; rintro e w' ⟨rfl, hw'⟩; subst w'; have mk4 : True := trivial) | (refine wpList_st (op := ⟨_, .store 25 _ _, _, _, _, _⟩) rfl 25 _ _ rfl w.heap.size #[.int .u8 0, .int .u16 0, .int .u16 0] rfl rfl BRM infoLf rfl (by simp [Value.oneCell']) ?_; intro W99 hW99 B99))
      refine ret_c3 (g := w.heap.size) (cs := #[.int .u8 0, .int .u16 0, .int .u16 0]) rfl hfs.out infoLf rfl B99 rfl ⟨rfl, hW99 ▸ gb_row2 GM (Nat.le_refl _)⟩
  · go_simp
    refine hK.out _ _ ⟨az, bz⟩ (fun hHeld => ?_)
    clear hK K
    try simp only [Act.put, List.setIfInBounds_toArray, List.set_cons_zero, List.set_cons_succ]
    refine wpAnyH_ready (rs := [1]) (by kernel_rfl) (by simp) ?_
    refine AllReadyH.cons rfl (fun K hK => ?_) AllReadyH.nil
    go_simp
    go_wp2_with (go_at_call 39; refine (n1 _).mono ?_; rintro e w10 ⟨rfl, g10⟩; have R10 := Rz.dr.kept g10 (by simp); have P10 := Pz.dr.kept g10 (by simp); have Q10 := Qz.dr.kept g10 (by simp); have L10 := Lz.dr.kept g10 (by simp); have G10 := gb_trans (gb_drew Gz) g10; have a10 := ra_of' P10 HA; have b10 := ra_of' Q10 HB)
    refine hK.out _ _ ⟨a10, b10⟩ (fun hHeld => ?_)
    clear hK K
    try simp only [Act.put, List.setIfInBounds_toArray, List.set_cons_zero, List.set_cons_succ]
    refine wpAnyH_ready (rs := [3]) (by kernel_rfl) (by simp) ?_
    refine AllReadyH.cons rfl (fun K hK => ?_) AllReadyH.nil
    go_simp
    go_wp2_with (go_at_call 39; refine (n2 _).mono ?_; rintro e w11 ⟨rfl, g11⟩; have R11 := R10.kept g11 (by simp); have P11 := P10.kept g11 (by simp); have Q11 := Q10.kept g11 (by simp); have L11 := L10.kept g11 (by simp); have G11 := gb_trans G10 g11; have a11 := ra_of' P11 HA; have b11 := ra_of' Q11 HB)
    refine hK.out _ _ ⟨a11, b11⟩ (fun hHeld => ?_)
    clear hK K
    try simp only [Act.put, List.setIfInBounds_toArray, List.set_cons_zero, List.set_cons_succ]
    have zL : w.heap.size ≤ W8.heap.size := G8.size
    have RQ := R8
    have PQ := P8
    have QQ := Q8
    have f0 := L11.frozen 0
    have f1 := L11.frozen 1
    have f2 := L11.frozen 2
    have z0 := L11.cell 0 (v := .int .u8 0) rfl
    have z1 := L11.cell 1 (v := .int .u16 0) rfl
    have z2 := L11.cell 2 (v := .int .u16 0) rfl
    have nR : Hid (W8.heap.size ≠ w.heap.size) := by have := RQ.lt; unfold Hid; omega
    have nP : Hid (W8.heap.size ≠ w3.heap.size) := by have := PQ.lt; unfold Hid; omega
    have nQ : Hid (W8.heap.size ≠ w6.heap.size) := by have := QQ.lt; unfold Hid; omega
    obtain ⟨WL, hWL⟩ : ∃ WL, ((w11.setCell ⟨W8.heap.size, 0, none⟩ (.int .u8 1)).setCell ⟨W8.heap.size, 1, none⟩ (.int .u16 v1)).setCell ⟨W8.heap.size, 2, none⟩ (.int .u16 v2) = WL := ⟨_, rfl⟩
    have BL : Bo WL (W8.heap.size) 25 #[.int .u8 1, .int .u16 v1, .int .u16 v2] := hWL ▸ ((L11.set 0 _).set 1 _).set 2 _
    have BR : Bo WL w.heap.size 25 #[.int .u8 0, .int .u16 0, .int .u16 0] := hWL ▸ ((R11.set2 nR.out).set2 nR.out).set2 nR.out
    have PL : Bo WL w3.heap.size 68 (bl (fun j => v1.testBit j)) := hWL ▸ ((P11.set2 nP.out).set2 nP.out).set2 nP.out
    have QL : Bo WL w6.heap.size 68 (bl (fun j => v2.testBit j)) := hWL ▸ ((Q11.set2 nQ.out).set2 nQ.out).set2 nQ.out
    have GL : w.grownBy WL none := hWL ▸ gb_new (gb_new (gb_new G11 zL (.int .u8 1)) zL (.int .u16 v1)) zL (.int .u16 v2)
    have aL := ra_of' PL HA
    have bL := ra_of' QL HB
    refine wpAnyH_take (i := 4) (v := .agg #[.int .u8 1, .int .u16 v1, .int .u16 v2]) rfl (by kernel_rfl) (by kernel_rfl) (by kernel_rfl) (fun _ _ _ h => h) (Or.inl ⟨by rfl, fun w hSw => by (dsimp only at hSw; go_simp)⟩) (by assumption) ?_
    try simp only [Act.put, List.setIfInBounds_toArray, List.set_cons_zero, List.set_cons_succ]
    refine wpAnyH_ready (rs := [6]) (by kernel_rfl) (by simp) ?_
    refine AllReadyH.cons rfl (fun K hK => ?_) AllReadyH.nil
    go_simp
    refine hK.out _ _ ⟨aL, bL⟩ (fun hHeld => ?_)
    clear hK K
    try simp only [Act.put, List.setIfInBounds_toArray, List.set_cons_zero, List.set_cons_succ]
    refine wpAnyH_done (by kernel_rfl) ?_ _
    clear R8 P8 Q8 a8 b8 PL QL aL bL z0 z1 z2 f0 f1 f2
    have fl := BL.frozen 0
    have cl := BL.cell 0 (v := .int .u8 1) rfl
    obtain ⟨WM, hWM⟩ : ∃ WM, WL.setCell ⟨W8.heap.size, 0, none⟩ (.int .u8 3) = WM := ⟨_, rfl⟩
    have BM : Bo WM (W8.heap.size) 25 #[.int .u8 3, .int .u16 v1, .int .u16 v2] := hWM ▸ BL.set 0 _
    have BRM : Bo WM w.heap.size 25 #[.int .u8 0, .int .u16 0, .int .u16 0] := hWM ▸ BR.set2 nR.out
    have GM : w.grownBy WM none := hWM ▸ gb_new GL zL (.int .u8 3)
    go_wp2_with (first | (go_at_call 37; (fail_if_success (guard_hyp mk3)); refine (h86 _).mono ?_; rintro e w' ⟨rfl, hw'⟩; subst w'; have mk3 : True := trivial) | (go_at_call 37; (fail_if_success (guard_hyp mk4)); refine (h72 _).mono ?_; rintro e w' ⟨rfl, hw'⟩; subst w'; have mk4 : True := trivial) | (refine wpList_st (op := ⟨_, .store 25 _ _, _, _, _, _⟩) rfl 25 _ _ rfl w.heap.size #[.int .u8 0, .int .u16 0, .int .u16 0] rfl rfl BRM infoLf rfl (by simp [Value.oneCell']) ?_; intro W99 hW99 B99))
    refine ret_c3 (g := w.heap.size) (cs := #[.int .u8 0, .int .u16 0, .int .u16 0]) rfl hfs.out infoLf rfl B99 rfl ⟨rfl, hW99 ▸ gb_row2 GM (Nat.le_refl _)⟩

end Go.Proofs.YtlkdenanbofliaaGreatDoor
