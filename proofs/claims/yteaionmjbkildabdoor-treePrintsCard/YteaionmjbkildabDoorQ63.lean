/- The document's Print of a tree that may be. -/
import Derived.Deep.RegionHeld2
import Derived.Test.YteaionmjbkildabDoorQ61
import Derived.Test.YteaionmjbkildabDoorQ62
import Derived.Test.YteaionmjbkildabDoorQ35
namespace Go.Proofs.YteaionmjbkildabDoor
open Go.RowKit Go.Lib
set_option linter.unusedVariables false
set_option linter.unusedSimpArgs false
set_option maxRecDepth 100000

theorem itoaC (z : Int) (hz : -9223372036854775808 ≤ z ∧ z ≤ 9223372036854775807) (w : World) (htab : Tab w) : Calls Tryd.prog 36 #[.int .i64 z] w fun e w' => e = .returned (.string ⟨(itoa z).toArray⟩) ∧ w.grownBy w' none :=
  (Tryd.strconv_Itoa z hz.1 hz.2 w htab).mono fun e w' ⟨h, k, os, hw⟩ => ⟨h, hw ▸ below_gb (Lib.below_grow _ _ (Nat.le_refl _) _ _)⟩
theorem itoaR (z : Int) (hz : -9223372036854775808 ≤ z ∧ z ≤ 9223372036854775807) (x : ByteArray) (hx : Hid ((⟨(itoa z).toArray⟩ : ByteArray) = x)) (w : World) (htab : Tab w) : Calls Tryd.prog 36 #[.int .i64 z] w fun e w' => e = .returned (.string x) ∧ w.grownBy w' none :=
  hx.out ▸ itoaC z hz w htab
theorem size_mk (l : List UInt8) : (⟨l.toArray⟩ : ByteArray).size = l.length := by show l.toArray.size = _; simp
/-- A name for a text as a string. -/
theorem named (l : List UInt8) : ∃ x : ByteArray, Hid ((⟨l.toArray⟩ : ByteArray) = x) ∧ x.size = l.length := ⟨_, rfl, size_mk l⟩
theorem addN {l m k : List UInt8} {x y z : ByteArray} (hx : Hid ((⟨l.toArray⟩ : ByteArray) = x)) (hy : Hid ((⟨m.toArray⟩ : ByteArray) = y)) (hz : Hid ((⟨k.toArray⟩ : ByteArray) = z)) (he : l ++ m = k) (h : l.length + m.length ≤ 4194304) (w : World) : (Op.stringOp .add x y).run Tryd.prog w = .ok (.string z) w := by
  rw [← hx.out, ← hy.out, ← hz.out, ← he]
  exact addS l m h w

theorem conv_made {B : Nat} {w0 : World} (w : World) (h : w0.grownBy w none) (hB : B ≤ w0.heap.size) (l : List UInt8) (hl : l.length ≤ 4194304) (y : ByteArray) (hy : Hid ((⟨l.toArray⟩ : ByteArray) = y)) :
    ∃ cp Y, (convert 9 44 (.string y)).run Tryd.prog w = .ok (.slice (some ⟨w.heap.size, 0, none⟩) l.length cp) Y ∧ Tm B w0 Y (.slice (some ⟨w.heap.size, 0, none⟩) l.length cp) l ∧ w.grownBy Y none := by
  rw [← hy.out]
  exact ⟨_, _, convB w l, Tm.made h hB l hl, (made_ownsM w 5 ⟨l.toArray⟩ 0 (Nat.zero_le _) (by rw [size_mk]; unfold maxLen; omega)).2⟩

set_option maxHeartbeats 4000000 in
theorem rprintY (S I R q o n c : Nat) (t : Nat → TN) (lv : Nat → Nat) (ht : Tok S I R n t lv) (hck : CkOk S I n R t) (hst : ∀ j, (t j).st < 256) (w : World) (hT : Tn w q o n t) (htab : Tab w) :
    Calls Tryd.prog 12 #[.agg #[.int .i64 (S : Nat), .int .i64 (I : Nat), .slice (some ⟨q, o, none⟩) n c, .int .i64 (R : Nat)]] w fun e w' => e = .returned (.tuple #[.string ⟨(prT (treeTx S I n R t)).toArray⟩, .int .i64 (prE (treeTx S I n R t))]) ∧ w.grownBy w' none := by
  have hi16 := ht.hi
  have hs2 := ht.hs2
  have hn16 := ht.hn
  have hr := ht.hr
  have lS := Lib.itoa_length_le (S : Int) (by omega) (by omega)
  have lI := Lib.itoa_length_le (I : Int) (by omega) (by omega)
  have ln := Lib.itoa_length_le (n : Int) (by omega) (by omega)
  have lR := Lib.itoa_length_le (R : Int) (by omega) (by omega)
  obtain ⟨i8, HI8⟩ : ∃ i, Hid (Tryd.prog.info? 5 = some i ∧ i.zero = some (.int .u8 0) ∧ i.size = 1 ∧ i.bytes = 1) := by
    obtain ⟨i, h1, h2, h3, h4⟩ := info_parts info8
    exact ⟨i, h1, h2, h3, h4⟩
  obtain ⟨B, hBe⟩ : ∃ B, w.heap.size = B := ⟨_, rfl⟩
  have HBe : Hid (w.heap.size = B) := hBe
  have hTB : TabB B w := hBe ▸ Lib.tabBelow_of_tabIs htab
  obtain ⟨W1, hW1, sz1, g1, B1⟩ := boxn w #[.int .i64 (S : Nat), .int .i64 (I : Nat), .slice (some ⟨q, o, none⟩) n c, .int .i64 (R : Nat)] 24
  have hB1 : B ≤ W1.heap.size := by rw [← hBe]; exact g1.size
  have hT1 : TabB B W1 := hTB.on (hBe ▸ gb_below g1)
  have gb0 : Below B w W1 := hBe ▸ gb_below g1
  clear hBe
  have t0 := B1.cell 0 (v := .int .i64 (S : Nat)) rfl
  have t1 := B1.cell 1 (v := .int .i64 (I : Nat)) rfl
  have t2 := B1.cell 2 (v := .slice (some ⟨q, o, none⟩) n c) rfl
  have t3 := B1.cell 3 (v := .int .i64 (R : Nat)) rfl
  have hrc := refCheckK S I R q o n c t hck hst W1 (hT.kept g1)
  -- the head's parts
  obtain ⟨xS, HxSi, zS⟩ := named (itoa (S : Int))
  obtain ⟨xI, HxIi, zI⟩ := named (itoa (I : Int))
  obtain ⟨xn, Hxni, zn⟩ := named (itoa (n : Int))
  obtain ⟨xR, HxRi, zR⟩ := named (itoa (R : Int))
  obtain ⟨y1, Hy1, _⟩ := named ([116, 114, 101, 101, 32] ++ itoa (S : Int))
  obtain ⟨y2, Hy2, _⟩ := named ([116, 114, 101, 101, 32] ++ itoa (S : Int) ++ [32])
  obtain ⟨y3, Hy3, _⟩ := named ([116, 114, 101, 101, 32] ++ itoa (S : Int) ++ [32] ++ itoa (I : Int))
  obtain ⟨y4, Hy4, _⟩ := named ([116, 114, 101, 101, 32] ++ itoa (S : Int) ++ [32] ++ itoa (I : Int) ++ [32])
  obtain ⟨y5, Hy5, _⟩ := named ([116, 114, 101, 101, 32] ++ itoa (S : Int) ++ [32] ++ itoa (I : Int) ++ [32] ++ itoa (n : Int))
  obtain ⟨y6, Hy6, _⟩ := named ([116, 114, 101, 101, 32] ++ itoa (S : Int) ++ [32] ++ itoa (I : Int) ++ [32] ++ itoa (n : Int) ++ [32])
  obtain ⟨y7, Hy7, _⟩ := named ([116, 114, 101, 101, 32] ++ itoa (S : Int) ++ [32] ++ itoa (I : Int) ++ [32] ++ itoa (n : Int) ++ [32] ++ itoa (R : Int))
  obtain ⟨y8, Hy8, _⟩ := named (headTx S I n R)
  have hH0 : (headTx S I n R).length ≤ 1000 := by unfold headTx; simp; omega
  have f1 := addN (l := [116, 114, 101, 101, 32]) rfl HxSi Hy1 rfl (by simp; omega)
  have f2 := addN Hy1 (m := [32]) rfl Hy2 rfl (by simp; omega)
  have f3 := addN Hy2 HxIi Hy3 rfl (by simp; omega)
  have f4 := addN Hy3 (m := [32]) rfl Hy4 rfl (by simp; omega)
  have f5 := addN Hy4 Hxni Hy5 rfl (by simp; omega)
  have f6 := addN Hy5 (m := [32]) rfl Hy6 rfl (by simp; omega)
  have f7 := addN Hy6 HxRi Hy7 rfl (by simp; omega)
  have f8 := addN Hy7 (m := [10]) rfl Hy8 (by unfold headTx; simp) (by simp; omega)
  obtain ⟨H, hH⟩ : ∃ H, headTx S I n R = H := ⟨_, rfl⟩
  have HH : Hid (headTx S I n R = H) := hH
  rw [hH] at Hy8 hH0
  clear hH lS lI ln lR zS zI zn zR Hy1 Hy2 Hy3 Hy4 Hy5 Hy6 Hy7
  go_enter Tryd.func12, Tryd.ntmps12
  go_wp2_with (go_at_call 35; refine hrc.mono ?_; rintro e w2 ⟨rfl, g2⟩; refine Hid.out ?_)
  refine Lib.hid ?_
  clear hrc t0 t1 t2 t3
  have B2 := B1.kept g2 (by simp)
  have t0 := B2.cell 0 (v := .int .i64 (S : Nat)) rfl
  have t1 := B2.cell 1 (v := .int .i64 (I : Nat)) rfl
  have t2 := B2.cell 2 (v := .slice (some ⟨q, o, none⟩) n c) rfl
  have t3 := B2.cell 3 (v := .int .i64 (R : Nat)) rfl
  have hcv := fun (w6 : World) (G6 : W1.grownBy w6 none) => conv_made w6 G6 hB1 H (by omega) y8 Hy8
  go_wp2
  refine wp_region_held_drew (S := fun w' => w'.cell? ⟨w.heap.size, 0, none⟩ = some (.int .i64 (S : Nat)) ∧ w'.cell? ⟨w.heap.size, 1, none⟩ = some (.int .i64 (I : Nat)) ∧ w'.cell? ⟨w.heap.size, 2, none⟩ = some (.slice (some ⟨q, o, none⟩) n c) ∧ w'.cell? ⟨w.heap.size, 3, none⟩ = some (.int .i64 (R : Nat))) (by kernel_rfl) ⟨t0, t1, t2, t3⟩ (fun hHeld => ?_)
  refine wpAnyH_take (i := 0) (v := .pointer (some ⟨w.heap.size, 0, none⟩)) rfl (by kernel_rfl) (by kernel_rfl) (by kernel_rfl) (fun _ _ _ h => h) (Or.inl ⟨by rfl, fun w hSw => by (dsimp only at hSw; go_simp)⟩) (by assumption) ?_
  try simp only [Act.put, List.setIfInBounds_toArray, List.set_cons_zero, List.set_cons_succ]
  refine wpAnyH_take (i := 1) (v := .int .i64 (S : Nat)) rfl (by kernel_rfl) (by kernel_rfl) (by kernel_rfl) (fun _ _ _ h => h) (Or.inl ⟨by rfl, fun w hSw => by (dsimp only at hSw; go_simp)⟩) (by assumption) ?_
  try simp only [Act.put, List.setIfInBounds_toArray, List.set_cons_zero, List.set_cons_succ]
  refine wpAnyH_take (i := 5) (v := .pointer (some ⟨w.heap.size, 1, none⟩)) rfl (by kernel_rfl) (by kernel_rfl) (by kernel_rfl) (fun _ _ _ h => h) (Or.inl ⟨by rfl, fun w hSw => by (dsimp only at hSw; go_simp)⟩) (by assumption) ?_
  try simp only [Act.put, List.setIfInBounds_toArray, List.set_cons_zero, List.set_cons_succ]
  refine wpAnyH_take (i := 6) (v := .int .i64 (I : Nat)) rfl (by kernel_rfl) (by kernel_rfl) (by kernel_rfl) (fun _ _ _ h => h) (Or.inl ⟨by rfl, fun w hSw => by (dsimp only at hSw; go_simp)⟩) (by assumption) ?_
  try simp only [Act.put, List.setIfInBounds_toArray, List.set_cons_zero, List.set_cons_succ]
  refine wpAnyH_take (i := 10) (v := .pointer (some ⟨w.heap.size, 2, none⟩)) rfl (by kernel_rfl) (by kernel_rfl) (by kernel_rfl) (fun _ _ _ h => h) (Or.inl ⟨by rfl, fun w hSw => by (dsimp only at hSw; go_simp)⟩) (by assumption) ?_
  try simp only [Act.put, List.setIfInBounds_toArray, List.set_cons_zero, List.set_cons_succ]
  refine wpAnyH_take (i := 11) (v := .slice (some ⟨q, o, none⟩) n c) rfl (by kernel_rfl) (by kernel_rfl) (by kernel_rfl) (fun _ _ _ h => h) (Or.inl ⟨by rfl, fun w hSw => by (dsimp only at hSw; go_simp)⟩) (by assumption) ?_
  try simp only [Act.put, List.setIfInBounds_toArray, List.set_cons_zero, List.set_cons_succ]
  refine wpAnyH_take (i := 12) (v := .int .i64 (n : Nat)) rfl (by kernel_rfl) (by kernel_rfl) (by kernel_rfl) (fun _ _ _ h => h) (Or.inl ⟨by rfl, fun w hSw => by (dsimp only at hSw; go_simp)⟩) (by assumption) ?_
  try simp only [Act.put, List.setIfInBounds_toArray, List.set_cons_zero, List.set_cons_succ]
  refine wpAnyH_take (i := 16) (v := .pointer (some ⟨w.heap.size, 3, none⟩)) rfl (by kernel_rfl) (by kernel_rfl) (by kernel_rfl) (fun _ _ _ h => h) (Or.inl ⟨by rfl, fun w hSw => by (dsimp only at hSw; go_simp)⟩) (by assumption) ?_
  try simp only [Act.put, List.setIfInBounds_toArray, List.set_cons_zero, List.set_cons_succ]
  refine wpAnyH_take (i := 17) (v := .int .i64 (R : Nat)) rfl (by kernel_rfl) (by kernel_rfl) (by kernel_rfl) (fun _ _ _ h => h) (Or.inl ⟨by rfl, fun w hSw => by (dsimp only at hSw; go_simp)⟩) (by assumption) ?_
  try simp only [Act.put, List.setIfInBounds_toArray, List.set_cons_zero, List.set_cons_succ]
  refine wpAnyH_ready (rs := [2]) (by kernel_rfl) (by simp) ?_
  refine AllReadyH.cons rfl (fun K hK => ?_) AllReadyH.nil
  go_simp
  go_wp2_with (go_at_call_of 36 (Value.int IntKind.i64 (S : Int)); (fail_if_success (guard_hyp g3)); refine (itoaR (S : Int) (by constructor <;> omega) xS HxSi _ ((hT1.on ((Below.refl B W1).grown (gb_drew g2) hB1 (by simp))).here)).mono ?_; rintro e w3 ⟨rfl, g3⟩; have B3 := B2.dr.kept g3 (by simp); have G3 := gb_trans (gb_drew g2) g3; have k30 := B3.cell 0 (v := .int .i64 (S : Nat)) rfl; have k31 := B3.cell 1 (v := .int .i64 (I : Nat)) rfl; have k32 := B3.cell 2 (v := .slice (some ⟨q, o, none⟩) n c) rfl; have k33 := B3.cell 3 (v := .int .i64 (R : Nat)) rfl)
  refine hK.out _ _ ⟨k30, k31, k32, k33⟩ (fun hHeld => ?_)
  clear hK K
  try simp only [Act.put, List.setIfInBounds_toArray, List.set_cons_zero, List.set_cons_succ]
  refine wpAnyH_take (i := 3) (v := .string y1) rfl (by kernel_rfl) (by kernel_rfl) (by kernel_rfl) (fun _ _ _ h => h) (Or.inl ⟨by rfl, fun w hSw => by (dsimp only at hSw; go_simp)⟩) (by assumption) ?_
  try simp only [Act.put, List.setIfInBounds_toArray, List.set_cons_zero, List.set_cons_succ]
  refine wpAnyH_take (i := 4) (v := .string y2) rfl (by kernel_rfl) (by kernel_rfl) (by kernel_rfl) (fun _ _ _ h => h) (Or.inl ⟨by rfl, fun w hSw => by (dsimp only at hSw; go_simp)⟩) (by assumption) ?_
  try simp only [Act.put, List.setIfInBounds_toArray, List.set_cons_zero, List.set_cons_succ]
  refine wpAnyH_ready (rs := [7]) (by kernel_rfl) (by simp) ?_
  refine AllReadyH.cons rfl (fun K hK => ?_) AllReadyH.nil
  go_simp
  go_wp2_with (go_at_call_of 36 (Value.int IntKind.i64 (I : Int)); (fail_if_success (guard_hyp g4)); refine (itoaR (I : Int) (by constructor <;> omega) xI HxIi _ ((hT1.on ((Below.refl B W1).grown G3 hB1 (by simp))).here)).mono ?_; rintro e w4 ⟨rfl, g4⟩; have B4 := B3.kept g4 (by simp); have G4 := gb_trans G3 g4; have k40 := B4.cell 0 (v := .int .i64 (S : Nat)) rfl; have k41 := B4.cell 1 (v := .int .i64 (I : Nat)) rfl; have k42 := B4.cell 2 (v := .slice (some ⟨q, o, none⟩) n c) rfl; have k43 := B4.cell 3 (v := .int .i64 (R : Nat)) rfl)
  refine hK.out _ _ ⟨k40, k41, k42, k43⟩ (fun hHeld => ?_)
  clear hK K
  try simp only [Act.put, List.setIfInBounds_toArray, List.set_cons_zero, List.set_cons_succ]
  refine wpAnyH_take (i := 8) (v := .string y3) rfl (by kernel_rfl) (by kernel_rfl) (by kernel_rfl) (fun _ _ _ h => h) (Or.inl ⟨by rfl, fun w hSw => by (dsimp only at hSw; go_simp)⟩) (by assumption) ?_
  try simp only [Act.put, List.setIfInBounds_toArray, List.set_cons_zero, List.set_cons_succ]
  refine wpAnyH_take (i := 9) (v := .string y4) rfl (by kernel_rfl) (by kernel_rfl) (by kernel_rfl) (fun _ _ _ h => h) (Or.inl ⟨by rfl, fun w hSw => by (dsimp only at hSw; go_simp)⟩) (by assumption) ?_
  try simp only [Act.put, List.setIfInBounds_toArray, List.set_cons_zero, List.set_cons_succ]
  refine wpAnyH_ready (rs := [13]) (by kernel_rfl) (by simp) ?_
  refine AllReadyH.cons rfl (fun K hK => ?_) AllReadyH.nil
  go_simp
  go_wp2_with (go_at_call_of 36 (Value.int IntKind.i64 (n : Int)); (fail_if_success (guard_hyp g5)); refine (itoaR (n : Int) (by constructor <;> omega) xn Hxni _ ((hT1.on ((Below.refl B W1).grown G4 hB1 (by simp))).here)).mono ?_; rintro e w5 ⟨rfl, g5⟩; have B5 := B4.kept g5 (by simp); have G5 := gb_trans G4 g5; have k50 := B5.cell 0 (v := .int .i64 (S : Nat)) rfl; have k51 := B5.cell 1 (v := .int .i64 (I : Nat)) rfl; have k52 := B5.cell 2 (v := .slice (some ⟨q, o, none⟩) n c) rfl; have k53 := B5.cell 3 (v := .int .i64 (R : Nat)) rfl)
  refine hK.out _ _ ⟨k50, k51, k52, k53⟩ (fun hHeld => ?_)
  clear hK K
  try simp only [Act.put, List.setIfInBounds_toArray, List.set_cons_zero, List.set_cons_succ]
  refine wpAnyH_take (i := 14) (v := .string y5) rfl (by kernel_rfl) (by kernel_rfl) (by kernel_rfl) (fun _ _ _ h => h) (Or.inl ⟨by rfl, fun w hSw => by (dsimp only at hSw; go_simp)⟩) (by assumption) ?_
  try simp only [Act.put, List.setIfInBounds_toArray, List.set_cons_zero, List.set_cons_succ]
  refine wpAnyH_take (i := 15) (v := .string y6) rfl (by kernel_rfl) (by kernel_rfl) (by kernel_rfl) (fun _ _ _ h => h) (Or.inl ⟨by rfl, fun w hSw => by (dsimp only at hSw; go_simp)⟩) (by assumption) ?_
  try simp only [Act.put, List.setIfInBounds_toArray, List.set_cons_zero, List.set_cons_succ]
  refine wpAnyH_ready (rs := [18]) (by kernel_rfl) (by simp) ?_
  refine AllReadyH.cons rfl (fun K hK => ?_) AllReadyH.nil
  go_simp
  go_wp2_with (go_at_call_of 36 (Value.int IntKind.i64 (R : Int)); (fail_if_success (guard_hyp g6)); refine (itoaR (R : Int) (by constructor <;> omega) xR HxRi _ ((hT1.on ((Below.refl B W1).grown G5 hB1 (by simp))).here)).mono ?_; rintro e w6 ⟨rfl, g6⟩; have B6 := B5.kept g6 (by simp); have G6 := gb_trans G5 g6; have k60 := B6.cell 0 (v := .int .i64 (S : Nat)) rfl; have k61 := B6.cell 1 (v := .int .i64 (I : Nat)) rfl; have k62 := B6.cell 2 (v := .slice (some ⟨q, o, none⟩) n c) rfl; have k63 := B6.cell 3 (v := .int .i64 (R : Nat)) rfl)
  refine hK.out _ _ ⟨k60, k61, k62, k63⟩ (fun hHeld => ?_)
  clear hK K
  try simp only [Act.put, List.setIfInBounds_toArray, List.set_cons_zero, List.set_cons_succ]
  refine wpAnyH_take (i := 19) (v := .string y7) rfl (by kernel_rfl) (by kernel_rfl) (by kernel_rfl) (fun _ _ _ h => h) (Or.inl ⟨by rfl, fun w hSw => by (dsimp only at hSw; go_simp)⟩) (by assumption) ?_
  try simp only [Act.put, List.setIfInBounds_toArray, List.set_cons_zero, List.set_cons_succ]
  refine wpAnyH_take (i := 20) (v := .string y8) rfl (by kernel_rfl) (by kernel_rfl) (by kernel_rfl) (fun _ _ _ h => h) (Or.inl ⟨by rfl, fun w hSw => by (dsimp only at hSw; go_simp)⟩) (by assumption) ?_
  try simp only [Act.put, List.setIfInBounds_toArray, List.set_cons_zero, List.set_cons_succ]
  obtain ⟨cp, Y, hcv0, M0, gY⟩ := hcv w6 G6
  have BY := B6.kept gY (by simp)
  have GY := gb_trans G6 gY
  have kY0 := BY.cell 0 (v := .int .i64 (S : Nat)) rfl
  have kY1 := BY.cell 1 (v := .int .i64 (I : Nat)) rfl
  have kY2 := BY.cell 2 (v := .slice (some ⟨q, o, none⟩) n c) rfl
  have kY3 := BY.cell 3 (v := .int .i64 (R : Nat)) rfl
  refine wpAnyH_ready (rs := [21]) (by kernel_rfl) (by simp) ?_
  refine AllReadyH.cons rfl (fun K hK => ?_) AllReadyH.nil
  go_simp
  refine hK.out _ _ ⟨kY0, kY1, kY2, kY3⟩ (fun hHeld => ?_)
  clear hK K
  try simp only [Act.put, List.setIfInBounds_toArray, List.set_cons_zero, List.set_cons_succ]
  refine wpAnyH_ready (rs := [22]) (by kernel_rfl) (by simp) ?_
  refine AllReadyH.cons rfl (fun K hK => ?_) AllReadyH.nil
  go_simp
  refine hK.out _ _ ⟨kY0, kY1, kY2, kY3⟩ (fun hHeld => ?_)
  clear hK K
  try simp only [Act.put, List.setIfInBounds_toArray, List.set_cons_zero, List.set_cons_succ]
  refine wpAnyH_done (by kernel_rfl) ?_ _
  go_wp2
  clear f1 f2 f3 f4 f5 f6 f7 f8 hcv0 hcv
  go_loopw [6, 5] (fun i b wr => ∃ j : Nat, j ≤ n ∧ i = .int .i64 j ∧ (H ++ nodesTx t j).length ≤ 4194304 ∧ Tm B W1 wr b (H ++ nodesTx t j)) (fun i _ _ => n - (RowKit.intOf i).toNat)
  case atStart => exact ⟨0, Nat.zero_le _, rfl, by simp [nodesTx]; omega, by simpa [nodesTx] using M0⟩
  case round =>
    obtain ⟨j, hj, rfl, hlj, Xj⟩ := hrel
    have hBj : B ≤ wr.heap.size := Nat.le_trans hB1 Xj.below.size
    have Bj := Xj.bo B1 (by decide)
    have b2 := Bj.cell 2 (v := .slice (some ⟨q, o, none⟩) n c) rfl
    obtain ⟨L, hL⟩ : ∃ L, H ++ nodesTx t j = L := ⟨_, rfl⟩
    have HL : Hid (H ++ nodesTx t j = L) := hL
    rw [hL] at Xj hlj
    clear hL
    obtain ⟨gb, cb, hb⟩ := Xj.form
    subst hb
    by_cases hle : L.length ≤ 1048576
    · have hle' : (L.length : Int) ≤ 1048576 := by omega
      by_cases hlt : j < n
      · have hlt' : (j : Int) < (n : Int) := by omega
        have HS : Hid (H ++ nodesTx t (j + 1) = L ++ nodeTx (t j)) := by unfold Hid; rw [← HL.out]; simp [nodesTx]
        have hTj := hT.lowK (HBe.out ▸ gb0.trans Xj.below)
        obtain ⟨x0, x1, x2⟩ := hTj j hlt
        have hok := ht.hok j hlt
        have hkf := Nok.kf hok (by omega)
        have hkn := Nok.kn hok (by omega)
        have hstj := hst j
        by_cases hk0 : (t j).kn = 0
        · have HK0 : Hid ((t j).kn = 0) := hk0
          have HN : Hid (nodeTx (t j) = [61, 32] ++ itoa ((t j).st : Int) ++ [10]) := by unfold Hid nodeTx; rw [if_pos hk0]
          rw [hk0] at x1
          have la := Lib.itoa_length_le ((t j).st : Int) (by omega) (by omega)
          obtain ⟨xs, Hxsi, _⟩ := named (itoa ((t j).st : Int))
          obtain ⟨x, Hx, zx⟩ := named ([61, 32] ++ itoa ((t j).st : Int))
          have f1 := addN (l := [61, 32]) rfl Hxsi Hx rfl (by simp; omega)
          have zx2 : x.size ≤ 30 := by rw [zx]; simp; omega
          obtain ⟨stj, hse⟩ : ∃ m : Nat, (t j).st = m := ⟨_, rfl⟩
          rw [hse] at x0 hstj Hxsi Hx HN la zx
          have Tj := (hT1.on Xj.below).here
          obtain ⟨m1, hm1⟩ : ∃ m : List UInt8, [61, 32] ++ itoa (stj : Int) = m := ⟨_, rfl⟩
          rw [hm1] at Hx HN zx
          have lm1 : m1.length ≤ 30 := by rw [← zx]; exact zx2
          clear hk0 hse hTj la zx hm1
          go_wp2_with (go_at_call 36; refine (itoaR (stj : Int) (by constructor <;> omega) xs Hxsi wr Tj).mono ?_; rintro e w4 ⟨rfl, g4⟩; refine Hid.out ?_)
          refine Lib.hid ?_
          have X4 := Xj.gb hBj g4
          have hB4 : B ≤ w4.heap.size := Nat.le_trans hBj g4.size
          have B4 := X4.bo B1 (by decide)
          have d2 := B4.cell 2 (v := .slice (some ⟨q, o, none⟩) n c) rfl
          go_wp2_with (at_builtin; refine wpList_append_stringM w4 rfl _ _ 44 9 rfl B 5 i8 under8S underSt HI8.out.1 HI8.out.2.1 HI8.out.2.2.1 HI8.out.2.2.2 _ _ rfl X4.own x rfl (by rw [byteCells_len, show x.size = m1.length by rw [← Hx.out]; exact size_mk m1]; unfold maxLen; omega) (by rw [byteCells_len, show x.size = m1.length by rw [← Hx.out]; exact size_mk m1]; omega) hB4 ?_; intro v5 w5 own' g'; have X5 : Tm B W1 w5 v5 (L ++ m1) := X4.str hB4 (Hx.out ▸ own') g'; clear own' g'; refine Hid.out ?_)
          refine Lib.hid ?_
          have hB5 : B ≤ w5.heap.size := Nat.le_trans hB1 X5.below.size
          have B5 := X5.bo B1 (by decide)
          have e2 := B5.cell 2 (v := .slice (some ⟨q, o, none⟩) n c) rfl
          obtain ⟨_, y1', _⟩ := (hT.lowK (HBe.out ▸ gb0.trans X5.below)) j hlt
          rw [HK0.out] at y1'
          have l5 : (L ++ m1).length ≤ 1048700 := by rw [List.length_append]; omega
          go_wp2
          refine wp_loop_rounds 1 ?_
          rw [rounds_succ]
          go_wp2_with (at_builtin; refine wpList_appendM _ rfl _ _ 44 rfl B 5 i8 under8S HI8.out.1 HI8.out.2.1 HI8.out.2.2.1 HI8.out.2.2.2 _ _ rfl (X5.own.alloc _) ⟨w5.heap.size, 0, none⟩ 1 1 [.int .u8 10] rfl rfl (new1 _ _ _) (by intro u hu; simp at hu; subst hu; rfl) (by rw [byteCells_len]; unfold maxLen; omega) (by rw [byteCells_len]; omega) (by simp; omega) ?_; intro v6 w6 own' g'; have X6 : Tm B W1 w6 v6 ((L ++ m1) ++ [10]) := X5.app (m := [10]) hB5 own' g'; clear own' g'; refine Hid.out ?_)
          refine Lib.hid ?_
          have HE : Hid (H ++ nodesTx t (j + 1) = L ++ m1 ++ [10]) := by unfold Hid; rw [HS.out, HN.out]; simp
          go_wp2
          go_roundw
          case rel => exact ⟨j + 1, by omega, by go_num, by rw [HE.out]; simp at l5 ⊢; omega, by rw [HE.out]; exact X6⟩
          case measure => simp [RowKit.intOf]; omega
        · have HN : Hid (nodeTx (t j) = kidsTx (t j).kf (t j).kn ++ [10]) := by unfold Hid nodeTx; rw [if_neg hk0]
          obtain ⟨a, ha⟩ := x2.some (by omega)
          obtain ⟨K, hK⟩ : ∃ K, (t j).kn = K := ⟨_, rfl⟩
          obtain ⟨kf, hkfe⟩ : ∃ kf, (t j).kf = kf := ⟨_, rfl⟩
          have HK : Hid ((t j).kp = some a ∧ (t j).kn = K ∧ (t j).kf = kf) := ⟨ha, hK, hkfe⟩
          rw [hK, hkfe] at HN
          rw [hK, hkfe] at hkf
          rw [hK] at hkn hk0
          rw [ha, hK] at x1
          have hkt := kidsTx_len kf hkf
          have HK5 : K ≤ 256 := by
            rcases hok with ⟨h0, _⟩ | ⟨_, h1, _, _⟩
            · omega
            · omega
          have hkz : ((K : Int) == 0) = false := by simp; omega
          clear x2 hTj ha hK hkfe hok
          go_wp2
          go_loopw [7, 5] (fun k b wq => ∃ m : Nat, m ≤ K ∧ k = .int .i64 m ∧ Tm B W1 wq b (L ++ kidsTx kf m)) (fun k _ _ => K - (RowKit.intOf k).toNat)
          case atStart => exact ⟨0, Nat.zero_le _, rfl, by simpa [kidsTx] using Xj⟩
          case round =>
            obtain ⟨m, hm, rfl, Xm⟩ := hrel
            have hBm : B ≤ wr.heap.size := Nat.le_trans hB1 Xm.below.size
            have Bm := Xm.bo B1 (by decide)
            have e2 := Bm.cell 2 (v := .slice (some ⟨q, o, none⟩) n c) rfl
            obtain ⟨_, y1, y2⟩ := (hT.lowK (HBe.out ▸ gb0.trans Xm.below)) j hlt
            obtain ⟨hk1, hk2, hk3⟩ := HK.out
            rw [hk1, hk2] at y1
            rw [hk1, hk2, hk3] at y2
            have hlm := hkt m hm
            have hLm : (L ++ kidsTx kf m).length ≤ 1060000 := by rw [List.length_append]; omega
            clear hk1 hk2 hk3 x1 b2
            by_cases hmK : m < K
            · have hmK' : (m : Int) < (K : Int) := by omega
              have kk := y2.at hmK
              have hkb := hkf m hmK
              have HM : Hid (L ++ kidsTx kf (m + 1) = L ++ kidsTx kf m ++ (if m = 0 then [] else [32]) ++ itoa (kf m)) := by unfold Hid; simp [kidsTx]
              have la := Lib.itoa_length_le (kf m) hkb.1 hkb.2
              obtain ⟨M, hMe⟩ : ∃ M, L ++ kidsTx kf m = M := ⟨_, rfl⟩
              rw [hMe] at Xm hLm HM
              obtain ⟨z, hz⟩ : ∃ z, kf m = z := ⟨_, rfl⟩
              rw [hz] at kk hkb HM la
              obtain ⟨x, Hxi, zx⟩ := named (itoa z)
              have Hx : Hid ((⟨(itoa z).toArray⟩ : ByteArray) = x) := Hxi
              obtain ⟨gm, cm, hvm⟩ := Xm.form
              subst hvm
              have hz' : Hid (kf m = z) := hz
              clear hMe hz y2 hlm
              by_cases hm0 : m = 0
              · subst hm0
                rw [Addr.add_zero'] at kk
                have Tm0 := (hT1.on Xm.below).here
                rw [if_pos rfl, List.append_nil] at HM
                go_wp2_with (go_at_call 36; refine (itoaR z hkb x Hxi wr Tm0).mono ?_; rintro e w4 ⟨rfl, g4⟩; refine Hid.out ?_)
                refine Lib.hid ?_
                have X4 := Xm.gb hBm g4
                have hB4 : B ≤ w4.heap.size := Nat.le_trans hBm g4.size
                go_wp2_with (at_builtin; refine wpList_append_stringM w4 rfl _ _ 44 9 rfl B 5 i8 under8S underSt HI8.out.1 HI8.out.2.1 HI8.out.2.2.1 HI8.out.2.2.2 _ _ rfl X4.own x rfl (by rw [byteCells_len, zx]; unfold maxLen; omega) (by rw [byteCells_len, zx]; omega) hB4 ?_; intro v5 w5 own' g'; have X5 : Tm B W1 w5 v5 (M ++ itoa z) := X4.str hB4 (Hx.out ▸ own') g'; clear own' g'; refine Hid.out ?_)
                refine Lib.hid ?_
                go_wp2
                go_roundw
                case rel => exact ⟨1, by omega, by go_num, by rw [HM.out]; exact X5⟩
                case measure => simp [RowKit.intOf]; omega
              · have hm1 : (0 : Int) < (m : Int) := by omega
                rw [if_neg hm0] at HM
                go_wp2_with (at_builtin; refine wpList_appendM _ rfl _ _ 44 rfl B 5 i8 under8S HI8.out.1 HI8.out.2.1 HI8.out.2.2.1 HI8.out.2.2.2 _ _ rfl (Xm.own.alloc _) ⟨wr.heap.size, 0, none⟩ 1 1 [.int .u8 32] rfl rfl (new1 _ _ _) (by intro u hu; simp at hu; subst hu; rfl) (by rw [byteCells_len]; unfold maxLen; omega) (by rw [byteCells_len]; omega) (by simp; omega) ?_; intro v4 w4 own' g'; have X4 : Tm B W1 w4 v4 (M ++ [32]) := Xm.app (m := [32]) hBm own' g'; clear own' g'; refine Hid.out ?_)
                refine Lib.hid ?_
                have hB4 : B ≤ w4.heap.size := Nat.le_trans hB1 X4.below.size
                have l4 : (M ++ [32]).length = M.length + 1 := by simp
                have Bn := X4.bo B1 (by decide)
                have c2 := Bn.cell 2 (v := .slice (some ⟨q, o, none⟩) n c) rfl
                obtain ⟨_, u1, u2⟩ := (hT.lowK (HBe.out ▸ gb0.trans X4.below)) j hlt
                obtain ⟨hk1, hk2, hk3⟩ := HK.out
                rw [hk1, hk2] at u1
                rw [hk1, hk2, hk3] at u2
                have kk2 := u2.at hmK
                rw [hz'.out] at kk2
                have Tm0 := (hT1.on X4.below).here
                clear hk1 hk2 hk3 u2
                go_wp2_with (go_at_call 36; refine (itoaR z hkb x Hxi w4 Tm0).mono ?_; rintro e w5 ⟨rfl, g5⟩; refine Hid.out ?_)
                refine Lib.hid ?_
                have X5 := X4.gb hB4 g5
                have hB5 : B ≤ w5.heap.size := Nat.le_trans hB4 g5.size
                go_wp2_with (at_builtin; refine wpList_append_stringM w5 rfl _ _ 44 9 rfl B 5 i8 under8S underSt HI8.out.1 HI8.out.2.1 HI8.out.2.2.1 HI8.out.2.2.2 _ _ rfl X5.own x rfl (by rw [byteCells_len, zx]; unfold maxLen; omega) (by rw [byteCells_len, zx]; omega) hB5 ?_; intro v6 w6 own' g'; have X6 : Tm B W1 w6 v6 ((M ++ [32]) ++ itoa z) := X5.str hB5 (Hx.out ▸ own') g'; clear own' g'; refine Hid.out ?_)
                refine Lib.hid ?_
                go_wp2
                go_roundw
                case rel => exact ⟨m + 1, by omega, by go_num, by rw [HM.out]; exact X6⟩
                case measure => simp [RowKit.intOf]; omega
            · have hmn : m = K := by omega
              subst hmn
              obtain ⟨M, hMe⟩ : ∃ M, L ++ kidsTx kf m = M := ⟨_, rfl⟩
              have HM : Hid (H ++ nodesTx t (j + 1) = M ++ [10]) := by unfold Hid; rw [HS.out, HN.out, ← hMe]; simp
              rw [hMe] at Xm hLm
              clear hMe y2
              go_wp2_with (at_builtin; refine wpList_appendM _ rfl _ _ 44 rfl B 5 i8 under8S HI8.out.1 HI8.out.2.1 HI8.out.2.2.1 HI8.out.2.2.2 _ _ rfl (Xm.own.alloc _) ⟨wr.heap.size, 0, none⟩ 1 1 [.int .u8 10] rfl rfl (new1 _ _ _) (by intro u hu; simp at hu; subst hu; rfl) (by rw [byteCells_len]; unfold maxLen; omega) (by rw [byteCells_len]; omega) (by simp; omega) ?_; intro v5 w5 own' g'; have X5 : Tm B W1 w5 v5 (M ++ [10]) := Xm.app (m := [10]) hBm own' g'; clear own' g'; refine Hid.out ?_)
              refine Lib.hid ?_
              go_wp2
              go_roundw
              case rel => exact ⟨j + 1, by omega, by go_num, by rw [HM.out]; simp; omega, by rw [HM.out]; exact X5⟩
              case measure => simp [RowKit.intOf]; omega
      · obtain rfl : j = n := by omega
        have hcv := run_convert_bytes_back (P := Tryd.prog) wr 44 9 5 ⟨gb, 0, none⟩ cb L under8S under8 underSt (fun i hi => by
          refine Xj.own.cells (g := gb) rfl i _ ?_
          simp [byteCells, hi])
        have HM : Hid (treeTx S I j R t = L) := by unfold Hid treeTx; rw [HH.out]; exact HL.out
        have GF : Hid (w.grownBy wr none) := below_gb (HBe.out ▸ gb0.trans Xj.below)
        have hz : ¬ ((1048576 : Int) < (L.length : Int)) := by omega
        go_wp2
        go_ret2
        exact ⟨by unfold prT prE; rw [HM.out, if_pos hle, if_pos hle]; rfl, GF.out⟩
    · have hle' : ¬ ((L.length : Int) ≤ 1048576) := by omega
      have hz : (1048576 : Int) < (L.length : Int) := by omega
      have HG : Hid (¬ (treeTx S I n R t).length ≤ 1048576) := by
        unfold Hid
        have := nodesTx_le t hj
        have e := congrArg List.length HL.out
        rw [List.length_append] at e
        unfold treeTx
        rw [HH.out, List.length_append]
        omega
      have GF : Hid (w.grownBy wr none) := below_gb (HBe.out ▸ gb0.trans Xj.below)
      by_cases hlt : j < n
      · have hlt' : (j : Int) < (n : Int) := by omega
        clear hle
        go_wp2
        go_ret2
        exact ⟨by unfold prT prE; rw [if_neg HG.out, if_neg HG.out]; rfl, GF.out⟩
      · obtain rfl : j = n := by omega
        clear hle
        go_wp2
        go_ret2
        exact ⟨by unfold prT prE; rw [if_neg HG.out, if_neg HG.out]; rfl, GF.out⟩

theorem rprintG (S I R : Int) (sp : Option Addr) (q o n c : Nat) (t : Nat → TN) (hsp : 0 < n → sp = some ⟨q, o, none⟩) (hst : ∀ j, (t j).st < 256) (l : List UInt8) (E : Int) (hE : PrE S I n R t l E) (w : World) (hT : Tn w q o n t) (htab : Tab w) :
    Calls Tryd.prog 12 #[.agg #[.int .i64 S, .int .i64 I, .slice sp n c, .int .i64 R]] w fun e w' => e = .returned (.tuple #[.string ⟨l.toArray⟩, .int .i64 E]) ∧ w.grownBy w' none := by
  rcases hE with ⟨h, rfl, rfl⟩ | ⟨h, rfl, rfl⟩
  · exact rprintN S I R sp q o n c t hsp hst h w hT
  · have ht := h.tok hst
    have hm := maB_is h.1
    have hr0 := h.2.2.1
    have hr1 := h.2.2.2.1
    obtain rfl := hsp (by omega)
    obtain ⟨S', rfl⟩ := Int.eq_ofNat_of_zero_le (show 0 ≤ S by omega)
    obtain ⟨I', rfl⟩ := Int.eq_ofNat_of_zero_le (show 0 ≤ I by omega)
    obtain ⟨R', rfl⟩ := Int.eq_ofNat_of_zero_le hr0
    exact rprintY S' I' R' q o n c t _ ht h hst w hT htab
end Go.Proofs.YteaionmjbkildabDoor
