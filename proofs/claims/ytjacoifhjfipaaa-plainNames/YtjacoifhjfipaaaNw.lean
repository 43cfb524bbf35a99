/- The walk of PlainNames. -/
import Derived.Test.YtjacoifhjfipaaaNl
import Derived.Test.YtjacoifhjfipaaaAl
import Derived.Deep.RegionHeld2
namespace Go.Proofs.Ytjacoifhjfipaaa
open Go.RowKit Ln
set_option linter.unusedVariables false
set_option linter.unusedSimpArgs false
set_option maxRecDepth 100000

theorem wr_three (w : World) : Calls Try.prog 11 #[.slice (some ⟨w.heap.size, 0, none⟩) 3 3, .agg #[.int .i64 0, .int .i64 0, .int .i64 1, .int .i64 1]] (w.alloc (.cells #[.int .i64 0, .int .i64 0, .int .u8 1, .int .i64 0, .int .i64 0, .int .u8 2, .int .i64 1099511627777, .int .i64 0, .int .u8 1] 33)) fun e w' => ∃ S : ByteArray, e = .returned (.tuple #[.string S, .int .i64 5]) ∧ w.grownBy w' none := by
  have h : Ce (w.alloc (.cells #[.int .i64 0, .int .i64 0, .int .u8 1, .int .i64 0, .int .i64 0, .int .u8 2, .int .i64 1099511627777, .int .i64 0, .int .u8 1] 33)) (some ⟨w.heap.size, 0, none⟩) [(0, 0, 1), (0, 0, 2), (1099511627777, 0, 1)] := ce_bo (Bo.new _ _ _) rfl
  refine (writeC (some ⟨w.heap.size, 0, none⟩) 3 [(0, 0, 1), (0, 0, 2), (1099511627777, 0, 1)] (by decide) (fun c hc => ?_) 0 0 1 1 _ h).mono ?_
  · simp at hc
    rcases hc with rfl | rfl | rfl <;> (unfold CxOk PtOk; decide)
  rintro e w' ⟨rfl, g⟩
  have h0 : lkE [(0, 0, 1), (0, 0, 2), (1099511627777, 0, 1)] 0 0 1 1 = 5 := by decide
  unfold wrE
  rw [h0, if_neg (by decide)]
  exact ⟨_, rfl, gb_trans (World.grownBy_alloc _ _ _) g⟩
theorem dl_ok {k : Nat} (hk : k = 360000) : ∀ c ∈ dl k, CxOk c := fun c hc => by
  obtain ⟨q, hq, rfl⟩ := dl_mem hc
  unfold CxOk PtOk
  refine ⟨⟨⟨?_, ?_⟩, ⟨?_, ?_⟩⟩, ?_⟩
  · show -9223372036854775808 ≤ ((q % 600 : Nat) : Int); omega
  · show ((q % 600 : Nat) : Int) ≤ 9223372036854775807; omega
  · show -9223372036854775808 ≤ ((q / 600 : Nat) : Int); omega
  · show ((q / 600 : Nat) : Int) ≤ 9223372036854775807; omega
  · show (2 : Nat) < 256; decide
theorem wr_dn (n : Nat) {V : Int} {k : Nat} (hV : V = (n : Int)) (hn : n ≤ 600) (hk : k = 360000) (h3 : 1048576 < 600 * (n * 3 + 1)) (sp : Option Addr) (cap : Nat) (w : World) (h : Ce w sp (dl k)) : Calls Try.prog 11 #[.slice sp (dl k).length cap, .agg #[.int .i64 0, .int .i64 0, .int .i64 V, .int .i64 600]] w fun e w' => ∃ S : ByteArray, e = .returned (.tuple #[.string S, .int .i64 3]) ∧ w.grownBy w' none := by
  subst hV
  have h2 := wr_dots hk hn
  refine (writeC sp cap (dl k) (by rw [dl_len]; omega) (dl_ok hk) 0 0 (n : Int) 600 w h).mono ?_
  rintro e w' ⟨rfl, g⟩
  rw [h2.1, if_pos h3]
  exact ⟨_, rfl, g⟩
theorem wr_dy (n : Nat) {V : Int} {k : Nat} (hV : V = (n : Int)) (hn : n ≤ 600) (hk : k = 360000) (h3 : 600 * (n * 3 + 1) ≤ 1048576) (sp : Option Addr) (cap : Nat) (w : World) (h : Ce w sp (dl k)) : Calls Try.prog 11 #[.slice sp (dl k).length cap, .agg #[.int .i64 0, .int .i64 0, .int .i64 V, .int .i64 600]] w fun e w' => ∃ S : ByteArray, e = .returned (.tuple #[.string S, .int .i64 0]) ∧ (S.size : Int) = ((600 * (n * 3 + 1) : Nat) : Int) ∧ w.grownBy w' none := by
  subst hV
  have h2 := wr_dots hk hn
  refine (writeC sp cap (dl k) (by rw [dl_len]; omega) (dl_ok hk) 0 0 (n : Int) 600 w h).mono ?_
  rintro e w' ⟨rfl, g⟩
  rw [h2.1, if_neg (by omega)]
  exact ⟨_, rfl, by rw [h2.2 (by omega)], g⟩
set_option maxHeartbeats 8000000 in
theorem names_walk (w : World) : Calls Try.prog 3 #[] w fun e w' => e = .returned (.bool true) ∧ Below w.heap.size w w' := by
  obtain ⟨i0, hi⟩ := info_parts infoCx
  have HI : Hid (Try.prog.info? 33 = some i0 ∧ i0.zero = some (.agg #[.int .i64 0, .int .i64 0, .int .u8 0]) ∧ i0.size = 3 ∧ i0.bytes = 24) := hi
  clear hi
  obtain ⟨mc, hmk, hmr⟩ : ∃ mc : Array Value, (∀ w, (Instr.makeSlice 23 (.int .i64 1048577) (.int .i64 1048577)).run Try.prog w = .ok (.slice (some ⟨w.heap.size, 0, none⟩) 1048577 1048577) (w.alloc (.cells mc 5))) ∧ ∀ w : World, (w.alloc (.cells mc 5)).rowIs w.heap.size 5 1048577 (dtV 0) :=
    ⟨madeCells #[.int .u8 0] 1048577, fun w => run_make_row' (P := Try.prog) 23 5 (.int .u8 0) 1 under8N info8N rfl .i64 .i64 1048577 (by decide) (by decide) w, fun w => World.rowIs_made w (.int .u8 0) 1048577 5⟩
  have HMR : Hid (∀ w : World, (w.alloc (.cells mc 5)).rowIs w.heap.size 5 1048577 (dtV 0)) := hmr
  clear hmr
  go_enter Try.func3, Try.ntmps3
  go_wp2_with (first
    | (go_at_call 9; refine (aliveC w).mono ?_; rintro e w1 ⟨rfl, g1⟩)
    | go_in)
  obtain ⟨W8, hW8⟩ : ∃ W8, w1.alloc (.cells mc 5) = W8 := ⟨_, rfl⟩
  have R8 : Hid (W8.rowIs w1.heap.size 5 1048577 (dtV 0)) := by rw [← hW8]; exact HMR.out w1
  have g8 : Hid (w1.grownBy W8 none) := by rw [← hW8]; exact World.grownBy_alloc _ _ _
  obtain ⟨LB, hLB⟩ : ∃ LB, w1.heap.size = LB := ⟨_, rfl⟩
  have HLB : Hid (w1.heap.size = LB) := hLB
  rw [hLB] at R8
  rw [hLB, hW8]
  clear hLB hW8 hmk
  go_loopw [3] (fun vk wr => ∃ k : Nat, k ≤ 1048577 ∧ vk = .int .i64 (k : Nat) ∧ Hid (wr.rowIs LB 5 1048577 (dtV k)) ∧ Hid (w1.grownBy wr none)) (fun vk _ => 1048577 - (intOf vk).toNat)
  case atStart => exact ⟨0, Nat.zero_le _, rfl, R8, g8⟩
  case round =>
    obtain ⟨k, hk, rfl, HR, HG⟩ := hrel
    by_cases hlt : k < 1048577
    · have hlt' : (k : Int) < 1048577 := by omega
      have hk0 : (0 : Int) ≤ (k : Int) := Int.natCast_nonneg _
      have hwk : IntKind.i64.wrap ((k : Int) + 1) = (k : Int) + 1 := wrap_q1 (by omega)
      have y5 := HR.out.frozen k
      have y6 := HR.out.cell hlt
      have HR1 : Hid ((wr.setCell ⟨LB, k, none⟩ (.int .u8 46)).rowIs LB 5 1048577 (dtV (k + 1))) := (HR.out.set k (.int .u8 46)).congr (fun q _ => dtV_step k q)
      have HG1 : Hid (w1.grownBy (wr.setCell ⟨LB, k, none⟩ (.int .u8 46)) none) := gb_new HG.out (a := ⟨LB, k, none⟩) (Nat.le_of_eq HLB.out) _
      obtain ⟨V, hV⟩ : ∃ V, wr.setCell ⟨LB, k, none⟩ (.int .u8 46) = V := ⟨_, rfl⟩
      rw [hV] at HR1 HG1
      go_wp2
      try rw [hV]
      go_roundw
      case rel => exact ⟨k + 1, hlt, by go_num, HR1, HG1⟩
      case measure => simp [intOf]; omega
    · have hkn : k = 1048577 := Nat.le_antisymm hk (Nat.not_lt.1 hlt)
      subst hkn
      clear hk hlt
      obtain ⟨D1, hd1, hc1⟩ := dots_ex (n := 1048576) rfl
      obtain ⟨D2, hd2, hc2⟩ := dots_ex2 (n := 1048577) rfl
      have r1 := readAll D1
      have r2 := readAll D2
      unfold LeftR at r1 r2
      rw [hd1.1, hd1.2.1, hd1.2.2] at r1
      rw [hd2.1, hd2.2.1, hd2.2.2] at r2
      have R1 : Hid (∀ w, _) := r1
      have R2 : Hid (∀ w, _) := r2
      have hk1 := hc1 1048577 wr LB HR.out
      have HC2 : Hid (∀ (cap : Nat) (W : World) (B : Nat), W.rowIs B 5 1048577 (dtV 1048577) → (convert 23 9 (.slice (some ⟨B, 0, none⟩) 1048577 cap)).run Try.prog W = .ok (.string D2) W) := hc2
      clear r1 r2 hd1 hd2 hc1 hc2
      go_wp2_with (first
        | (go_at_call 10; (fail_if_success (guard_hyp g2)); refine (R1.out wr).mono ?_; rintro e w2 ⟨v2, rfl, o2, g2⟩; obtain ⟨sp2, cp2, rfl, _, _⟩ := ce_of o2; have hk2 := HC2.out 1048577 w2 LB (rowIs_kept HR.out g2 (by simp)); have G2 := gb_trans HG.out g2; clear hk1 o2)
        | (go_at_call 10; guard_hyp g2; (fail_if_success (guard_hyp g3)); refine (R2.out w2).mono ?_; rintro e w3 ⟨v3, rfl, o3, g3⟩; obtain ⟨sp3, cp3, rfl, _, _⟩ := ce_of o3; have G3 := gb_trans G2 g3; clear hk2 o3)
        | (go_at_call 11; guard_hyp g3; (fail_if_success (guard_hyp g4)); refine (wr_ok 1023 1024 rfl rfl (by decide) (by decide) (by decide) w3).mono ?_; rintro e w4 ⟨S4, rfl, z4, g4⟩; have G4 := gb_trans G3 g4; have y4 : (S4.size : Int) = 1048576 := z4; clear z4)
        | (go_at_call 11; guard_hyp g4; (fail_if_success (guard_hyp g5)); refine (wr_no 1024 1024 rfl rfl (by decide) (by decide) (by decide) w4).mono ?_; rintro e w5 ⟨S5, rfl, g5⟩; have G5 := gb_trans G4 g5)
        | (go_at_call 11; guard_hyp g5; (fail_if_success (guard_hyp g6)); refine (wr_ok 65536 15 rfl rfl (by decide) (by decide) (by decide) w5).mono ?_; rintro e w6 ⟨S6, rfl, z6, g6⟩; have G6 := gb_trans G5 g6; have y6 : (S6.size : Int) = 983055 := z6; clear z6)
        | (go_at_call 11; guard_hyp g6; (fail_if_success (guard_hyp g7)); refine (wr_side (X := 0) (V := 65537) (H := 0) (by decide) w6).mono ?_; rintro e w7 ⟨S7, rfl, g7⟩; have G7 := gb_trans G6 g7)
        | (go_at_call 12; guard_hyp g7; (fail_if_success (guard_hyp g8')); refine (hv_ok 1023 2048 rfl rfl (by decide) (by decide) (by decide) w7).mono ?_; rintro e w8 ⟨S8, rfl, z8, g8'⟩; have G8 := gb_trans G7 g8'; have y8 : (S8.size : Int) = 1048576 := z8; clear z8)
        | (go_at_call 12; guard_hyp g8'; (fail_if_success (guard_hyp g9)); refine (hv_no 1023 2049 rfl rfl (by decide) (by decide) (by decide) w8).mono ?_; rintro e w9 ⟨S9, rfl, g9⟩; have G9 := gb_trans G8 g9)
        | (go_at_call 11; guard_hyp g9; (fail_if_success (guard_hyp g10)); refine (wr_side (X := 1099511627777) (V := -1) (H := 0) (by decide) w9).mono ?_; rintro e w10 ⟨S10, rfl, g10⟩; have G10 := gb_trans G9 g10)
        | (go_at_call 11; guard_hyp g10; (fail_if_success (guard_hyp g11)); refine (wr_three w10).mono ?_; rintro e w11 ⟨S11, rfl, g11⟩; have G11 := gb_trans G10 g11))
      obtain ⟨B0, hB0⟩ : ∃ B0, w11.heap.size = B0 := ⟨_, rfl⟩
      have HB0 : Hid (w11.heap.size = B0) := hB0
      have hg0 : Hid (w11.grownBy w11 none) := World.grownBy.refl _ _
      have HS4 : Hid ((S4.size : Int) = 1048576 ∧ (S6.size : Int) = 983055 ∧ (S8.size : Int) = 1048576) := ⟨y4, y6, y8⟩
      clear hB0 y4 y6 y8 g2 g3 g4 g5 g6 g7 g8' g9 g10 g11 G2 G3 G4 G5 G6 G7 G8 G9 G10 HR HG R1 R2 HC2
      go_loopw [26, 27] (fun v vk wr => ∃ k : Nat, k ≤ 360000 ∧ vk = .int .i64 (k : Nat) ∧ Own wr B0 v (dl k) ∧ Hid (w11.grownBy wr none)) (fun _ vk _ => 360000 - (intOf vk).toNat)
      case atStart => exact ⟨0, Nat.zero_le _, rfl, World.ownsRow_nil _ _ _ _, hg0⟩
      case round =>
        obtain ⟨k, hk, rfl, own, HG⟩ := hrel
        by_cases hlt : k < 360000
        · have hlt' : (k : Int) < 360000 := by omega
          obtain ⟨sp9, cp9, rfl, _, _⟩ := ce_of own
          have hll := dl_len k
          obtain ⟨a, ha⟩ : ∃ a, k % 600 = a := ⟨_, rfl⟩
          obtain ⟨b, hb⟩ : ∃ b, k / 600 = b := ⟨_, rfl⟩
          have m1 : ((k : Int)).tmod 600 = (a : Int) := by rw [Int.tmod_eq_emod_of_nonneg (by omega)]; omega
          have m2 : ((k : Int)).tdiv 600 = (b : Int) := by rw [Int.tdiv_eq_ediv_of_nonneg (by omega)]; omega
          have m3 : wrap64 (b : Int) = (b : Int) := by unfold wrap64; omega
          have m4 : wrap64 (a : Int) = (a : Int) := by unfold wrap64; omega
          have hwk : IntKind.i64.wrap ((k : Int) + 1) = (k : Int) + 1 := wrap_q1 (by omega)
          have HN : Hid (dl (k + 1) = dl k ++ [((a : Int), (b : Int), 2)]) := by unfold Hid; rw [dl_succ, ha, hb]
          have HLK : Hid (k < 360000 ∧ (dl k).length = k) := ⟨hlt, hll⟩
          clear ha hb hll hk
          go_wp2_with (at_builtin; refine wpList_append_own _ rfl _ _ 24 rfl B0 33 i0 (.agg #[.int .i64 0, .int .i64 0, .int .u8 0]) 3 24 underCS HI.out.1 HI.out.2.1 HI.out.2.2.1 HI.out.2.2.2 rfl (by decide) _ _ _ rfl (own.alloc _) ⟨_, 0, none⟩ 1 1 [.int .i64 (a : Nat), .int .i64 (b : Nat), .int .u8 2] rfl rfl (new3 _ _ _ _ _) ?_ ?_ ?_ ?_ ?_; rotate_right; intro v4 w4 hown4 hgrow4 hnil4)
          · have HA := own.alloc (.cells #[.int .i64 (a : Nat), .int .i64 (b : Nat), .int .u8 2] 33)
            have G4 : Hid (w11.grownBy w4 none) := gb_row (gb_alloc HG.out (.cells #[.int .i64 (a : Nat), .int .i64 (b : Nat), .int .u8 2] 33)) hgrow4 (fun i e => by have h1 := (HA.lt i e).1; have h2 := HB0.out; rw [h2]; exact h1)
            have own4 : Own w4 B0 v4 (dl (k + 1)) := by rw [HN.out]; unfold Own; rw [ccs_snoc, List.length_append]; exact hown4
            clear hown4 hgrow4
            go_wp2
            go_roundw
            case rel => exact ⟨k + 1, HLK.out.1, by go_num, own4, G4⟩
            case measure => simp [intOf]; have := HLK.out; omega
          · intro u hu
            simp at hu
            rcases hu with rfl | rfl | rfl <;> rfl
          · have := HLK.out; unfold maxLen; omega
          · have := HLK.out; omega
          · have h1 := HG.out.size
            have h2 := HB0.out
            exact Nat.le_trans (by omega) (World.grownBy_alloc wr _ none).size
        · have hkn : k = 360000 := Nat.le_antisymm hk (Nat.not_lt.1 hlt)
          have HK : Hid (k = 360000) := hkn
          have hlt' : ¬ (k : Int) < 360000 := by omega
          obtain ⟨sp9, cp9, rfl, ce9, _⟩ := ce_of own
          have H9 : Hid (Ce wr sp9 (dl k)) := ce9
          have x6 := HS4.out.2.1
          have x8 := HS4.out.2.2
          clear hkn hlt hk own ce9
          go_wp2_with (first
            | (go_at_call 11; (fail_if_success (guard_hyp g12)); refine (wr_dn 600 rfl (by decide) HK.out (by decide) sp9 cp9 wr H9.out).mono ?_; rintro e w12 ⟨S12, rfl, g12⟩; have G12 := gb_trans HG.out g12)
            | (go_at_call 11; guard_hyp g12; (fail_if_success (guard_hyp g13)); refine (wr_dy 582 rfl (by decide) HK.out (by decide) sp9 cp9 w12 (H9.out.kept g12 (by simp))).mono ?_; rintro e w13 ⟨S13, rfl, z13, g13⟩; have G13 := gb_trans G12 g13; have y13 : (S13.size : Int) = 1048200 := z13; clear z13))
          go_ret
          exact ⟨rfl, gb_below (gb_trans g1 (gb_trans G11 G13))⟩
end Go.Proofs.Ytjacoifhjfipaaa
