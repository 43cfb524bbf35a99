/- What small of the statements answers; the walk of LifeForm. -/
import Derived.Test.YtnedofaobhmloaaDoorLq
import Derived.Test.YtnedofaobhmloaaDoorL10
import Derived.Test.YtnedofaobhmloaaDoorWb
import Derived.Handy
import Derived.Laws.IdiomStrings
namespace Go.Proofs.YtnedofaobhmloaaDoor
open Go.RowKit
set_option linter.unusedVariables false
set_option linter.unusedSimpArgs false
set_option maxRecDepth 100000

theorem uBSm : Tryd.prog.underlying 23 = some (.slice 5) := by kernel_rfl
theorem u5m : Tryd.prog.underlying 5 = some (.int .u8) := by kernel_rfl
theorem u9m : Tryd.prog.underlying 9 = some .string := by kernel_rfl
/-- The first k bytes with great letters made small. -/
def sml (s : ByteArray) : Nat → List UInt8
  | 0 => []
  | k + 1 => sml s k ++ [UInt8.ofNat (Lf.low (Sc.bt s k))]
theorem sml_len (s : ByteArray) : ∀ k, (sml s k).length = k
  | 0 => rfl
  | k + 1 => by unfold sml; rw [List.length_append, sml_len s k]; rfl
def smB (s : ByteArray) : ByteArray := ⟨(sml s s.size).toArray⟩
theorem low_lt {c : Nat} (h : c < 256) : Lf.low c < 256 := by unfold Lf.low; split <;> omega
theorem sml_at (s : ByteArray) : ∀ (k j : Nat), j < k → (sml s k)[j]? = some (UInt8.ofNat (Lf.low (Sc.bt s j)))
  | 0, j, h => by omega
  | k + 1, j, h => by
    unfold sml
    have hl := sml_len s k
    by_cases e : j = k
    · subst e
      rw [List.getElem?_append_right (by omega), hl, Nat.sub_self]
      rfl
    · rw [List.getElem?_append_left (by omega)]
      exact sml_at s k j (by omega)
theorem smB_size (s : ByteArray) : (smB s).size = s.size := by
  show (sml s s.size).toArray.size = _
  rw [List.size_toArray, sml_len]
theorem smB_al (s : ByteArray) : Lf.Al s (smB s) := by
  refine ⟨smB_size s, fun j => ?_⟩
  by_cases h : j < s.size
  · have h1 := sml_at s s.size j h
    have h2 : (smB s).data.toList[j]? = some (UInt8.ofNat (Lf.low (Sc.bt s j))) := by unfold smB; simpa using h1
    rw [Sc.bt_list h2]
    exact UInt8.toNat_ofNat_of_lt' (low_lt (Sc.bt_lt s j))
  · rw [Sc.bt_off h, Sc.bt_off (by rw [smB_size]; exact h)]
    rfl
theorem gb_rowJ {a b c : World} {r : Option Nat} (h : a.grownBy b none) (k : b.grownBy c r) (hr : ∀ i, r = some i → a.heap.size ≤ i) : a.grownBy c none :=
  ⟨k.os.trans h.os, k.tape.trans h.tape, k.output.trans h.output, Nat.le_trans h.size k.size, fun i hi hne => (k.block i (Nat.lt_of_lt_of_le hi h.size) (fun e => by have := hr i e.symm; omega)).trans (h.block i hi hne)⟩
theorem sml_step {s : ByteArray} {k : Nat} (hk : k < s.size) {c : Int} (h : ((Lf.low (Sc.bt s k) : Nat) : Int) = c) : Lib.byteCells (sml s (k + 1)) = Lib.byteCells (sml s k) ++ [.int .u8 c] := by
  rw [show sml s (k + 1) = sml s k ++ [UInt8.ofNat (Lf.low (Sc.bt s k))] from rfl]
  unfold Lib.byteCells
  rw [List.map_append, ← h]
  have : (UInt8.ofNat (Lf.low (Sc.bt s k))).toNat = Lf.low (Sc.bt s k) := UInt8.toNat_ofNat_of_lt' (low_lt (Sc.bt_lt s k))
  simp [this]
set_option maxHeartbeats 4000000 in
theorem smallC (s : ByteArray) (hs : s.size ≤ 140737488355328) (w : World) : Calls Tryd.prog 21 #[.string s] w fun e w' => e = .returned (.string (smB s)) ∧ w.grownBy w' none := by
  obtain ⟨i0, hi, hz0, hz1, hz2⟩ := infoU8
  go_enter Tryd.func21, Tryd.ntmps21
  go_wp2
  go_loopw [3, 4] (fun v i wr => ∃ k : Nat, k ≤ s.size ∧ i = .int .i64 k ∧ wr.ownsRow w.heap.size 5 1 v k (Lib.byteCells (sml s k)) ∧ w.grownBy wr none) (fun _ i _ => s.size - (intOf i).toNat)
  case atStart => exact ⟨0, by omega, rfl, World.ownsRow_nil _ _ _ _, World.grownBy.refl _ _⟩
  case round =>
    obtain ⟨k, hk, rfl, hown, hG⟩ := hrel
    by_cases hk' : k < s.size
    · have hl' : (k : Int) < (s.size : Int) := by omega
      have hbk := Sc.bt_at hk'
      have hb256 := Sc.bt_lt s k
      have hlen : (Lib.byteCells (sml s k)).length = k := by unfold Lib.byteCells; rw [List.length_map, sml_len]
      obtain ⟨sp, cap, hvf⟩ : ∃ sp cap, u3 = .slice sp k cap := by
        rcases hown.2 with ⟨h1, h2⟩ | ⟨g, cap, cur, h1, _⟩
        · exact ⟨none, 0, by rw [h1, h2]⟩
        · exact ⟨_, _, h1⟩
      subst hvf
      by_cases hgr : 65 ≤ Sc.bt s k ∧ Sc.bt s k ≤ 90
      · have d1 : (65 : Int) ≤ ((Sc.bt s k : Nat) : Int) := by omega
        have d2 : ((Sc.bt s k : Nat) : Int) ≤ 90 := by omega
        have dw : IntKind.u8.wrap (((Sc.bt s k : Nat) : Int) + 32) = ((Sc.bt s k : Nat) : Int) + 32 := by rw [IntKind.wrap_u8]; omega
        have HL : Hid (((Lf.low (Sc.bt s k) : Nat) : Int) = ((Sc.bt s k : Nat) : Int) + 32) := by unfold Hid Lf.low; rw [if_pos hgr]; rfl
        clear hgr
        go_wp2_with (at_builtin; refine wpList_append_own _ rfl _ _ 23 rfl w.heap.size 5 i0 (.int .u8 0) 1 1 tBs hi hz0 hz1 hz2 rfl (by decide) _ _ _ rfl (hown.alloc _) ⟨wr.heap.size, 0, none⟩ 1 1 [.int .u8 (((Sc.bt s k : Nat) : Int) + 32)] rfl rfl ?c1a ?c2a ?c3a ?c4a ?c5a ?_)
        try (case c1a => (intro j u hj; match j, hj with | 0, hj => (simp at hj; subst hj; simp [Addr.add])))
        case c2a => first | rfl | (intro u hu; simp at hu; subst hu; rfl)
        case c3a => unfold maxLen; omega
        case c4a => omega
        case c5a => have := hG.size; first | omega | (simp; omega)
        intro v' w2 hown' hgrow _
        have G2 : w.grownBy w2 none := gb_rowJ (gb_alloc hG _) hgrow (fun q hq => (hown.lt q hq).1)
        have hown2 : w2.ownsRow w.heap.size 5 1 v' (k + 1) (Lib.byteCells (sml s (k + 1))) := by
          rw [sml_step hk' HL.out]; exact hown'
        clear hown'
        go_wp2
        exact ⟨⟨k + 1, by omega, by simp, hown2, G2⟩, by simp [intOf]; omega⟩
      · have HL : Hid (((Lf.low (Sc.bt s k) : Nat) : Int) = ((Sc.bt s k : Nat) : Int)) := by unfold Hid Lf.low; rw [if_neg hgr]
        by_cases d0 : 65 ≤ Sc.bt s k
        · have d1 : (65 : Int) ≤ ((Sc.bt s k : Nat) : Int) := by omega
          have d2 : ¬ ((Sc.bt s k : Nat) : Int) ≤ 90 := by omega
          clear hgr d0
          go_wp2_with (at_builtin; refine wpList_append_own _ rfl _ _ 23 rfl w.heap.size 5 i0 (.int .u8 0) 1 1 tBs hi hz0 hz1 hz2 rfl (by decide) _ _ _ rfl (hown.alloc _) ⟨wr.heap.size, 0, none⟩ 1 1 [.int .u8 ((Sc.bt s k : Nat) : Int)] rfl rfl ?c1b ?c2b ?c3b ?c4b ?c5b ?_)
          try (case c1b => (intro j u hj; match j, hj with | 0, hj => (simp at hj; subst hj; simp [Addr.add])))
          case c2b => first | rfl | (intro u hu; simp at hu; subst hu; rfl)
          case c3b => unfold maxLen; omega
          case c4b => omega
          case c5b => have := hG.size; first | omega | (simp; omega)
          intro v' w2 hown' hgrow _
          have G2 : w.grownBy w2 none := gb_rowJ (gb_alloc hG _) hgrow (fun q hq => (hown.lt q hq).1)
          have hown2 : w2.ownsRow w.heap.size 5 1 v' (k + 1) (Lib.byteCells (sml s (k + 1))) := by
            rw [sml_step hk' HL.out]; exact hown'
          clear hown'
          go_wp2
          exact ⟨⟨k + 1, by omega, by simp, hown2, G2⟩, by simp [intOf]; omega⟩
        · have d1 : ¬ (65 : Int) ≤ ((Sc.bt s k : Nat) : Int) := by omega
          clear hgr d0
          go_wp2_with (at_builtin; refine wpList_append_own _ rfl _ _ 23 rfl w.heap.size 5 i0 (.int .u8 0) 1 1 tBs hi hz0 hz1 hz2 rfl (by decide) _ _ _ rfl (hown.alloc _) ⟨wr.heap.size, 0, none⟩ 1 1 [.int .u8 ((Sc.bt s k : Nat) : Int)] rfl rfl ?c1c ?c2c ?c3c ?c4c ?c5c ?_)
          try (case c1c => (intro j u hj; match j, hj with | 0, hj => (simp at hj; subst hj; simp [Addr.add])))
          case c2c => first | rfl | (intro u hu; simp at hu; subst hu; rfl)
          case c3c => unfold maxLen; omega
          case c4c => omega
          case c5c => have := hG.size; first | omega | (simp; omega)
          intro v' w2 hown' hgrow _
          have G2 : w.grownBy w2 none := gb_rowJ (gb_alloc hG _) hgrow (fun q hq => (hown.lt q hq).1)
          have hown2 : w2.ownsRow w.heap.size 5 1 v' (k + 1) (Lib.byteCells (sml s (k + 1))) := by
            rw [sml_step hk' HL.out]; exact hown'
          clear hown'
          go_wp2
          exact ⟨⟨k + 1, by omega, by simp, hown2, G2⟩, by simp [intOf]; omega⟩
    · obtain rfl : k = s.size := by omega
      have hcv : (convert 23 9 u3).run Tryd.prog wr = .ok (.string (smB s)) wr := by
        have hl := sml_len s s.size
        rcases hown.2 with ⟨h1, h2⟩ | ⟨g, cap, cur, h1, _⟩
        · rw [h1, run_convert_bytes_nil _ 23 5 uBSm u5m 0 0 9 u9m]
          have : smB s = ByteArray.empty := by unfold smB; rw [h2]; rfl
          rw [this]
        · have hc := hown.cells (g := g) (by rw [h1]; rfl)
          have h := run_convert_bytes_back (P := Tryd.prog) wr 23 9 5 ⟨g, 0, none⟩ cap (sml s s.size) uBSm u5m u9m (fun j hj => hc j _ (by
            unfold Lib.byteCells
            rw [List.getElem?_map, List.getElem?_eq_getElem hj]
            rfl))
          rw [hl] at h
          rw [h1]
          exact h
      go_wp2
      go_ret
      exact ⟨rfl, hG⟩

set_option maxHeartbeats 2000000 in
theorem form_bad (s X : ByteArray) (a er : Nat) (he : ¬ ((er : Nat) : Int) = 0) (ha : (a : Int) ≤ (s.size : Int)) (hp : ∀ w, Hid (Hv w) → Calls Tryd.prog 10 #[.string s] w fun e w' => e = .returned (.tuple #[.agg #[.int .u8 0, .int .u16 0, .int .u16 0], .int .i64 a, .int .i64 er]) ∧ w.grownBy w' none) (hp2 : ∀ w, Hid (Hv w) → Calls Tryd.prog 10 #[.string X] w fun e w' => e = .returned (.tuple #[.agg #[.int .u8 0, .int .u16 0, .int .u16 0], .int .i64 a, .int .i64 er]) ∧ w.grownBy w' none) (hsm : ∀ w, Calls Tryd.prog 21 #[.string s] w fun e w' => e = .returned (.string X) ∧ w.grownBy w' none) (w : World) (hv : Hid (Hv w)) : Calls Tryd.prog 8 #[.string s] w fun e w' => e = .returned (.bool true) ∧ w.grownBy w' none := by
  have ha2 : ¬ (s.size : Int) < (a : Int) := by omega
  have ha3 : ¬ s.size < a := by omega
  have he2 : ¬ er = 0 := by omega
  go_enter Tryd.func8, Tryd.ntmps8
  go_wp2_with (first | (go_at_call 9; (fail_if_success (guard_hyp g1)); refine (aliveC _ hv).mono ?_; rintro e w1 ⟨rfl, g1⟩; have hv1 := hvK hv g1) | (go_at_call 10; (fail_if_success (guard_hyp g2)); refine (hp _ hv1).mono ?_; rintro e w2 ⟨rfl, g2⟩; have G2 := gb_trans g1 g2; have hv2 := hvK hv G2; obtain ⟨W3, hW3, sz3, g3, B3⟩ := boxn w2 #[.int .u8 0, .int .u16 0, .int .u16 0] 26; have G3 := gb_trans G2 g3; have hv3 := hvK hv G3; have sm3_0 := Bo.same B3 0 (v := .int .u8 0) rfl; have sm3_1 := Bo.same B3 1 (v := .int .u16 0) rfl; have sm3_2 := Bo.same B3 2 (v := .int .u16 0) rfl; have fz3_0 := B3.frozen 0; have fz3_1 := B3.frozen 1; have fz3_2 := B3.frozen 2; have b3_3_0 := B3.cell 0 (v := .int .u8 0) rfl; have b3_3_1 := B3.cell 1 (v := .int .u16 0) rfl; have b3_3_2 := B3.cell 2 (v := .int .u16 0) rfl) | (go_at_call 21; (fail_if_success (guard_hyp g4)); refine (hsm _).mono ?_; rintro e w4 ⟨rfl, g4⟩; have G4 := gb_trans G3 g4; have hv4 := hvK hv G4; have B3x := B3.kept g4 (by simp); clear b3_3_0 b3_3_1 b3_3_2; have b3_4_0 := B3x.cell 0 (v := .int .u8 0) rfl; have b3_4_1 := B3x.cell 1 (v := .int .u16 0) rfl; have b3_4_2 := B3x.cell 2 (v := .int .u16 0) rfl) | (go_at_call 10; (fail_if_success (guard_hyp g5)); refine (hp2 _ hv4).mono ?_; rintro e w5 ⟨rfl, g5⟩; have G5 := gb_trans G4 g5; have hv5 := hvK hv G5; have B3xx := B3x.kept g5 (by simp); obtain ⟨W6, hW6, sz6, g6, B6⟩ := boxn w5 #[.int .u8 0, .int .u16 0, .int .u16 0] 26; have G6 := gb_trans G5 g6; have hv6 := hvK hv G6; have B3xxx := B3xx.kept g6 (by simp); have sm6_0 := Bo.same B6 0 (v := .int .u8 0) rfl; have sm6_1 := Bo.same B6 1 (v := .int .u16 0) rfl; have sm6_2 := Bo.same B6 2 (v := .int .u16 0) rfl; have fz6_0 := B6.frozen 0; have fz6_1 := B6.frozen 1; have fz6_2 := B6.frozen 2; clear b3_4_0 b3_4_1 b3_4_2; have b3_6_0 := B3xxx.cell 0 (v := .int .u8 0) rfl; have b3_6_1 := B3xxx.cell 1 (v := .int .u16 0) rfl; have b3_6_2 := B3xxx.cell 2 (v := .int .u16 0) rfl; have b6_6_0 := B6.cell 0 (v := .int .u8 0) rfl; have b6_6_1 := B6.cell 1 (v := .int .u16 0) rfl; have b6_6_2 := B6.cell 2 (v := .int .u16 0) rfl))
  all_goals go_ret
  all_goals exact ⟨rfl, G6⟩
set_option maxHeartbeats 2000000 in
theorem form_fine (s X Y : ByteArray) (H B T : Nat) (hY : (Y.size : Int) ≤ (s.size : Int)) (hp : ∀ w, Hid (Hv w) → Calls Tryd.prog 10 #[.string s] w fun e w' => e = .returned (.tuple #[.agg #[.int .u8 (H : Nat), .int .u16 (B : Nat), .int .u16 (T : Nat)], .int .i64 0, .int .i64 0]) ∧ w.grownBy w' none) (hp2 : ∀ w, Hid (Hv w) → Calls Tryd.prog 10 #[.string X] w fun e w' => e = .returned (.tuple #[.agg #[.int .u8 (H : Nat), .int .u16 (B : Nat), .int .u16 (T : Nat)], .int .i64 0, .int .i64 0]) ∧ w.grownBy w' none) (hsm : ∀ w, Calls Tryd.prog 21 #[.string s] w fun e w' => e = .returned (.string X) ∧ w.grownBy w' none) (hpr : ∀ w, Hid (Hv w) → Calls Tryd.prog 12 #[.agg #[.int .u8 (H : Nat), .int .u16 (B : Nat), .int .u16 (T : Nat)]] w fun e w' => e = .returned (.tuple #[.string Y, .int .i64 0]) ∧ w.grownBy w' none) (hb : ∀ w, Hid (Hv w) → Calls Tryd.prog 10 #[.string Y] w fun e w' => e = .returned (.tuple #[.agg #[.int .u8 (H : Nat), .int .u16 (B : Nat), .int .u16 (T : Nat)], .int .i64 0, .int .i64 0]) ∧ w.grownBy w' none) (w : World) (hv : Hid (Hv w)) : Calls Tryd.prog 8 #[.string s] w fun e w' => e = .returned (.bool true) ∧ w.grownBy w' none := by
  have hY2 : Y.size ≤ s.size := by omega
  go_enter Tryd.func8, Tryd.ntmps8
  go_wp2_with (first | (go_at_call 9; (fail_if_success (guard_hyp g1)); refine (aliveC _ hv).mono ?_; rintro e w1 ⟨rfl, g1⟩; have hv1 := hvK hv g1) | (go_at_call 10; (fail_if_success (guard_hyp g2)); refine (hp _ hv1).mono ?_; rintro e w2 ⟨rfl, g2⟩; have G2 := gb_trans g1 g2; have hv2 := hvK hv G2; obtain ⟨W3, hW3, sz3, g3, B3⟩ := boxn w2 #[.int .u8 (H : Nat), .int .u16 (B : Nat), .int .u16 (T : Nat)] 26; have G3 := gb_trans G2 g3; have hv3 := hvK hv G3; have b3_3_0 := B3.cell 0 (v := .int .u8 (H : Nat)) rfl; have b3_3_1 := B3.cell 1 (v := .int .u16 (B : Nat)) rfl; have b3_3_2 := B3.cell 2 (v := .int .u16 (T : Nat)) rfl) | (go_at_call 21; (fail_if_success (guard_hyp g4)); refine (hsm _).mono ?_; rintro e w4 ⟨rfl, g4⟩; have G4 := gb_trans G3 g4; have hv4 := hvK hv G4; have B3x := B3.kept g4 (by simp); clear b3_3_0 b3_3_1 b3_3_2; have b3_4_0 := B3x.cell 0 (v := .int .u8 (H : Nat)) rfl; have b3_4_1 := B3x.cell 1 (v := .int .u16 (B : Nat)) rfl; have b3_4_2 := B3x.cell 2 (v := .int .u16 (T : Nat)) rfl) | (go_at_call 10; (fail_if_success (guard_hyp g5)); refine (hp2 _ hv4).mono ?_; rintro e w5 ⟨rfl, g5⟩; have G5 := gb_trans G4 g5; have hv5 := hvK hv G5; have B3xx := B3x.kept g5 (by simp); obtain ⟨W6, hW6, sz6, g6, B6⟩ := boxn w5 #[.int .u8 (H : Nat), .int .u16 (B : Nat), .int .u16 (T : Nat)] 26; have G6 := gb_trans G5 g6; have hv6 := hvK hv G6; have B3xxx := B3xx.kept g6 (by simp); clear b3_4_0 b3_4_1 b3_4_2; have b3_6_0 := B3xxx.cell 0 (v := .int .u8 (H : Nat)) rfl; have b3_6_1 := B3xxx.cell 1 (v := .int .u16 (B : Nat)) rfl; have b3_6_2 := B3xxx.cell 2 (v := .int .u16 (T : Nat)) rfl; have b6_6_0 := B6.cell 0 (v := .int .u8 (H : Nat)) rfl; have b6_6_1 := B6.cell 1 (v := .int .u16 (B : Nat)) rfl; have b6_6_2 := B6.cell 2 (v := .int .u16 (T : Nat)) rfl) | (go_at_call 12; (fail_if_success (guard_hyp g7)); refine (hpr _ hv6).mono ?_; rintro e w7 ⟨rfl, g7⟩; have G7 := gb_trans G6 g7; have hv7 := hvK hv G7; have B3xxxx := B3xxx.kept g7 (by simp); have B6x := B6.kept g7 (by simp); clear b3_6_0 b3_6_1 b3_6_2 b6_6_0 b6_6_1 b6_6_2; have b3_7_0 := B3xxxx.cell 0 (v := .int .u8 (H : Nat)) rfl; have b3_7_1 := B3xxxx.cell 1 (v := .int .u16 (B : Nat)) rfl; have b3_7_2 := B3xxxx.cell 2 (v := .int .u16 (T : Nat)) rfl; have b6_7_0 := B6x.cell 0 (v := .int .u8 (H : Nat)) rfl; have b6_7_1 := B6x.cell 1 (v := .int .u16 (B : Nat)) rfl; have b6_7_2 := B6x.cell 2 (v := .int .u16 (T : Nat)) rfl) | (go_at_call 10; (fail_if_success (guard_hyp g8)); refine (hb _ hv7).mono ?_; rintro e w8 ⟨rfl, g8⟩; have G8 := gb_trans G7 g8; have hv8 := hvK hv G8; have B3xxxxx := B3xxxx.kept g8 (by simp); have B6xx := B6x.kept g8 (by simp); obtain ⟨W9, hW9, sz9, g9, B9⟩ := boxn w8 #[.int .u8 (H : Nat), .int .u16 (B : Nat), .int .u16 (T : Nat)] 26; have G9 := gb_trans G8 g9; have hv9 := hvK hv G9; have B3xxxxxx := B3xxxxx.kept g9 (by simp); have B6xxx := B6xx.kept g9 (by simp); clear b3_7_0 b3_7_1 b3_7_2 b6_7_0 b6_7_1 b6_7_2; have b3_9_0 := B3xxxxxx.cell 0 (v := .int .u8 (H : Nat)) rfl; have b3_9_1 := B3xxxxxx.cell 1 (v := .int .u16 (B : Nat)) rfl; have b3_9_2 := B3xxxxxx.cell 2 (v := .int .u16 (T : Nat)) rfl; have b6_9_0 := B6xxx.cell 0 (v := .int .u8 (H : Nat)) rfl; have b6_9_1 := B6xxx.cell 1 (v := .int .u16 (B : Nat)) rfl; have b6_9_2 := B6xxx.cell 2 (v := .int .u16 (T : Nat)) rfl; have b9_9_0 := B9.cell 0 (v := .int .u8 (H : Nat)) rfl; have b9_9_1 := B9.cell 1 (v := .int .u16 (B : Nat)) rfl; have b9_9_2 := B9.cell 2 (v := .int .u16 (T : Nat)) rfl))
  all_goals go_ret
  all_goals exact ⟨rfl, G9⟩
theorem form_walk (s : ByteArray) (w : World) (hs : s.size ≤ 140737488355328) (hv : Hv w) : Calls Tryd.prog 8 #[.string s] w fun e w' => e = .returned (.bool true) ∧ Below w.heap.size w w' := by
  refine Calls.mono (R := fun e w' => e = .returned (.bool true) ∧ w.grownBy w' none) ?_ (fun e w' h => ⟨h.1, gb_below h.2⟩)
  have hp := fun w hv => parseC s w hv
  have hp2 := fun w hv => parseC (smB s) w hv
  rw [Lf.al_parse (smB_al s)] at hp2
  have hsm := fun w => smallC s hs w
  have hle := Lf.parse_le s
  by_cases he : (Lf.parseR s).er = 0
  · have hf := Lf.fits he
    revert hp hp2 hle he hf
    generalize Lf.parseR s = R
    obtain ⟨H, B, T, a, e⟩ := R
    intro hp hp2 hle he hf
    obtain rfl : e = 0 := he
    obtain rfl : a = 0 := hf.2
    have hck : Lf.ck H B T = 0 := hf.1.ck
    have hi := Lf.ck_in hck
    have hq := Lf.p1024 H
    have hb : B < 65536 := by omega
    have ht : T < 65536 := by omega
    have hpr := fun w hv => printC H B T (by omega) hb ht w hv
    rw [hck] at hpr
    have hb2 := fun w hv => parseC (Lf.pr H B T) w hv
    rw [Lf.back hck] at hb2
    have hz : (Lf.pr H B T).size ≤ s.size := by rw [Lf.pr_size hck]; exact hf.1.sz
    exact form_fine s (smB s) (Lf.pr H B T) H B T (by omega) hp hp2 hsm hpr hb2 w hv
  · have hz := hle.2 he
    revert hp hp2 hle he hz
    generalize Lf.parseR s = R
    obtain ⟨H, B, T, a, e⟩ := R
    intro hp hp2 hle he hz
    obtain ⟨rfl, rfl, rfl⟩ := hz
    exact form_bad s (smB s) a e (by simp only [] at he; omega) (by have := hle.1; simp only [] at this; omega) hp hp2 hsm w hv
end Go.Proofs.YtnedofaobhmloaaDoor
