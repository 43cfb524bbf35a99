/- The document's Lines: what it answers. -/
import Derived.Test.YtimknahfgpafaaaDoorS9
import Derived.Test.YtimknahfgpafaaaDoorS23
namespace Go.Proofs.YtimknahfgpafaaaDoor
open Go.RowKit
set_option linter.unusedVariables false
set_option linter.unusedSimpArgs false

def sp2 (s : ByteArray) (l : List Nat) : List (Nat × Nat) := l.map fun x => (x, le s x)
theorem sp2_snoc (s : ByteArray) (l : List Nat) (x : Nat) : sp2 s (l ++ [x]) = sp2 s l ++ [(x, le s x)] := by unfold sp2; rw [List.map_append]; rfl
theorem sp2_len (s : ByteArray) (l : List Nat) : (sp2 s l).length = l.length := List.length_map ..
theorem lnF_end (s : ByteArray) (i : Nat) (h : ¬ i < s.size) : lnF (s.size + 1) s i = [] := by rw [lnF, if_neg h]
theorem lnF_line {s : ByteArray} {i : Nat} (h : i < s.size) : lnF (s.size + 1) s i = i :: lnF (s.size + 1) s (lx s i) := by
  have hb := lx_bd h
  have e : lnF (s.size + 1) s i = i :: lnF s.size s (lx s i) := by rw [lnF, if_pos h]
  rw [e, lnF_fuel s s.size (s.size + 1) (lx s i) (by omega) (by omega)]
theorem ln_of {s : ByteArray} {f i : Nat} (hf : f ≤ i) (hi : i ≤ s.size) (h : ∀ j, f ≤ j → j < i → j < s.size → Sc.bt s j ≠ 10) (h10 : i < s.size → Sc.bt s i = 10) : ln s f = i :=
  Sc.ov_of ⟨hf, hi, fun j h1 h2 => (noEnd_iff _).2 (h j h1 h2 (by omega)), fun h3 => (noEnd_no _).2 (h10 h3)⟩
/-- What the document's Lines leaves. -/
def LeftL (w : World) (s : ByteArray) (e : Ending) (w' : World) : Prop :=
  ∃ v, e = .returned v ∧ w'.ownsRow w.heap.size 28 2 v (lns s).length (scs s (sp2 s (lns s))) ∧ w.grownBy w' none

set_option maxRecDepth 100000 in
set_option maxHeartbeats 8000000 in
theorem rlinesC (s : ByteArray) (hs : s.size ≤ 1048576) (w : World) : Calls Tryd.prog 30 #[.string s] w (LeftL w s) := by
  obtain ⟨i0, hi⟩ := info_parts infoSp
  have HI : Hid (Tryd.prog.info? 28 = some i0 ∧ i0.zero = some (.agg #[.int .i64 0, .string ⟨#[]⟩]) ∧ i0.size = 2 ∧ i0.bytes = 24) := hi
  clear hi
  go_enter Tryd.func30, Tryd.ntmps30
  go_wp2
  go_loopw [3, 4, 5] (fun vl vf v wr => ∃ (i fr : Nat) (pre : List Nat), i ≤ s.size + 1 ∧ fr ≤ i ∧ Hid (i = s.size + 1 → s.size ≤ fr) ∧ vf = .int .i64 fr ∧ v = .int .i64 i ∧ wr.ownsRow w.heap.size 28 2 vl pre.length (scs s (sp2 s pre)) ∧ pre.length ≤ i ∧ Hid (∀ j, fr ≤ j → j < i → j < s.size → Sc.bt s j ≠ 10) ∧ Hid (pre ++ lnF (s.size + 1) s fr = lns s) ∧ w.grownBy wr none) (fun _ _ v _ => s.size + 2 - (intOf v).toNat)
  case atStart => exact ⟨0, 0, [], by omega, by omega, fun h => by omega, rfl, rfl, World.ownsRow_nil _ _ _ _, Nat.zero_le _, fun j h1 h2 => by omega, rfl, World.grownBy.refl _ _⟩
  case round =>
    obtain ⟨i, fr, pre, hi, hfr, hend, rfl, rfl, hown, hpl, HB, HP, hg⟩ := hrel
    have hsz := hg.size
    by_cases hlt : i < s.size
    · have hlt' : (i : Int) < (s.size : Int) := by omega
      have hle' : (i : Int) ≤ (s.size : Int) := by omega
      have hb := Sc.bt_at hlt
      by_cases h10 : Sc.bt s i = 10
      · have HL : Hid (ln s fr = i) := ln_of hfr (by omega) HB.out (fun _ => h10)
        have HN : (pre ++ [fr]) ++ lnF (s.size + 1) s (i + 1) = lns s := by
          have e : lx s fr = i + 1 := by unfold lx; rw [HL.out, if_pos hlt]
          rw [← HP.out, lnF_line (show fr < s.size by omega), e, List.append_assoc, List.singleton_append]
        have e10 : ((Sc.bt s i : Int) != 10) = false := by rw [h10]; rfl
        have hne : ((i : Int) == (s.size : Int)) = false := by simp; omega
        clear h10
        by_cases hf : fr < i
        · obtain ⟨i', hi'⟩ : ∃ i', i = i' + 1 := ⟨i - 1, by omega⟩
          have hls : i' < s.size := by omega
          have hbl := Sc.bt_at hls
          have hw1 : IntKind.i64.wrap ((i : Int) - 1) = (i' : Int) := by rw [IntKind.wrap_i64]; omega
          have hf' : (fr : Int) < (i : Int) := by omega
          by_cases h13 : Sc.bt s i' = 13
          · have e13 : ((Sc.bt s i' : Int) == 13) = true := by rw [h13]; rfl
            have hle : Hid (le s fr = i') := by unfold Hid le; rw [HL.out, if_pos ⟨hf, by rw [hi', Nat.add_sub_cancel]; exact h13⟩, hi', Nat.add_sub_cancel]
            have hfi : (fr : Int) ≤ (i' : Int) := by omega
            have hil : (i' : Int) ≤ (s.size : Int) := by omega
            have hI' : Hid (i = i' + 1) := hi'
            clear h13 hi'
            have HM : Hid ((pre ++ [fr]) ++ lnF (s.size + 1) s (i + 1) = lns s) := HN
            clear HN HP
            go_wp2_with (at_builtin; refine wpList_append_own _ rfl _ _ 24 rfl w.heap.size 28 i0 (.agg #[.int .i64 0, .string ⟨#[]⟩]) 2 24 underSpS HI.out.1 HI.out.2.1 HI.out.2.2.1 HI.out.2.2.2 rfl (by decide) _ _ _ rfl (hown.alloc _) ⟨_, 0, none⟩ 1 1 [.int .i64 (fr : Nat), .string (s.extract fr i')] rfl rfl (new2 _ _ _ _) ?_ ?_ ?_ ?_ ?_; rotate_right; intro v4 w4 hown4 hgrow4 hnil4)
            · have HA := hown.alloc (.cells #[.int .i64 (fr : Nat), .string (s.extract fr i')] 28)
              have G4 := gb_row (gb_alloc hg (.cells #[.int .i64 (fr : Nat), .string (s.extract fr i')] 28)) hgrow4 (fun i e => (HA.lt i e).1)
              go_wp2
              go_roundw
              case rel =>
                refine ⟨i + 1, i + 1, pre ++ [fr], by omega, by omega, fun _ => by omega, by go_num, by go_num, ?_, ?_, fun j h1 h2 => by omega, HM, G4⟩
                · rw [sp2_snoc, hle.out, scs_snoc, List.length_append]; exact hown4
                · rw [List.length_append]; simp only [List.length_cons, List.length_nil]; omega
              case measure => first | (simp [intOf]; done) | (simp [intOf]; omega)
            · first
              | exact ⟨rfl, rfl⟩
              | (intro u hu
                 simp at hu
                 rcases hu with rfl | rfl <;> rfl)
            · unfold maxLen; omega
            · omega
            · first | omega | (simp; omega)
          · have e13 : ((Sc.bt s i' : Int) == 13) = false := by simp; omega
            have hle : Hid (le s fr = i) := by unfold Hid le; rw [HL.out, if_neg (fun hh => h13 (by have := hh.2; rw [hi', Nat.add_sub_cancel] at this; exact this))]
            have hfi : (fr : Int) ≤ (i : Int) := by omega
            have hil : (i : Int) ≤ (s.size : Int) := by omega
            have hI' : Hid (i = i' + 1) := hi'
            clear h13 hi'
            have HM : Hid ((pre ++ [fr]) ++ lnF (s.size + 1) s (i + 1) = lns s) := HN
            clear HN HP
            go_wp2_with (at_builtin; refine wpList_append_own _ rfl _ _ 24 rfl w.heap.size 28 i0 (.agg #[.int .i64 0, .string ⟨#[]⟩]) 2 24 underSpS HI.out.1 HI.out.2.1 HI.out.2.2.1 HI.out.2.2.2 rfl (by decide) _ _ _ rfl (hown.alloc _) ⟨_, 0, none⟩ 1 1 [.int .i64 (fr : Nat), .string (s.extract fr i)] rfl rfl (new2 _ _ _ _) ?_ ?_ ?_ ?_ ?_; rotate_right; intro v4 w4 hown4 hgrow4 hnil4)
            · have HA := hown.alloc (.cells #[.int .i64 (fr : Nat), .string (s.extract fr i)] 28)
              have G4 := gb_row (gb_alloc hg (.cells #[.int .i64 (fr : Nat), .string (s.extract fr i)] 28)) hgrow4 (fun i e => (HA.lt i e).1)
              go_wp2
              go_roundw
              case rel =>
                refine ⟨i + 1, i + 1, pre ++ [fr], by omega, by omega, fun _ => by omega, by go_num, by go_num, ?_, ?_, fun j h1 h2 => by omega, HM, G4⟩
                · rw [sp2_snoc, hle.out, scs_snoc, List.length_append]; exact hown4
                · rw [List.length_append]; simp only [List.length_cons, List.length_nil]; omega
              case measure => first | (simp [intOf]; done) | (simp [intOf]; omega)
            · first
              | exact ⟨rfl, rfl⟩
              | (intro u hu
                 simp at hu
                 rcases hu with rfl | rfl <;> rfl)
            · unfold maxLen; omega
            · omega
            · first | omega | (simp; omega)
        · have hf' : ¬ (fr : Int) < (i : Int) := by omega
          have hle : Hid (le s fr = i) := by unfold Hid le; rw [HL.out, if_neg (fun hh => hf hh.1)]
          have hfi : (fr : Int) ≤ (i : Int) := by omega
          have hil : (i : Int) ≤ (s.size : Int) := by omega
          have HM : Hid ((pre ++ [fr]) ++ lnF (s.size + 1) s (i + 1) = lns s) := HN
          clear HN HP
          go_wp2_with (at_builtin; refine wpList_append_own _ rfl _ _ 24 rfl w.heap.size 28 i0 (.agg #[.int .i64 0, .string ⟨#[]⟩]) 2 24 underSpS HI.out.1 HI.out.2.1 HI.out.2.2.1 HI.out.2.2.2 rfl (by decide) _ _ _ rfl (hown.alloc _) ⟨_, 0, none⟩ 1 1 [.int .i64 (fr : Nat), .string (s.extract fr i)] rfl rfl (new2 _ _ _ _) ?_ ?_ ?_ ?_ ?_; rotate_right; intro v4 w4 hown4 hgrow4 hnil4)
          · have HA := hown.alloc (.cells #[.int .i64 (fr : Nat), .string (s.extract fr i)] 28)
            have G4 := gb_row (gb_alloc hg (.cells #[.int .i64 (fr : Nat), .string (s.extract fr i)] 28)) hgrow4 (fun i e => (HA.lt i e).1)
            go_wp2
            go_roundw
            case rel =>
              refine ⟨i + 1, i + 1, pre ++ [fr], by omega, by omega, fun _ => by omega, by go_num, by go_num, ?_, ?_, fun j h1 h2 => by omega, HM, G4⟩
              · rw [sp2_snoc, hle.out, scs_snoc, List.length_append]; exact hown4
              · rw [List.length_append]; simp only [List.length_cons, List.length_nil]; omega
            case measure => first | (simp [intOf]; done) | (simp [intOf]; omega)
          · first
            | exact ⟨rfl, rfl⟩
            | (intro u hu
               simp at hu
               rcases hu with rfl | rfl <;> rfl)
          · unfold maxLen; omega
          · omega
          · first | omega | (simp; omega)
      · have e10 : ((Sc.bt s i : Int) != 10) = true := by simp; omega
        have HB' : Hid (∀ j, fr ≤ j → j < i + 1 → j < s.size → Sc.bt s j ≠ 10) := fun j h1 h2 h3 => by
          by_cases hj : j = i
          · rw [hj]; exact h10
          · exact HB.out j h1 (by omega) h3
        clear h10
        go_wp2
        go_roundw
        case rel => exact ⟨i + 1, fr, pre, by omega, by omega, fun h => by omega, rfl, by go_num, hown, by omega, HB', HP, hg⟩
        case measure => first | (simp [intOf]; done) | (simp [intOf]; omega)
    · have hlt' : ¬ (i : Int) < (s.size : Int) := by omega
      by_cases hi2 : i = s.size
      · subst hi2
        have hle' : (s.size : Int) ≤ (s.size : Int) := by omega
        by_cases hfe : fr = s.size
        · have heq : ((fr : Int) == (s.size : Int)) = true := by simp; omega
          have HF : Hid (fr = s.size) := hfe
          clear hfe
          go_wp2
          go_roundw
          case rel => exact ⟨s.size + 1, fr, pre, by omega, by omega, fun _ => by have := HF.out; omega, rfl, by go_num, hown, by omega, fun j h1 h2 h3 => by have := HF.out; omega, HP, hg⟩
          case measure => first | (simp [intOf]; done) | (simp [intOf]; omega)
        · have heq : ((fr : Int) == (s.size : Int)) = false := by simp; omega
          have HL : Hid (ln s fr = s.size) := ln_of hfr (by omega) HB.out (fun h => by omega)
          have HN : (pre ++ [fr]) ++ lnF (s.size + 1) s (s.size + 1) = lns s := by
            have e : lx s fr = s.size := by unfold lx; rw [HL.out, if_neg (by omega)]
            rw [← HP.out, lnF_line (show fr < s.size by omega), e, lnF_end s s.size (by omega), lnF_end s (s.size + 1) (by omega), List.append_nil]
          by_cases hf : fr < s.size
          · obtain ⟨i', hi'⟩ : ∃ i', s.size = i' + 1 := ⟨s.size - 1, by omega⟩
            have hls : i' < s.size := by omega
            have hbl := Sc.bt_at hls
            have hw1 : IntKind.i64.wrap ((s.size : Int) - 1) = (i' : Int) := by rw [IntKind.wrap_i64]; omega
            have hf' : (fr : Int) < (s.size : Int) := by omega
            by_cases h13 : Sc.bt s i' = 13
            · have e13 : ((Sc.bt s i' : Int) == 13) = true := by rw [h13]; rfl
              have hle : Hid (le s fr = i') := by unfold Hid le; rw [HL.out, if_pos ⟨hf, by rw [hi', Nat.add_sub_cancel]; exact h13⟩, hi', Nat.add_sub_cancel]
              have hfi : (fr : Int) ≤ (i' : Int) := by omega
              have hil : (i' : Int) ≤ (s.size : Int) := by omega
              have hI' : Hid (s.size = i' + 1) := hi'
              clear h13 hi'
              have HM : Hid ((pre ++ [fr]) ++ lnF (s.size + 1) s (s.size + 1) = lns s) := HN
              clear HN HP
              go_wp2_with (at_builtin; refine wpList_append_own _ rfl _ _ 24 rfl w.heap.size 28 i0 (.agg #[.int .i64 0, .string ⟨#[]⟩]) 2 24 underSpS HI.out.1 HI.out.2.1 HI.out.2.2.1 HI.out.2.2.2 rfl (by decide) _ _ _ rfl (hown.alloc _) ⟨_, 0, none⟩ 1 1 [.int .i64 (fr : Nat), .string (s.extract fr i')] rfl rfl (new2 _ _ _ _) ?_ ?_ ?_ ?_ ?_; rotate_right; intro v4 w4 hown4 hgrow4 hnil4)
              · have HA := hown.alloc (.cells #[.int .i64 (fr : Nat), .string (s.extract fr i')] 28)
                have G4 := gb_row (gb_alloc hg (.cells #[.int .i64 (fr : Nat), .string (s.extract fr i')] 28)) hgrow4 (fun i e => (HA.lt i e).1)
                go_wp2
                go_roundw
                case rel =>
                  refine ⟨s.size + 1, s.size + 1, pre ++ [fr], by omega, by omega, fun _ => by omega, by go_num, by go_num, ?_, ?_, fun j h1 h2 => by omega, HM, G4⟩
                  · rw [sp2_snoc, hle.out, scs_snoc, List.length_append]; exact hown4
                  · rw [List.length_append]; simp only [List.length_cons, List.length_nil]; omega
                case measure => first | (simp [intOf]; done) | (simp [intOf]; omega)
              · first
                | exact ⟨rfl, rfl⟩
                | (intro u hu
                   simp at hu
                   rcases hu with rfl | rfl <;> rfl)
              · unfold maxLen; omega
              · omega
              · first | omega | (simp; omega)
            · have e13 : ((Sc.bt s i' : Int) == 13) = false := by simp; omega
              have hle : Hid (le s fr = s.size) := by unfold Hid le; rw [HL.out, if_neg (fun hh => h13 (by have := hh.2; rw [hi', Nat.add_sub_cancel] at this; exact this))]
              have hfi : (fr : Int) ≤ (s.size : Int) := by omega
              have hil : (s.size : Int) ≤ (s.size : Int) := by omega
              have hI' : Hid (s.size = i' + 1) := hi'
              clear h13 hi'
              have HM : Hid ((pre ++ [fr]) ++ lnF (s.size + 1) s (s.size + 1) = lns s) := HN
              clear HN HP
              go_wp2_with (at_builtin; refine wpList_append_own _ rfl _ _ 24 rfl w.heap.size 28 i0 (.agg #[.int .i64 0, .string ⟨#[]⟩]) 2 24 underSpS HI.out.1 HI.out.2.1 HI.out.2.2.1 HI.out.2.2.2 rfl (by decide) _ _ _ rfl (hown.alloc _) ⟨_, 0, none⟩ 1 1 [.int .i64 (fr : Nat), .string (s.extract fr s.size)] rfl rfl (new2 _ _ _ _) ?_ ?_ ?_ ?_ ?_; rotate_right; intro v4 w4 hown4 hgrow4 hnil4)
              · have HA := hown.alloc (.cells #[.int .i64 (fr : Nat), .string (s.extract fr s.size)] 28)
                have G4 := gb_row (gb_alloc hg (.cells #[.int .i64 (fr : Nat), .string (s.extract fr s.size)] 28)) hgrow4 (fun i e => (HA.lt i e).1)
                go_wp2
                go_roundw
                case rel =>
                  refine ⟨s.size + 1, s.size + 1, pre ++ [fr], by omega, by omega, fun _ => by omega, by go_num, by go_num, ?_, ?_, fun j h1 h2 => by omega, HM, G4⟩
                  · rw [sp2_snoc, hle.out, scs_snoc, List.length_append]; exact hown4
                  · rw [List.length_append]; simp only [List.length_cons, List.length_nil]; omega
                case measure => first | (simp [intOf]; done) | (simp [intOf]; omega)
              · first
                | exact ⟨rfl, rfl⟩
                | (intro u hu
                   simp at hu
                   rcases hu with rfl | rfl <;> rfl)
              · unfold maxLen; omega
              · omega
              · first | omega | (simp; omega)
          · exfalso; omega
      · have hx : ¬ (i : Int) ≤ (s.size : Int) := by omega
        have HE : Hid (pre = lns s) := by
          have h1 := hend.out (by omega)
          unfold Hid; rw [← HP.out, lnF_end s fr (by omega), List.append_nil]
        clear HP
        go_wp2
        go_ret
        rw [HE.out] at hown
        exact ⟨_, rfl, hown, hg⟩
end Go.Proofs.YtimknahfgpafaaaDoor
