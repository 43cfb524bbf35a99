/- The document's Fields and SameSpans: what they answer. -/
import Derived.Test.YtimknahfgpafaaaDoorS9
namespace Go.Proofs.YtimknahfgpafaaaDoor
open Go.RowKit
set_option linter.unusedVariables false
set_option linter.unusedSimpArgs false

def pcH (s : ByteArray) (i : Nat) : List (Nat × Nat) := if i ≤ s.size then pcF (s.size + 1) s (Sc.ov Sc.blankB s i) else []
theorem pcH_blank {s : ByteArray} {i : Nat} (hi : i < s.size) (h : Sc.blankB (Sc.bt s i) = true) : pcH s i = pcH s (i + 1) := by
  unfold pcH; rw [if_pos (by omega), if_pos (by omega), Sc.ov_yes hi h]
theorem pcH_ink {s : ByteArray} {i : Nat} (hi : i < s.size) (h : Sc.blankB (Sc.bt s i) = false) : pcH s i = (i, Sc.ov Sc.inkB s i) :: pcH s (Sc.ov Sc.inkB s i + 1) := by
  have h1 := Sc.ov_is Sc.inkB (Nat.le_of_lt hi)
  have h2 : i < Sc.ov Sc.inkB s i := Sc.ov_gt hi (by unfold Sc.inkB; rw [h]; rfl)
  have h3 := h1.le
  unfold pcH
  rw [if_pos (by omega), Sc.ov_no (Nat.le_of_lt hi) (fun _ => h)]
  have hp : pcF (s.size + 1) s i = (i, Sc.ov Sc.inkB s i) :: pcF s.size s (Sc.ov Sc.blankB s (Sc.ov Sc.inkB s i)) := by rw [pcF, if_pos hi]
  rw [hp]
  by_cases h4 : Sc.ov Sc.inkB s i < s.size
  · have h5 : Sc.blankB (Sc.bt s (Sc.ov Sc.inkB s i)) = true := by
      have := h1.stop h4
      have h6 : (!Sc.blankB (Sc.bt s (Sc.ov Sc.inkB s i))) = false := this
      simpa using h6
    have h7 := Sc.ov_is Sc.blankB (s := s) (i := Sc.ov Sc.inkB s i) h3
    have h8 := Sc.ov_gt h4 h5
    rw [if_pos (by omega), ← Sc.ov_yes h4 h5, pcF_fuel s s.size (s.size + 1) _ (fun hq => by have := h7.stop hq; show (!Sc.blankB _) = true; rw [this]; rfl) (by omega) (by omega)]
  · have e : Sc.ov Sc.inkB s i = s.size := by omega
    rw [e, if_neg (by omega), Sc.ov_no (Nat.le_refl _) (fun hh => absurd hh (Nat.lt_irrefl _))]
    have : ∀ f, pcF f s s.size = [] := fun f => by
      cases f with
      | zero => rfl
      | succ f => rw [pcF, if_neg (Nat.lt_irrefl _)]
    rw [this]
theorem pcH_end {s : ByteArray} {i : Nat} (hi : ¬ i < s.size) : pcH s i = [] := by
  unfold pcH
  by_cases h : i ≤ s.size
  · obtain rfl : i = s.size := by omega
    rw [if_pos h, Sc.ov_no (Nat.le_refl _) (fun hh => absurd hh (Nat.lt_irrefl _)), pcF, if_neg (Nat.lt_irrefl _)]
  · rw [if_neg h]

set_option maxRecDepth 100000 in
set_option maxHeartbeats 4000000 in
theorem rfieldsC (s : ByteArray) (hs : s.size ≤ 1048576) (w : World) : Calls Tryd.prog 11 #[.string s] w (LeftF w s) := by
  obtain ⟨i0, hi⟩ := info_parts infoSp
  have HI : Hid (Tryd.prog.info? 28 = some i0 ∧ i0.zero = some (.agg #[.int .i64 0, .string ⟨#[]⟩]) ∧ i0.size = 2 ∧ i0.bytes = 24) := hi
  clear hi
  go_enter Tryd.func11, Tryd.ntmps11
  go_wp2
  go_loopw [3, 4] (fun vl v wr => ∃ (i : Nat) (pre : List (Nat × Nat)), i ≤ s.size + 1 ∧ v = .int .i64 i ∧ wr.ownsRow w.heap.size 28 2 vl pre.length (scs s pre) ∧ pre.length ≤ i ∧ Hid (pre ++ pcH s i = pcs s) ∧ w.grownBy wr none) (fun _ v _ => s.size + 1 - (intOf v).toNat)
  case atStart => exact ⟨0, [], by omega, rfl, World.ownsRow_nil _ _ _ _, Nat.zero_le _, by unfold Hid pcH; rw [if_pos (Nat.zero_le _)]; rfl, World.grownBy.refl _ _⟩
  case round =>
    obtain ⟨i, pre, hi, rfl, hown, hpl, HP, hg⟩ := hrel
    have hsz := hg.size
    by_cases hlt : i < s.size
    · have hlt' : (i : Int) < (s.size : Int) := by omega
      have hb := Sc.bt_at hlt
      cases hbl : Sc.blankB (Sc.bt s i) with
      | true =>
        have HN : Hid (pre ++ pcH s (i + 1) = pcs s) := by unfold Hid; rw [← pcH_blank hlt hbl]; exact HP.out
        clear HP
        go_wp2_with (go_at_call 31; refine (rblankC _ _).mono ?_; rintro e w' ⟨rfl, hw'⟩; subst w')
        go_roundw
        case rel => exact ⟨i + 1, pre, by omega, by go_num, hown, by omega, HN, hg⟩
        case measure => simp [intOf]; omega
      | false =>
        have HN : Hid (∀ e, Sc.ov Sc.inkB s i = e → (pre ++ [(i, e)]) ++ pcH s (e + 1) = pcs s) := fun e he => by rw [← HP.out, pcH_ink hlt hbl, he, List.append_assoc, List.singleton_append]
        clear HP
        go_wp2_with (go_at_call 31; refine (rblankC _ _).mono ?_; rintro e w' ⟨rfl, hw'⟩; subst w')
        go_loopw [5] (fun v wr' => ∃ k : Nat, i ≤ k ∧ k ≤ s.size ∧ v = .int .i64 k ∧ Hid (∀ j, i ≤ j → j < k → Sc.inkB (Sc.bt s j) = true) ∧ wr' = wr) (fun v _ => s.size - (intOf v).toNat)
        case atStart => exact ⟨i, Nat.le_refl _, by omega, rfl, fun j h1 h2 => by omega, rfl⟩
        case round =>
          obtain ⟨k, hk0, hk, rfl, hd, hw⟩ := hrel
          subst hw
          have hik : (i : Int) ≤ (k : Int) := by omega
          have hks : (k : Int) ≤ (s.size : Int) := by omega
          by_cases hlt2 : k < s.size
          · have hb2 := Sc.bt_at hlt2
            have hlt2' : (k : Int) < (s.size : Int) := by omega
            cases hbl2 : Sc.blankB (Sc.bt s k) with
            | false =>
              have HS : Hid (∀ j, i ≤ j → j < k + 1 → Sc.inkB (Sc.bt s j) = true) := fun j h1 h2 => by
                by_cases hj : j = k
                · rw [hj]; show (!Sc.blankB _) = true; rw [hbl2]; rfl
                · exact hd.out j h1 (by omega)
              go_wp2_with (go_at_call 31; refine (rblankC _ _).mono ?_; rintro e w' ⟨rfl, hw'⟩; subst w')
              go_roundw
              case rel => exact ⟨k + 1, by omega, by omega, by go_num, HS, by first | rfl | trivial⟩
              case measure => simp [intOf]; omega
            | true =>
              have HE : Hid (Sc.ov Sc.inkB s i = k) := Sc.ov_of ⟨hk0, hk, hd.out, fun _ => by show (!Sc.blankB _) = false; rw [hbl2]; rfl⟩
              have HM := HN.out k HE.out
              have HM' : Hid ((pre ++ [(i, k)]) ++ pcH s (k + 1) = pcs s) := HM
              clear HM HN
              go_wp2_with (first | (go_at_call 31; refine (rblankC _ _).mono ?_; rintro e w' ⟨rfl, hw'⟩; subst w') | (at_builtin; refine wpList_append_own _ rfl _ _ 24 rfl w.heap.size 28 i0 (.agg #[.int .i64 0, .string ⟨#[]⟩]) 2 24 underSpS HI.out.1 HI.out.2.1 HI.out.2.2.1 HI.out.2.2.2 rfl (by decide) _ _ _ rfl (hown.alloc _) ⟨_, 0, none⟩ 1 1 [.int .i64 (i : Nat), .string (s.extract i k)] rfl rfl (new2 _ _ _ _) ?_ ?_ ?_ ?_ ?_; rotate_right; intro v4 w4 hown4 hgrow4 hnil4))
              · have HA := hown.alloc (.cells #[.int .i64 (i : Nat), .string (s.extract i k)] 28)
                have G4 := gb_row (gb_alloc hg (.cells #[.int .i64 (i : Nat), .string (s.extract i k)] 28)) hgrow4 (fun i e => (HA.lt i e).1)
                go_wp2
                go_roundw
                case rel =>
                  refine ⟨k + 1, pre ++ [(i, k)], by omega, by go_num, ?_, ?_, HM', G4⟩
                  · rw [scs_snoc, List.length_append]; exact hown4
                  · rw [List.length_append]; simp only [List.length_cons, List.length_nil]; omega
                case measure => simp [intOf]; omega
              · first
                | exact ⟨rfl, rfl⟩
                | (intro u hu
                   simp at hu
                   rcases hu with rfl | rfl <;> rfl)
              · unfold maxLen; omega
              · omega
              · first | omega | (simp; omega)
          · have hlt2' : ¬ (k : Int) < (s.size : Int) := by omega
            have HE : Hid (Sc.ov Sc.inkB s i = k) := Sc.ov_of ⟨hk0, hk, hd.out, fun h => absurd h hlt2⟩
            have HM := HN.out k HE.out
            have HM' : Hid ((pre ++ [(i, k)]) ++ pcH s (k + 1) = pcs s) := HM
            clear HM HN
            go_wp2_with ((at_builtin; refine wpList_append_own _ rfl _ _ 24 rfl w.heap.size 28 i0 (.agg #[.int .i64 0, .string ⟨#[]⟩]) 2 24 underSpS HI.out.1 HI.out.2.1 HI.out.2.2.1 HI.out.2.2.2 rfl (by decide) _ _ _ rfl (hown.alloc _) ⟨_, 0, none⟩ 1 1 [.int .i64 (i : Nat), .string (s.extract i k)] rfl rfl (new2 _ _ _ _) ?_ ?_ ?_ ?_ ?_; rotate_right; intro v4 w4 hown4 hgrow4 hnil4))
            · have HA := hown.alloc (.cells #[.int .i64 (i : Nat), .string (s.extract i k)] 28)
              have G4 := gb_row (gb_alloc hg (.cells #[.int .i64 (i : Nat), .string (s.extract i k)] 28)) hgrow4 (fun i e => (HA.lt i e).1)
              go_wp2
              go_roundw
              case rel =>
                refine ⟨k + 1, pre ++ [(i, k)], by omega, by go_num, ?_, ?_, HM', G4⟩
                · rw [scs_snoc, List.length_append]; exact hown4
                · rw [List.length_append]; simp only [List.length_cons, List.length_nil]; omega
              case measure => simp [intOf]; omega
            · first
              | exact ⟨rfl, rfl⟩
              | (intro u hu
                 simp at hu
                 rcases hu with rfl | rfl <;> rfl)
            · unfold maxLen; omega
            · omega
            · first | omega | (simp; omega)
    · have hlt' : ¬ (i : Int) < (s.size : Int) := by omega
      have HE : Hid (pre = pcs s) := by unfold Hid; rw [← HP.out, pcH_end hlt, List.append_nil]
      clear HP
      go_wp2
      go_ret
      rw [HE.out] at hown
      exact ⟨_, rfl, hown, hg⟩
/-- The pieces l can be read from a slice. -/
def SpansIn (w : World) (sp : Option Addr) (s : ByteArray) (l : List (Nat × Nat)) : Prop := ∀ k (hk : k < l.length), ∃ g, sp = some ⟨g, 0, none⟩ ∧ w.cell? ⟨g, k * 2, none⟩ = some (.int .i64 (l[k].1 : Nat)) ∧ w.cell? ⟨g, k * 2 + 1, none⟩ = some (.string (s.extract l[k].1 l[k].2))
theorem scs_at (s : ByteArray) (l : List (Nat × Nat)) : ∀ k (hk : k < l.length), (scs s l)[k * 2]? = some (.int .i64 (l[k].1 : Nat)) ∧ (scs s l)[k * 2 + 1]? = some (.string (s.extract l[k].1 l[k].2)) := by
  induction l with
  | nil => intro k hk; simp at hk
  | cons r l ih =>
    intro k hk
    have e : scs s (r :: l) = [.int .i64 (r.1 : Nat), .string (s.extract r.1 r.2)] ++ scs s l := by unfold scs; rw [List.flatMap_cons]
    rw [e]
    cases k with
    | zero => exact ⟨rfl, rfl⟩
    | succ k =>
      have := ih k (by simpa using hk)
      rw [List.getElem?_append_right (by simp; omega), List.getElem?_append_right (by simp; omega)]
      simp only [List.length_cons, List.length_nil, List.getElem_cons_succ]
      rw [show (k + 1) * 2 - (0 + 1 + 1) = k * 2 by omega, show (k + 1) * 2 + 1 - (0 + 1 + 1) = k * 2 + 1 by omega]
      exact this
theorem spansIn_of {w : World} {base : Nat} {v : Value} {s : ByteArray} {l : List (Nat × Nat)} (h : w.ownsRow base 28 2 v l.length (scs s l)) : ∃ sp cap, v = .slice sp l.length cap ∧ SpansIn w sp s l ∧ (∀ a, sp = some a → v.ownBlock = some a.block ∧ a.block < w.heap.size ∧ base ≤ a.block) := by
  rcases h.2 with ⟨rfl, h0⟩ | ⟨g, cap, cur, rfl, hb, hg, _⟩
  · refine ⟨none, 0, by rw [h0], fun k hk => by omega, fun a e => by cases e⟩
  · refine ⟨_, cap, rfl, fun k hk => ?_, fun a e => by cases e; exact ⟨rfl, (h.lt g rfl).2, hb⟩⟩
    obtain ⟨h1, h2⟩ := scs_at s l k hk
    have hc := h.cells (g := g) rfl
    have e : ∀ j, (⟨g, 0, none⟩ : Addr).add j = ⟨g, j, none⟩ := fun j => by rw [add_mid, Nat.zero_add]
    refine ⟨g, rfl, ?_, ?_⟩
    · rw [← e]; exact hc _ _ h1
    · rw [← e]; exact hc _ _ h2
theorem SpansIn.kept {w w' : World} {sp : Option Addr} {s : ByteArray} {l : List (Nat × Nat)} {r : Option Nat} (h : SpansIn w sp s l) (hg : w.grownBy w' r) (hne : ∀ a, sp = some a → some a.block ≠ r) : SpansIn w' sp s l := fun k hk => by
  obtain ⟨g, rfl, h1, h2⟩ := h k hk
  have hb : some g ≠ r := hne ⟨g, 0, none⟩ rfl
  exact ⟨g, rfl, hg.cell h1 hb, hg.cell h2 hb⟩
set_option maxRecDepth 100000 in
set_option maxHeartbeats 4000000 in
theorem sameSpansC (sa sb : Option Addr) (ca cb : Nat) (s : ByteArray) (l : List (Nat × Nat)) (hl : l.length ≤ 1048577) (w : World) (ha : SpansIn w sa s l) (hb : SpansIn w sb s l) : Calls Tryd.prog 13 #[.slice sa l.length ca, .slice sb l.length cb] w fun e w' => e = .returned (.bool true) ∧ w.grownBy w' none := by
  go_enter Tryd.func13, Tryd.ntmps13
  go_wp2
  go_loopw [5] (fun v wr => ∃ k : Nat, k ≤ l.length ∧ v = .int .i64 k ∧ w.grownBy wr none) (fun v _ => l.length - (intOf v).toNat)
  case atStart => exact ⟨0, Nat.zero_le _, rfl, World.grownBy.refl _ _⟩
  case round =>
    obtain ⟨k, hk, rfl, hg⟩ := hrel
    by_cases hlt : k < l.length
    · obtain ⟨g1, rfl, x0, x1⟩ := (ha.kept hg (by simp)) k hlt
      obtain ⟨g2, rfl, y0, y1⟩ := (hb.kept hg (by simp)) k hlt
      have hlt' : (k : Int) < (l.length : Int) := by omega
      generalize l[k] = r at *
      generalize s.extract r.1 r.2 = T at *
      go_wp2
      go_quiet (fail)
      go_wp2
      go_roundw
      case rel => exact ⟨k + 1, by omega, by go_num, gb_drewN hg _⟩
      case measure => simp [intOf]; omega
    · have hlt' : ¬ (k : Int) < (l.length : Int) := by omega
      go_wp2
      go_ret
      exact ⟨rfl, hg⟩
end Go.Proofs.YtimknahfgpafaaaDoor
