/- Packed, Clone, Clear, Same of fields of bytes. -/
import Derived.Test.YtbiilklihieomaaZ15
import Derived.Test.YtbiilklihieomaaZ16
import Derived.Lib.LazyBuf
import Derived.Lib.SliceRun
namespace Go.Proofs.Ytbiilklihieomaa
open Go.RowKit Go.Lib
set_option linter.unusedVariables false
set_option linter.unusedSimpArgs false
set_option maxRecDepth 100000

theorem packedC (s : Nat) (w : World) : Calls Try.prog 116 #[.pointer (some ⟨s, 0, none⟩)] w fun e w' => e = .returned (.bool false) ∧ w' = w := by
  go_enter Try.func116, Try.ntmps116
  go_wp2
  go_ret
  exact ⟨rfl, rfl⟩
theorem fPacked (b s q C R S : Nat) (g : Nat → Nat) (hz : Sz C R S) (w : World) (h : Fb w b s q C R S g) : Calls Try.prog 27 #[.pointer (some ⟨b, 0, none⟩)] w fun e w' => e = .returned (.bool false) ∧ w' = w := by
  have h0 := h.cell
  have hm := fun w => m_packed s w
  go_enter Try.func27, Try.ntmps27
  go_wp2_with (first | (go_at_call 46; refine (lacksN b s q C R S g w h).mono ?_; rintro e V ⟨rfl, hV⟩; subst V) | (go_at_call 116; refine (packedC s w).mono ?_; rintro e V ⟨rfl, hV⟩; subst V))
  go_ret
  exact ⟨rfl, rfl⟩
theorem fClone (b s q C R S : Nat) (g : Nat → Nat) (hz : Sz C R S) (w : World) (h : Fb w b s q C R S g) : Calls Try.prog 29 #[.pointer (some ⟨b, 0, none⟩)] w fun e w' => ∃ b2 s2 q2, e = .returned (.pointer (some ⟨b2, 0, none⟩)) ∧ Fb w' b2 s2 q2 C R S g ∧ w.heap.size ≤ b2 ∧ w.heap.size ≤ s2 ∧ w.heap.size ≤ q2 ∧ w.grownBy w' none := by
  have h0 := h.cell
  have hcp := fun w => m_copied s w
  go_enter Try.func29, Try.ntmps29
  go_wp2_with (first | (go_at_call 46; refine (lacksN b s q C R S g w h).mono ?_; rintro e V ⟨rfl, hV⟩; subst V) | (go_at_call 111; refine (copiedC s q C R S g hz w h.st).mono ?_; rintro e V2 ⟨s2, q2, rfl, hS2, l1, l2, gV2⟩))
  go_ret
  have g9 : V2.grownBy (V2.alloc (.cells #[.iface 108 (.pointer (some ⟨s2, 0, none⟩))] 52)) none := World.grownBy_alloc _ _ none
  exact ⟨V2.heap.size, s2, q2, rfl, ⟨Bo.new V2 _ _, hS2.kept g9⟩, gV2.size, l1, l2, gb_trans gV2 g9⟩
theorem equalT (n : Nat) (hn : n ≤ 65536) (sa sb : Option Addr) (ca cb : Nat) (f f' : Nat → Nat) (w : World) (ha : By w sa n f) (hb : By w sb n f') (r : Bool) (hr : r = decide (∀ k, k < n → f k = f' k)) : Calls Try.prog 51 #[.slice sa n ca, .slice sb n cb] w fun e w' => e = .returned (.bool r) ∧ ∃ m, w' = w.drewN m := by
  have hne : ((n : Int) != (n : Int)) = false := by simp
  have HR : Hid (r = decide (∀ k, k < n → f k = f' k)) := hr
  clear hr
  go_enter Try.func51, Try.ntmps51
  go_wp2
  go_loopw [13] (fun i wr => ∃ k : Nat, k ≤ n ∧ i = .int .i64 k ∧ (∀ j, j < k → f j = f' j) ∧ ∃ m, wr = w.drewN m) (fun i _ => n - (intOf i).toNat)
  case atStart => exact ⟨0, Nat.zero_le _, rfl, fun j hj => absurd hj (Nat.not_lt_zero _), 0, rfl⟩
  case round =>
    obtain ⟨k, hk, rfl, hall, hm⟩ := hrel
    have HM : Hid (∃ m, wr = w.drewN m) := hm
    have ha' : By wr sa n f := by obtain ⟨m, rfl⟩ := hm; exact ha
    have hb' : By wr sb n f' := by obtain ⟨m, rfl⟩ := hm; exact hb
    clear hm
    by_cases hlt : k < n
    · have hlt' : (k : Int) < (n : Int) := by omega
      obtain ⟨a, rfl⟩ := ha.some (by omega)
      obtain ⟨b, rfl⟩ := hb.some (by omega)
      have ak := ha'.at hlt
      have bk := hb'.at hlt
      by_cases he : f k = f' k
      · have hall2 : Hid (∀ j, j < k + 1 → f j = f' j) := fun j hj => by
          by_cases e : j = k
          · rw [e]; exact he
          · exact hall j (by omega)
        rw [← he] at bk
        generalize f k = z at ak bk
        have ya : ((z : Int) != (z : Int)) = false := by simp
        go_wp2
        go_quiet (fail)
        go_wp2
        go_roundw
        case rel => exact ⟨k + 1, hlt, by go_num, hall2.out, by obtain ⟨m, rfl⟩ := HM.out; exact ⟨m + nq, by rw [World.drewN_drewN]⟩⟩
        case measure => simp [intOf]; omega
      · have hr0 : r = false := by rw [HR.out]; exact decide_eq_false (fun h => he (h k hlt))
        subst hr0
        have ya : ((f k : Int) != (f' k : Int)) = true := by simp; omega
        generalize f k = z at ak ya
        generalize f' k = z2 at bk ya
        go_wp2
        go_quiet (fail)
        go_wp2
        go_ret
        exact ⟨rfl, by obtain ⟨m, rfl⟩ := HM.out; exact ⟨m + nq, by rw [World.drewN_drewN]⟩⟩
    · have hkn : ¬ ((k : Int) < (n : Int)) := by omega
      obtain rfl : n = k := by omega
      have hr0 : r = true := by rw [HR.out]; exact decide_eq_true hall
      subst hr0
      go_wp2
      go_ret
      exact ⟨rfl, HM.out⟩
theorem gb_cells (b : Nat) : ∀ (vs : List Value) (o : Nat) (w w' : World), w.grownBy w' (some b) → w.grownBy (w'.setCells b o vs) (some b)
  | [], _, _, _, h => h
  | v :: r, o, w, w', h => gb_cells b r (o + 1) w _ (gb_set h o v)
theorem wipeC (s q C R S : Nat) (g : Nat → Nat) (hz : Sz C R S) (w : World) (h : Sb w s q C R S g) : Calls Try.prog 120 #[.pointer (some ⟨s, 0, none⟩)] w fun e w' => e = .returned (.tuple #[]) ∧ Sb w' s q C R S (fun _ => 0) ∧ w.grownBy w' (some q) := by
  obtain ⟨K, k1, k2, f0, k3, k4⟩ := h.cap
  have c3 := k1.cell 3 (v := .slice (some ⟨q, 0, none⟩) (C * R) K) rfl
  have hpos : 0 < C * R := Nat.mul_pos hz.c0 hz.r0
  have hcl := Lib.run_clear_slice (P := Try.prog) w 39 5 0 (.int .u8 0) under8S (fun _ => by kernel_rfl) rfl rfl q 0 (C * R) K hpos (fun j hj => by rw [Nat.zero_add, h.sp hj]; rfl) (fun j hj => by rw [Nat.zero_add]; exact h.frz j)
  obtain ⟨W2, hW2⟩ : ∃ W2, w.setCells q 0 (List.replicate (C * R) (.int .u8 0)) = W2 := ⟨_, rfl⟩
  rw [hW2] at hcl
  have g2 : w.grownBy W2 (some q) := hW2 ▸ gb_cells q _ 0 w w (World.grownBy.refl _ _)
  have r2 : W2.rowIs q 5 K (fun j => if 0 ≤ j ∧ j < 0 + (List.replicate (C * R) (Value.int .u8 0)).length then (List.replicate (C * R) (Value.int .u8 0))[j - 0]?.getD default else f0 j) := hW2 ▸ rowIs_setCells (List.replicate (C * R) (Value.int .u8 0)) 0 w f0 k3
  have hap := h.apart
  clear hW2
  go_enter Try.func120, Try.ntmps120
  go_wp2
  go_end0
  refine ⟨rfl, ⟨K, k1.kept g2 (fun e => by cases e; exact hap rfl), k2, _, r2, fun k hk => ?_⟩, g2⟩
  rw [if_pos (by rw [List.length_replicate]; omega)]
  simp [hk]
theorem fClear (b s q C R S : Nat) (g : Nat → Nat) (hz : Sz C R S) (w : World) (h : Fb w b s q C R S g) : Calls Try.prog 21 #[.pointer (some ⟨b, 0, none⟩)] w fun e w' => e = .returned (.int .i64 0) ∧ Fb w' b s q C R S (fun _ => 0) ∧ w.grownBy w' (some q) := by
  have h0 := h.cell
  have hm := fun w => m_wipe s w
  go_enter Try.func21, Try.ntmps21
  go_wp2_with (first | (go_at_call 46; refine (lacksN b s q C R S g w h).mono ?_; rintro e V ⟨rfl, hV⟩; subst V) | (go_at_call 120; refine (wipeC s q C R S g hz w h.st).mono ?_; rintro e V3 ⟨rfl, hS3, g3⟩))
  go_ret
  exact ⟨rfl, ⟨h.fld.kept g3 (fun e => by cases e; exact h.apart rfl), hS3⟩, g3⟩

end Go.Proofs.Ytbiilklihieomaa
