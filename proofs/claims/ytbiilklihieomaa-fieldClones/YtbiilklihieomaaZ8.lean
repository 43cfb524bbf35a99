/- Get, Set, Pop of a field of bytes. -/
import Derived.Test.YtbiilklihieomaaZ5
namespace Go.Proofs.Ytbiilklihieomaa
open Go.RowKit
set_option linter.unusedVariables false
set_option linter.unusedSimpArgs false
set_option maxRecDepth 100000

theorem Fb.apart {w : World} {b s q C R S : Nat} {g : Nat → Nat} (h : Fb w b s q C R S g) : b ≠ q := by
  rintro rfl
  obtain ⟨K, _, _, f0, ⟨c, hc, _⟩, _⟩ := h.st.cap
  have := h.fld
  unfold Bo at this
  rw [this] at hc
  simp at hc
theorem fGetY (b s q C R S : Nat) (g : Nat → Nat) (hz : Sz C R S) (x y : Nat) (hx : x < C) (hy : y < R) (w : World) (h : Fb w b s q C R S g) : Calls Try.prog 16 #[.pointer (some ⟨b, 0, none⟩), .int .i64 (x : Nat), .int .i64 (y : Nat)] w fun e w' => e = .returned (.tuple #[.int .u8 (g (y * C + x) : Nat), .int .i64 0]) ∧ w.grownBy w' none := by
  have h0 := h.cell
  have hm := m_hasPlace h.st
  have hd : decide (0 ≤ (x : Int) ∧ (x : Int) < (C : Int) ∧ 0 ≤ (y : Int) ∧ (y : Int) < (R : Int)) = true := decide_eq_true (by omega)
  have hpl := fun w => hasPlaceC C R S x y w
  rw [hd] at hpl
  have hgt := fun w => m_get s w
  go_enter Try.func16, Try.ntmps16
  go_wp2_with (first | (go_at_call 46; refine (lacksN b s q C R S g w h).mono ?_; rintro e V ⟨rfl, hV⟩; subst V) | (go_at_call 80; refine (hpl w).mono ?_; rintro e V ⟨rfl, gV⟩; have hV := h.kept gV; have v0 := hV.cell) | (go_at_call 113; refine (getC s q C R S g hz x y hx hy V hV.st).mono ?_; rintro e V2 ⟨rfl, m, hm2⟩))
  go_ret2
  exact ⟨rfl, gb_drewN gV m⟩

theorem fGetN (b s q C R S : Nat) (g : Nat → Nat) (hz : Sz C R S) (x y : Int) (hn : ¬ (0 ≤ x ∧ x < C ∧ 0 ≤ y ∧ y < R)) (w : World) (h : Fb w b s q C R S g) : Calls Try.prog 16 #[.pointer (some ⟨b, 0, none⟩), .int .i64 x, .int .i64 y] w fun e w' => e = .returned (.tuple #[.int .u8 0, .int .i64 130]) ∧ w.grownBy w' none := by
  have h0 := h.cell
  have hm := m_hasPlace h.st
  have hpl := fun w => hasPlaceC C R S x y w
  rw [decide_eq_false hn] at hpl
  go_enter Try.func16, Try.ntmps16
  go_wp2_with (first | (go_at_call 46; refine (lacksN b s q C R S g w h).mono ?_; rintro e V ⟨rfl, hV⟩; subst V) | (go_at_call 80; refine (hpl w).mono ?_; rintro e V ⟨rfl, gV⟩))
  go_ret2
  exact ⟨rfl, gV⟩

theorem fSetY (b s q C R S : Nat) (g : Nat → Nat) (hz : Sz C R S) (x y u : Nat) (hx : x < C) (hy : y < R) (hu : u < S) (w : World) (h : Fb w b s q C R S g) : Calls Try.prog 19 #[.pointer (some ⟨b, 0, none⟩), .int .i64 (x : Nat), .int .i64 (y : Nat), .int .u8 (u : Nat)] w fun e w' => e = .returned (.int .i64 0) ∧ Fb w' b s q C R S (fun k => if k = y * C + x then u else g k) ∧ w.grownBy w' (some q) := by
  have h0 := h.cell
  have hm := m_hasPlace h.st
  have hd : decide (0 ≤ (x : Int) ∧ (x : Int) < (C : Int) ∧ 0 ≤ (y : Int) ∧ (y : Int) < (R : Int)) = true := decide_eq_true (by omega)
  have hpl := fun w => hasPlaceC C R S x y w
  rw [hd] at hpl
  have hd2 : decide ((u : Int) < (S : Int)) = true := decide_eq_true (by omega)
  have hst := fun w => hasStateC C R S u (by have := hz.s1; omega) w
  rw [hd2] at hst
  have hgt := fun w => m_set s w
  go_enter Try.func19, Try.ntmps19
  go_wp2_with (first | (go_at_call 46; refine (lacksN b s q C R S g w h).mono ?_; rintro e V ⟨rfl, hV⟩; subst V) | (go_at_call 80; refine (hpl w).mono ?_; rintro e V ⟨rfl, gV⟩; have hV := h.kept gV; have v0 := hV.cell; have hm1 := m_hasState hV.st) | (go_at_call 82; refine (hst V).mono ?_; rintro e V2 ⟨rfl, gV2⟩; have hV2 := hV.kept gV2; have v20 := hV2.cell) | (go_at_call 118; refine (setC s q C R S g hz x y u hx hy V2 hV2.st).mono ?_; rintro e V3 ⟨rfl, hS3, g3⟩))
  go_ret
  refine ⟨rfl, ⟨hV2.fld.kept g3 (fun e => ?_), hS3⟩, gb_trans (gb_none (World.grownBy.refl _ _) (gb_trans gV gV2)) g3⟩
  cases e
  exact hV2.apart rfl

theorem fSetN (b s q C R S : Nat) (g : Nat → Nat) (hz : Sz C R S) (x y u : Int) (hn : ¬ (0 ≤ x ∧ x < C ∧ 0 ≤ y ∧ y < R)) (w : World) (h : Fb w b s q C R S g) : Calls Try.prog 19 #[.pointer (some ⟨b, 0, none⟩), .int .i64 x, .int .i64 y, .int .u8 u] w fun e w' => e = .returned (.int .i64 130) ∧ w.grownBy w' none := by
  have h0 := h.cell
  have hm := m_hasPlace h.st
  have hpl := fun w => hasPlaceC C R S x y w
  rw [decide_eq_false hn] at hpl
  go_enter Try.func19, Try.ntmps19
  go_wp2_with (first | (go_at_call 46; refine (lacksN b s q C R S g w h).mono ?_; rintro e V ⟨rfl, hV⟩; subst V) | (go_at_call 80; refine (hpl w).mono ?_; rintro e V ⟨rfl, gV⟩))
  go_ret
  exact ⟨rfl, gV⟩

theorem fSetS (b s q C R S : Nat) (g : Nat → Nat) (hz : Sz C R S) (x y u : Nat) (hx : x < C) (hy : y < R) (hu8 : u < 256) (hu : ¬ u < S) (w : World) (h : Fb w b s q C R S g) : Calls Try.prog 19 #[.pointer (some ⟨b, 0, none⟩), .int .i64 (x : Nat), .int .i64 (y : Nat), .int .u8 (u : Nat)] w fun e w' => e = .returned (.int .i64 7) ∧ w.grownBy w' none := by
  have h0 := h.cell
  have hm := m_hasPlace h.st
  have hd : decide (0 ≤ (x : Int) ∧ (x : Int) < (C : Int) ∧ 0 ≤ (y : Int) ∧ (y : Int) < (R : Int)) = true := decide_eq_true (by omega)
  have hpl := fun w => hasPlaceC C R S x y w
  rw [hd] at hpl
  have hd2 : decide ((u : Int) < (S : Int)) = false := decide_eq_false (by omega)
  have hst := fun w => hasStateC C R S u hu8 w
  rw [hd2] at hst
  go_enter Try.func19, Try.ntmps19
  go_wp2_with (first | (go_at_call 46; refine (lacksN b s q C R S g w h).mono ?_; rintro e V ⟨rfl, hV⟩; subst V) | (go_at_call 80; refine (hpl w).mono ?_; rintro e V ⟨rfl, gV⟩; have hV := h.kept gV; have v0 := hV.cell; have hm1 := m_hasState hV.st) | (go_at_call 82; refine (hst V).mono ?_; rintro e V2 ⟨rfl, gV2⟩))
  go_ret
  exact ⟨rfl, gb_trans gV gV2⟩

/-- How many cells of the first k rows live. -/
def popN (g : Nat → Nat) (C : Nat) : Nat → Nat
  | 0 => 0
  | k + 1 => popN g C k + cnt (fun x => g (k * C + x)) C
theorem popN_le (g : Nat → Nat) (C : Nat) : ∀ k, popN g C k ≤ k * C
  | 0 => Nat.zero_le _
  | k + 1 => by
    have h1 := popN_le g C k
    have h2 := cnt_le (fun x => g (k * C + x)) C
    rw [popN, Nat.add_mul, Nat.one_mul]
    omega

theorem fPop (b s q C R S : Nat) (g : Nat → Nat) (hz : Sz C R S) (w : World) (h : Fb w b s q C R S g) : Calls Try.prog 28 #[.pointer (some ⟨b, 0, none⟩)] w fun e w' => e = .returned (.int .i64 (popN g C R : Nat)) ∧ w.grownBy w' none := by
  have hct := fun w => m_count s w
  go_enter Try.func28, Try.ntmps28
  go_wp2_with (go_at_call 25; refine (fH b s q C R S g w h).mono ?_; rintro e V ⟨rfl, gV⟩)
  go_loopw [3, 7] (fun n i wr => ∃ k : Nat, k ≤ R ∧ i = .int .i64 k ∧ n = .int .i64 (popN g C k : Nat) ∧ w.grownBy wr none) (fun _ i _ => R - (intOf i).toNat)
  case atStart => exact ⟨0, Nat.zero_le _, rfl, rfl, gV⟩
  case round =>
    obtain ⟨k, hk, rfl, rfl, Gk⟩ := hrel
    by_cases hlt : k < R
    · have hlt' : (k : Int) < (R : Int) := by omega
      have hr1 := hz.r1
      have hFk := h.kept Gk
      have v0 := hFk.cell
      have hp1 := popN_le g C k
      have hle := row_le (C := C) hlt
      have hall := hz.all
      have hcl := cnt_le (fun x => g (k * C + x)) C
      have hnx : Hid (popN g C (k + 1) = popN g C k + cnt (fun x => g (k * C + x)) C) := rfl
      have hcc := countC s q C R S g hz k hlt wr hFk.st
      obtain ⟨c, hc⟩ : ∃ c, cnt (fun x => g (k * C + x)) C = c := ⟨_, rfl⟩
      obtain ⟨d, hd⟩ : ∃ d, popN g C k = d := ⟨_, rfl⟩
      rw [hc] at hcc hcl hnx
      rw [hd] at hnx hp1 ⊢
      clear hc hd
      go_wp2_with (go_at_call 112; refine hcc.mono ?_; rintro e V2 ⟨rfl, m, hm2⟩)
      go_roundw
      case rel => exact ⟨k + 1, hlt, by go_num, by rw [hnx.out]; go_num, gb_drewN Gk m⟩
      case measure => simp [intOf]; omega
    · have hkn : ¬ ((k : Int) < (R : Int)) := by omega
      have hkc : k = R := by omega
      subst hkc
      go_wp2
      go_ret
      exact ⟨rfl, Gk⟩
end Go.Proofs.Ytbiilklihieomaa
