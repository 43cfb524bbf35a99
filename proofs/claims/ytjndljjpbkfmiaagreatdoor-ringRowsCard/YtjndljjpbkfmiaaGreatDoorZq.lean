/- Get, Set, Pop of a field of bytes. -/
import Derived.Test.YtjndljjpbkfmiaaGreatDoorZ5
import Derived.Test.YtjndljjpbkfmiaaGreatDoorZ11
namespace Go.Proofs.YtjndljjpbkfmiaaGreatDoor
open Go.RowKit
set_option linter.unusedVariables false
set_option linter.unusedSimpArgs false
set_option maxRecDepth 100000

theorem Fb.apart {w : World} {b s q C R S : Nat} {g : Nat → Nat} (h : Fb w b s q C R S g) : b ≠ q := by
  rintro rfl
  obtain ⟨K, _, _, f0, ⟨c, hc, _⟩, _⟩ := h.st.cap
  have := h.fld
  unfold Bo at this
  rw [this] at hc
  simp at hc
theorem fGetY (b s q C R S : Nat) (g : Nat → Nat) (hz : Sz C R S) (x y : Nat) (hx : x < C) (hy : y < R) (w : World) (h : Fb w b s q C R S g) : Calls Tryz.prog 29 #[.pointer (some ⟨b, 0, none⟩), .int .i64 (x : Nat), .int .i64 (y : Nat)] w fun e w' => e = .returned (.tuple #[.int .u8 (g (y * C + x) : Nat), .int .i64 0]) ∧ w.grownBy w' none := by
  have h0 := h.cell
  have hm := m_hasPlace h.st
  have hd : decide (0 ≤ (x : Int) ∧ (x : Int) < (C : Int) ∧ 0 ≤ (y : Int) ∧ (y : Int) < (R : Int)) = true := decide_eq_true (by omega)
  have hpl := fun w => hasPlaceC C R S x y w
  rw [hd] at hpl
  have hgt := fun w => m_get s w
  go_enter Tryz.func29, Tryz.ntmps29
  go_wp2_with (first | (go_at_call 61; refine (lacksN b s q C R S g w h).mono ?_; rintro e V ⟨rfl, hV⟩; subst V) | (go_at_call 144; refine (hpl w).mono ?_; rintro e V ⟨rfl, gV⟩; have hV := h.kept gV; have v0 := hV.cell) | (go_at_call 166; refine (getC s q C R S g hz x y hx hy V hV.st).mono ?_; rintro e V2 ⟨rfl, m, hm2⟩))
  go_ret2
  exact ⟨rfl, gb_drewN gV m⟩

theorem fGetN (b s q C R S : Nat) (g : Nat → Nat) (hz : Sz C R S) (x y : Int) (hn : ¬ (0 ≤ x ∧ x < C ∧ 0 ≤ y ∧ y < R)) (w : World) (h : Fb w b s q C R S g) : Calls Tryz.prog 29 #[.pointer (some ⟨b, 0, none⟩), .int .i64 x, .int .i64 y] w fun e w' => e = .returned (.tuple #[.int .u8 0, .int .i64 130]) ∧ w.grownBy w' none := by
  have h0 := h.cell
  have hm := m_hasPlace h.st
  have hpl := fun w => hasPlaceC C R S x y w
  rw [decide_eq_false hn] at hpl
  go_enter Tryz.func29, Tryz.ntmps29
  go_wp2_with (first | (go_at_call 61; refine (lacksN b s q C R S g w h).mono ?_; rintro e V ⟨rfl, hV⟩; subst V) | (go_at_call 144; refine (hpl w).mono ?_; rintro e V ⟨rfl, gV⟩))
  go_ret2
  exact ⟨rfl, gV⟩

theorem fSetY (b s q C R S : Nat) (g : Nat → Nat) (hz : Sz C R S) (x y u : Nat) (hx : x < C) (hy : y < R) (hu : u < S) (w : World) (h : Fb w b s q C R S g) : Calls Tryz.prog 46 #[.pointer (some ⟨b, 0, none⟩), .int .i64 (x : Nat), .int .i64 (y : Nat), .int .u8 (u : Nat)] w fun e w' => e = .returned (.int .i64 0) ∧ Fb w' b s q C R S (fun k => if k = y * C + x then u else g k) ∧ w.grownBy w' (some q) := by
  have h0 := h.cell
  have hm := m_hasPlace h.st
  have hd : decide (0 ≤ (x : Int) ∧ (x : Int) < (C : Int) ∧ 0 ≤ (y : Int) ∧ (y : Int) < (R : Int)) = true := decide_eq_true (by omega)
  have hpl := fun w => hasPlaceC C R S x y w
  rw [hd] at hpl
  have hd2 : decide ((u : Int) < (S : Int)) = true := decide_eq_true (by omega)
  have hst := fun w => hasStateC C R S u (by have := hz.s1; omega) w
  rw [hd2] at hst
  have hgt := fun w => m_set s w
  go_enter Tryz.func46, Tryz.ntmps46
  go_wp2_with (first | (go_at_call 61; refine (lacksN b s q C R S g w h).mono ?_; rintro e V ⟨rfl, hV⟩; subst V) | (go_at_call 144; refine (hpl w).mono ?_; rintro e V ⟨rfl, gV⟩; have hV := h.kept gV; have v0 := hV.cell; have hm1 := m_hasState hV.st) | (go_at_call 146; refine (hst V).mono ?_; rintro e V2 ⟨rfl, gV2⟩; have hV2 := hV.kept gV2; have v20 := hV2.cell) | (go_at_call 171; refine (setC s q C R S g hz x y u hx hy V2 hV2.st).mono ?_; rintro e V3 ⟨rfl, hS3, g3⟩))
  go_ret
  refine ⟨rfl, ⟨hV2.fld.kept g3 (fun e => ?_), hS3⟩, gb_trans (gb_none (World.grownBy.refl _ _) (gb_trans gV gV2)) g3⟩
  cases e
  exact hV2.apart rfl

theorem fSetN (b s q C R S : Nat) (g : Nat → Nat) (hz : Sz C R S) (x y u : Int) (hn : ¬ (0 ≤ x ∧ x < C ∧ 0 ≤ y ∧ y < R)) (w : World) (h : Fb w b s q C R S g) : Calls Tryz.prog 46 #[.pointer (some ⟨b, 0, none⟩), .int .i64 x, .int .i64 y, .int .u8 u] w fun e w' => e = .returned (.int .i64 130) ∧ w.grownBy w' none := by
  have h0 := h.cell
  have hm := m_hasPlace h.st
  have hpl := fun w => hasPlaceC C R S x y w
  rw [decide_eq_false hn] at hpl
  go_enter Tryz.func46, Tryz.ntmps46
  go_wp2_with (first | (go_at_call 61; refine (lacksN b s q C R S g w h).mono ?_; rintro e V ⟨rfl, hV⟩; subst V) | (go_at_call 144; refine (hpl w).mono ?_; rintro e V ⟨rfl, gV⟩))
  go_ret
  exact ⟨rfl, gV⟩

theorem fSetS (b s q C R S : Nat) (g : Nat → Nat) (hz : Sz C R S) (x y u : Nat) (hx : x < C) (hy : y < R) (hu8 : u < 256) (hu : ¬ u < S) (w : World) (h : Fb w b s q C R S g) : Calls Tryz.prog 46 #[.pointer (some ⟨b, 0, none⟩), .int .i64 (x : Nat), .int .i64 (y : Nat), .int .u8 (u : Nat)] w fun e w' => e = .returned (.int .i64 7) ∧ w.grownBy w' none := by
  have h0 := h.cell
  have hm := m_hasPlace h.st
  have hd : decide (0 ≤ (x : Int) ∧ (x : Int) < (C : Int) ∧ 0 ≤ (y : Int) ∧ (y : Int) < (R : Int)) = true := decide_eq_true (by omega)
  have hpl := fun w => hasPlaceC C R S x y w
  rw [hd] at hpl
  have hd2 : decide ((u : Int) < (S : Int)) = false := decide_eq_false (by omega)
  have hst := fun w => hasStateC C R S u hu8 w
  rw [hd2] at hst
  go_enter Tryz.func46, Tryz.ntmps46
  go_wp2_with (first | (go_at_call 61; refine (lacksN b s q C R S g w h).mono ?_; rintro e V ⟨rfl, hV⟩; subst V) | (go_at_call 144; refine (hpl w).mono ?_; rintro e V ⟨rfl, gV⟩; have hV := h.kept gV; have v0 := hV.cell; have hm1 := m_hasState hV.st) | (go_at_call 146; refine (hst V).mono ?_; rintro e V2 ⟨rfl, gV2⟩))
  go_ret
  exact ⟨rfl, gb_trans gV gV2⟩

/-- How many cells of the first k rows live. -/
def popN (g : Nat → Nat) (C : Nat) : Nat → Nat
  | 0 => 0
  | k + 1 => popN g C k + cnt (fun x => g (k * C + x)) C
theorem popN_le (g : Nat → Nat) (C : Nat) : ∀ k, popN g C k ≤ k * C
  | 0 => Nat.zero_le _
  | k + 1 => by
    have h1 := popN_le g C k
    have h2 := cnt_le (fun x => g (k * C + x)) C
    rw [popN, Nat.add_mul, Nat.one_mul]
    omega

end Go.Proofs.YtjndljjpbkfmiaaGreatDoor
namespace Go.Proofs.YtjndljjpbkfmiaaGreatDoor
open Go.RowKit
set_option linter.unusedVariables false
set_option linter.unusedSimpArgs false
set_option maxRecDepth 100000

theorem By.some {w : World} {sp : Option Addr} {n : Nat} {f : Nat → Nat} (h : By w sp n f) (hn : 0 < n) : ∃ a, sp = Option.some a := by
  obtain ⟨a, ha, _⟩ := h 0 hn
  exact ⟨a, ha⟩
theorem checkLineL (C R S n c : Nat) (sp : Option Addr) (hn : n ≠ C) (w : World) : Calls Tryz.prog 143 #[.agg #[.int .i64 (C : Nat), .int .i64 (R : Nat), .int .i64 (S : Nat)], .slice sp n c] w fun e w' => e = .returned (.int .i64 131) ∧ w.grownBy w' none := by
  obtain ⟨W1, hW1, sz1, g1, B1⟩ := boxn w #[.int .i64 (C : Nat), .int .i64 (R : Nat), .int .i64 (S : Nat)] 120
  have c0 := B1.cell 0 (v := .int .i64 (C : Nat)) rfl
  have hne : ((n : Int) != (C : Int)) = true := by simp; omega
  go_enter Tryz.func143, Tryz.ntmps143
  go_wp2
  go_ret
  exact ⟨rfl, g1⟩
theorem checkLineG (C R S c : Nat) (hC : C ≤ 65536) (sp : Option Addr) (f : Nat → Nat) (h256 : ∀ k, f k < 256) (E : Int) (hE : (∀ k, k < C → f k < S) ∧ E = 0 ∨ (∃ k, k < C ∧ ¬ f k < S) ∧ E = 7) (w : World) (hb : By w sp C f) : Calls Tryz.prog 143 #[.agg #[.int .i64 (C : Nat), .int .i64 (R : Nat), .int .i64 (S : Nat)], .slice sp C c] w fun e w' => e = .returned (.int .i64 E) ∧ w.grownBy w' none := by
  obtain ⟨W1, hW1, sz1, g1, B1⟩ := boxn w #[.int .i64 (C : Nat), .int .i64 (R : Nat), .int .i64 (S : Nat)] 120
  have c0 := B1.cell 0 (v := .int .i64 (C : Nat)) rfl
  have hne : ((C : Int) != (C : Int)) = false := by simp
  have HE : Hid ((∀ k, k < C → f k < S) ∧ E = 0 ∨ (∃ k, k < C ∧ ¬ f k < S) ∧ E = 7) := hE
  clear hE
  go_enter Tryz.func143, Tryz.ntmps143
  go_wp2
  go_loopw [14] (fun i wr => ∃ k : Nat, k ≤ C ∧ i = .int .i64 k ∧ (∀ j, j < k → f j < S) ∧ w.grownBy wr none ∧ Bo wr w.heap.size 120 #[.int .i64 (C : Nat), .int .i64 (R : Nat), .int .i64 (S : Nat)]) (fun i _ => C - (intOf i).toNat)
  case atStart => exact ⟨0, Nat.zero_le _, rfl, fun j hj => absurd hj (Nat.not_lt_zero _), g1, B1⟩
  case round =>
    obtain ⟨k, hk, rfl, hall, Gk, Bk⟩ := hrel
    by_cases hlt : k < C
    · have hlt' : (k : Int) < (C : Int) := by omega
      obtain ⟨a, rfl⟩ := hb.some (by omega)
      have ck := (hb.kept Gk (by simp)).at hlt
      have d0 := Bk.cell 0 (v := .int .i64 (C : Nat)) rfl
      have d1 := Bk.cell 1 (v := .int .i64 (R : Nat)) rfl
      have d2 := Bk.cell 2 (v := .int .i64 (S : Nat)) rfl
      have hst := hasStateC C R S (f k) (h256 k) wr
      by_cases hu : f k < S
      · have hall' : Hid (∀ j, j < k + 1 → f j < S) := fun j hj => by
          by_cases e : j = k
          · rw [e]; exact hu
          · exact hall j (by omega)
        rw [decide_eq_true (show ((f k : Nat) : Int) < (S : Int) by omega)] at hst
        generalize f k = u at ck hst
        go_wp2_with (go_at_call 146; refine hst.mono ?_; rintro e V ⟨rfl, gV⟩)
        go_roundw
        case rel => exact ⟨k + 1, hlt, by go_num, hall'.out, gb_trans Gk gV, Bk.kept gV (by simp)⟩
        case measure => simp [intOf]; omega
      · have hE7 : E = 7 := by
          rcases HE.out with ⟨h1, _⟩ | ⟨_, h2⟩
          · exact absurd (h1 k hlt) hu
          · exact h2
        subst hE7
        rw [decide_eq_false (show ¬ ((f k : Nat) : Int) < (S : Int) by omega)] at hst
        generalize f k = u at ck hst
        go_wp2_with (go_at_call 146; refine hst.mono ?_; rintro e V ⟨rfl, gV⟩)
        go_ret
        exact ⟨rfl, gb_trans Gk gV⟩
    · have hkn : ¬ ((k : Int) < (C : Int)) := by omega
      have hkc : k = C := by omega
      subst hkc
      have hE0 : E = 0 := by
        rcases HE.out with ⟨_, h1⟩ | ⟨⟨k, h2, h3⟩, _⟩
        · exact h1
        · exact absurd (hall k h2) h3
      subst hE0
      go_wp2
      go_ret
      exact ⟨rfl, Gk⟩
theorem layC (s q C R S : Nat) (g : Nat → Nat) (hz : Sz C R S) (y : Nat) (hy : y < R) (sp : Option Addr) (c : Nat) (f : Nat → Nat) (w : World) (h : Sb w s q C R S g) (hb : By w sp C f) : Calls Tryz.prog 167 #[.pointer (some ⟨s, 0, none⟩), .int .i64 (y : Nat), .slice sp C c] w fun e w' => e = .returned (.tuple #[]) ∧ Sb w' s q C R S (fun j => if y * C ≤ j ∧ j < y * C + C then f (j - y * C) else g j) ∧ w.grownBy w' (some q) := by
  have hl := row_le (C := C) hy
  obtain ⟨a, rfl⟩ := hb.some hz.c0
  obtain ⟨K, k1, k2, f0, k3, k4⟩ := h.cap
  have hcp := fun cp m => run_copy_vals (P := Tryz.prog) (w.drewN m) 24 24 3 5 under8S (by kernel_rfl) a C (y * C) K cp c 5 q f0 (fun x => .int .u8 (f x : Nat)) (fun _ _ => rfl) k3 (Nat.le_trans hl k2) hz.c0 (fun j hj => hb.at hj)
  go_enter Tryz.func167, Tryz.ntmps167
  go_wp2_with (go_at_call 174; refine (rowC s q C R S g hz y hy w h).mono ?_; rintro e V ⟨cp, rfl, m, rfl⟩; obtain ⟨w2, e2, r2, g2⟩ := hcp cp m)
  go_end0
  have g0 := gb_trans (gb_drewN (World.grownBy.refl _ _) m) g2
  refine ⟨rfl, ⟨K, k1.kept g0 (fun e => by cases e; exact h.apart rfl), k2, _, r2, fun j hj => ?_⟩, g0⟩
  by_cases hc : y * C ≤ j ∧ j < y * C + C
  · simp only [if_pos hc]
  · simp only [if_neg hc]; exact k4 j hj
theorem fLayY (b : Nat) (s q C R S : Nat) (g : Nat → Nat) (hz : Sz C R S) (y : Nat) (hy : y < R) (sp : Option Addr) (c : Nat) (f : Nat → Nat) (h256 : ∀ k, f k < 256) (hS : ∀ k, k < C → f k < S) (w : World) (h : Fb w b s q C R S g) (hb : By w sp C f) : Calls Tryz.prog 32 #[.pointer (some ⟨b, 0, none⟩), .int .i64 (y : Nat), .slice sp C c] w fun e w' => e = .returned (.int .i64 0) ∧ Fb w' b s q C R S (fun j => if y * C ≤ j ∧ j < y * C + C then f (j - y * C) else g j) ∧ w.grownBy w' (some q) := by
  have h0 := h.cell
  have hm := m_hasRow h.st
  have hd : decide (0 ≤ (y : Int) ∧ (y : Int) < (R : Int)) = true := decide_eq_true (by omega)
  have hpl := fun w => hasRowC C R S y w
  rw [hd] at hpl
  have hly := fun w => m_lay s w
  have hck := fun V hV => checkLineG C R S c hz.c1 sp f h256 0 (.inl ⟨hS, rfl⟩) V hV
  clear h256 hS
  go_enter Tryz.func32, Tryz.ntmps32
  go_wp2_with (first | (go_at_call 61; refine (lacksN b s q C R S g w h).mono ?_; rintro e V ⟨rfl, hV⟩; subst V) | (go_at_call 145; refine (hpl w).mono ?_; rintro e V ⟨rfl, gV⟩; have hV := h.kept gV; have v0 := hV.cell; have hm1 := m_checkLine hV.st) | (go_at_call 143; refine (hck V (hb.kept gV (by simp))).mono ?_; rintro e V2 ⟨rfl, gV2⟩; have hV2 := hV.kept gV2; have v20 := hV2.cell) | (go_at_call 167; refine (layC s q C R S g hz y hy sp c f V2 hV2.st (hb.kept (gb_trans gV gV2) (by simp))).mono ?_; rintro e V3 ⟨rfl, hS3, g3⟩))
  go_ret
  refine ⟨rfl, ⟨hV2.fld.kept g3 (fun e => ?_), hS3⟩, gb_trans (gb_none (World.grownBy.refl _ _) (gb_trans gV gV2)) g3⟩
  cases e
  exact hV2.apart rfl
theorem fLayL (b : Nat) (s q C R S : Nat) (g : Nat → Nat) (hz : Sz C R S) (y : Nat) (hy : y < R) (sp : Option Addr) (n c : Nat) (hn : n ≠ C) (w : World) (h : Fb w b s q C R S g) : Calls Tryz.prog 32 #[.pointer (some ⟨b, 0, none⟩), .int .i64 (y : Nat), .slice sp n c] w fun e w' => e = .returned (.int .i64 131) ∧ w.grownBy w' none := by
  have h0 := h.cell
  have hm := m_hasRow h.st
  have hd : decide (0 ≤ (y : Int) ∧ (y : Int) < (R : Int)) = true := decide_eq_true (by omega)
  have hpl := fun w => hasRowC C R S y w
  rw [hd] at hpl
  have hly := fun w => m_lay s w
  have hck := fun V => checkLineL C R S n c sp hn V
  go_enter Tryz.func32, Tryz.ntmps32
  go_wp2_with (first | (go_at_call 61; refine (lacksN b s q C R S g w h).mono ?_; rintro e V ⟨rfl, hV⟩; subst V) | (go_at_call 145; refine (hpl w).mono ?_; rintro e V ⟨rfl, gV⟩; have hV := h.kept gV; have v0 := hV.cell; have hm1 := m_checkLine hV.st) | (go_at_call 143; refine (hck V).mono ?_; rintro e V2 ⟨rfl, gV2⟩))
  go_ret
  exact ⟨rfl, gb_trans gV gV2⟩
end Go.Proofs.YtjndljjpbkfmiaaGreatDoor
