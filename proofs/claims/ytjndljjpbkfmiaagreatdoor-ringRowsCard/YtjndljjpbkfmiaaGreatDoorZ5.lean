/- A store of bytes: its rows. -/
import Derived.Test.YtjndljjpbkfmiaaGreatDoorZ4
namespace Go.Proofs.YtjndljjpbkfmiaaGreatDoor
open Go.RowKit
set_option linter.unusedVariables false
set_option linter.unusedSimpArgs false
set_option maxRecDepth 100000

theorem Sb.sp {w : World} {s q C R S : Nat} {g : Nat → Nat} (h : Sb w s q C R S g) {k : Nat} (hk : k < C * R) : w.cell? ⟨q, k, none⟩ = some (.int .u8 (g k : Nat)) := by
  obtain ⟨K, _, h2, f0, h3, h4⟩ := h.cap
  rw [h3.cell (by omega), h4 k hk]
theorem row_le {C R y : Nat} (h : y < R) : y * C + C ≤ C * R := by
  have := Nat.mul_le_mul_left C (show y + 1 ≤ R from h)
  rw [Nat.mul_add, Nat.mul_one, Nat.mul_comm C y] at this
  exact this

/-- How many are not 0. -/
def cnt (f : Nat → Nat) : Nat → Nat
  | 0 => 0
  | n + 1 => cnt f n + if f n = 0 then 0 else 1
theorem cnt_le (f : Nat → Nat) : ∀ n, cnt f n ≤ n
  | 0 => Nat.le_refl _
  | n + 1 => by have := cnt_le f n; rw [cnt]; split <;> omega
theorem Sb.apart {w : World} {s q C R S : Nat} {g : Nat → Nat} (h : Sb w s q C R S g) : s ≠ q := by
  rintro rfl
  obtain ⟨K, h1, _, f0, ⟨c, hc, _⟩, _⟩ := h.cap
  unfold Bo at h1
  rw [h1] at hc
  simp at hc
theorem Sb.set {w : World} {s q C R S m : Nat} {g : Nat → Nat} (h : Sb w s q C R S g) (k u : Nat) : Sb ((w.drewN m).setCell ⟨q, k, none⟩ (.int .u8 (u : Nat))) s q C R S (fun j => if j = k then u else g j) :=
  let ⟨K, h1, h2, f0, h3, h4⟩ := h.cap
  ⟨K, Bo.set2 (w := w.drewN m) h1 (fun e => h.apart e.symm), h2, _, World.rowIs.set (w := w.drewN m) h3 k _, fun j hj => by
    by_cases e : j = k
    · simp [e]
    · simp [e, h4 j hj]⟩
theorem Sb.frz {w : World} {s q C R S : Nat} {g : Nat → Nat} (h : Sb w s q C R S g) (k : Nat) : w.frozen? ⟨q, k, none⟩ = false := by
  obtain ⟨K, _, _, f0, h3, _⟩ := h.cap
  exact h3.frozen k
theorem rowC (s q C R S : Nat) (g : Nat → Nat) (hz : Sz C R S) (y : Nat) (hy : y < R) (w : World) (h : Sb w s q C R S g) : Calls Tryz.prog 174 #[.pointer (some ⟨s, 0, none⟩), .int .i64 (y : Nat)] w fun e w' => ∃ cp, e = .returned (.slice (some ⟨q, y * C, none⟩) C cp) ∧ ∃ m, w' = w.drewN m := by
  obtain ⟨K, hK, hKle, _⟩ := h.cap
  have c0 := hK.cell 0 (v := .int .i64 (C : Nat)) rfl
  have c3 := hK.cell 3 (v := .slice (some ⟨q, 0, none⟩) (C * R) K) rfl
  have hl := row_le (C := C) hy
  have hmx := hz.all
  have w1 : IntKind.i64.wrap ((y : Int) * (C : Int)) = ((y * C : Nat) : Int) := by rw [← Int.natCast_mul, IntKind.wrap_i64]; omega
  have w2 : IntKind.i64.wrap ((y : Int) + 1) = ((y + 1 : Nat) : Int) := by rw [IntKind.wrap_i64]; have := hz.r1; omega
  have w3 : IntKind.i64.wrap (((y : Int) + 1) * (C : Int)) = ((y * C : Nat) : Int) + (C : Int) := by
    have e : ((y : Int) + 1) * (C : Int) = ((y * C : Nat) : Int) + (C : Int) := by rw [Int.add_mul, Int.one_mul, Int.natCast_mul]
    rw [e, IntKind.wrap_i64]; omega
  have r1 := hz.r1
  obtain ⟨a, ha⟩ : ∃ a, y * C = a := ⟨_, rfl⟩
  obtain ⟨n, hn⟩ : ∃ n, C * R = n := ⟨_, rfl⟩
  rw [ha] at hl w1 w3 ⊢
  rw [hn] at hl hmx c3 hKle
  have x1 : (a : Int) + (C : Int) ≤ (n : Int) := by omega
  have x0 : 0 ≤ (a : Int) + (C : Int) := by omega
  have x2 : ((a : Int) + (C : Int)).toNat = a + C := by omega
  have x3 : a + C - a = C := by omega
  have x4 : ¬ n = a := by have := hz.c0; omega
  have x5 : ¬ K = a := by have := hz.c0; omega
  have x6 : (a : Int) + (C : Int) ≤ (K : Int) := by omega
  clear ha hn h hK
  go_enter Tryz.func174, Tryz.ntmps174
  go_wp2
  go_quiet (fail)
  go_wp2
  go_ret
  exact ⟨_, rfl, nq, rfl⟩

theorem Sb.dr {w : World} {s q C R S m : Nat} {g : Nat → Nat} (h : Sb w s q C R S g) : Sb (w.drewN m) s q C R S g := ⟨h.cap⟩
theorem getC (s q C R S : Nat) (g : Nat → Nat) (hz : Sz C R S) (x y : Nat) (hx : x < C) (hy : y < R) (w : World) (h : Sb w s q C R S g) : Calls Tryz.prog 166 #[.pointer (some ⟨s, 0, none⟩), .int .i64 (x : Nat), .int .i64 (y : Nat)] w fun e w' => e = .returned (.int .u8 (g (y * C + x) : Nat)) ∧ ∃ m, w' = w.drewN m := by
  have hl := row_le (C := C) hy
  have hc := h.sp (k := y * C + x) (by omega)
  have hx' : (x : Int) < (C : Int) := by omega
  go_enter Tryz.func166, Tryz.ntmps166
  go_wp2_with (go_at_call 174; refine (rowC s q C R S g hz y hy w h).mono ?_; rintro e V ⟨cp, rfl, m, rfl⟩)
  go_ret
  exact ⟨rfl, m, rfl⟩
theorem setC (s q C R S : Nat) (g : Nat → Nat) (hz : Sz C R S) (x y u : Nat) (hx : x < C) (hy : y < R) (w : World) (h : Sb w s q C R S g) : Calls Tryz.prog 171 #[.pointer (some ⟨s, 0, none⟩), .int .i64 (x : Nat), .int .i64 (y : Nat), .int .u8 (u : Nat)] w fun e w' => e = .returned (.tuple #[]) ∧ Sb w' s q C R S (fun k => if k = y * C + x then u else g k) ∧ w.grownBy w' (some q) := by
  have hl := row_le (C := C) hy
  have hc := h.sp (k := y * C + x) (by omega)
  have hx' : (x : Int) < (C : Int) := by omega
  have hfz := h.frz (y * C + x)
  have hqs : s ≠ q := h.apart
  go_enter Tryz.func171, Tryz.ntmps171
  go_wp2_with (go_at_call 174; refine (rowC s q C R S g hz y hy w h).mono ?_; rintro e V ⟨cp, rfl, m, rfl⟩)
  go_end0
  exact ⟨rfl, h.set (m := m) _ _, gb_set (gb_drewN (World.grownBy.refl _ _) m) _ _⟩
end Go.Proofs.YtjndljjpbkfmiaaGreatDoor
