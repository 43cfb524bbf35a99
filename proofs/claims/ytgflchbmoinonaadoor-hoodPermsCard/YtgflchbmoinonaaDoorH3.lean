/- The number of a place among offsets. -/
import Derived.Test.YtgflchbmoinonaaDoorH2
import Derived.Deep.RegionHeld2
namespace Go.Proofs.YtgflchbmoinonaaDoor
open Go.RowKit
open Fl
set_option linter.unusedVariables false
set_option linter.unusedSimpArgs false
set_option maxRecDepth 100000

theorem ho_at (h k : Nat) (hk : k < 8) : (ho h)[k * 2]? = some (.int .i64 (px h k)) ∧ (ho h)[k * 2 + 1]? = some (.int .i64 (py h k)) := by
  match k, hk with
  | 0, _ => exact ⟨rfl, rfl⟩
  | 1, _ => exact ⟨rfl, rfl⟩
  | 2, _ => exact ⟨rfl, rfl⟩
  | 3, _ => exact ⟨rfl, rfl⟩
  | 4, _ => exact ⟨rfl, rfl⟩
  | 5, _ => exact ⟨rfl, rfl⟩
  | 6, _ => exact ⟨rfl, rfl⟩
  | 7, _ => exact ⟨rfl, rfl⟩
/-- The first of n offsets from k on that is the place. -/
def fiF (h : Nat) (x y : Int) : Nat → Nat → Option Nat
  | 0, _ => none
  | n + 1, k => if px h k = x ∧ py h k = y then some k else fiF h x y n (k + 1)
theorem fiF_yes {h : Nat} {x y : Int} {k : Nat} (hk : k < 8) (hx : px h k = x) (hy : py h k = y) : fiF h x y (8 - k) k = some k := by
  obtain ⟨n, hn⟩ : ∃ n, 8 - k = n + 1 := ⟨7 - k, by omega⟩
  rw [hn, fiF, if_pos ⟨hx, hy⟩]
theorem fiF_no {h : Nat} {x y : Int} {k : Nat} (hk : k < 8) (hn : ¬ (px h k = x ∧ py h k = y)) : fiF h x y (8 - k) k = fiF h x y (8 - (k + 1)) (k + 1) := by
  obtain ⟨n, e⟩ : ∃ n, 8 - k = n + 1 := ⟨7 - k, by omega⟩
  rw [e, fiF, if_neg hn]
  congr 1
  omega
set_option maxHeartbeats 1000000 in
theorem numbC (h : Nat) (x y : Int) (g : Nat) (R : Option Nat) (hR : Hid (fiF h x y 8 0 = R)) (w : World) (B : Bo w g 55 (ho h)) : Calls Tryd.prog 36 #[.pointer (some ⟨g, 0, none⟩), .agg #[.int .i64 x, .int .i64 y]] w fun e w' => e = .returned (.tuple #[.int .i64 ((R.getD 0 : Nat) : Int), .bool R.isSome]) ∧ w.grownBy w' none := by
  obtain ⟨W1, hW1, sz1, g1, B1⟩ := boxn w #[.int .i64 x, .int .i64 y] 37
  have B' := B.kept g1 (by simp)
  go_enter Tryd.func36, Tryd.ntmps36
  go_wp2
  go_loopw [10] (fun i wr => ∃ k : Nat, k ≤ 8 ∧ i = .int .i64 k ∧ Hid (fiF h x y (8 - k) k = R) ∧ W1.grownBy wr none) (fun i _ => 8 - (intOf i).toNat)
  case atStart => exact ⟨0, Nat.zero_le _, rfl, hR, World.grownBy.refl _ _⟩
  case round =>
    obtain ⟨k, hk, rfl, HF, hg⟩ := hrel
    have Bk := B'.kept hg (by simp)
    have B1k := B1.kept hg (by simp)
    have p0 := B1k.cell 0 (v := .int .i64 x) rfl
    have p1 := B1k.cell 1 (v := .int .i64 y) rfl
    by_cases hlt : k < 8
    · have hlt' : (k : Int) < 8 := by omega
      have c0 := Bk.cell (k * 2) (ho_at h k hlt).1
      have c1 := Bk.cell (k * 2 + 1) (ho_at h k hlt).2
      obtain ⟨Wk, hWk, szk, gk, Bq⟩ := boxn wr #[.int .i64 (px h k), .int .i64 (py h k)] 37
      have d0 := (Bk.kept gk (by simp)).cell (k * 2) (ho_at h k hlt).1
      have d1 := (Bk.kept gk (by simp)).cell (k * 2 + 1) (ho_at h k hlt).2
      have q0 := Bq.cell 0 (v := .int .i64 (px h k)) rfl
      have q1 := Bq.cell 1 (v := .int .i64 (py h k)) rfl
      have p0' := (B1k.kept gk (by simp)).cell 0 (v := .int .i64 x) rfl
      have p1' := (B1k.kept gk (by simp)).cell 1 (v := .int .i64 y) rfl
      go_wp2
      go_region_held2 (fun w' => w'.cell? ⟨g, k * 2, none⟩ = some (.int .i64 (px h k)) ∧ w'.cell? ⟨g, k * 2 + 1, none⟩ = some (.int .i64 (py h k))) (go_keep) (fail)
      have HN : Hid (¬ (px h k = x ∧ py h k = y) → fiF h x y (8 - (k + 1)) (k + 1) = R) := fun hn => by rw [← fiF_no hlt hn]; exact HF.out
      have HY : Hid (px h k = x → py h k = y → R = some k) := fun hx hy => by rw [← HF.out]; exact fiF_yes hlt hx hy
      clear HF hR c0 c1
      cases ex : (px h k == x) with
      | false =>
        have HM := HN.out (fun e => by rw [e.1] at ex; simp at ex)
        have HM' : Hid (fiF h x y (8 - (k + 1)) (k + 1) = R) := HM
        clear HM HN HY
        go_wp2
        go_roundw
        case rel => exact ⟨k + 1, by omega, by go_num, HM', gb_drew (gb_trans hg gk)⟩
        case measure => simp [intOf]; omega
      | true =>
        cases ey : (py h k == y) with
        | false =>
          have HM := HN.out (fun e => by rw [e.2] at ey; simp at ey)
          have HM' : Hid (fiF h x y (8 - (k + 1)) (k + 1) = R) := HM
          clear HM HN HY
          go_wp2
          go_roundw
          case rel => exact ⟨k + 1, by omega, by go_num, HM', gb_drew (gb_trans hg gk)⟩
          case measure => simp [intOf]; omega
        | true =>
          have e := HY.out (by simpa using ex) (by simpa using ey)
          subst e
          clear HN HY
          go_wp2
          go_ret2
          exact ⟨rfl, gb_drew (gb_trans g1 (gb_trans hg gk))⟩
    · have hlt' : ¬ (k : Int) < 8 := by omega
      obtain rfl : k = 8 := by omega
      have e : R = none := HF.out.symm
      subst e
      go_wp2
      go_ret2
      exact ⟨rfl, gb_trans g1 hg⟩
end Go.Proofs.YtgflchbmoinonaaDoor
