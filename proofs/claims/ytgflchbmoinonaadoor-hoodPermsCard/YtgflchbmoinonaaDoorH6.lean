/- The statements' own sameInts and where. -/
import Derived.Test.YtgflchbmoinonaaDoorH3
import Derived.Deep.RegionHeld2
namespace Go.Proofs.YtgflchbmoinonaaDoor
open Go.RowKit
open Fl
set_option linter.unusedVariables false
set_option linter.unusedSimpArgs false
set_option maxRecDepth 100000

/-- The numbers f can be read from the address on. -/
def Rd (w : World) (sp : Option Addr) (n : Nat) (f : Nat → Int) : Prop := ∀ k, k < n → ∃ a, sp = some a ∧ w.cell? (a.add k) = some (.int .i64 (f k))
theorem Rd.kept {w w' : World} {sp : Option Addr} {n : Nat} {f : Nat → Int} {r : Option Nat} (h : Rd w sp n f) (hg : w.grownBy w' r) (hne : ∀ a, sp = some a → some a.block ≠ r) : Rd w' sp n f := fun k hk => by
  obtain ⟨a, ha, hc⟩ := h k hk
  have hb : (a.add k).block = a.block := by unfold Addr.add; split <;> simp_all
  exact ⟨a, ha, hg.cell hc (by rw [hb]; exact hne a ha)⟩
theorem Rd.at {w : World} {a : Addr} {n : Nat} {f : Nat → Int} (h : Rd w (some a) n f) {k : Nat} (hk : k < n) : w.cell? (a.add k) = some (.int .i64 (f k)) := by
  obtain ⟨a', ha, hc⟩ := h k hk
  cases ha
  exact hc
theorem Rd.some {w : World} {sp : Option Addr} {n : Nat} {f : Nat → Int} (h : Rd w sp n f) (hn : 0 < n) : ∃ a, sp = Option.some a := by
  obtain ⟨a, ha, _⟩ := h 0 hn
  exact ⟨a, ha⟩
set_option maxHeartbeats 1000000 in
theorem sameI (n ca cb : Nat) (sa sb : Option Addr) (fa fb : Nat → Int) (hn : n ≤ 1000000) (he : ∀ i, i < n → fa i = fb i) (w : World) (ha : Rd w sa n fa) (hb : Rd w sb n fb) :
    Calls Tryd.prog 13 #[.slice sa n ca, .slice sb n cb] w fun e w' => e = .returned (.bool true) ∧ w.grownBy w' none := by
  have hb : Rd w sb n fa := fun k hk => by rw [he k hk]; exact hb k hk
  clear he
  go_enter Tryd.func13, Tryd.ntmps13
  go_wp2
  go_loopw [5] (fun i wr => ∃ k : Nat, k ≤ n ∧ i = .int .i64 k ∧ w.grownBy wr none) (fun i _ => n - (intOf i).toNat)
  case atStart => exact ⟨0, Nat.zero_le _, rfl, World.grownBy.refl _ _⟩
  case round =>
    obtain ⟨k, hk, rfl, hgk⟩ := hrel
    by_cases hlt : k < n
    · obtain ⟨aa, rfl⟩ := ha.some (by omega)
      obtain ⟨ab, rfl⟩ := hb.some (by omega)
      have v0 := hgk.cell (ha.at hlt) (by simp)
      have v1 := hgk.cell (hb.at hlt) (by simp)
      have hlt' : (k : Int) < (n : Int) := by omega
      have hnn : (fa k != fa k) = false := by simp
      go_wp2
      go_quiet (fail)
      go_wp2
      go_roundw
      case rel => exact ⟨k + 1, by omega, by go_num, gb_drewN hgk _⟩
      case measure => simp [intOf]; omega
    · have hlt' : ¬ (k : Int) < (n : Int) := by omega
      go_wp2
      go_ret
      exact ⟨rfl, hgk⟩
/-- A number that was found, or -1. -/
def wh : Option Nat → Int
  | none => -1
  | some k => k
theorem fiF_yes' {h : Nat} {x y : Int} {n k : Nat} (hk : k < n) (hx : px h k = x) (hy : py h k = y) : fiF h x y (n - k) k = some k := by
  obtain ⟨m, hm⟩ : ∃ m, n - k = m + 1 := ⟨n - k - 1, by omega⟩
  rw [hm, fiF, if_pos ⟨hx, hy⟩]
theorem fiF_no' {h : Nat} {x y : Int} {n k : Nat} (hk : k < n) (hn : ¬ (px h k = x ∧ py h k = y)) : fiF h x y (n - k) k = fiF h x y (n - (k + 1)) (k + 1) := by
  obtain ⟨m, e⟩ : ∃ m, n - k = m + 1 := ⟨n - k - 1, by omega⟩
  rw [e, fiF, if_neg hn]
  congr 1
  omega
set_option maxHeartbeats 1000000 in
theorem whereC (h n c : Nat) (hn : n ≤ 8) (x y : Int) (g : Nat) (R : Option Nat) (hR : Hid (fiF h x y n 0 = R)) (w : World) (B : Bo w g 55 (ho h)) : Calls Tryd.prog 22 #[.slice (some ⟨g, 0, none⟩) n c, .agg #[.int .i64 x, .int .i64 y]] w fun e w' => e = .returned (.int .i64 (wh R)) ∧ w.grownBy w' none := by
  obtain ⟨W1, hW1, sz1, g1, B1⟩ := boxn w #[.int .i64 x, .int .i64 y] 37
  have B' := B.kept g1 (by simp)
  go_enter Tryd.func22, Tryd.ntmps22
  go_wp2
  go_loopw [5] (fun i wr => ∃ k : Nat, k ≤ n ∧ i = .int .i64 k ∧ Hid (fiF h x y (n - k) k = R) ∧ W1.grownBy wr none) (fun i _ => n - (intOf i).toNat)
  case atStart => exact ⟨0, Nat.zero_le _, rfl, hR, World.grownBy.refl _ _⟩
  case round =>
    obtain ⟨k, hk, rfl, HF, hg⟩ := hrel
    have Bk := B'.kept hg (by simp)
    have B1k := B1.kept hg (by simp)
    have p0 := B1k.cell 0 (v := .int .i64 x) rfl
    have p1 := B1k.cell 1 (v := .int .i64 y) rfl
    by_cases hlt : k < n
    · have hlt' : (k : Int) < (n : Int) := by omega
      have c0 := Bk.cell (k * 2) (ho_at h k (by omega)).1
      have c1 := Bk.cell (k * 2 + 1) (ho_at h k (by omega)).2
      have HN : Hid (¬ (px h k = x ∧ py h k = y) → fiF h x y (n - (k + 1)) (k + 1) = R) := fun hn => by rw [← fiF_no' hlt hn]; exact HF.out
      have HY : Hid (px h k = x → py h k = y → R = some k) := fun hx hy => by rw [← HF.out]; exact fiF_yes' hlt hx hy
      clear HF hR
      cases ex : (px h k == x) with
      | false =>
        have HM := HN.out (fun e => by rw [e.1] at ex; simp at ex)
        have HM' : Hid (fiF h x y (n - (k + 1)) (k + 1) = R) := HM
        clear HM HN HY
        go_wp2
        go_quiet (fail)
        go_wp2
        go_roundw
        case rel => exact ⟨k + 1, by omega, by go_num, HM', gb_drewN hg _⟩
        case measure => simp [intOf]; omega
      | true =>
        cases ey : (py h k == y) with
        | false =>
          have HM := HN.out (fun e => by rw [e.2] at ey; simp at ey)
          have HM' : Hid (fiF h x y (n - (k + 1)) (k + 1) = R) := HM
          clear HM HN HY
          go_wp2
          go_quiet (fail)
          go_wp2
          go_roundw
          case rel => exact ⟨k + 1, by omega, by go_num, HM', gb_drewN hg _⟩
          case measure => simp [intOf]; omega
        | true =>
          have e := HY.out (by simpa using ex) (by simpa using ey)
          subst e
          clear HN HY
          go_wp2
          go_quiet (fail)
          go_wp2
          go_ret
          exact ⟨rfl, gb_drewN (gb_trans g1 hg) _⟩
    · have hlt' : ¬ (k : Int) < (n : Int) := by omega
      obtain rfl : k = n := by omega
      have e : R = none := by rw [← HF.out, Nat.sub_self]; rfl
      subst e
      go_wp2
      go_ret
      exact ⟨rfl, gb_trans g1 hg⟩
end Go.Proofs.YtgflchbmoinonaaDoor
