/- The document's bit and Valid. -/
import Derived.Test.YtcdefpfnjjahgabW4
namespace Go.Proofs.Ytcdefpfnjjahgab
open Go.RowKit
set_option linter.unusedVariables false
set_option linter.unusedSimpArgs false

theorem bit_val (x j : Nat) : (((x : Int) / 2 ^ j).tmod 2 == 1) = x.testBit j := by
  have e : (x : Int) / 2 ^ j = ((x / 2 ^ j : Nat) : Int) := by simp
  have h := Pk.bit_div x j
  rw [e, Int.tmod_eq_emod_of_nonneg (Int.natCast_nonneg _), show ((x / 2 ^ j : Nat) : Int) % 2 = ((x / 2 ^ j % 2 : Nat) : Int) by omega, h]
  cases x.testBit j <;> rfl
set_option maxRecDepth 100000 in
set_option maxHeartbeats 4000000 in
theorem refBitC (N : Int) (i n cap : Nat) (sp : Option Addr) (f : Nat → Nat) (hf : ∀ k, k < n → f k < 18446744073709551616) (hi : i < 64 * n) (hn : n ≤ 1025) (w : World) (hc : Wd w sp n f) :
    Calls Try.prog 32 #[.agg #[.int .i64 N, .slice sp n cap], .int .i64 i] w fun e w' => e = .returned (.bool (Pk.bitAt f i)) ∧ w.grownBy w' none := by
  obtain ⟨a, rfl⟩ := hc.some (by omega)
  have hk : w.cell? (a.add (i / 64)) = some (.int .u64 (f (i / 64))) := hc.at (by omega)
  have hfk := hf (i / 64) (by omega)
  have hbi : (i : Int) / 64 < n := by omega
  have ht : ((i : Int) / 64).toNat = i / 64 := by omega
  have hd : IntKind.i64.wrap ((i : Int) / 64) = ((i / 64 : Nat) : Int) := by rw [IntKind.wrap_i64]; omega
  have hmin : min (i % 64) 64 = i % 64 := by omega
  obtain ⟨W1, hW, c0, c1, sz, hg, _⟩ := box2 w (.int .i64 N) (.slice (some a) n cap) 31
  have hk1 := hg.cell hk (by simp)
  clear hc
  go_enter Try.func32, Try.ntmps32
  go_wp2
  go_ret
  exact ⟨congrArg (fun x => Ending.returned (Value.bool x)) (bit_val _ _), hg⟩
theorem validB_congr {N : Int} {n : Nat} {f g : Nat → Nat} (h : ∀ k, k < n → f k = g k) : validB N n f = validB N n g := by
  unfold validB
  by_cases h0 : n = 0
  · subst h0
    by_cases hN : N = 0
    · subst hN; simp
    · by_cases hN2 : 0 < N
      · have : ¬ (0 : Int) = (N + 63) / 64 := by omega
        simp [this]
      · have : ¬ 0 ≤ N := by omega
        simp [this]
  · rw [h (n - 1) (by omega)]
theorem valid_tail {m n : Nat} {f : Nat → Nat} (hf : ∀ k, k < n → f k < 18446744073709551616) (hm : m ≤ 65538) (hn : n = (m + 63) / 64) (h : ∀ i, m ≤ i → i < 64 * n → Pk.bitAt f i = false) : validB m n f = true := by
  have e : ∀ k, k < n → f k = Pk.pack (fun i => decide (i < m) && Pk.bitAt f i) k := fun k hk => by
    rw [← Pk.pack_bitAt (f := f) (k := k) (hf k hk)]
    refine Pk.pack_congr fun j hj => ?_
    by_cases hlt : 64 * k + j < m
    · rw [decide_eq_true hlt]; simp [Pk.bitAt_pack, Pk.pack_bitAt, hf k hk]
    · rw [decide_eq_false hlt]
      rw [h (64 * k + j) (by omega) (by omega)]; rfl
  rw [validB_congr e]
  exact validB_may (m := m) (n := n) ⟨hm, hn, fun i hi => by rw [decide_eq_false (by omega)]; rfl⟩
theorem valid_not {m n i : Nat} {f : Nat → Nat} (hf : ∀ k, k < n → f k < 18446744073709551616) (h1 : m ≤ i) (h2 : i < 64 * n) (h : Pk.bitAt f i = true) : validB m n f = false := by
  cases hv : validB m n f with
  | false => rfl
  | true =>
    obtain ⟨m', p, e, M, hp⟩ := may_of_validB hf hv
    obtain rfl : m = m' := by omega
    have h3 : Pk.bitAt f i = Pk.bitAt (Pk.pack p) i := by unfold Pk.bitAt; rw [hp (i / 64) (by omega)]
    rw [Pk.bitAt_pack, M.tail i h1] at h3
    rw [h3] at h; cases h
set_option maxRecDepth 100000 in
set_option maxHeartbeats 4000000 in
theorem refValidC (N : Int) (n cap : Nat) (sp : Option Addr) (f : Nat → Nat) (hf : ∀ k, k < n → f k < 18446744073709551616) (hn : n ≤ 9223372036854775807) (w : World) (hc : Wd w sp n f) :
    Calls Try.prog 46 #[.agg #[.int .i64 N, .slice sp n cap]] w fun e w' => e = .returned (.bool (validB N n f)) ∧ w.grownBy w' none := by
  obtain ⟨W1, hW, c0, c1, sz, hg, hB⟩ := box2 w (.int .i64 N) (.slice sp n cap) 31
  by_cases g0 : N < 0
  · have HV : Hid (validB N n f = false) := by unfold Hid validB; simp [show ¬ 0 ≤ N by omega]
    go_enter Try.func46, Try.ntmps46
    go_wp2
    go_ret
    exact ⟨by rw [HV.out]; rfl, hg⟩
  · have g0' : decide (N < 0) = false := by simp; omega
    by_cases g1 : 65538 < N
    · have HV : Hid (validB N n f = false) := by unfold Hid validB; simp [show ¬ N ≤ 65538 by omega]
      go_enter Try.func46, Try.ntmps46
      go_wp2
      go_ret
      exact ⟨by rw [HV.out]; rfl, hg⟩
    · obtain ⟨m, rfl⟩ : ∃ m : Nat, N = m := ⟨N.toNat, by omega⟩
      have g1' : decide (65538 < (m : Int)) = false := by simp; omega
      have hw1 : IntKind.i64.wrap ((m : Int) + 63) = (m : Int) + 63 := by rw [IntKind.wrap_i64]; omega
      obtain ⟨c, hcc⟩ : ∃ c : Nat, Hid (c = (m + 63) / 64) := ⟨_, rfl⟩
      have hq : ((m : Int) + 63) / 64 = (c : Int) := by have := hcc.out; omega
      have hq2 : ((m : Int) + 63).tdiv 64 = (c : Int) := by rw [Int.tdiv_eq_ediv_of_nonneg (by omega)]; exact hq
      have hqw : IntKind.i64.wrap (c : Int) = (c : Int) := by have := hcc.out; rw [IntKind.wrap_i64]; omega
      by_cases g2 : n = c
      · subst g2
        have hnn : ((n : Int) != (n : Int)) = false := by simp
        have hnl : n ≤ 1025 := by have := hcc.out; omega
        have hmn : m ≤ 64 * n := by have := hcc.out; omega
        have hbit := fun i hi w h => refBitC (m : Int) i n cap sp f hf hi hnl w h
        have hwm : IntKind.i64.wrap (64 * (n : Int)) = 64 * (n : Int) := by rw [IntKind.wrap_i64]; omega
        have hf' : Hid (∀ k, k < n → f k < 18446744073709551616) := hf
        have HC : Hid (n = (m + 63) / 64) := hcc
        clear hf hcc hq hq2
        have hq2 : ((m : Int) + 63).tdiv 64 = (n : Int) := by have := HC.out; rw [Int.tdiv_eq_ediv_of_nonneg (by omega)]; omega
        have hq : ((m : Int) + 63) / 64 = (n : Int) := by have := HC.out; omega
        go_enter Try.func46, Try.ntmps46
        go_wp2
        go_loopw [3] (fun v wr => ∃ i : Nat, m ≤ i ∧ i ≤ 64 * n ∧ v = .int .i64 i ∧ Hid (∀ j, m ≤ j → j < i → Pk.bitAt f j = false) ∧ W1.grownBy wr none) (fun v _ => 64 * n - (intOf v).toNat)
        case atStart => exact ⟨m, Nat.le_refl _, hmn, rfl, fun j h1 h2 => by omega, World.grownBy.refl _ _⟩
        case round =>
          obtain ⟨i, hi0, hi, rfl, HI, hgi⟩ := hrel
          have hBi := hB.kept hgi (by simp)
          have y0 := hBi.cell0
          have y1 := hBi.cell1
          by_cases hlt : i < 64 * n
          · have hlt' : (i : Int) < 64 * (n : Int) := by omega
            have hb9 := hbit i hlt wr (hc.kept (gb_trans hg hgi) (by simp))
            cases hbv : Pk.bitAt f i with
            | true =>
              rw [hbv] at hb9
              have HV : Hid (validB m n f = false) := valid_not hf'.out hi0 hlt hbv
              clear hbv
              go_wp2_with (go_at_call 32; refine hb9.mono ?_; rintro e w3 ⟨rfl, g3⟩)
              go_ret
              exact ⟨by rw [HV.out]; rfl, gb_trans hg (gb_trans hgi g3)⟩
            | false =>
              rw [hbv] at hb9
              have HI' : Hid (∀ j, m ≤ j → j < i + 1 → Pk.bitAt f j = false) := fun j h1 h2 => by
                by_cases e : j = i
                · rw [e]; exact hbv
                · exact HI.out j h1 (by omega)
              clear hbv
              go_wp2_with (go_at_call 32; refine hb9.mono ?_; rintro e w3 ⟨rfl, g3⟩)
              go_roundw
              case rel => exact ⟨i + 1, by omega, by omega, by go_num, HI', gb_trans hgi g3⟩
              case measure => simp [intOf]; omega
          · have hlt' : ¬ (i : Int) < 64 * (n : Int) := by omega
            have HV : Hid (validB m n f = true) := valid_tail hf'.out (by omega) HC.out (fun j h1 h2 => HI.out j h1 (by omega))
            go_wp2
            go_ret
            exact ⟨by rw [HV.out]; rfl, gb_trans hg hgi⟩
      · have HV : Hid (validB m n f = false) := by unfold Hid validB; have := hcc.out; simp [show ¬ (n : Int) = ((m : Int) + 63) / 64 by omega]
        have hnn : ((n : Int) != (c : Int)) = true := by simp; omega
        have G2 : Hid (¬ n = c) := g2
        clear g2
        go_enter Try.func46, Try.ntmps46
        go_wp2
        go_ret
        exact ⟨by rw [HV.out]; rfl, hg⟩
end Go.Proofs.Ytcdefpfnjjahgab
