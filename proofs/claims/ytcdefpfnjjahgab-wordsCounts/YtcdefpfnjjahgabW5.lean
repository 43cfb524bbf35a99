/- How many bits of a word and of a row are 1. -/
import Derived.Test.YtcdefpfnjjahgabW4
import Derived.Test.YtcdefpfnjjahgabPop
namespace Go.Proofs.Ytcdefpfnjjahgab
open Go.RowKit
set_option linter.unusedVariables false

theorem wrapU {x : Int} {n : Nat} (h : x = (n : Int)) (hn : n < 18446744073709551616) : IntKind.u64.wrap x = (n : Int) := by rw [h, IntKind.wrap_u64]; omega
theorem andU (x : Nat) (c : Nat) (hx : x < 18446744073709551616) (hc : c < 18446744073709551616) : bits .and .u64 (x : Int) (c : Int) = ((x &&& c : Nat) : Int) := bits_and_u64_nat x c hx hc

theorem popC (x : Nat) (hx : x < 18446744073709551616) (w : World) :
    Calls Try.prog 44 #[.int .u64 x] w fun e w' => e = .returned (.int .i64 (Pk.pop x)) ∧ w' = w := by
  obtain ⟨hd, hsum⟩ := Pk.s3_dl x
  obtain ⟨y, hy⟩ : ∃ y, y = Pk.s1 x := ⟨_, rfl⟩
  have yl : y < 18446744073709551616 := by rw [hy]; exact Pk.s1_lt x
  have H1 : IntKind.u64.wrap (bits BinOp.and IntKind.u64 ((x : Int) / 2) 6148914691236517205 + bits BinOp.and IntKind.u64 (x : Int) 6148914691236517205) = (y : Int) := by
    refine wrapU ?_ yl
    have a := andU (x / 2) 6148914691236517205 (by omega) (by decide)
    have b := andU x 6148914691236517205 hx (by decide)
    rw [show ((x : Int) / 2) = ((x / 2 : Nat) : Int) by omega]
    rw [hy]
    unfold Pk.s1
    rw [Int.natCast_add, ← a, ← b]; rfl
  rw [← hy] at hd hsum
  clear hy
  obtain ⟨z, hz⟩ : ∃ z, z = Pk.s2 y := ⟨_, rfl⟩
  have zl : z ≤ 7378697629483820646 := by rw [hz]; exact Pk.s2_lt y
  have H2 : IntKind.u64.wrap (bits BinOp.and IntKind.u64 ((y : Int) / 4) 3689348814741910323 + bits BinOp.and IntKind.u64 (y : Int) 3689348814741910323) = (z : Int) := by
    refine wrapU ?_ (by omega)
    have a := andU (y / 4) 3689348814741910323 (by omega) (by decide)
    have b := andU y 3689348814741910323 yl (by decide)
    rw [show ((y : Int) / 4) = ((y / 4 : Nat) : Int) by omega]
    rw [hz]
    unfold Pk.s2
    rw [Int.natCast_add, ← a, ← b]; rfl
  rw [← hz] at hd hsum
  clear hz
  obtain ⟨u, hu⟩ : ∃ u, u = Pk.s3 z := ⟨_, rfl⟩
  have ul : u ≤ 1085102592571150095 := by rw [hu]; exact Pk.s3_lt z
  have H3 : bits BinOp.and IntKind.u64 ((z : Int) / 16 + (z : Int)) 1085102592571150095 = (u : Int) := by
    have a := andU (z / 16 + z) 1085102592571150095 (by omega) (by decide)
    rw [show ((z : Int) / 16 + (z : Int)) = ((z / 16 + z : Nat) : Int) by omega, hu]
    unfold Pk.s3
    rw [← a]; rfl
  rw [← hu] at hd hsum
  clear hu
  obtain ⟨b1, b2, b3, b4⟩ := Pk.leaps u ul hd
  obtain ⟨v, hv⟩ : ∃ v, v = u + u / 256 := ⟨_, rfl⟩
  rw [← hv] at b1 b2 b3 b4
  have H4 : IntKind.u64.wrap ((u : Int) + (u : Int) / 256) = (v : Int) := wrapU (by omega) b1
  have H4' : (u : Int) + (u : Int) / 256 = (v : Int) := by omega
  obtain ⟨q, hq⟩ : ∃ q, q = v + v / 65536 := ⟨_, rfl⟩
  rw [← hq] at b2 b3 b4
  have H5 : IntKind.u64.wrap ((v : Int) + (v : Int) / 65536) = (q : Int) := wrapU (by omega) b2
  have H5' : (v : Int) + (v : Int) / 65536 = (q : Int) := by omega
  obtain ⟨t, ht⟩ : ∃ t, t = q + q / 4294967296 := ⟨_, rfl⟩
  rw [← ht] at b3 b4
  have H6 : IntKind.u64.wrap ((q : Int) + (q : Int) / 4294967296) = (t : Int) := wrapU (by omega) b3
  have H6' : (q : Int) + (q : Int) / 4294967296 = (t : Int) := by omega
  have B4 : Hid (t % 128 = Pk.pop x) := b4.trans hsum
  have tl : t < 9223372036854775808 := by clear hd b4 H1 H2 H3; omega
  have HB : Hid (bits BinOp.and IntKind.i64 (t : Int) 127 = Pk.pop x) := by
    have hm := bits_mask .i64 63 (by decide) (fun n h0 h1 => by rw [IntKind.wrap_i64]; omega) 7 (by decide) (t : Int) (by omega) (by omega)
    have e1 : ((2 : Int) ^ 7 - 1) = 127 := by decide
    have e2 : ((2 : Int) ^ 7) = 128 := by decide
    rw [e1, e2] at hm
    unfold Hid
    rw [hm, ← B4.out]
    clear hd b4 H1 H2 H3 H4 H5 H6 H4' H5' H6' hv hq ht
    omega
  clear hv hq ht b4 hsum hd B4
  go_enter Try.func44, Try.ntmps44
  go_wp2
  go_ret
  exact ⟨congrArg (fun x => Ending.returned (Value.int .i64 x)) HB.out, rfl⟩

/-- How many of the first m places have a 1. -/
def cnt (p : Nat → Bool) : Nat → Nat
  | 0 => 0
  | i + 1 => cnt p i + (if p i then 1 else 0)
theorem cnt_le (p : Nat → Bool) : ∀ m, cnt p m ≤ m
  | 0 => Nat.le_refl _
  | m + 1 => by have := cnt_le p m; rw [cnt]; split <;> omega
theorem cnt_add (p : Nat → Bool) (a : Nat) : ∀ b, cnt p (a + b) = cnt p a + cnt (fun i => p (a + i)) b
  | 0 => rfl
  | b + 1 => by rw [← Nat.add_assoc, cnt, cnt_add p a b, cnt]; omega
theorem cnt_head (p : Nat → Bool) (m : Nat) : cnt p (m + 1) = (if p 0 then 1 else 0) + cnt (fun i => p (i + 1)) m := by
  rw [Nat.add_comm m 1, cnt_add]
  have : (fun i => p (1 + i)) = (fun i => p (i + 1)) := by funext i; rw [Nat.add_comm]
  rw [this, cnt, cnt]; omega
theorem cnt_congr {p q : Nat → Bool} : ∀ {m : Nat}, (∀ i, i < m → p i = q i) → cnt p m = cnt q m
  | 0, _ => rfl
  | m + 1, h => by rw [cnt, cnt, cnt_congr (fun i hi => h i (by omega)), h m (by omega)]
theorem cnt_none {p : Nat → Bool} : ∀ {m : Nat}, (∀ i, i < m → p i = false) → cnt p m = 0
  | 0, _ => rfl
  | m + 1, h => by rw [cnt, cnt_none (fun i hi => h i (by omega)), h m (by omega)]; rfl
theorem sd_cnt : ∀ m x, Pk.sd 2 m x = cnt (fun i => x.testBit i) m
  | 0, _ => rfl
  | m + 1, x => by
    rw [Pk.sd, sd_cnt m (x / 2), cnt_head]
    have h0 : x % 2 = if x.testBit 0 then 1 else 0 := by have := Pk.bit_div x 0; simpa using this
    have h1 : (fun i => (x / 2).testBit i) = (fun i => x.testBit (i + 1)) := by funext i; rw [Nat.testBit_succ]
    rw [h0, h1]
theorem pop_pack (p : Nat → Bool) (k : Nat) : Pk.pop (Pk.pack p k) = cnt (fun j => p (64 * k + j)) 64 := by
  unfold Pk.pop
  rw [sd_cnt]
  exact cnt_congr fun i hi => by rw [Pk.testBit_pack]; simp [hi]
theorem cnt_word (p : Nat → Bool) (k : Nat) : cnt p (64 * (k + 1)) = cnt p (64 * k) + Pk.pop (Pk.pack p k) := by
  rw [show 64 * (k + 1) = 64 * k + 64 by omega, cnt_add, pop_pack]
theorem pop_le (x : Nat) : Pk.pop x ≤ 64 := by unfold Pk.pop; rw [sd_cnt]; exact cnt_le _ _
theorem cnt_row {m n : Nat} {p : Nat → Bool} (M : MayBe m n p) : cnt p (64 * n) = cnt p m := by
  have h := M.words
  obtain ⟨d, hd⟩ : ∃ d, 64 * n = m + d := ⟨64 * n - m, by omega⟩
  have h0 := cnt_none (p := fun i => p (m + i)) (m := d) (fun i hi => M.tail _ (by omega))
  rw [hd, cnt_add, h0]; rfl

theorem onesC (m n cap : Nat) (sp : Option Addr) (p : Nat → Bool) (M : MayBe m n p) (w : World) (hc : Wd w sp n (Pk.pack p)) :
    Calls Try.prog 29 #[.agg #[.int .i64 m, .slice sp n cap]] w fun e w' => e = .returned (.tuple #[.int .i64 (cnt p m), .int .i64 0]) ∧ w.grownBy w' none := by
  obtain ⟨W1, hW, c0, c1, sz, hg, hB⟩ := box2 w (.int .i64 m) (.slice sp n cap) 31
  have hc1 := hc.kept hg (by simp)
  have hnl := M.len
  go_enter Try.func29, Try.ntmps29
  go_wp2_with (first | (go_at_call 41; refine (validP m n cap sp p M W1 hc1).mono ?_; rintro e w2 ⟨rfl, g2⟩; have hB2 := hB.kept g2 (by simp); have x0 := hB2.cell0; have x1 := hB2.cell1; have hc2 := hc1.kept g2 (by simp)))
  go_loop [4, 13] (fun v i => ∃ k : Nat, k ≤ n ∧ i = .int .i64 k ∧ ∃ s : Nat, v = .int .i64 s ∧ s ≤ 64 * k ∧ Hid (s = cnt p (64 * k))) (fun _ i => n - (intOf i).toNat)
  case atStart => exact ⟨0, Nat.zero_le _, rfl, 0, rfl, by omega, rfl⟩
  case round =>
    obtain ⟨k, hk, rfl, s, rfl, hs, hsd⟩ := hrel
    have hsl : s ≤ 65600 := by omega
    by_cases hlt : k < n
    · obtain ⟨a, rfl⟩ := hc.some (by omega)
      have hca := hc2.at hlt
      have hpl := pop_le (Pk.pack p k)
      have hlt' : (k : Int) < (n : Int) := by omega
      go_wp2_with (first | (go_at_call 44; refine (popC (Pk.pack p k) (Pk.pack_lt _ _) _).mono ?_; rintro e w' ⟨rfl, rfl⟩))
      go_round
      case rel => exact ⟨k + 1, by omega, by go_num, s + Pk.pop (Pk.pack p k), by go_num, by omega, by unfold Hid; rw [cnt_word, ← hsd.out]⟩
      case measure => simp [intOf]; omega
    · have hkn : k = n := by omega
      have hlt' : ¬ (k : Int) < (n : Int) := by omega
      have HS : Hid ((s : Int) = cnt p m) := by unfold Hid; rw [hsd.out, hkn, cnt_row M]
      go_wp2
      go_ret2
      exact ⟨congrArg (fun x => Ending.returned (.tuple #[.int .i64 x, .int .i64 0])) HS.out, gb_trans hg g2⟩

end Go.Proofs.Ytcdefpfnjjahgab
