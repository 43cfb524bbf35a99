/- Is of package words, of a count whose rows may be and are of one length. -/
import Derived.Test.YtcdefpfnjjahgabW17
namespace Go.Proofs.Ytcdefpfnjjahgab
open Go.RowKit
set_option linter.unusedVariables false

/-- The first d digits are those of v. -/
def isN (pp : Nat → Nat → Bool) (v : Nat) : Nat → Nat → Bool
  | 0, _ => true
  | d + 1, t => isN pp v d t && (if v.testBit d then pp d t else !pp d t)

theorem bit_i64 (v d : Nat) (hv : v ≤ 15) : bits .and .i64 ((v : Int) / 2 ^ d) 1 = ((v / 2 ^ d % 2 : Nat) : Int) := by
  have e0 : ((v / 2 ^ d : Nat) : Int) = (v : Int) / 2 ^ d := by simp
  have hle : v / 2 ^ d ≤ 15 := Nat.le_trans (Nat.div_le_self _ _) hv
  rw [← e0]
  generalize v / 2 ^ d = x at hle
  have hm := bits_mask .i64 63 (by decide) (fun n h0 h1 => by rw [IntKind.wrap_i64]; omega) 1 (by decide) (x : Int) (by omega) (by omega)
  have e1 : ((2 : Int) ^ 1 - 1) = 1 := by decide
  have e2 : ((2 : Int) ^ 1) = 2 := by decide
  rw [e1, e2] at hm
  rw [hm]
  omega

theorem andNotW (x y : Nat) (hx : x < 18446744073709551616) (hy : y < 18446744073709551616) : bits .andNot .u64 (x : Int) (y : Int) = ((x &&& (18446744073709551615 ^^^ y) : Nat) : Int) := by
  have hr : x &&& (18446744073709551615 ^^^ y) < 18446744073709551616 := Nat.lt_of_le_of_lt Nat.and_le_left hx
  unfold bits
  simp only [BitVec.ofInt_natCast]
  have hb : (BitVec.ofNat 64 x &&& ~~~ BitVec.ofNat 64 y).toNat = x &&& (18446744073709551615 ^^^ y) := by
    rw [BitVec.toNat_and, BitVec.toNat_ofNat, Nat.mod_eq_of_lt hx, BitVec.not_def, BitVec.toNat_xor, BitVec.toNat_ofNat, Nat.mod_eq_of_lt hy]
    rfl
  have hf : IntKind.u64.wrap (((BitVec.ofNat 64 x &&& ~~~ BitVec.ofNat 64 y).toNat : Nat) : Int) = ((x &&& (18446744073709551615 ^^^ y) : Nat) : Int) := by
    rw [hb, IntKind.wrap_u64]
    omega
  exact hf

theorem pack_andNot (p q : Nat → Bool) (k : Nat) : Pk.pack p k &&& (18446744073709551615 ^^^ Pk.pack q k) = Pk.pack (fun i => p i && !q i) k := by
  rw [Nat.xor_comm, Pk.pack_not, Pk.pack_and]

theorem pack_all (k : Nat) : Pk.pack (fun _ => true) k = 18446744073709551615 := by
  have h := Pk.pack_not (fun _ => false) k
  rw [Pk.pack_zero, Nat.zero_xor] at h
  exact h.symm

theorem iy0 (x0 x1 x2 x3 x4 x5 x6 x7 : Value) (w : World) : (Instr.index 36 (.agg #[x0, x1, x2, x3, x4, x5, x6, x7]) (.int .i64 0)).run Try.prog w = .ok (.agg #[x0, x1]) w := by kernel_rfl
theorem iy1 (x0 x1 x2 x3 x4 x5 x6 x7 : Value) (w : World) : (Instr.index 36 (.agg #[x0, x1, x2, x3, x4, x5, x6, x7]) (.int .i64 1)).run Try.prog w = .ok (.agg #[x2, x3]) w := by kernel_rfl
theorem iy2 (x0 x1 x2 x3 x4 x5 x6 x7 : Value) (w : World) : (Instr.index 36 (.agg #[x0, x1, x2, x3, x4, x5, x6, x7]) (.int .i64 2)).run Try.prog w = .ok (.agg #[x4, x5]) w := by kernel_rfl
theorem iy3 (x0 x1 x2 x3 x4 x5 x6 x7 : Value) (w : World) : (Instr.index 36 (.agg #[x0, x1, x2, x3, x4, x5, x6, x7]) (.int .i64 3)).run Try.prog w = .ok (.agg #[x6, x7]) w := by kernel_rfl

theorem isC (m n v : Nat) (cs : Nat → Nat) (ss : Nat → Option Addr) (pp : Nat → Nat → Bool) (M : ∀ d, d < 4 → MayBe m n (pp d)) (hv : v ≤ 15) (w : World) (h : ∀ d, d < 4 → Wd w (ss d) n (Pk.pack (pp d))) :
    Calls Try.prog 19 #[.agg #[.int .i64 m, .slice (ss 0) n (cs 0), .int .i64 m, .slice (ss 1) n (cs 1), .int .i64 m, .slice (ss 2) n (cs 2), .int .i64 m, .slice (ss 3) n (cs 3)], .int .i64 v] w fun e w' => ∃ b, e = .returned (.tuple #[.agg #[.int .i64 m, .slice (some ⟨b, 0, none⟩) n n], .int .i64 0]) ∧ Row w' 22 b n (fun t => isN pp v 4 t && decide (t < m)) ∧ w.grownBy w' none ∧ w.heap.size ≤ b := by
  obtain ⟨W1, hW1, hA, sz1, g1⟩ := box8 w 36 (.int .i64 m) (.slice (ss 0) n (cs 0)) (.int .i64 m) (.slice (ss 1) n (cs 1)) (.int .i64 m) (.slice (ss 2) n (cs 2)) (.int .i64 m) (.slice (ss 3) n (cs 3))
  obtain ⟨W2, hW2, d0, d1, sz2, g2, hR⟩ := box2 W1 (.int .i64 0) (.slice none 0 0) 31
  have G2 := gb_trans g1 g2
  have hA2 := hA.kept g2
  have hm := (M 0 (by decide)).le
  have hnl := (M 0 (by decide)).len
  have HN : Hid (n = (m + 63) / 64) := (M 0 (by decide)).words
  have hR2 : Rws W2 w.heap.size 4 (fun j => (⟨m, ss j, n, cs j, Pk.pack (pp j)⟩ : RD)) := by
    intro j hj
    have hw := (h j hj).kept G2 (by simp)
    have hok : RD.ok W2 (⟨m, ss j, n, cs j, Pk.pack (pp j)⟩ : RD) := ⟨hw, fun k _ => Pk.pack_lt _ _, by show n ≤ _; omega⟩
    rcases (show j = 0 ∨ j = 1 ∨ j = 2 ∨ j = 3 by omega) with rfl | rfl | rfl | rfl
    · exact ⟨hA2.c0, hA2.c1, hok⟩
    · exact ⟨hA2.c2, hA2.c3, hok⟩
    · exact ⟨hA2.c4, hA2.c5, hok⟩
    · exact ⟨hA2.c6, hA2.c7, hok⟩
  have hak := alikeC w.heap.size 4 4 _ (some ⟨w.heap.size, 0, none⟩) (fun _ => rfl) (by omega) W2 hR2
  have hz : alikeZ (fun j => (⟨m, ss j, n, cs j, Pk.pack (pp j)⟩ : RD)) 4 = 0 := by
    unfold alikeZ
    rw [allV_yes (r := (fun j => (⟨m, ss j, n, cs j, Pk.pack (pp j)⟩ : RD))) (fun j hj => validB_may (M j hj)), allN_yes (r := (fun j => (⟨m, ss j, n, cs j, Pk.pack (pp j)⟩ : RD))) (fun j hj => rfl)]
    rfl
  rw [hz] at hak
  clear hz hR2
  have hbl := blankC m hm
  rw [← HN.out] at hbl
  have hv0 : decide ((v : Int) < 0) = false := by simp
  have hv1 : decide ((15 : Int) < (v : Int)) = false := by simp; omega
  have a0 := hA2.c0
  have q1 : w.heap.size < W1.heap.size := by have := sz1.out; omega
  have q2 : W1.heap.size < W2.heap.size := by have := sz2.out; omega
  go_enter Try.func19, Try.ntmps19
  go_wp2_with (first | (go_at_call 34; refine hak.mono ?_; rintro e w3 ⟨rfl, g3⟩; have hA3 := hA2.kept g3; have b0 := hA3.c0) | (go_at_call 35; refine (hbl w3).mono ?_; rintro e w4 ⟨b, rfl, r4, g4, l4, m4⟩; obtain ⟨W5, hW5, y0, y1, sz5, g5, hU⟩ := box2 w4 (.int .i64 m) (.slice (some ⟨b, 0, none⟩) n n) 31))
  have g45 := gb_trans g4 g5
  have r5 := r4.kept g5 (by simp)
  have hA5 := hA3.kept g45
  have hR5 := (hR.kept g3 (by simp)).kept g45 (by simp)
  have G5 : w.grownBy W5 none := gb_trans G2 (gb_trans g3 g45)
  have z3 := g3.size
  have z4 := g4.size
  have z5 := m4.out
  have z6 : w4.heap.size < W5.heap.size := by have := sz5.out; omega
  have hwb : w.heap.size ≤ b := by omega
  go_loopw [32] (fun x wr => ∃ i : Nat, i ≤ n ∧ x = .int .i64 i ∧ Row wr 22 b n (fun t => if t < 64 * i then isN pp v 4 t else false) ∧ W5.grownBy wr (some b)) (fun x _ => n - (intOf x).toNat)
  case atStart => exact ⟨0, Nat.zero_le _, rfl, r5.congr fun t ht => by simp, World.grownBy.refl _ _⟩
  case round =>
    obtain ⟨i, hi, rfl, hri, hgi⟩ := hrel
    have hGi : w.grownBy wr none := gb_past G5 hgi hwb
    have hUi := hU.kept hgi (by simp; omega)
    have u0 := hUi.cell0
    have u1 := hUi.cell1
    by_cases hlt : i < n
    · have hlt' : (i : Int) < (n : Int) := by omega
      have hAi : B8 wr w.heap.size 36 (.int .i64 m) (.slice (ss 0) n (cs 0)) (.int .i64 m) (.slice (ss 1) n (cs 1)) (.int .i64 m) (.slice (ss 2) n (cs 2)) (.int .i64 m) (.slice (ss 3) n (cs 3)) := (hgi.block _ (by omega) (by simp; omega)).trans hA5
      have c0 := hAi.c0
      have c1 := hAi.c1
      have c2 := hAi.c2
      have c3 := hAi.c3
      have c4 := hAi.c4
      have c5 := hAi.c5
      have c6 := hAi.c6
      have c7 := hAi.c7
      go_wp2
      go_loopw [9, 36] (fun x y wr' => ∃ d : Nat, d ≤ 4 ∧ y = .int .i64 d ∧ x = .int .u64 (Pk.pack (isN pp v d) i) ∧ wr.grownBy wr' none) (fun _ y _ => 4 - (intOf y).toNat)
      case atStart => exact ⟨0, by omega, rfl, by rw [Pk.pack_congr (p := isN pp v 0) (q := fun _ => true) fun t ht => rfl, pack_all]; rfl, World.grownBy.refl _ _⟩
      case round =>
        obtain ⟨d, hd, rfl, rfl, hgd⟩ := hrel
        have hGd := gb_trans hGi hgd
        by_cases hdl : d < 4
        · have hdl' : (d : Int) < 4 := by omega
          have hix : ∀ W, (Instr.index 36 (.agg #[.int .i64 m, .slice (ss 0) n (cs 0), .int .i64 m, .slice (ss 1) n (cs 1), .int .i64 m, .slice (ss 2) n (cs 2), .int .i64 m, .slice (ss 3) n (cs 3)]) (.int .i64 (d : Int))).run Try.prog W = .ok (.agg #[.int .i64 m, .slice (ss d) n (cs d)]) W := by
            intro W
            rcases (show d = 0 ∨ d = 1 ∨ d = 2 ∨ d = 3 by omega) with rfl | rfl | rfl | rfl
            · exact iy0 _ _ _ _ _ _ _ _ W
            · exact iy1 _ _ _ _ _ _ _ _ W
            · exact iy2 _ _ _ _ _ _ _ _ W
            · exact iy3 _ _ _ _ _ _ _ _ W
          have hwd := (h d hdl).kept hGd (by simp)
          obtain ⟨a, ha⟩ := hwd.some (show 0 < n by omega)
          rw [ha] at hwd hix
          obtain ⟨W6, hW6, x0, x1, sz6, g6, hB6⟩ := box2 wr (.int .i64 m) (.slice (some a) n (cs d)) 31
          have hca := g6.cell (hwd.at hlt) (by simp)
          have hbi := bit_i64 v d hv
          have hA1 := bits_and_u64_nat (Pk.pack (isN pp v d) i) (Pk.pack (pp d) i) (Pk.pack_lt _ _) (Pk.pack_lt _ _)
          have hA2' := andNotW (Pk.pack (isN pp v d) i) (Pk.pack (pp d) i) (Pk.pack_lt _ _) (Pk.pack_lt _ _)
          rw [Pk.pack_and] at hA1
          rw [pack_andNot] at hA2'
          have hbd := Pk.bit_div v d
          clear ha hwd
          cases hvb : v.testBit d with
          | true =>
            rw [hvb, if_pos rfl] at hbd
            rw [hbd] at hbi
            have e1 : Pk.pack (fun t => isN pp v d t && pp d t) i = Pk.pack (isN pp v (d + 1)) i := Pk.pack_congr fun t ht => by rw [isN, hvb]; rfl
            rw [e1] at hA1
            clear e1 hbd hvb hA2'
            go_wp2
            go_roundw
            case rel => exact ⟨d + 1, by omega, by go_num, rfl, gb_trans hgd g6⟩
            case measure => simp [intOf]; omega
          | false =>
            rw [hvb, if_neg (by decide)] at hbd
            rw [hbd] at hbi
            have e1 : Pk.pack (fun t => isN pp v d t && !pp d t) i = Pk.pack (isN pp v (d + 1)) i := Pk.pack_congr fun t ht => by rw [isN, hvb]; rfl
            rw [e1] at hA2'
            clear e1 hbd hvb hA1
            go_wp2
            go_roundw
            case rel => exact ⟨d + 1, by omega, by go_num, rfl, gb_trans hgd g6⟩
            case measure => simp [intOf]; omega
        · have hdl' : ¬ (d : Int) < 4 := by omega
          have hd4 : d = 4 := by omega
          have hUd := hUi.kept hgd (by simp)
          have v0 := hUd.cell0
          have v1 := hUd.cell1
          have hrd := hri.kept hgd (by simp)
          have v2 := World.rowIs.cell hrd hlt
          have v3 := World.rowIs.frozen hrd i
          have E4 : Hid (Pk.pack (isN pp v d) i = Pk.pack (fun t => if t < 64 * (i + 1) then isN pp v 4 t else false) i) := by
            unfold Hid
            rw [hd4]
            exact Pk.pack_congr fun t ht => by rw [if_pos (by omega)]
          clear hd4
          go_wp2
          go_roundw
          case rel => exact ⟨i + 1, by omega, by go_num, hrd.set E4.out (fun t ht hne => by
            by_cases hh : t < 64 * i
            · rw [if_pos hh, if_pos (by omega)]
            · rw [if_neg hh, if_neg (by omega)]), gb_set (gb_none hgi hgd) _ _⟩
          case measure => simp [intOf]; omega
    · have hlt' : ¬ (i : Int) < (n : Int) := by omega
      have hrn : Row wr 22 b n (isN pp v 4) := hri.congr fun t ht => by rw [if_pos (by omega)]
      have hcr := cutC m b n n (isN pp v 4) hm HN.out wr hrn
      have hDr := hR5.kept hgi (by simp; omega)
      go_wp2_with (first | (go_at_call 39; refine hcr.mono ?_; rintro e w6 ⟨rfl, hr6, g6⟩; have hU6 := hUi.kept g6 (by simp; omega); have s0 := hU6.cell0; have s1 := hU6.cell1; have hD6 := hDr.kept g6 (by simp; omega); have r2 := hD6.cell0; have r3 := hD6.cell1; have r4 := hD6.free0; have r5 := hD6.free1))
      obtain ⟨fs, hfs⟩ := underR
      refine ret_box2 (g := W1.heap.size) (t := 31) rfl hfs infoR rfl (hD6.set _ _) rfl ?_
      have hG6 : w.grownBy w6 none := gb_past hGi g6 hwb
      have hbD : b ≠ W1.heap.size := by omega
      exact ⟨b, rfl, World.rowIs.setOther (World.rowIs.setOther hr6 hbD _) hbD _, gb_new (gb_new hG6 (Nat.le_of_lt q1) _) (Nat.le_of_lt q1) _, hwb⟩

end Go.Proofs.Ytcdefpfnjjahgab
