/- What the small calls of package words answer: Half, and the inner ones on words and masks. -/
import Derived.Test.YthjiiljglgmkpaaGreatDoorMem
import Derived.Deep.QuietTactic
import Derived.BigQuiet
import Derived.BigRegion
import Derived.Deep.RegionWith
import Derived.Test.YthjiiljglgmkpaaGreatDoorProg
namespace Go.Proofs.YthjiiljglgmkpaaGreatDoor.Wo
open Go.RowKit
set_option linter.unusedVariables false
set_option maxRecDepth 100000

theorem mixed : Tryz.prog.follows .mixedOrders = true := by kernel_rfl

theorem halfC (a b : Nat) (ha : a < 18446744073709551616) (hb : b < 18446744073709551616) (w : World) :
    Calls Tryz.prog 129 #[.int .u64 a, .int .u64 b] w fun e w' => e = .returned (.tuple #[.int .u64 ((a ^^^ b : Nat) : Int), .int .u64 ((a &&& b : Nat) : Int)]) ∧ w' = w := by
  have h1 := bits_xor_u64_nat a b ha hb
  have h2 := bits_and_u64_nat a b ha hb
  go_enter Tryz.func129, Tryz.ntmps129
  go_wp2
  go_ret2
  exact ⟨rfl, rfl⟩

theorem wordsForC (n : Nat) (h1 : n ≤ 65539) (w : World) :
    Calls Tryz.prog 54 #[.int .i64 n] w fun e w' => e = .returned (.int .i64 (((n + 63) / 64 : Nat) : Int)) ∧ w' = w := by
  go_enter Tryz.func54, Tryz.ntmps54
  go_wp2
  go_ret
  refine ⟨?_, rfl⟩
  show Ending.returned (Value.int _ (((n : Int) + 64 - 1) / 64)) = _
  rw [show ((n : Int) + 64 - 1) / 64 = (((n + 63) / 64 : Nat) : Int) by omega]

theorem placeMaskC (i : Nat) (h1 : i ≤ 100000) (w : World) :
    Calls Tryz.prog 81 #[.int .i64 i] w fun e w' => e = .returned (.int .u64 (Pk.one i)) ∧ w' = w := by
  have hp : Hid (IntKind.u64.wrap (2 ^ (i % 64)) = (Pk.one i : Int)) := by
    have h := Pk.one_lt i
    unfold Hid
    rw [IntKind.wrap_u64]
    have e : (2 : Int) ^ (i % 64) = (Pk.one i : Int) := by unfold Pk.one; simp
    rw [e]
    omega
  go_enter Tryz.func81, Tryz.ntmps81
  go_wp2
  go_ret
  exact ⟨congrArg (fun x => Ending.returned (Value.int .u64 x)) hp.out, rfl⟩

/-- How many bits of the last word are bits of a row of n. -/
def last (n : Nat) : Nat := 64 - ((n + 63) / 64 * 64 - n)

theorem lastMaskC (n : Nat) (h1 : n ≤ 65538) (w : World) :
    Calls Tryz.prog 55 #[.int .i64 n] w fun e w' => e = .returned (.int .u64 (Pk.low (last n))) ∧ w' = w := by
  obtain ⟨c, hc⟩ : ∃ c : Nat, c = (n + 63) / 64 := ⟨_, rfl⟩
  have c0 : n ≤ c * 64 := by omega
  have c1 : c * 64 ≤ n + 63 := by omega
  have hw := wordsForC n (by omega)
  rw [← hc] at hw
  obtain ⟨d, hd⟩ : ∃ d : Nat, d = c * 64 - n := ⟨_, rfl⟩
  have d0 : ((c : Int) * 64 - (n : Int)) = (d : Int) := by omega
  have dl : d ≤ 63 := by omega
  have hp : Hid ((18446744073709551615 : Int) / 2 ^ d = (Pk.low (last n) : Int)) := by
    unfold Hid
    have e1 : last n = 64 - d := by unfold last; omega
    rw [e1]
    unfold Pk.low
    have h2 : 2 ^ (64 - d) * 2 ^ d = 2 ^ 64 := by rw [← Nat.pow_add]; congr 1; omega
    have h3 : (18446744073709551615 : Nat) / 2 ^ d = 2 ^ (64 - d) - 1 := by
      have hp : 0 < 2 ^ d := Nat.two_pow_pos d
      have ha : 1 ≤ 2 ^ (64 - d) := Nat.one_le_two_pow
      have h4 : 18446744073709551615 = (2 ^ d - 1) + 2 ^ d * (2 ^ (64 - d) - 1) := by
        rw [Nat.mul_sub, Nat.mul_comm (2 ^ d) (2 ^ (64 - d)), h2]
        have : 2 ^ d * 1 ≤ 2 ^ 64 := by rw [Nat.mul_one]; exact Nat.pow_le_pow_right (by decide) (by omega)
        omega
      rw [h4]
      exact Nat.add_mul_div_left _ _ hp |>.trans (by rw [Nat.div_eq_of_lt (by omega), Nat.zero_add])
    have h5 : ((18446744073709551615 : Nat) / 2 ^ d : Nat) = ((2 ^ (64 - d) - 1 : Nat)) := h3
    have h6 := congrArg (fun x : Nat => (x : Int)) h5
    simpa using h6
  have hp2 : Hid ((18446744073709551615 : Int) / 2 ^ (c * 64 - n) = (Pk.low (last n) : Int)) := by rw [← hd]; exact hp
  clear hc
  go_enter Tryz.func55, Tryz.ntmps55
  go_wp2_with (first | (go_at_call 54; refine (hw _).mono ?_; rintro e w' ⟨rfl, rfl⟩))
  go_ret
  exact ⟨congrArg (fun x => Ending.returned (Value.int .u64 x)) hp2.out, rfl⟩

theorem isPlaceC (N i : Int) (v : Value) (w : World) :
    Calls Tryz.prog 52 #[.agg #[.int .i64 N, v], .int .i64 i] w fun e w' => e = .returned (.bool (decide (0 ≤ i) && decide (i < N))) ∧ w.grownBy w' none := by
  have hg := World.grownBy_alloc w (.cells #[.int .i64 N, v] 33) none
  by_cases h : 0 ≤ i
  · go_enter Tryz.func52, Tryz.ntmps52
    go_wp2
    go_ret
    exact ⟨by simp [h], hg⟩
  · have h' : i < 0 := by omega
    go_enter Tryz.func52, Tryz.ntmps52
    go_wp2
    go_ret
    exact ⟨congrArg (fun x => Ending.returned (Value.bool x)) (by rw [decide_eq_false (show ¬ 0 ≤ i by omega)]; rfl), hg⟩

theorem hasC (N : Int) (i n cap : Nat) (sp : Option Addr) (p : Nat → Bool) (hi : i < 64 * n) (hn : n ≤ 1025) (w : World) (hc : Wd w sp n (Pk.pack p)) :
    Calls Tryz.prog 53 #[.agg #[.int .i64 N, .slice sp n cap], .int .i64 i] w fun e w' => e = .returned (.bool (p i)) ∧ w.grownBy w' none := by
  obtain ⟨a, rfl⟩ := hc.some (by omega)
  have hk : w.cell? (a.add (i / 64)) = some (.int .u64 (Pk.pack p (i / 64))) := hc.at (by omega)
  have hb : i / 64 < n := by omega
  have hbi : (i : Int) / 64 < n := by omega
  have ht : ((i : Int) / 64).toNat = i / 64 := by omega
  have hd : IntKind.i64.wrap ((i : Int) / 64) = ((i / 64 : Nat) : Int) := by rw [IntKind.wrap_i64]; omega
  have hand := bits_and_u64_nat (Pk.pack p (i / 64)) (Pk.one i) (Pk.pack_lt _ _) (Pk.one_lt i)
  obtain ⟨W1, hW, c0, c1, sz, hg, _⟩ := box2 w (.int .i64 N) (.slice (some a) n cap) 33
  have hk1 := hg.cell hk (by simp)
  clear hc
  go_enter Tryz.func53, Tryz.ntmps53
  go_wp2
  go_quiet (first | (go_at_call 81; refine Calls.quiet_of_same (placeMaskC i (by omega) _)))
  go_wp2
  go_ret
  refine ⟨?_, gb_drewN hg _⟩
  refine congrArg (fun x => Ending.returned (Value.bool x)) ?_
  have hp := Pk.and_place p i
  cases hpi : p i with
  | false => rw [hpi] at hp; simp [hp.2 rfl]
  | true =>
    have : Pk.pack p (i / 64) &&& Pk.one i ≠ 0 := fun h => by have := hp.1 h; rw [hpi] at this; cases this
    simp [this]

theorem raiseC (N : Int) (i b n cap : Nat) (p : Nat → Bool) (hi : i < 64 * n) (hn : n ≤ 1025) (w : World) (hr : Row w 37 b n p) :
    Calls Tryz.prog 88 #[.agg #[.int .i64 N, .slice (some ⟨b, 0, none⟩) n cap], .int .i64 i] w fun e w' => e = .returned (.tuple #[]) ∧ Row w' 37 b n (fun j => p j || j == i) ∧ w.grownBy w' (some b) := by
  obtain ⟨W1, hW, c0, c1, sz, hg, _⟩ := box2 w (.int .i64 N) (.slice (some ⟨b, 0, none⟩) n cap) 33
  have hr1 := hr.kept hg (by simp)
  have hk := World.rowIs.cell hr1 (i := i / 64) (by omega)
  have hf := World.rowIs.frozen hr1 (i / 64)
  have hb : i / 64 < n := by omega
  have hbi : (i : Int) / 64 < n := by omega
  have ht : ((i : Int) / 64).toNat = i / 64 := by omega
  have hd : IntKind.i64.wrap ((i : Int) / 64) = ((i / 64 : Nat) : Int) := by rw [IntKind.wrap_i64]; omega
  have hi0 : (0 : Int) ≤ (i : Int) / 64 := by omega
  have hor := bits_or_u64_nat (Pk.pack p (i / 64)) (Pk.one i) (Pk.pack_lt _ _) (Pk.one_lt i)
  have R : Row (W1.setCell ⟨b, i / 64, none⟩ (.int .u64 ((Pk.pack p (i / 64) ||| Pk.one i : Nat) : Int))) 37 b n (fun j => p j || j == i) := by
    refine hr1.set ?_ ?_
    · have := Pk.pack_raise p i (i / 64)
      rw [if_pos rfl] at this
      exact this
    · intro j _ hj
      have : j ≠ i := fun e => hj (by rw [e])
      simp [this]
  have G : w.grownBy (W1.setCell ⟨b, i / 64, none⟩ (.int .u64 ((Pk.pack p (i / 64) ||| Pk.one i : Nat) : Int))) (some b) := gb_set (gb_none (World.grownBy.refl _ _) hg) _ _
  clear hr hr1
  go_enter Tryz.func88, Tryz.ntmps88
  go_wp2
  refine region_tail 9 mixed (by kernel_rfl) ?_
  simp only [List.take_succ_cons, List.take_zero, List.drop_succ_cons, List.drop_zero]
  repeat still_step
  still_call (placeMaskC i (by omega) _)
  repeat still_step
  refine wpStill_nil ?_
  go_wp2
  go_end0
  exact ⟨rfl, R, gb_drew G⟩

end Go.Proofs.YthjiiljglgmkpaaGreatDoor.Wo
namespace Go.Proofs.YthjiiljglgmkpaaGreatDoor.Wo
open Go.RowKit
set_option linter.unusedVariables false
set_option maxRecDepth 100000

theorem infoW : (Tryz.prog.info? 37).map (fun i => (i.zero, i.size, i.bytes)) = some (some (.int .u64 0), 1, 8) := by kernel_rfl
theorem infoWs : (Tryz.prog.info? 37).map (·.size) = some 1 := by kernel_rfl
theorem underS : Tryz.prog.underlying 31 = some (.slice 37) := by kernel_rfl

theorem underR : ∃ fs, Tryz.prog.underlying 33 = some (.struct fs) := by
  have h : (match Tryz.prog.underlying 33 with | some (.struct _) => true | _ => false) = true := by kernel_rfl
  split at h
  · exact ⟨_, by assumption⟩
  · cases h
theorem infoR : (Tryz.prog.info? 33).map (·.size) = some 2 := by kernel_rfl

theorem blankC (m : Nat) (h1 : m ≤ 65538) (w : World) :
    Calls Tryz.prog 80 #[.int .i64 m] w fun e w' => ∃ b, e = .returned (.agg #[.int .i64 m, .slice (some ⟨b, 0, none⟩) ((m + 63) / 64) ((m + 63) / 64)]) ∧ Row w' 37 b ((m + 63) / 64) (fun _ => false) ∧ w.grownBy w' none ∧ w.heap.size ≤ b ∧ Hid (b < w'.heap.size) := by
  obtain ⟨c, hc⟩ : ∃ c : Nat, c = (m + 63) / 64 := ⟨_, rfl⟩
  have hw := wordsForC m (by omega)
  rw [← hc] at hw ⊢
  have cl : c ≤ 1025 := by omega
  clear hc
  have hmk := run_make_row' (P := Tryz.prog) 31 37 (.int .u64 0) 8 underS infoW rfl .i64 .i64 c (by omega) (by omega)
  go_enter Tryz.func80, Tryz.ntmps80
  go_wp2_with (first | (go_at_call 54; refine (hw _).mono ?_; rintro e w' ⟨rfl, rfl⟩))
  obtain ⟨fs, hfs⟩ := underR
  refine ret_box1 (g := w.heap.size) (t := 33) rfl hfs infoR rfl ((Bx.new w _ _ _).kept (World.grownBy_alloc _ _ none) (by simp)) rfl ?_
  refine ⟨w.heap.size + 1, rfl, ?_, gb_alloc (World.grownBy_alloc _ _ _) _, by omega, ?_⟩
  · have h := World.rowIs_made (w.alloc (Obj.cells #[Value.int IntKind.i64 m, Value.slice (some ⟨w.heap.size + 1, 0, none⟩) c c] 33)) (.int .u64 0) c 37
    have e : (w.alloc (Obj.cells #[Value.int IntKind.i64 m, Value.slice (some ⟨w.heap.size + 1, 0, none⟩) c c] 33)).heap.size = w.heap.size + 1 := by simp
    rw [e] at h
    exact h.congr fun i hi => by rw [Pk.pack_zero]; rfl
  · unfold Hid; simp

theorem copiedC (m n cap : Nat) (sp : Option Addr) (p : Nat → Bool) (h1 : m ≤ 65538) (hn : n = (m + 63) / 64) (w : World) (hc : Wd w sp n (Pk.pack p)) :
    Calls Tryz.prog 50 #[.agg #[.int .i64 m, .slice sp n cap]] w fun e w' => ∃ b, e = .returned (.agg #[.int .i64 m, .slice (some ⟨b, 0, none⟩) n n]) ∧ Row w' 37 b n p ∧ w.grownBy w' none ∧ w.heap.size ≤ b ∧ Hid (b < w'.heap.size) := by
  have hb := blankC m h1
  rw [← hn] at hb
  clear hn
  obtain ⟨W1, hW, c0, c1, sz, hg, hB⟩ := box2 w (.int .i64 m) (.slice sp n cap) 33
  obtain ⟨W2, hW2, d0, d1, sz2, hg2, hB2⟩ := box2 W1 (.int .i64 0) (.slice none 0 0) 33
  have hc2 := (hc.kept hg (by simp)).kept hg2 (by simp)
  have hB' := hB.kept hg2 (by simp)
  have e0 := hB'.cell0
  have e1 := hB'.cell1
  go_enter Tryz.func50, Tryz.ntmps50
  go_wp2_with (first | (go_at_call 80; refine (hb W2).mono ?_; rintro e w' ⟨b, rfl, hr, hg3, hlt, hlt2⟩; obtain ⟨W3, hW3, g0, g1, sz3, hg4, hB3⟩ := box2 w' (.int .i64 m) (.slice (some ⟨b, 0, none⟩) n n) 33; have hg34 := gb_none hg3 hg4; have f1 := (hB'.kept hg34 (by simp)).cell1; have hr3 := hr.kept hg4 (by simp); have hc3 := hc2.kept hg34 (by simp); obtain ⟨W4, hcp, hr4, hg5⟩ := run_copy_words (P := Tryz.prog) W3 31 31 3 37 underS infoWs sp n n cap 37 b _ p hr3 hc3; have hB34 := hB3.kept hg5 (by have := hlt2.out; simp; omega); have k0 := hB34.cell0; have k1 := hB34.cell1; have hB24 := (hB2.kept hg34 (by simp)).kept hg5 (by have := sz2.out; simp; omega); have l0 := hB24.cell0; have l1 := hB24.cell1; have m0 := hB24.free0; have m1 := hB24.free1))
  have hs1 := sz.out
  have hs2 := sz2.out
  have hne : W1.heap.size ≠ b := by omega
  obtain ⟨fs, hfs⟩ := underR
  refine ret_box1 (g := W1.heap.size) (t := 33) rfl hfs infoR rfl (hB24.set _ _) rfl ?_
  have G4 : w.grownBy W4 none := gb_past (gb_trans (gb_trans hg hg2) hg34) hg5 (by omega)
  refine ⟨b, rfl, ?_, gb_new (gb_new G4 (by show w.heap.size ≤ W1.heap.size; omega) _) (by show w.heap.size ≤ W1.heap.size; omega) _, by omega, ?_⟩
  · exact (World.rowIs.setOther (World.rowIs.setOther hr4 (Ne.symm hne) _) (Ne.symm hne) _)
  · have := World.rowIs.lt hr4
    unfold Hid
    simpa [World.setCell] using this

end Go.Proofs.YthjiiljglgmkpaaGreatDoor.Wo
namespace Go.Proofs.YthjiiljglgmkpaaGreatDoor.Wo
open Go.RowKit
set_option linter.unusedVariables false
set_option maxRecDepth 100000

theorem cutC (m b n cap : Nat) (p : Nat → Bool) (h1 : m ≤ 65538) (hn : n = (m + 63) / 64) (w : World) (hr : Row w 37 b n p) :
    Calls Tryz.prog 51 #[.agg #[.int .i64 m, .slice (some ⟨b, 0, none⟩) n cap]] w fun e w' => e = .returned (.tuple #[]) ∧ Row w' 37 b n (fun i => p i && decide (i < m)) ∧ w.grownBy w' (some b) := by
  by_cases h0 : m = 0
  · subst h0
    obtain ⟨W1, hW, c0, c1, sz, hg, hB⟩ := box2 w (.int .i64 0) (.slice (some ⟨b, 0, none⟩) n cap) 33
    have hr1 := hr.kept hg (by simp)
    have R : Row W1 37 b n (fun i => p i && decide (i < 0)) := hr1.congr fun i hi => by omega
    clear hr hr1 hn
    go_enter Tryz.func51, Tryz.ntmps51
    go_wp2
    go_end0
    exact ⟨rfl, R, gb_none (World.grownBy.refl _ _) hg⟩
  · obtain ⟨W1, hW, c0, c1, sz, hg, hB⟩ := box2 w (.int .i64 m) (.slice (some ⟨b, 0, none⟩) n cap) 33
    have hr1 := hr.kept hg (by simp)
    have hm : (0 : Int) < (m : Int) := by omega
    obtain ⟨k, rfl⟩ : ∃ k, n = k + 1 := ⟨n - 1, by omega⟩
    have hk := World.rowIs.cell hr1 (i := k) (by omega)
    have hf := World.rowIs.frozen hr1 k
    have hnl : k ≤ 1024 := by omega
    have hA : IntKind.i64.wrap (k : Int) = k := by rw [IntKind.wrap_i64]; omega
    have hkk : (k : Int) < (k : Int) + 1 := by omega
    have hll : last m ≤ 64 := by unfold last; omega
    have hle : 64 * k + last m = m := by unfold last; omega
    have hand := bits_and_u64_nat (Pk.pack p k) (Pk.low (last m)) (Pk.pack_lt _ _) (Pk.low_lt hll)
    have R : Row (W1.setCell ⟨b, k, none⟩ (.int .u64 ((Pk.pack p k &&& Pk.low (last m) : Nat) : Int))) 37 b (k + 1) (fun i => p i && decide (i < m)) := by
      refine hr1.set ?_ ?_
      · rw [Pk.pack_low, hle]
      · intro i hi hne
        have : i < m := by omega
        simp [this]
    have G : w.grownBy (W1.setCell ⟨b, k, none⟩ (.int .u64 ((Pk.pack p k &&& Pk.low (last m) : Nat) : Int))) (some b) := gb_set (gb_none (World.grownBy.refl _ _) hg) _ _
    clear hr hr1 hn hle
    go_enter Tryz.func51, Tryz.ntmps51
    go_wp2
    refine region_tail 12 mixed (by kernel_rfl) ?_
    simp only [List.take_succ_cons, List.take_zero, List.drop_succ_cons, List.drop_zero]
    repeat still_step
    still_call (lastMaskC m h1 _)
    repeat still_step
    refine wpStill_nil ?_
    go_wp2
    go_end0
    exact ⟨rfl, R, gb_drew G⟩

/-- May the row be? -/
def validB (N : Int) (n : Nat) (f : Nat → Nat) : Bool :=
  decide (0 ≤ N) && decide (N ≤ 65538) && decide ((n : Int) = (N + 63) / 64) && (decide (N = 0) || decide (f (n - 1) < 2 ^ last N.toNat))

theorem andNot_low (x c : Nat) (hx : x < 18446744073709551616) (hc : c ≤ 64) : (bits .andNot .u64 (x : Int) (Pk.low c : Int) == 0) = decide (x < 2 ^ c) := by
  have hl := Pk.low_lt hc
  have e : bits .andNot .u64 (x : Int) (Pk.low c : Int) = ((x &&& (18446744073709551615 ^^^ Pk.low c) : Nat) : Int) := by
    have hy : x &&& (18446744073709551615 ^^^ Pk.low c) < 18446744073709551616 := Nat.lt_of_le_of_lt Nat.and_le_left hx
    unfold bits
    simp only [BitVec.ofInt_natCast]
    have hb : (BitVec.ofNat 64 x &&& ~~~ BitVec.ofNat 64 (Pk.low c)).toNat = x &&& (18446744073709551615 ^^^ Pk.low c) := by
      rw [BitVec.toNat_and, BitVec.toNat_ofNat, Nat.mod_eq_of_lt hx, BitVec.not_def, BitVec.toNat_xor, BitVec.toNat_ofNat, Nat.mod_eq_of_lt hl]
      rfl
    have hf : IntKind.u64.wrap (((BitVec.ofNat 64 x &&& ~~~ BitVec.ofNat 64 (Pk.low c)).toNat : Nat) : Int) = ((x &&& (18446744073709551615 ^^^ Pk.low c) : Nat) : Int) := by
      rw [hb, IntKind.wrap_u64]
      omega
    exact hf
  rw [e]
  by_cases h : x < 2 ^ c
  · have : x &&& (18446744073709551615 ^^^ Pk.low c) = 0 := by
      apply Nat.eq_of_testBit_eq
      intro j
      have e64 : (18446744073709551615 : Nat) = 2 ^ 64 - 1 := by decide
      unfold Pk.low
      rw [Nat.testBit_and, Nat.testBit_xor, e64, Nat.testBit_two_pow_sub_one, Nat.testBit_two_pow_sub_one, Nat.zero_testBit]
      by_cases hj : j < c
      · have : j < 64 := by omega
        simp [hj, this]
      · have hz : x.testBit j = false := Nat.testBit_lt_two_pow (Nat.lt_of_lt_of_le h (Nat.pow_le_pow_right (by decide) (by omega)))
        simp [hz]
    rw [this, decide_eq_true h]
    rfl
  · have : x &&& (18446744073709551615 ^^^ Pk.low c) ≠ 0 := by
      intro h0
      apply h
      apply Nat.lt_pow_two_of_testBit
      intro j hj
      have := congrArg (fun y => y.testBit j) h0
      have e64 : (18446744073709551615 : Nat) = 2 ^ 64 - 1 := by decide
      unfold Pk.low at this
      simp only [Nat.testBit_and, Nat.testBit_xor, e64, Nat.testBit_two_pow_sub_one, Nat.zero_testBit] at this
      by_cases h6 : j < 64
      · have hjc : ¬ j < c := by omega
        simpa [h6, hjc] using this
      · exact Nat.testBit_lt_two_pow (Nat.lt_of_lt_of_le hx (by
          have : 2 ^ 64 ≤ 2 ^ j := Nat.pow_le_pow_right (by decide) (by omega)
          simpa using this))
    rw [decide_eq_false h]
    simp [this]

theorem validC (N : Int) (n cap : Nat) (sp : Option Addr) (f : Nat → Nat) (hf : ∀ k, k < n → f k < 18446744073709551616) (hn : n ≤ 9223372036854775807) (w : World) (hc : Wd w sp n f) :
    Calls Tryz.prog 24 #[.agg #[.int .i64 N, .slice sp n cap]] w fun e w' => e = .returned (.bool (validB N n f)) ∧ w.grownBy w' none := by
  obtain ⟨W1, hW, c0, c1, sz, hg, hB⟩ := box2 w (.int .i64 N) (.slice sp n cap) 33
  by_cases g0 : N < 0
  · have HV : Hid (validB N n f = false) := by unfold Hid validB; simp [show ¬ 0 ≤ N by omega]
    go_enter Tryz.func24, Tryz.ntmps24
    go_wp2
    go_quiet (fail)
    go_wp2
    go_ret
    exact ⟨by rw [HV.out]; rfl, gb_drewN hg _⟩
  by_cases g1 : 65538 < N
  · have HV : Hid (validB N n f = false) := by unfold Hid validB; simp [show ¬ N ≤ 65538 by omega]
    have g0' : decide (N < 0) = false := by simp; omega
    go_enter Tryz.func24, Tryz.ntmps24
    go_wp2
    go_quiet (fail)
    go_wp2
    go_ret
    exact ⟨by rw [HV.out]; rfl, gb_drewN hg _⟩
  obtain ⟨m, rfl⟩ : ∃ m : Nat, N = m := ⟨N.toNat, by omega⟩
  have g0' : decide ((m : Int) < 0) = false := by simp
  have g1' : decide ((65538 : Int) < (m : Int)) = false := by simp; omega
  have ml : m ≤ 65538 := by omega
  obtain ⟨c, hcc⟩ : ∃ c : Nat, c = (m + 63) / 64 := ⟨_, rfl⟩
  have hwf := wordsForC m (by omega)
  rw [← hcc] at hwf
  by_cases g2 : n = c
  · subst g2
    have g2' : ((n : Int) != (n : Int)) = false := by simp
    by_cases g3 : m = 0
    · have HV : Hid (validB m n f = true) := by unfold Hid validB; rw [decide_eq_true (show (n : Int) = ((m : Int) + 63) / 64 by omega)]; simp; omega
      have g3' : ((m : Int) == 0) = true := by simp; omega
      clear hcc g3
      go_enter Tryz.func24, Tryz.ntmps24
      go_wp2
      go_quiet (first | (go_at_call 54; refine Calls.quiet_of_same (hwf _)))
      go_wp2
      go_quiet (fail)
      go_wp2
      go_ret
      exact ⟨by rw [HV.out]; rfl, gb_drewN (gb_drewN hg _) _⟩
    · obtain ⟨k, rfl⟩ : ∃ k, n = k + 1 := ⟨n - 1, by omega⟩
      obtain ⟨a, rfl⟩ := hc.some (by omega)
      have hfk := hf k (by omega)
      have HV : Hid ((bits .andNot .u64 (f k : Int) (Pk.low (last m) : Int) == 0) = validB m (k + 1) f) := by
        unfold Hid validB
        rw [andNot_low _ _ hfk (by unfold last; omega), decide_eq_true (show ((k + 1 : Nat) : Int) = ((m : Int) + 63) / 64 by omega), decide_eq_true (show (0 : Int) ≤ (m : Int) by omega), decide_eq_true (show (m : Int) ≤ 65538 by omega), decide_eq_false (show ¬ (m : Int) = 0 by omega)]
        simp
      have g3' : ((m : Int) == 0) = false := by simp; omega
      have hk1 := hg.cell (hc.at (k := k) (by omega)) (by simp)
      have hnl : k ≤ 1024 := by omega
      have hA : IntKind.i64.wrap (k : Int) = k := by rw [IntKind.wrap_i64]; omega
      have hkk : (k : Int) < (k : Int) + 1 := by omega
      clear hcc g3 hc
      go_enter Tryz.func24, Tryz.ntmps24
      go_wp2
      go_quiet (first | (go_at_call 54; refine Calls.quiet_of_same (hwf _)))
      go_wp2
      have hgq := gb_drewN hg nq
      have x0 : (W1.drewN nq).cell? ⟨w.heap.size, 0, none⟩ = some (.int .i64 m) := c0
      have x1 : (W1.drewN nq).cell? ⟨w.heap.size, 1, none⟩ = some (.slice (some a) (k + 1) cap) := c1
      have x2 : (W1.drewN nq).cell? (a.add k) = some (.int .u64 (f k)) := hk1
      generalize W1.drewN nq = W2 at hgq x0 x1 x2 ⊢
      go_quiet (first | (go_at_call 55; refine Calls.quiet_of_same (lastMaskC m ml _)))
      go_wp2
      go_ret
      exact ⟨congrArg (fun x => Ending.returned (Value.bool x)) HV.out, gb_drewN hgq _⟩
  · have HV : Hid (validB m n f = false) := by unfold Hid validB; rw [decide_eq_false (show ¬ (n : Int) = ((m : Int) + 63) / 64 by omega)]; simp
    have g2' : ((n : Int) != (c : Int)) = true := by simp; omega
    clear hcc
    go_enter Tryz.func24, Tryz.ntmps24
    go_wp2
    go_quiet (first | (go_at_call 54; refine Calls.quiet_of_same (hwf _)))
    go_wp2
    go_ret
    exact ⟨by rw [HV.out]; rfl, gb_drewN hg _⟩

end Go.Proofs.YthjiiljglgmkpaaGreatDoor.Wo
namespace Go.Proofs.YthjiiljglgmkpaaGreatDoor.Wo
open Go.RowKit
set_option linter.unusedVariables false
set_option maxRecDepth 100000

theorem MayBe.len {m n : Nat} {p : Nat → Bool} (h : MayBe m n p) : n ≤ 1025 := by have := h.le; have := h.words; omega

theorem validB_may {m n : Nat} {p : Nat → Bool} (h : MayBe m n p) : validB m n (Pk.pack p) = true := by
  have h1 := h.le
  have h2 := h.words
  unfold validB
  rw [decide_eq_true (show (0 : Int) ≤ (m : Int) by omega), decide_eq_true (show (m : Int) ≤ 65538 by omega), decide_eq_true (show (n : Int) = ((m : Int) + 63) / 64 by omega)]
  by_cases h0 : m = 0
  · rw [decide_eq_true (show (m : Int) = 0 by omega)]; rfl
  · have : Pk.pack p (n - 1) < 2 ^ last m := by
      apply Nat.lt_pow_two_of_testBit
      intro j hj
      rw [Pk.testBit_pack]
      by_cases hj6 : j < 64
      · rw [h.tail _ (by unfold last at hj; omega)]; simp
      · simp [hj6]
    rw [Int.toNat_natCast, decide_eq_true this]
    simp

theorem may_of_validB {N : Int} {n : Nat} {f : Nat → Nat} (hf : ∀ k, k < n → f k < 18446744073709551616) (h : validB N n f = true) :
    ∃ m p, N = (m : Nat) ∧ MayBe m n p ∧ ∀ k, k < n → f k = Pk.pack p k := by
  unfold validB at h
  simp only [Bool.and_eq_true, Bool.or_eq_true, decide_eq_true_eq] at h
  obtain ⟨⟨⟨h0, h1⟩, h2⟩, h3⟩ := h
  obtain ⟨m, rfl⟩ : ∃ m : Nat, N = m := ⟨N.toNat, by omega⟩
  rw [Int.toNat_natCast] at h3
  refine ⟨m, fun i => decide (i < m) && Pk.bitAt f i, rfl, ⟨by omega, by omega, fun i hi => by rw [decide_eq_false (by omega)]; rfl⟩, fun k hk => ?_⟩
  rw [← Pk.pack_bitAt (f := f) (k := k) (hf k hk)]
  refine Pk.pack_congr fun j hj => ?_
  by_cases hlt : 64 * k + j < m
  · rw [decide_eq_true hlt]; simp
  · rw [decide_eq_false hlt]
    have hkn : k = n - 1 := by omega
    have h4 : f k < 2 ^ last m := by
      rcases h3 with h3 | h3
      · omega
      · rw [hkn]; exact h3
    have e1 : (64 * k + j) / 64 = k := by omega
    have e2 : (64 * k + j) % 64 = j := by omega
    unfold Pk.bitAt
    rw [e1, e2, Nat.testBit_lt_two_pow (Nat.lt_of_lt_of_le h4 (Nat.pow_le_pow_right (by decide) (by unfold last; omega)))]
    rfl

theorem validP (m n cap : Nat) (sp : Option Addr) (p : Nat → Bool) (M : MayBe m n p) (w : World) (hc : Wd w sp n (Pk.pack p)) :
    Calls Tryz.prog 24 #[.agg #[.int .i64 m, .slice sp n cap]] w fun e w' => e = .returned (.bool true) ∧ w.grownBy w' none := by
  have h := validC m n cap sp (Pk.pack p) (fun k _ => Pk.pack_lt _ _) (by have := (MayBe.len M); omega) w hc
  rw [validB_may M] at h
  exact h

def getB (m : Nat) (p : Nat → Bool) (i : Int) : Bool := decide (0 ≤ i) && decide (i < m) && p i.toNat

theorem getC (m n cap : Nat) (sp : Option Addr) (p : Nat → Bool) (M : MayBe m n p) (i : Int) (w : World) (hc : Wd w sp n (Pk.pack p)) :
    Calls Tryz.prog 23 #[.agg #[.int .i64 m, .slice sp n cap], .int .i64 i] w fun e w' => e = .returned (.bool (getB m p i)) ∧ w.grownBy w' none := by
  obtain ⟨W1, hW, c0, c1, sz, hg, hB⟩ := box2 w (.int .i64 m) (.slice sp n cap) 33
  have hc1 := hc.kept hg (by simp)
  by_cases h : 0 ≤ i ∧ i < m
  · obtain ⟨h0, h1⟩ := h
    obtain ⟨j, rfl⟩ : ∃ j : Nat, i = j := ⟨i.toNat, by omega⟩
    have HV : Hid (p j = getB m p j) := by unfold Hid getB; rw [decide_eq_true h0, decide_eq_true h1]; simp
    have hj : j < 64 * n := by have := M.words; omega
    have hip := isPlaceC m j (.slice sp n cap)
    rw [decide_eq_true h0, decide_eq_true h1] at hip
    simp only [Bool.and_self] at hip
    go_enter Tryz.func23, Tryz.ntmps23
    go_wp2_with (first | (go_at_call 24; refine (validP m n cap sp p M W1 hc1).mono ?_; rintro e w2 ⟨rfl, g2⟩; have hB2 := hB.kept g2 (by simp); have x0 := hB2.cell0; have x1 := hB2.cell1; have hc2 := hc1.kept g2 (by simp)) | (go_at_call 52; refine (hip w2).mono ?_; rintro e w3 ⟨rfl, g3⟩; have hB3 := hB2.kept g3 (by simp); have y0 := hB3.cell0; have y1 := hB3.cell1; have hc3 := hc2.kept g3 (by simp)) | (go_at_call 53; refine (hasC m j n cap sp p hj (MayBe.len M) w3 hc3).mono ?_; rintro e w4 ⟨rfl, g4⟩))
    go_ret
    exact ⟨congrArg (fun x => Ending.returned (Value.bool x)) HV.out, gb_trans hg (gb_trans g2 (gb_trans g3 g4))⟩
  · have HV : Hid (getB m p i = false) := by
      unfold Hid getB
      by_cases h0 : 0 ≤ i
      · rw [decide_eq_false (show ¬ i < (m : Int) from fun h1 => h ⟨h0, h1⟩)]; simp
      · rw [decide_eq_false h0]; simp
    have hip := isPlaceC m i (.slice sp n cap)
    have e : (decide (0 ≤ i) && decide (i < (m : Int))) = false := by
      by_cases h0 : 0 ≤ i
      · rw [decide_eq_false (show ¬ i < (m : Int) from fun h1 => h ⟨h0, h1⟩)]; simp
      · rw [decide_eq_false h0]; simp
    rw [e] at hip
    clear e h
    go_enter Tryz.func23, Tryz.ntmps23
    go_wp2_with (first | (go_at_call 24; refine (validP m n cap sp p M W1 hc1).mono ?_; rintro e w2 ⟨rfl, g2⟩; have hB2 := hB.kept g2 (by simp); have x0 := hB2.cell0; have x1 := hB2.cell1) | (go_at_call 52; refine (hip w2).mono ?_; rintro e w3 ⟨rfl, g3⟩))
    go_ret
    exact ⟨by rw [HV.out]; rfl, gb_trans hg (gb_trans g2 g3)⟩

theorem ofC (n cap : Nat) (sp : Option Addr) (g : Nat → Bool) (h1 : n ≤ 65538) (w : World) (hb : Bd w sp n g) :
    Calls Tryz.prog 61 #[.slice sp n cap] w fun e w' => ∃ b, e = .returned (.tuple #[.agg #[.int .i64 n, .slice (some ⟨b, 0, none⟩) ((n + 63) / 64) ((n + 63) / 64)], .int .i64 0]) ∧ Row w' 37 b ((n + 63) / 64) (fun i => decide (i < n) && g i) ∧ w.grownBy w' none ∧ w.heap.size ≤ b := by
  obtain ⟨c, hcc⟩ : ∃ c : Nat, c = (n + 63) / 64 := ⟨_, rfl⟩
  have hbl := blankC n h1
  rw [← hcc] at hbl ⊢
  have hc1 : n ≤ 64 * c := by omega
  have hc2 : c ≤ 1025 := by omega
  clear hcc
  obtain ⟨W1, hW, c0, c1, sz, hg, hB⟩ := box2 w (.int .i64 0) (.slice none 0 0) 33
  have hb1 := hb.kept hg (by simp)
  have hnl : (n : Int) ≤ 65538 := by omega
  have hnd : decide ((65538 : Int) < (n : Int)) = false := by simp; omega
  go_enter Tryz.func61, Tryz.ntmps61
  go_wp2_with (first | (go_at_call 80; refine (hbl W1).mono ?_; rintro e w2 ⟨b, rfl, hr, g2, hlt, hlt2⟩; obtain ⟨W3, hW3, x0, x1, sz3, g3, hB3⟩ := box2 w2 (.int .i64 n) (.slice (some ⟨b, 0, none⟩) c c) 33))
  have g23 := gb_trans g2 g3
  have hB13 := hB.kept g23 (by simp)
  have hr3 := hr.kept g3 (by simp)
  have hb3 := hb1.kept g23 (by simp)
  have hs := sz.out
  have hs3 := sz3.out
  have l2 := hlt2.out
  have l3 := g2.size
  go_loopw [16] (fun i wr => ∃ k : Nat, k ≤ n ∧ i = .int .i64 k ∧ Row wr 37 b c (fun j => decide (j < k) && g j) ∧ W3.grownBy wr (some b)) (fun i _ => n - (intOf i).toNat)
  case atStart => exact ⟨0, Nat.zero_le _, rfl, hr3.congr fun i hi => by simp, World.grownBy.refl _ _⟩
  case round =>
    obtain ⟨k, hk, rfl, hrk, hgk⟩ := hrel
    have hBk := hB3.kept hgk (by simp; omega)
    have y0 := hBk.cell0
    have y1 := hBk.cell1
    by_cases hlt' : k < n
    · obtain ⟨a, rfl⟩ := hb.some (by omega)
      have hca := hgk.cell (hb3.at hlt') (by
        have := cell_lt (hb.at hlt')
        simp; omega)
      cases hgv : g k with
      | true =>
        rw [hgv] at hca
        go_wp2_with (first | (go_at_call 88; refine (raiseC n k b c c _ (by omega) hc2 wr hrk).mono ?_; rintro e w4 ⟨rfl, hr4, g4⟩))
        go_roundw
        case rel => exact ⟨k + 1, by omega, by go_num, hr4.congr fun i hi => by
          by_cases hik : i = k
          · subst hik; simp [hgv]
          · have e1 : (i == k) = false := by simp [hik]
            have e2 : decide (i < k) = decide (i < k + 1) := by simp; omega
            simp only [e1, Bool.or_false, e2], gb_trans hgk g4⟩
        case measure => simp [intOf]; omega
      | false =>
        rw [hgv] at hca
        go_wp2
        go_roundw
        case rel => exact ⟨k + 1, by omega, by go_num, hrk.congr fun i hi => by
          by_cases hik : i = k
          · subst hik; simp [hgv]
          · have e2 : decide (i < k) = decide (i < k + 1) := by simp; omega
            simp only [e2], hgk⟩
        case measure => simp [intOf]; omega
    · have hkn : k = n := by omega
      have hB1k := hB13.kept hgk (by simp; omega)
      have z0 := hB1k.cell0
      have z1 := hB1k.cell1
      have z2 := hB1k.free0
      have z3 := hB1k.free1
      have hlt'' : ¬ (k : Int) < (n : Int) := by omega
      go_wp2
      obtain ⟨fs, hfs⟩ := underR
      refine ret_box2 (g := w.heap.size) (t := 33) rfl hfs infoR rfl (hB1k.set _ _) rfl ?_
      have G : w.grownBy wr none := gb_past (gb_trans hg g23) hgk (by omega)
      have hne : b ≠ w.heap.size := by omega
      refine ⟨b, rfl, ?_, gb_new (gb_new G (Nat.le_refl _) _) (Nat.le_refl _) _, by omega⟩
      have R := (World.rowIs.setOther (World.rowIs.setOther hrk (a := ⟨w.heap.size, 0, none⟩) hne (.int .i64 n)) (a := ⟨w.heap.size, 1, none⟩) hne (.slice (some ⟨b, 0, none⟩) c c))
      rw [hkn] at R
      exact R

end Go.Proofs.YthjiiljglgmkpaaGreatDoor.Wo
namespace Go.Proofs.YthjiiljglgmkpaaGreatDoor.Wo
open Go.RowKit
set_option linter.unusedVariables false

theorem newC (m : Nat) (h1 : m ≤ 65538) (w : World) :
    Calls Tryz.prog 90 #[.int .i64 m] w fun e w' => ∃ b, e = .returned (.tuple #[.agg #[.int .i64 m, .slice (some ⟨b, 0, none⟩) ((m + 63) / 64) ((m + 63) / 64)], .int .i64 0]) ∧ Row w' 37 b ((m + 63) / 64) (fun _ => false) ∧ w.grownBy w' none ∧ w.heap.size ≤ b := by
  have hbl := blankC m h1
  generalize (m + 63) / 64 = c at hbl ⊢
  obtain ⟨W1, hW, c0, c1, sz, hg, hB⟩ := box2 w (.int .i64 0) (.slice none 0 0) 33
  have g0 : decide ((m : Int) < 0) = false := by simp
  have g1 : decide ((65538 : Int) < (m : Int)) = false := by simp; omega
  go_enter Tryz.func90, Tryz.ntmps90
  go_wp2_with (first | (go_at_call 80; refine (hbl W1).mono ?_; rintro e w2 ⟨b, rfl, hr, g2, hlt, hlt2⟩; have hB2 := hB.kept g2 (by simp); have x0 := hB2.cell0; have x1 := hB2.cell1; have x2 := hB2.free0; have x3 := hB2.free1))
  have hs := sz.out
  obtain ⟨fs, hfs⟩ := underR
  refine ret_box2 (g := w.heap.size) (t := 33) rfl hfs infoR rfl (hB2.set _ _) rfl ?_
  have hne : b ≠ w.heap.size := by omega
  exact ⟨b, rfl, World.rowIs.setOther (World.rowIs.setOther hr hne _) hne _, gb_new (gb_new (gb_trans hg g2) (Nat.le_refl _) _) (Nat.le_refl _) _, by omega⟩

theorem newBad (n : Int) (h : n < 0 ∨ 65538 < n) (w : World) :
    Calls Tryz.prog 90 #[.int .i64 n] w fun e w' => e = .returned (.tuple #[.agg #[.int .i64 0, .slice none 0 0], .int .i64 2]) ∧ w.grownBy w' none := by
  obtain ⟨W1, hW, c0, c1, sz, hg, hB⟩ := box2 w (.int .i64 0) (.slice none 0 0) 33
  have x2 := hB.free0
  have x3 := hB.free1
  obtain ⟨fs, hfs⟩ := underR
  by_cases h0 : n < 0
  · go_enter Tryz.func90, Tryz.ntmps90
    go_wp2
    refine ret_box2 (g := w.heap.size) (t := 33) rfl hfs infoR rfl (hB.set _ _) rfl ?_
    exact ⟨rfl, gb_new (gb_new hg (Nat.le_refl _) _) (Nat.le_refl _) _⟩
  · have h1 : 65538 < n := by omega
    have g0 : decide (n < 0) = false := by simp; omega
    go_enter Tryz.func90, Tryz.ntmps90
    go_wp2
    refine ret_box2 (g := w.heap.size) (t := 33) rfl hfs infoR rfl (hB.set _ _) rfl ?_
    exact ⟨rfl, gb_new (gb_new hg (Nat.le_refl _) _) (Nat.le_refl _) _⟩

theorem ofBig (n cap : Nat) (sp : Option Addr) (h1 : 65538 < n) (hn : n ≤ 9223372036854775807) (w : World) :
    Calls Tryz.prog 61 #[.slice sp n cap] w fun e w' => e = .returned (.tuple #[.agg #[.int .i64 0, .slice none 0 0], .int .i64 6]) ∧ w.grownBy w' none := by
  obtain ⟨W1, hW, c0, c1, sz, hg, hB⟩ := box2 w (.int .i64 0) (.slice none 0 0) 33
  have x2 := hB.free0
  have x3 := hB.free1
  obtain ⟨fs, hfs⟩ := underR
  have h2 : (65538 : Int) < (n : Int) := by omega
  go_enter Tryz.func61, Tryz.ntmps61
  go_wp2
  refine ret_box2 (g := w.heap.size) (t := 33) rfl hfs infoR rfl (hB.set _ _) rfl ?_
  exact ⟨rfl, gb_new (gb_new hg (Nat.le_refl _) _) (Nat.le_refl _) _⟩

end Go.Proofs.YthjiiljglgmkpaaGreatDoor.Wo
