/- The lowest place of a word; what TrailingZeros64 answers; the places of a row as a list. -/
import Derived.Test.YthjiiljglgmkpaaGreatDoorWa
import Derived.Test.YthjiiljglgmkpaaGreatDoorPack
import Derived.Shelf.Spec.TrailingZeros
import Derived.RangeFuncNested
import Derived.RangeFuncBound
import Derived.RangeFuncCalls
import Derived.RangeFuncLeaves
import Derived.Shelf.Abstract
import Derived.WalkKit
import Derived.OwnWalkIn
import Derived.TacticsInMore
import Derived.LoopNIn
import Derived.LoopIn
import Derived.RangeFuncBox
namespace Go.Proofs.YthjiiljglgmkpaaGreatDoor.Wo
open Go.RowKit
set_option linter.unusedVariables false

theorem low_split {x : Nat} (h0 : x ≠ 0) (h : x < 18446744073709551616) : Lib.ctz 64 x < 64 ∧ x.testBit (Lib.ctz 64 x) = true ∧ (∀ j, j < Lib.ctz 64 x → x.testBit j = false) ∧ ∀ j, (x &&& (x - 1)).testBit j = (x.testBit j && decide (j ≠ Lib.ctz 64 x)) := by
  obtain ⟨m, hm, hk⟩ := Lib.ctzFrom_spec 64 x (by omega) h
  have e : Lib.ctz 64 x = Lib.ctzFrom 64 x := by simp [Lib.ctz, h0]
  rw [e]
  generalize Lib.ctzFrom 64 x = c at hm hk
  have hp : 0 < 2 ^ c := Nat.two_pow_pos c
  have b1 : ∀ j, x.testBit j = if j < c then false else (2 * m + 1).testBit (j - c) := fun j => by
    have := Nat.testBit_two_pow_mul_add (2 * m + 1) (i := c) (b := 0) hp j
    rw [Nat.add_zero, ← hm] at this
    rw [this]; simp
  have e1 : x - 1 = 2 ^ c * (2 * m) + (2 ^ c - 1) := by
    rw [hm, Nat.mul_add, Nat.mul_one]; omega
  have b2 : ∀ j, (x - 1).testBit j = if j < c then true else (2 * m).testBit (j - c) := fun j => by
    rw [e1, Nat.testBit_two_pow_mul_add (2 * m) (by omega) j]
    by_cases hj : j < c
    · simp [hj, Nat.testBit_two_pow_sub_one]
    · simp [hj]
  refine ⟨hk, ?_, ?_, ?_⟩
  · rw [b1, if_neg (by omega), Nat.sub_self, Nat.testBit_zero]; simp
  · intro j hj
    rw [b1, if_pos hj]
  · intro j
    rw [Nat.testBit_and, b1, b2]
    by_cases hj : j < c
    · simp [hj]
    · rw [if_neg hj, if_neg hj]
      by_cases hjc : j = c
      · subst hjc
        rw [Nat.sub_self, Nat.testBit_zero, Nat.testBit_zero]; simp
      · obtain ⟨d, rfl⟩ : ∃ d, j = c + (d + 1) := ⟨j - c - 1, by omega⟩
        have e3 : c + (d + 1) - c = d + 1 := by omega
        rw [e3, Nat.testBit_succ, Nat.testBit_succ]
        have d1 : (2 * m + 1) / 2 = m := by omega
        have d2 : 2 * m / 2 = m := by omega
        rw [d1, d2]
        simp

/-- The lowest place of a word that is not 0. -/
def lowAt (q : Nat → Bool) (k : Nat) : Nat := Lib.ctz 64 (Pk.pack q k)

theorem lowAt_spec {q : Nat → Bool} {k : Nat} (h : Pk.pack q k ≠ 0) : lowAt q k < 64 ∧ q (64 * k + lowAt q k) = true ∧ (∀ j, 64 * k ≤ j → j < 64 * k + lowAt q k → q j = false) ∧
    Pk.pack q k &&& (Pk.pack q k - 1) = Pk.pack (fun j => q j && decide (64 * k + lowAt q k + 1 ≤ j)) k := by
  obtain ⟨h1, h2, h3, h4⟩ := low_split h (Pk.pack_lt q k)
  have e : Lib.ctz 64 (Pk.pack q k) = lowAt q k := rfl
  rw [e] at h1 h2 h3 h4
  have hlow : ∀ j, 64 * k ≤ j → j < 64 * k + lowAt q k → q j = false := fun j hj hj2 => by
    have := h3 (j - 64 * k) (by omega)
    rw [Pk.testBit_pack] at this
    have e2 : 64 * k + (j - 64 * k) = j := by omega
    have e4 : j - 64 * k < 64 := by omega
    rw [e2] at this
    simpa [e4] using this
  refine ⟨h1, ?_, hlow, ?_⟩
  · rw [Pk.testBit_pack] at h2
    simpa [h1] using h2
  · apply Nat.eq_of_testBit_eq
    intro j
    rw [h4, Pk.testBit_pack, Pk.testBit_pack]
    by_cases hj : j < 64
    · simp only [hj, decide_true, Bool.true_and]
      by_cases hjc : j = lowAt q k
      · have : ¬ 64 * k + lowAt q k + 1 ≤ 64 * k + j := by omega
        simp [hjc]
      · by_cases hl : j < lowAt q k
        · have := hlow (64 * k + j) (by omega) (by omega)
          simp [this]
        · have a1 : 64 * k + lowAt q k + 1 ≤ 64 * k + j := by omega
          simp [hjc, a1]
    · simp [hj]

theorem pack_none {q : Nat → Bool} {k : Nat} (h : Pk.pack q k = 0) : ∀ j, 64 * k ≤ j → j < 64 * (k + 1) → q j = false := fun j h1 h2 => by
  have := Pk.testBit_pack q k (j - 64 * k)
  rw [h] at this
  have e1 : 64 * k + (j - 64 * k) = j := by omega
  have e2 : j - 64 * k < 64 := by omega
  rw [e1] at this
  simpa [e2] using this.symm

/-- The places below s that are set. -/
def come (p : Nat → Bool) (s : Nat) : List Nat := (List.range s).filter p

theorem come_same (p : Nat → Bool) {s : Nat} : ∀ t, s ≤ t → (∀ j, s ≤ j → j < t → p j = false) → come p t = come p s
  | 0, h, _ => by rw [show s = 0 by omega]
  | t + 1, h, hf => by
    by_cases e : s = t + 1
    · rw [e]
    · rw [← come_same p t (by omega) fun j h1 h2 => hf j h1 (by omega)]
      unfold come
      rw [List.range_succ, List.filter_append]
      simp [hf t (by omega) (by omega)]
theorem come_step (p : Nat → Bool) {s t : Nat} (h : s ≤ t) (hf : ∀ j, s ≤ j → j < t → p j = false) (hp : p t = true) : come p (t + 1) = come p s ++ [t] := by
  rw [← come_same p t h hf]
  unfold come
  rw [List.range_succ, List.filter_append]
  simp [hp]
theorem come_length (p : Nat → Bool) (s : Nat) : (come p s).length ≤ s := by
  unfold come
  exact Nat.le_trans (List.length_filter_le _ _) (by simp)
theorem mem_come {p : Nat → Bool} {s i : Nat} : i ∈ come p s ↔ i < s ∧ p i = true := by
  unfold come; simp [List.mem_filter]

/-- The library's table, as it is laid. -/
abbrev Tab64 (w : World) : Prop := TabAt 1 Lib.deBruijn64tab w

theorem tz_core (x k idx : Nat) (w : World) (hx0 : ((x : Int) == 0) = false)
    (key : IntKind.u64.wrap (bits BinOp.and IntKind.u64 (x : Int) (IntKind.u64.wrap (-(x : Int))) * 285870213051353865) / 288230376151711744 = (idx : Int))
    (hi : idx < 64) (hk : k < 64) (hcell : w.cell? ⟨1, idx, none⟩ = some (.int .u8 k)) :
    Calls Tryz.prog 128 #[.int .u64 x] w fun e w' => e = .returned (.int .i64 k) ∧ w' = w := by
  go_enter Tryz.func128, Tryz.ntmps128
  go_wp2_with (simp only [key])
  go_ret
  exact ⟨rfl, rfl⟩

/-- **TrailingZeros64 of a number that is not 0.** -/
theorem tz64C (x : Nat) (hx0 : x ≠ 0) (hx : x < 18446744073709551616) (w : World) (hT : Tab64 w) :
    Calls Tryz.prog 128 #[.int .u64 x] w fun e w' => e = .returned (.int .i64 (Lib.ctz 64 x)) ∧ w' = w := by
  obtain ⟨hlow, hk⟩ := Lib.lowest_bit 64 x hx0 hx
  obtain ⟨hi, htab⟩ := Lib.deBruijn64_at _ hk
  have hkey := tz64_key x _ hx hx0 hlow
  have hc := hT _ (show _ < Lib.deBruijn64tab.length from hi)
  rw [htab] at hc
  exact tz_core x _ _ w (by simp; omega) hkey hi hk hc

end Go.Proofs.YthjiiljglgmkpaaGreatDoor.Wo
namespace Go.Proofs.YthjiiljglgmkpaaGreatDoor.Wo
open Go.RowKit Go.Shelf
set_option linter.unusedVariables false
attribute [local go_sem] Oper.semAt_some

theorem _root_.Go.Proofs.YthjiiljglgmkpaaGreatDoor.Wd.below {w w' : World} {n₀ : Nat} {sp : Option Addr} {n : Nat} {f : Nat → Nat} (h : Wd w sp n f) (hb : Below n₀ w w') (hn : ∀ a, sp = Option.some a → n ≠ 0 → a.block < n₀) : Wd w' sp n f := fun k hk => by
  obtain ⟨a, ha, hc⟩ := h k hk
  have hbk : (a.add k).block = a.block := by unfold Addr.add; split <;> simp_all
  exact ⟨a, ha, (hb.cell (p := a.add k) (by rw [hbk]; exact hn a ha (by omega))).trans hc⟩
theorem Tab64.below {w w' : World} {n₀ : Nat} (h : Tab64 w) (hb : Below n₀ w w') (hn : 1 < n₀) : Tab64 w' := fun j hj => (hb.cell (p := ⟨1, j, none⟩) hn).trans (h j hj)

set_option maxRecDepth 100000 in
set_option maxHeartbeats 2000000 in
/-- **The closure of places.** -/
theorem places1_in (n : Nat) (hn : 1 ≤ n) (l Bs n₀ len cap m : Nat) (sp : Option Addr) (p : Nat → Bool) (hreach : len ≤ 1025) (hG : 1 < n₀) (hsp : ∀ a, sp = some a → len ≠ 0 → a.block < n₀) (hm : ∀ j, j < 64 * len → p j = true → j < m) (J Jx : List (Fin m) → World → Prop)
    (hY : ∀ pre x W, J pre W → pre.length < 64 * len → YieldAt Fence.wide (n - 1) Tryz.prog l #[.int .i64 (x.val : Int)] W fun e W' =>
      (e = .returned (.bool true) ∧ J (pre ++ [x]) W' ∧ Below n₀ W W') ∨ (e = .returned (.bool false) ∧ Jx (pre ++ [x]) W'))
    (W : World) (hBs : W.cell? ⟨Bs, 0, none⟩ = some (.slice sp len cap)) (hc : Wd W sp len (Pk.pack p)) (hT : Tab64 W) (h0 : J [] W) :
    CallsIn Fence.wide n Tryz.prog 127 #[.func (.yield l) #[] #[], .pointer (some ⟨Bs, 0, none⟩)] W fun e W' => (∃ v, e = .returned v) ∧
      ((∃ ys, ys.map Fin.val = come p (64 * len) ∧ J ys W') ∨ (∃ pre, (∃ s, s ≤ 64 * len ∧ pre.map Fin.val = come p s) ∧ Jx pre W')) := by
  refine callsIn_of_wp Tryz.func127 rfl trivial ?_ rfl
  simp only [Tryz.ntmps127, List.size_toArray, List.length_cons, List.length_nil, Nat.reduceAdd, Nat.reduceSub, Array.replicate_succ, Array.replicate_zero, List.push_toArray, List.append_toArray, List.nil_append, List.cons_append]
  gi_wp2
  gi_loopw [7] (fun i wr => ∃ (k : Nat) (pre : List (Fin m)), k ≤ len ∧ i = .int .i64 k ∧ pre.map Fin.val = come p (64 * k) ∧ J pre wr ∧ Below n₀ W wr)
    (fun i _ => len - (intOf i).toNat)
  case atStart => exact ⟨0, [], Nat.zero_le _, rfl, rfl, h0, Below.refl _ _⟩
  case round =>
    obtain ⟨k, pre, hk, rfl, hpre, hJs, hnx⟩ := hrel
    by_cases hlt : k < len
    · obtain ⟨a, rfl⟩ := hc.some (by omega)
      have hcx := (hc.below hnx hsp).at hlt
      have hi1 : (k : Int) < (len : Int) := by omega
      have hi0 : (0 : Int) ≤ (k : Int) := by omega
      gi_wp2
      gi_loopw [4] (fun v wi => ∃ (s : Nat) (pr : List (Fin m)), 64 * k ≤ s ∧ s ≤ 64 * (k + 1) ∧ v = .int .u64 (Pk.pack (fun j => p j && decide (s ≤ j)) k : Nat) ∧ pr.map Fin.val = come p s ∧ J pr wi ∧ Below n₀ W wi)
        (fun v _ => (intOf v).toNat)
      case atStart => exact ⟨64 * k, pre, Nat.le_refl _, by omega, by rw [Pk.pack_congr (p := fun j => p j && decide (64 * k ≤ j)) (q := p) fun j hj => by simp], hpre, hJs, hnx⟩
      case round =>
        obtain ⟨s, pr, hs1, hs2, rfl, hpr, hJi, hni⟩ := hrel
        obtain ⟨q, hq⟩ : ∃ q : Nat → Bool, (fun j => p j && decide (s ≤ j)) = q := ⟨_, rfl⟩
        have hqa : ∀ j, q j = (p j && decide (s ≤ j)) := fun j => by rw [← hq]
        rw [hq]
        by_cases hz : Pk.pack q k = 0
        · have hno := pack_none hz
          rw [hz]
          gi_wp2
          go_roundw
          case rel => exact ⟨k + 1, pr, by omega, by go_num, by
            rw [hpr]
            exact (come_same p _ hs2 fun j h1 h2 => by
              have := hno j (by omega) h2
              rw [hqa] at this
              simpa [h1] using this).symm, hJi, hni⟩
          case measure => simp [intOf]; omega
        · obtain ⟨hc64, hqc, hql, hqn⟩ := lowAt_spec hz
          have hlt64 := Pk.pack_lt q k
          have htz := fun w hT => tz64C (Pk.pack q k) hz hlt64 w hT
          have ec : Lib.ctz 64 (Pk.pack q k) = lowAt q k := rfl
          rw [ec] at htz
          have hqn' : Pk.pack q k &&& (Pk.pack q k - 1) = Pk.pack (fun j => p j && decide (64 * k + lowAt q k + 1 ≤ j)) k := by
            rw [hqn]
            refine Pk.pack_congr fun j hj => ?_
            rw [hqa]
            by_cases hj2 : 64 * k + lowAt q k + 1 ≤ 64 * k + j
            · have h5 : p (64 * k + lowAt q k) = true ∧ s ≤ 64 * k + lowAt q k := by rw [hqa] at hqc; simpa using hqc
              have : s ≤ 64 * k + j := by omega
              simp [hj2, this]
            · simp [hj2]
          have h5 : p (64 * k + lowAt q k) = true ∧ s ≤ 64 * k + lowAt q k := by rw [hqa] at hqc; simpa using hqc
          have hstep := come_step p h5.2 (fun j h1 h2 => by
            have := hql j (by omega) h2
            rw [hqa] at this
            simpa [h1] using this) h5.1
          generalize lowAt q k = c at *
          obtain ⟨x, hx⟩ : ∃ x, Pk.pack q k = x := ⟨_, rfl⟩
          rw [hx] at hz hlt64 htz hqn' ⊢
          obtain ⟨i, hi⟩ : ∃ i, 64 * k + c = i := ⟨_, rfl⟩
          rw [hi] at h5 hstep hqn'
          have him : i < m := hm i (by omega) h5.1
          have hand := bits_and_u64_nat x (x - 1) hlt64 (by omega)
          have hsub : IntKind.u64.wrap ((x : Int) - 1) = ((x - 1 : Nat) : Int) := by rw [IntKind.wrap_u64]; omega
          have hmul : IntKind.i64.wrap ((k : Int) * 64) = (k : Int) * 64 := by rw [IntKind.wrap_i64]; omega
          have hadd : IntKind.i64.wrap ((k : Int) * 64 + (c : Int)) = (i : Int) := by rw [IntKind.wrap_i64]; omega
          have hx0 : ((x : Int) == 0) = false := by simp; omega
          obtain ⟨fn, tmps, assign, body, hy, hR⟩ := hY pr ⟨i, him⟩ wr hJi (by
            have : pr.length = (come p s).length := by rw [← hpr]; simp
            have := come_length p s
            omega)
          dsimp only at hy
          have hTi := hT.below hni hG
          gi_wp2_with (refine ⟨trivial, ?_⟩; gi_at_call 128; refine (callsIn_wide.2 (htz _ hTi)).mono ?_; rintro e w8 ⟨rfl, rfl⟩)
          refine hR.mono ?_
          rintro e W3 (⟨rfl, hJ3, hk3⟩ | ⟨rfl, hJx3⟩)
          · gi_wp2
            go_roundw
            case rel => exact ⟨i + 1, pr ++ [⟨i, him⟩], by omega, by omega, by rw [← hqn'], by rw [List.map_append, hpr, hstep]; rfl, hJ3, hni.trans hk3⟩
            case measure =>
              have := @Nat.and_le_right x (x - 1)
              simp [intOf]; omega
          · gi_wp2
            refine bodyPost_ret (results_none rfl _ _ _) rfl ?_
            exact ⟨⟨_, rfl⟩, .inr ⟨_, ⟨i + 1, by omega, by rw [List.map_append, hpr, hstep]; rfl⟩, hJx3⟩⟩
    · obtain rfl : k = len := by omega
      gi_wp2
      go_end0
      exact ⟨⟨_, rfl⟩, .inl ⟨_, hpre, hJs⟩⟩

end Go.Proofs.YthjiiljglgmkpaaGreatDoor.Wo
namespace Go.Proofs.YthjiiljglgmkpaaGreatDoor.Wo
open Go.RowKit Go.Shelf
set_option linter.unusedVariables false
attribute [local go_sem] Oper.semAt_some

set_option maxHeartbeats 1000000 in
theorem places_in (n : Nat) (sp : Option Addr) (len cap : Nat) (w : World) :
    CallsIn Fence.wide n Tryz.prog 113 #[.slice sp len cap] w fun e w' => e = .returned (.func (.func 127) #[] #[.pointer (some ⟨w.heap.size, 0, none⟩)]) ∧ w' = w.alloc (.cells #[.slice sp len cap] 31) := by
  refine callsIn_of_wp Tryz.func113 rfl trivial ?_ rfl
  simp only [Tryz.ntmps113, List.size_toArray, List.length_cons, List.length_nil, Nat.reduceAdd, Nat.reduceSub, Array.replicate_succ, Array.replicate_zero, List.push_toArray, List.append_toArray, List.nil_append, List.cons_append]
  gi_wp2
  go_ret
  exact ⟨rfl, rfl⟩

theorem places_stops (n : Nat) (hn : 1 ≤ n) (Bs n₀ len cap m : Nat) (sp : Option Addr) (p : Nat → Bool) (hreach : len ≤ 1025) (hG : 1 < n₀) (hsp : ∀ a, sp = some a → len ≠ 0 → a.block < n₀) (hm : ∀ j, j < 64 * len → p j = true → j < m) (w : World) (hn₀ : n₀ ≤ w.heap.size)
    (hBs : w.cell? ⟨Bs, 0, none⟩ = some (.slice sp len cap)) (hc : Wd w sp len (Pk.pack p)) (hT : Tab64 w) :
    SeqStopsK Fence.wide n Tryz.prog 127 #[.pointer (some ⟨Bs, 0, none⟩)] (fun x : Fin m => #[Value.int .i64 (x.val : Int)]) (Below n₀) (fun ys => ys.map Fin.val = come p (64 * len)) (fun pre => ∃ s, s ≤ 64 * len ∧ pre.map Fin.val = come p s) (64 * len) w := fun l J Jx W hW _ _ hY h0 => by
  have hb := cell_lt hBs
  exact places1_in n hn l Bs n₀ len cap m sp p hreach hG hsp hm J Jx hY W ((hW.cell (p := ⟨Bs, 0, none⟩) hb).trans hBs) (hc.below (hW.mono hn₀) hsp) (hT.below (hW.mono hn₀) hG) h0

/-- The row from its other end. -/
def turnQ (m : Nat) (p : Nat → Bool) (j : Nat) : Bool := decide (j < m) && p (m - 1 - j)

theorem gb_of_below {w w' : World} (h : Below w.heap.size w w') : w.grownBy w' none := ⟨h.os, h.tape, h.output, h.size, fun k hk _ => h.block k hk⟩

theorem bx_own {W W' : World} {row : Option Nat} {g : Nat} {t : TypeId} {x y : Value} (h : Bx W g t x y) (hg : W.grownBy W' row) (hr : ∀ r, row = some r → ∃ o : Obj, W.heap[r]? = some o ∧ o.isCells = false) : Bx W' g t x y :=
  h.kept hg (fun e => by
    obtain ⟨o, ho, hc⟩ := hr g e.symm
    rw [show W.heap[g]? = _ from h] at ho; cases ho; cases hc)
theorem row_own {W W' : World} {row : Option Nat} {b n : Nat} {t : TypeId} {p : Nat → Bool} (h : Row W t b n p) (hg : W.grownBy W' row) (hr : ∀ r, row = some r → ∃ o : Obj, W.heap[r]? = some o ∧ o.isCells = false) : Row W' t b n p :=
  h.kept hg (fun e => by
    obtain ⟨o, ho, hc⟩ := hr b e.symm
    obtain ⟨c, hb, _⟩ := h
    rw [hb] at ho; cases ho; cases hc)
theorem row_cells {W : World} {b n : Nat} {t : TypeId} {p : Nat → Bool} (h : Row W t b n p) (j : Nat) (o : Obj) (e : some b = some j) (ho : W.heap[j]? = some o) : o.isCells = true := by
  cases e
  obtain ⟨c, hb, _⟩ := h
  rw [hb] at ho; cases ho; rfl
theorem res_box2 {P : Program} {fn : Func} {tmps : Array Value} {w : World} {p u : Tmp} {ty : TypeId} (h : fn.results = #[.cell p ty, .tmp u]) {g : Nat} {t : TypeId} {x y : Value} {fs : Array Field}
    (hu : P.underlying ty = some (.struct fs)) (hi : (P.info? ty).map (·.size) = some 2) (hp : tmps.getD p undef = .pointer (some ⟨g, 0, none⟩)) (hg : Bx w g t x y) :
    (results fn tmps).run P w = .ok (.tuple #[.agg #[x, y], tmps.getD u undef]) w := by
  have hp' : tmps[p]?.getD undef = .pointer (some ⟨g, 0, none⟩) := by simpa using hp
  simp [results, h, hp', asAddr, run_loadVar_row w g t ty #[x, y] (0, 0) (.struct fs) hg hu rfl hi]

end Go.Proofs.YthjiiljglgmkpaaGreatDoor.Wo
namespace Go.Proofs.YthjiiljglgmkpaaGreatDoor.Wo
open Go.RowKit Go.Shelf
set_option linter.unusedVariables false
set_option linter.unusedSimpArgs false
set_option maxHeartbeats 1000000 in
/-- **Bits of a row that may be, and where its memory lies.** -/
theorem bitsF (m n cap : Nat) (sp : Option Addr) (p : Nat → Bool) (M : MayBe m n p) (w : World) (hc : Wd w sp n (Pk.pack p)) :
    Calls Tryz.prog 89 #[.agg #[.int .i64 m, .slice sp n cap]] w fun e w' => ∃ b B, e = .returned (.func (.func 127) #[] #[.pointer (some ⟨B, 0, none⟩)]) ∧ w'.cell? ⟨B, 0, none⟩ = some (.slice (some ⟨b, 0, none⟩) n n) ∧ Row w' 37 b n p ∧ w.heap.size ≤ b ∧ w.heap.size ≤ B ∧ w.grownBy w' none := by
  obtain ⟨W1, hW, c0, c1, sz, hg1, hB⟩ := box2 w (.int .i64 m) (.slice sp n cap) 33
  have hc1 := hc.kept hg1 (by simp)
  have e0 := hB.cell0
  have e1 := hB.cell1
  have ml := M.le
  have mw : Hid (n = (m + 63) / 64) := M.words
  have hfd : ∀ (b : Nat) (w : World), (Instr.field 33 (.agg #[.int .i64 m, .slice (some ⟨b, 0, none⟩) n n]) 1).run Tryz.prog w = .ok (.slice (some ⟨b, 0, none⟩) n n) w := fun _ _ => by kernel_rfl
  go_enter Tryz.func89, Tryz.ntmps89
  go_wp2_with (first | (go_at_call 24; refine (validP m n cap sp p M W1 hc1).mono ?_; rintro e w3 ⟨rfl, g3⟩; have hB3 := hB.kept g3 (by simp); have x0 := hB3.cell0; have x1 := hB3.cell1; have hc3 := hc1.kept g3 (by simp)) | (go_at_call 50; refine (copiedC m n cap sp p ml mw.out w3 hc3).mono ?_; rintro e w4 ⟨b, rfl, hr, g4, hlt, hlt2⟩) | (go_at_call 113; refine (callsIn_wide.1 (places_in 1 _ _ _ _)).mono ?_; rintro e w6 ⟨rfl, hw6⟩))
  go_ret
  have g6 : w4.grownBy w6 none := by rw [hw6]; exact World.grownBy_alloc _ _ _
  rw [← hw6]
  have z1 := hg1.size
  have z3 := g3.size
  have z4 := g4.size
  exact ⟨b, w4.heap.size, rfl, by rw [hw6]; simp [World.cell?_alloc_at], hr.kept g6 (by simp), by omega, by omega, gb_trans hg1 (gb_trans g3 (gb_trans g4 g6))⟩

attribute [local go_sem] Oper.semAt_some

/-- The words' block and the table's stay. -/
def Kf (b : Nat) (A B : World) : Prop := B.heap[b]? = A.heap[b]? ∧ B.heap[1]? = A.heap[1]?
theorem Kf.refl (b : Nat) (A : World) : Kf b A A := ⟨rfl, rfl⟩
theorem Kf.trans {b : Nat} {A B C : World} (h : Kf b A B) (k : Kf b B C) : Kf b A C := ⟨k.1.trans h.1, k.2.trans h.2⟩
theorem cell_eq {A B : World} {p : Addr} {v : Value} (h : B.heap[p.block]? = A.heap[p.block]?) (hc : A.cell? p = some v) : B.cell? p = some v := by
  unfold World.cell? at hc ⊢
  rw [h]
  exact hc
theorem _root_.Go.Proofs.YthjiiljglgmkpaaGreatDoor.Wd.kf {w w' : World} {b : Nat} {sp : Option Addr} {n : Nat} {f : Nat → Nat} (h : Wd w sp n f) (hb : Kf b w w') (hn : ∀ a, sp = Option.some a → n ≠ 0 → a.block = b) : Wd w' sp n f := fun k hk => by
  obtain ⟨a, ha, hc⟩ := h k hk
  have hbk : (a.add k).block = a.block := by unfold Addr.add; split <;> simp_all
  exact ⟨a, ha, cell_eq (by rw [hbk, hn a ha (by omega)]; exact hb.1) hc⟩
theorem Tab64.kf {w w' : World} {b : Nat} (h : Tab64 w) (hb : Kf b w w') : Tab64 w' := fun j hj => cell_eq (p := ⟨1, j, none⟩) hb.2 (h j hj)
theorem Kf.put {b : Nat} {w : World} (hb : b < w.heap.size) (h0 : 1 < w.heap.size) (W : World) (l : Nat) (o o' : Obj) (hl : w.heap.size ≤ l) (h : W.heap[l]? = some o) (_ : o.isCells = false) (_ : o.isWalk = false) : Kf b W (W.putObj l o') := by
  have hg := grownBy_putObj' W l o'
  have hll := (Array.getElem?_eq_some_iff.1 h).1
  exact ⟨hg.block b (by omega) (fun e => by injection e; omega), hg.block 1 (by omega) (fun e => by injection e; omega)⟩

set_option maxRecDepth 100000 in
set_option maxHeartbeats 2000000 in
/-- **The closure of places.** -/
theorem places1_k (n : Nat) (hn : 1 ≤ n) (l Bs b len cap m : Nat) (sp : Option Addr) (p : Nat → Bool) (hreach : len ≤ 1025) (hsp : ∀ a, sp = some a → len ≠ 0 → a.block = b) (hm : ∀ j, j < 64 * len → p j = true → j < m) (J Jx : List (Fin m) → World → Prop)
    (hY : ∀ pre x W, J pre W → pre.length < 64 * len → YieldAt Fence.wide (n - 1) Tryz.prog l #[.int .i64 (x.val : Int)] W fun e W' =>
      (e = .returned (.bool true) ∧ J (pre ++ [x]) W' ∧ Kf b W W') ∨ (e = .returned (.bool false) ∧ Jx (pre ++ [x]) W'))
    (W : World) (hBs : W.cell? ⟨Bs, 0, none⟩ = some (.slice sp len cap)) (hc : Wd W sp len (Pk.pack p)) (hT : Tab64 W) (h0 : J [] W) :
    CallsIn Fence.wide n Tryz.prog 127 #[.func (.yield l) #[] #[], .pointer (some ⟨Bs, 0, none⟩)] W fun e W' => (∃ v, e = .returned v) ∧
      ((∃ ys, ys.map Fin.val = come p (64 * len) ∧ J ys W') ∨ (∃ pre, (∃ s, s ≤ 64 * len ∧ pre.map Fin.val = come p s) ∧ Jx pre W')) := by
  refine callsIn_of_wp Tryz.func127 rfl trivial ?_ rfl
  simp only [Tryz.ntmps127, List.size_toArray, List.length_cons, List.length_nil, Nat.reduceAdd, Nat.reduceSub, Array.replicate_succ, Array.replicate_zero, List.push_toArray, List.append_toArray, List.nil_append, List.cons_append]
  gi_wp2
  gi_loopw [7] (fun i wr => ∃ (k : Nat) (pre : List (Fin m)), k ≤ len ∧ i = .int .i64 k ∧ pre.map Fin.val = come p (64 * k) ∧ J pre wr ∧ Kf b W wr)
    (fun i _ => len - (intOf i).toNat)
  case atStart => exact ⟨0, [], Nat.zero_le _, rfl, rfl, h0, Kf.refl _ _⟩
  case round =>
    obtain ⟨k, pre, hk, rfl, hpre, hJs, hnx⟩ := hrel
    by_cases hlt : k < len
    · obtain ⟨a, rfl⟩ := hc.some (by omega)
      have hcx := (hc.kf hnx hsp).at hlt
      have hi1 : (k : Int) < (len : Int) := by omega
      have hi0 : (0 : Int) ≤ (k : Int) := by omega
      gi_wp2
      gi_loopw [4] (fun v wi => ∃ (s : Nat) (pr : List (Fin m)), 64 * k ≤ s ∧ s ≤ 64 * (k + 1) ∧ v = .int .u64 (Pk.pack (fun j => p j && decide (s ≤ j)) k : Nat) ∧ pr.map Fin.val = come p s ∧ J pr wi ∧ Kf b W wi)
        (fun v _ => (intOf v).toNat)
      case atStart => exact ⟨64 * k, pre, Nat.le_refl _, by omega, by rw [Pk.pack_congr (p := fun j => p j && decide (64 * k ≤ j)) (q := p) fun j hj => by simp], hpre, hJs, hnx⟩
      case round =>
        obtain ⟨s, pr, hs1, hs2, rfl, hpr, hJi, hni⟩ := hrel
        obtain ⟨q, hq⟩ : ∃ q : Nat → Bool, (fun j => p j && decide (s ≤ j)) = q := ⟨_, rfl⟩
        have hqa : ∀ j, q j = (p j && decide (s ≤ j)) := fun j => by rw [← hq]
        rw [hq]
        by_cases hz : Pk.pack q k = 0
        · have hno := pack_none hz
          rw [hz]
          gi_wp2
          go_roundw
          case rel => exact ⟨k + 1, pr, by omega, by go_num, by
            rw [hpr]
            exact (come_same p _ hs2 fun j h1 h2 => by
              have := hno j (by omega) h2
              rw [hqa] at this
              simpa [h1] using this).symm, hJi, hni⟩
          case measure => simp [intOf]; omega
        · obtain ⟨hc64, hqc, hql, hqn⟩ := lowAt_spec hz
          have hlt64 := Pk.pack_lt q k
          have htz := fun w hT => tz64C (Pk.pack q k) hz hlt64 w hT
          have ec : Lib.ctz 64 (Pk.pack q k) = lowAt q k := rfl
          rw [ec] at htz
          have hqn' : Pk.pack q k &&& (Pk.pack q k - 1) = Pk.pack (fun j => p j && decide (64 * k + lowAt q k + 1 ≤ j)) k := by
            rw [hqn]
            refine Pk.pack_congr fun j hj => ?_
            rw [hqa]
            by_cases hj2 : 64 * k + lowAt q k + 1 ≤ 64 * k + j
            · have h5 : p (64 * k + lowAt q k) = true ∧ s ≤ 64 * k + lowAt q k := by rw [hqa] at hqc; simpa using hqc
              have : s ≤ 64 * k + j := by omega
              simp [hj2, this]
            · simp [hj2]
          have h5 : p (64 * k + lowAt q k) = true ∧ s ≤ 64 * k + lowAt q k := by rw [hqa] at hqc; simpa using hqc
          have hstep := come_step p h5.2 (fun j h1 h2 => by
            have := hql j (by omega) h2
            rw [hqa] at this
            simpa [h1] using this) h5.1
          generalize lowAt q k = c at *
          obtain ⟨x, hx⟩ : ∃ x, Pk.pack q k = x := ⟨_, rfl⟩
          rw [hx] at hz hlt64 htz hqn' ⊢
          obtain ⟨i, hi⟩ : ∃ i, 64 * k + c = i := ⟨_, rfl⟩
          rw [hi] at h5 hstep hqn'
          have him : i < m := hm i (by omega) h5.1
          have hand := bits_and_u64_nat x (x - 1) hlt64 (by omega)
          have hsub : IntKind.u64.wrap ((x : Int) - 1) = ((x - 1 : Nat) : Int) := by rw [IntKind.wrap_u64]; omega
          have hmul : IntKind.i64.wrap ((k : Int) * 64) = (k : Int) * 64 := by rw [IntKind.wrap_i64]; omega
          have hadd : IntKind.i64.wrap ((k : Int) * 64 + (c : Int)) = (i : Int) := by rw [IntKind.wrap_i64]; omega
          have hx0 : ((x : Int) == 0) = false := by simp; omega
          obtain ⟨fn, tmps, assign, body, hy, hR⟩ := hY pr ⟨i, him⟩ wr hJi (by
            have : pr.length = (come p s).length := by rw [← hpr]; simp
            have := come_length p s
            omega)
          dsimp only at hy
          have hTi := hT.kf hni
          gi_wp2_with (refine ⟨trivial, ?_⟩; gi_at_call 128; refine (callsIn_wide.2 (htz _ hTi)).mono ?_; rintro e w8 ⟨rfl, rfl⟩)
          refine hR.mono ?_
          rintro e W3 (⟨rfl, hJ3, hk3⟩ | ⟨rfl, hJx3⟩)
          · gi_wp2
            go_roundw
            case rel => exact ⟨i + 1, pr ++ [⟨i, him⟩], by omega, by omega, by rw [← hqn'], by rw [List.map_append, hpr, hstep]; rfl, hJ3, hni.trans hk3⟩
            case measure =>
              have := @Nat.and_le_right x (x - 1)
              simp [intOf]; omega
          · gi_wp2
            refine bodyPost_ret (results_none rfl _ _ _) rfl ?_
            exact ⟨⟨_, rfl⟩, .inr ⟨_, ⟨i + 1, by omega, by rw [List.map_append, hpr, hstep]; rfl⟩, hJx3⟩⟩
    · obtain rfl : k = len := by omega
      gi_wp2
      go_end0
      exact ⟨⟨_, rfl⟩, .inl ⟨_, hpre, hJs⟩⟩

theorem places_stopsK (n : Nat) (hn : 1 ≤ n) (Bs b len cap m : Nat) (sp : Option Addr) (p : Nat → Bool) (hreach : len ≤ 1025) (hsp : ∀ a, sp = some a → len ≠ 0 → a.block = b) (hm : ∀ j, j < 64 * len → p j = true → j < m) (w : World)
    (hBs : w.cell? ⟨Bs, 0, none⟩ = some (.slice sp len cap)) (hc : Wd w sp len (Pk.pack p)) (hT : Tab64 w) :
    SeqStopsK Fence.wide n Tryz.prog 127 #[.pointer (some ⟨Bs, 0, none⟩)] (fun x : Fin m => #[Value.int .i64 (x.val : Int)]) (Kf b) (fun ys => ys.map Fin.val = come p (64 * len)) (fun pre => ∃ s, s ≤ 64 * len ∧ pre.map Fin.val = come p s) (64 * len) w := fun l J Jx W hW _ _ hY h0 => by
  have hb := cell_lt hBs
  have g := gb_of_below hW
  exact places1_k n hn l Bs b len cap m sp p hreach hsp hm J Jx hY W ((hW.cell (p := ⟨Bs, 0, none⟩) hb).trans hBs) (hc.kept g (by simp)) (hT.below hW (cell_lt (hT 0 (by decide)))) h0
end Go.Proofs.YthjiiljglgmkpaaGreatDoor.Wo
