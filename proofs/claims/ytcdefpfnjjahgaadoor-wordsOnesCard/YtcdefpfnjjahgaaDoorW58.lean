/- The closure of places by what its blocks keep. -/
import Derived.RangeFuncNested
import Derived.RangeFuncBound
import Derived.RangeFuncCalls
import Derived.RangeFuncLeaves
import Derived.Shelf.Abstract
import Derived.WalkKit
import Derived.OwnWalkIn
import Derived.TacticsInMore
import Derived.LoopNIn
import Derived.LoopIn
import Derived.RangeFuncBox
import Derived.Test.YtcdefpfnjjahgaaDoorW56
namespace Go.Proofs.YtcdefpfnjjahgaaDoor
open Go.RowKit Go.Shelf
set_option linter.unusedVariables false
attribute [local go_sem] Oper.semAt_some

/-- The words' block and the table's stay. -/
def Kf (b : Nat) (A B : World) : Prop := B.heap[b]? = A.heap[b]? ∧ B.heap[0]? = A.heap[0]?
theorem Kf.refl (b : Nat) (A : World) : Kf b A A := ⟨rfl, rfl⟩
theorem Kf.trans {b : Nat} {A B C : World} (h : Kf b A B) (k : Kf b B C) : Kf b A C := ⟨k.1.trans h.1, k.2.trans h.2⟩
theorem cell_eq {A B : World} {p : Addr} {v : Value} (h : B.heap[p.block]? = A.heap[p.block]?) (hc : A.cell? p = some v) : B.cell? p = some v := by
  unfold World.cell? at hc ⊢
  rw [h]
  exact hc
theorem Wd.kf {w w' : World} {b : Nat} {sp : Option Addr} {n : Nat} {f : Nat → Nat} (h : Wd w sp n f) (hb : Kf b w w') (hn : ∀ a, sp = Option.some a → n ≠ 0 → a.block = b) : Wd w' sp n f := fun k hk => by
  obtain ⟨a, ha, hc⟩ := h k hk
  have hbk : (a.add k).block = a.block := by unfold Addr.add; split <;> simp_all
  exact ⟨a, ha, cell_eq (by rw [hbk, hn a ha (by omega)]; exact hb.1) hc⟩
theorem Tab64.kf {w w' : World} {b : Nat} (h : Tab64 w) (hb : Kf b w w') : Tab64 w' := fun j hj => cell_eq (p := ⟨0, j, none⟩) hb.2 (h j hj)
theorem Kf.put {b : Nat} {w : World} (hb : b < w.heap.size) (h0 : 0 < w.heap.size) (W : World) (l : Nat) (o o' : Obj) (hl : w.heap.size ≤ l) (h : W.heap[l]? = some o) (_ : o.isCells = false) (_ : o.isWalk = false) : Kf b W (W.putObj l o') := by
  have hg := grownBy_putObj' W l o'
  have hll := (Array.getElem?_eq_some_iff.1 h).1
  exact ⟨hg.block b (by omega) (fun e => by injection e; omega), hg.block 0 (by omega) (fun e => by injection e; omega)⟩

set_option maxRecDepth 100000 in
set_option maxHeartbeats 2000000 in
/-- **The closure of places.** -/
theorem places1_k (n : Nat) (hn : 1 ≤ n) (l Bs b len cap m : Nat) (sp : Option Addr) (p : Nat → Bool) (hreach : len ≤ 1025) (hsp : ∀ a, sp = some a → len ≠ 0 → a.block = b) (hm : ∀ j, j < 64 * len → p j = true → j < m) (J Jx : List (Fin m) → World → Prop)
    (hY : ∀ pre x W, J pre W → pre.length < 64 * len → YieldAt Fence.wide (n - 1) Tryd.prog l #[.int .i64 (x.val : Int)] W fun e W' =>
      (e = .returned (.bool true) ∧ J (pre ++ [x]) W' ∧ Kf b W W') ∨ (e = .returned (.bool false) ∧ Jx (pre ++ [x]) W'))
    (W : World) (hBs : W.cell? ⟨Bs, 0, none⟩ = some (.slice sp len cap)) (hc : Wd W sp len (Pk.pack p)) (hT : Tab64 W) (h0 : J [] W) :
    CallsIn Fence.wide n Tryd.prog 42 #[.func (.yield l) #[] #[], .pointer (some ⟨Bs, 0, none⟩)] W fun e W' => (∃ v, e = .returned v) ∧
      ((∃ ys, ys.map Fin.val = come p (64 * len) ∧ J ys W') ∨ (∃ pre, (∃ s, s ≤ 64 * len ∧ pre.map Fin.val = come p s) ∧ Jx pre W')) := by
  refine callsIn_of_wp Tryd.func42 rfl trivial ?_ rfl
  simp only [Tryd.ntmps42, List.size_toArray, List.length_cons, List.length_nil, Nat.reduceAdd, Nat.reduceSub, Array.replicate_succ, Array.replicate_zero, List.push_toArray, List.append_toArray, List.nil_append, List.cons_append]
  gi_wp2
  gi_loopw [7] (fun i wr => ∃ (k : Nat) (pre : List (Fin m)), k ≤ len ∧ i = .int .i64 k ∧ pre.map Fin.val = come p (64 * k) ∧ J pre wr ∧ Kf b W wr)
    (fun i _ => len - (intOf i).toNat)
  case atStart => exact ⟨0, [], Nat.zero_le _, rfl, rfl, h0, Kf.refl _ _⟩
  case round =>
    obtain ⟨k, pre, hk, rfl, hpre, hJs, hnx⟩ := hrel
    by_cases hlt : k < len
    · obtain ⟨a, rfl⟩ := hc.some (by omega)
      have hcx := (hc.kf hnx hsp).at hlt
      have hi1 : (k : Int) < (len : Int) := by omega
      have hi0 : (0 : Int) ≤ (k : Int) := by omega
      gi_wp2
      gi_loopw [4] (fun v wi => ∃ (s : Nat) (pr : List (Fin m)), 64 * k ≤ s ∧ s ≤ 64 * (k + 1) ∧ v = .int .u64 (Pk.pack (fun j => p j && decide (s ≤ j)) k : Nat) ∧ pr.map Fin.val = come p s ∧ J pr wi ∧ Kf b W wi)
        (fun v _ => (intOf v).toNat)
      case atStart => exact ⟨64 * k, pre, Nat.le_refl _, by omega, by rw [Pk.pack_congr (p := fun j => p j && decide (64 * k ≤ j)) (q := p) fun j hj => by simp], hpre, hJs, hnx⟩
      case round =>
        obtain ⟨s, pr, hs1, hs2, rfl, hpr, hJi, hni⟩ := hrel
        obtain ⟨q, hq⟩ : ∃ q : Nat → Bool, (fun j => p j && decide (s ≤ j)) = q := ⟨_, rfl⟩
        have hqa : ∀ j, q j = (p j && decide (s ≤ j)) := fun j => by rw [← hq]
        rw [hq]
        by_cases hz : Pk.pack q k = 0
        · have hno := pack_none hz
          rw [hz]
          gi_wp2
          go_roundw
          case rel => exact ⟨k + 1, pr, by omega, by go_num, by
            rw [hpr]
            exact (come_same p _ hs2 fun j h1 h2 => by
              have := hno j (by omega) h2
              rw [hqa] at this
              simpa [h1] using this).symm, hJi, hni⟩
          case measure => simp [intOf]; omega
        · obtain ⟨hc64, hqc, hql, hqn⟩ := lowAt_spec hz
          have hlt64 := Pk.pack_lt q k
          have htz := fun w hT => tz64C (Pk.pack q k) hz hlt64 w hT
          have ec : Lib.ctz 64 (Pk.pack q k) = lowAt q k := rfl
          rw [ec] at htz
          have hqn' : Pk.pack q k &&& (Pk.pack q k - 1) = Pk.pack (fun j => p j && decide (64 * k + lowAt q k + 1 ≤ j)) k := by
            rw [hqn]
            refine Pk.pack_congr fun j hj => ?_
            rw [hqa]
            by_cases hj2 : 64 * k + lowAt q k + 1 ≤ 64 * k + j
            · have h5 : p (64 * k + lowAt q k) = true ∧ s ≤ 64 * k + lowAt q k := by rw [hqa] at hqc; simpa using hqc
              have : s ≤ 64 * k + j := by omega
              simp [hj2, this]
            · simp [hj2]
          have h5 : p (64 * k + lowAt q k) = true ∧ s ≤ 64 * k + lowAt q k := by rw [hqa] at hqc; simpa using hqc
          have hstep := come_step p h5.2 (fun j h1 h2 => by
            have := hql j (by omega) h2
            rw [hqa] at this
            simpa [h1] using this) h5.1
          generalize lowAt q k = c at *
          obtain ⟨x, hx⟩ : ∃ x, Pk.pack q k = x := ⟨_, rfl⟩
          rw [hx] at hz hlt64 htz hqn' ⊢
          obtain ⟨i, hi⟩ : ∃ i, 64 * k + c = i := ⟨_, rfl⟩
          rw [hi] at h5 hstep hqn'
          have him : i < m := hm i (by omega) h5.1
          have hand := bits_and_u64_nat x (x - 1) hlt64 (by omega)
          have hsub : IntKind.u64.wrap ((x : Int) - 1) = ((x - 1 : Nat) : Int) := by rw [IntKind.wrap_u64]; omega
          have hmul : IntKind.i64.wrap ((k : Int) * 64) = (k : Int) * 64 := by rw [IntKind.wrap_i64]; omega
          have hadd : IntKind.i64.wrap ((k : Int) * 64 + (c : Int)) = (i : Int) := by rw [IntKind.wrap_i64]; omega
          have hx0 : ((x : Int) == 0) = false := by simp; omega
          obtain ⟨fn, tmps, assign, body, hy, hR⟩ := hY pr ⟨i, him⟩ wr hJi (by
            have : pr.length = (come p s).length := by rw [← hpr]; simp
            have := come_length p s
            omega)
          dsimp only at hy
          have hTi := hT.kf hni
          gi_wp2_with (refine ⟨trivial, ?_⟩; gi_at_call 43; refine (callsIn_wide.2 (htz _ hTi)).mono ?_; rintro e w8 ⟨rfl, rfl⟩)
          refine hR.mono ?_
          rintro e W3 (⟨rfl, hJ3, hk3⟩ | ⟨rfl, hJx3⟩)
          · gi_wp2
            go_roundw
            case rel => exact ⟨i + 1, pr ++ [⟨i, him⟩], by omega, by omega, by rw [← hqn'], by rw [List.map_append, hpr, hstep]; rfl, hJ3, hni.trans hk3⟩
            case measure =>
              have := @Nat.and_le_right x (x - 1)
              simp [intOf]; omega
          · gi_wp2
            refine bodyPost_ret (results_none rfl _ _ _) rfl ?_
            exact ⟨⟨_, rfl⟩, .inr ⟨_, ⟨i + 1, by omega, by rw [List.map_append, hpr, hstep]; rfl⟩, hJx3⟩⟩
    · obtain rfl : k = len := by omega
      gi_wp2
      go_end0
      exact ⟨⟨_, rfl⟩, .inl ⟨_, hpre, hJs⟩⟩

theorem places_stopsK (n : Nat) (hn : 1 ≤ n) (Bs b len cap m : Nat) (sp : Option Addr) (p : Nat → Bool) (hreach : len ≤ 1025) (hsp : ∀ a, sp = some a → len ≠ 0 → a.block = b) (hm : ∀ j, j < 64 * len → p j = true → j < m) (w : World)
    (hBs : w.cell? ⟨Bs, 0, none⟩ = some (.slice sp len cap)) (hc : Wd w sp len (Pk.pack p)) (hT : Tab64 w) :
    SeqStopsK Fence.wide n Tryd.prog 42 #[.pointer (some ⟨Bs, 0, none⟩)] (fun x : Fin m => #[Value.int .i64 (x.val : Int)]) (Kf b) (fun ys => ys.map Fin.val = come p (64 * len)) (fun pre => ∃ s, s ≤ 64 * len ∧ pre.map Fin.val = come p s) (64 * len) w := fun l J Jx W hW _ _ hY h0 => by
  have hb := cell_lt hBs
  have g := gb_of_below hW
  exact places1_k n hn l Bs b len cap m sp p hreach hsp hm J Jx hY W ((hW.cell (p := ⟨Bs, 0, none⟩) hb).trans hBs) (hc.kept g (by simp)) (hT.below hW (cell_lt (hT 0 (by decide)))) h0
end Go.Proofs.YtcdefpfnjjahgaaDoor
