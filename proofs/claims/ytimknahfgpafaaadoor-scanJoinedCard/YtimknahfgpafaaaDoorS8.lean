/- pieces of package scan: what it goes through. -/
import Derived.RangeFuncNested
import Derived.RangeFuncBound
import Derived.RangeFuncCalls
import Derived.RangeFuncLeaves
import Derived.RangeFuncBox
import Derived.Shelf.Abstract
import Derived.WalkKit
import Derived.OwnWalkIn
import Derived.TacticsInMore
import Derived.LoopNIn
import Derived.LoopIn
import Derived.Test.YtimknahfgpafaaaDoorS7
namespace Go.Proofs.YtimknahfgpafaaaDoor
open Go.RowKit Go.Shelf
set_option linter.unusedVariables false
set_option linter.unusedSimpArgs false
attribute [local go_sem] Oper.semAt_some

def pcF : Nat → ByteArray → Nat → List (Nat × Nat)
  | 0, _, _ => []
  | f + 1, s, i => if i < s.size then (i, Sc.ov Sc.inkB s i) :: pcF f s (Sc.ov Sc.blankB s (Sc.ov Sc.inkB s i)) else []
/-- The pieces between blanks: each piece's beginning and end. -/
def pcs (s : ByteArray) : List (Nat × Nat) := pcF (s.size + 1) s (Sc.ov Sc.blankB s 0)
theorem pcF_fuel (s : ByteArray) : ∀ (f k i : Nat), (i < s.size → Sc.inkB (Sc.bt s i) = true) → s.size < i + f → s.size < i + k → pcF f s i = pcF k s i
  | 0, 0, i, _, _, _ => rfl
  | 0, k + 1, i, _, h, h' => by rw [pcF, pcF, if_neg (by omega)]
  | f + 1, 0, i, _, h, h' => by rw [pcF, pcF, if_neg (by omega)]
  | f + 1, k + 1, i, hk, h, h' => by
    rw [pcF, pcF]
    by_cases h0 : i < s.size
    · rw [if_pos h0, if_pos h0]
      have h1 := Sc.ov_gt h0 (hk h0)
      have h2 := Sc.ov_le Sc.inkB (Nat.le_of_lt h0)
      have h3 := Sc.ov_is Sc.blankB h2
      have := h3.ge
      rw [pcF_fuel s f k _ (fun hq => by have := h3.stop hq; show (!Sc.blankB _) = true; rw [this]; rfl) (by omega) (by omega)]
    · rw [if_neg h0, if_neg h0]

/-- A block is as it was. -/
def Kb (b : Nat) (A B : World) : Prop := B.heap[b]? = A.heap[b]?
theorem Kb.refl (b : Nat) (A : World) : Kb b A A := rfl
theorem Kb.trans {b : Nat} {A B C : World} (h : Kb b A B) (k : Kb b B C) : Kb b A C := Eq.trans k h
theorem Kb.cell {b o : Nat} {A B : World} (h : Kb b A B) : B.cell? ⟨b, o, none⟩ = A.cell? ⟨b, o, none⟩ := World.cell?_of_block h
theorem Kb.put {b : Nat} {w : World} (hb : b < w.heap.size) (W : World) (l : Nat) (o o' : Obj) (hl : w.heap.size ≤ l) (h : W.heap[l]? = some o) (_ : o.isCells = false) (_ : o.isWalk = false) : Kb b W (W.putObj l o') :=
  World.putObj_heap_other (by omega)
theorem Kb.of {b : Nat} {W W' : World} {r : Option Nat} (hg : W.grownBy W' r) (hb : b < W.heap.size) (hne : some b ≠ r) : Kb b W W' := hg.block b hb hne
abbrev pieceV (s : ByteArray) (x : Nat × Nat) : Array Value := #[.int .i64 (x.1 : Nat), .string (s.extract x.1 x.2)]
set_option maxRecDepth 100000 in
set_option maxHeartbeats 2000000 in
/-- **The closure of pieces.** -/
theorem pieces1_in (n : Nat) (hn : 1 ≤ n) (l Bs : Nat) (s : ByteArray) (hs : s.size ≤ maxLen) (J Jx : List (Nat × Nat) → World → Prop)
    (hY : ∀ pre x W, J pre W → pre.length < s.size + 1 → YieldAt Fence.wide (n - 1) Tryd.prog l (pieceV s x) W fun e W' =>
      (e = .returned (.bool true) ∧ J (pre ++ [x]) W' ∧ Kb Bs W W') ∨ (e = .returned (.bool false) ∧ Jx (pre ++ [x]) W'))
    (W : World) (hBs : W.cell? ⟨Bs, 0, none⟩ = some (.string s)) (h0 : J [] W) :
    CallsIn Fence.wide n Tryd.prog 60 #[.func (.yield l) #[] #[], .pointer (some ⟨Bs, 0, none⟩)] W fun e W' => (∃ v, e = .returned v) ∧
      ((∃ ys, ys = pcs s ∧ J ys W') ∨ (∃ pre, (∃ q, pre ++ q = pcs s) ∧ Jx pre W')) := by
  have hm := hs
  unfold maxLen at hm
  have z0 : (0 : Nat) ≤ s.size := Nat.zero_le _
  have hz0 := Sc.ov_is Sc.blankB z0
  refine callsIn_of_wp Tryd.func60 rfl trivial ?_ rfl
  simp only [Tryd.ntmps60, List.size_toArray, List.length_cons, List.length_nil, Nat.reduceAdd, Nat.reduceSub, Array.replicate_succ, Array.replicate_zero, List.push_toArray, List.append_toArray, List.nil_append, List.cons_append]
  gi_wp2_with (refine ⟨trivial, ?_⟩; gi_at_call 61; refine (callsIn_wide.2 (over_isBlank s 0 hs z0 _)).mono ?_; rintro e w8 ⟨rfl, hw8⟩; subst w8)
  gi_loopw [3] (fun v wr => ∃ (k : Nat) (pre : List (Nat × Nat)), k ≤ s.size ∧ v = .int .i64 k ∧ Hid (k < s.size → Sc.inkB (Sc.bt s k) = true) ∧ Hid (pre ++ pcF (s.size + 1) s k = pcs s) ∧ pre.length ≤ k ∧ J pre wr ∧ Kb Bs W wr)
    (fun v _ => s.size - (intOf v).toNat)
  case atStart => exact ⟨Sc.ov Sc.blankB s 0, [], hz0.le, rfl, fun h => by have := hz0.stop h; show (!Sc.blankB _) = true; rw [this]; rfl, rfl, Nat.zero_le _, h0, Kb.refl _ _⟩
  case round =>
    obtain ⟨k, pre, hk, rfl, hink, HP, hpl, hJ, hnx⟩ := hrel
    have hBr := hnx.cell.trans hBs
    by_cases hlt : k < s.size
    · have hlt' : (k : Int) < (s.size : Int) := by omega
      have e1 := Sc.ov_gt hlt (hink.out hlt)
      have e2 := Sc.ov_is Sc.inkB hk
      have e2l := e2.le
      have e3 := Sc.ov_is Sc.blankB e2.le
      have e3g := e3.ge
      have e3l := e3.le
      have HN : Hid ((pre ++ [(k, Sc.ov Sc.inkB s k)]) ++ pcF (s.size + 1) s (Sc.ov Sc.blankB s (Sc.ov Sc.inkB s k)) = pcs s) := by
        unfold Hid
        have hpk : pcF (s.size + 1) s k = (k, Sc.ov Sc.inkB s k) :: pcF s.size s (Sc.ov Sc.blankB s (Sc.ov Sc.inkB s k)) := by rw [pcF, if_pos hlt]
        rw [← HP.out, hpk, List.append_assoc, List.singleton_append]
        rw [pcF_fuel s (s.size + 1) s.size (Sc.ov Sc.blankB s (Sc.ov Sc.inkB s k)) (fun h => by have := e3.stop h; show (!Sc.blankB _) = true; rw [this]; rfl) (by omega) (by omega)]
      have HK : Hid (Sc.ov Sc.blankB s (Sc.ov Sc.inkB s k) < s.size → Sc.inkB (Sc.bt s (Sc.ov Sc.blankB s (Sc.ov Sc.inkB s k))) = true) := fun h => by have := e3.stop h; show (!Sc.blankB _) = true; rw [this]; rfl
      have hov1 := over_isInk s k hs hk
      have hov2 := over_isBlank s (Sc.ov Sc.inkB s k) hs e2l
      obtain ⟨fn, tmps, assign, body, hy, hR⟩ := hY pre (k, Sc.ov Sc.inkB s k) wr hJ (by omega)
      clear e2 e3 hink HP
      generalize Sc.ov Sc.blankB s (Sc.ov Sc.inkB s k) = c at *
      generalize Sc.ov Sc.inkB s k = d at *
      have b1 : (k : Int) ≤ (d : Int) := by omega
      have b2 : (d : Int) ≤ (s.size : Int) := by omega
      gi_wp2_with (refine ⟨trivial, ?_⟩; gi_at_call 61; refine (callsIn_wide.2 (hov1 _)).mono ?_; rintro e w8 ⟨rfl, hw8⟩; subst w8)
      refine hR.mono ?_
      rintro e W3 (⟨rfl, hJ3, hk3⟩ | ⟨rfl, hJx3⟩)
      · have hB3 := hk3.cell.trans hBr
        gi_wp2_with (refine ⟨trivial, ?_⟩; gi_at_call 61; refine (callsIn_wide.2 (hov2 _)).mono ?_; rintro e w8 ⟨rfl, hw8⟩; subst w8)
        go_roundw
        case rel => exact ⟨c, pre ++ [(k, d)], by omega, rfl, HK, HN, by rw [List.length_append]; simp only [List.length_cons, List.length_nil]; omega, hJ3, hnx.trans hk3⟩
        case measure => simp [intOf]; omega
      · gi_wp2
        refine bodyPost_ret (results_none rfl _ _ _) rfl ?_
        exact ⟨⟨_, rfl⟩, .inr ⟨_, ⟨_, HN.out⟩, hJx3⟩⟩
    · have HE : Hid (pre = pcs s) := by
        unfold Hid
        rw [← HP.out, pcF, if_neg hlt, List.append_nil]
      clear HP
      gi_wp2
      go_end0
      exact ⟨⟨_, rfl⟩, .inl ⟨_, HE.out, hJ⟩⟩

set_option maxHeartbeats 1000000 in
theorem pieces_in (n : Nat) (s : ByteArray) (w : World) :
    CallsIn Fence.wide n Tryd.prog 32 #[.string s] w fun e w' => e = .returned (.func (.func 60) #[] #[.pointer (some ⟨w.heap.size, 0, none⟩)]) ∧ w' = w.alloc (.cells #[.string s] 9) := by
  refine callsIn_of_wp Tryd.func32 rfl trivial ?_ rfl
  simp only [Tryd.ntmps32, List.size_toArray, List.length_cons, List.length_nil, Nat.reduceAdd, Nat.reduceSub, Array.replicate_succ, Array.replicate_zero, List.push_toArray, List.append_toArray, List.nil_append, List.cons_append]
  gi_wp2
  go_ret
  exact ⟨rfl, rfl⟩

theorem pieces_stops (n : Nat) (hn : 1 ≤ n) (Bs : Nat) (s : ByteArray) (hs : s.size ≤ maxLen) (w : World) (hBs : w.cell? ⟨Bs, 0, none⟩ = some (.string s)) :
    SeqStopsK Fence.wide n Tryd.prog 60 #[.pointer (some ⟨Bs, 0, none⟩)] (pieceV s) (Kb Bs) (fun ys => ys = pcs s) (fun pre => ∃ q, pre ++ q = pcs s) (s.size + 1) w := fun l J Jx W hW _ _ hY h0 => by
  have hb := cell_lt hBs
  exact pieces1_in n hn l Bs s hs J Jx hY W ((hW.cell (p := ⟨Bs, 0, none⟩) hb).trans hBs) h0

end Go.Proofs.YtimknahfgpafaaaDoor
