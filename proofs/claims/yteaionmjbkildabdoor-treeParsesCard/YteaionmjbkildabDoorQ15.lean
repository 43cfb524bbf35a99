/- A range over a function that hands out the same memory again and again: what a round is handed is said of the world in which it begins. -/
import Derived.RangeFuncNested
import Derived.RangeFuncBound
import Derived.RangeFuncCalls
import Derived.RangeFuncLeaves
import Derived.RangeFuncBox
import Derived.WalkKit
import Derived.OwnWalkIn
import Derived.TacticsInMore
import Derived.LoopNIn
import Derived.LoopIn
import Derived.Maps.RangeWalk
namespace Go.Proofs.YteaionmjbkildabDoor
open Go.RowKit
set_option linter.unusedVariables false

theorem yield_any {P : Program} {m m' l : Nat} {args : Array Value} {W : World} {R : Ending → World → Prop} (h : YieldAt Fence.wide m P l args W R) : YieldAt Fence.wide m' P l args W R := by
  obtain ⟨fn, tmps, assign, body, h1, h2⟩ := h
  exact ⟨fn, tmps, assign, body, h1, h2.1, fun c cs _ => h2.2 c cs (room_wide _)⟩

set_option maxHeartbeats 1000000 in
theorem rangeM {P : Program} {n : Nat} {α : Type} {g : Operand} {ps : Array Tmp} {assign body : Code} {Q : Exit → Act → World → Prop} {a : Act} {w : World}
    {gf : Nat} {lb : Array Value} (hg : a.eval g = .func (.func gf) #[] lb) (eg : ∀ args w, (callFunc gf args).run P w = .ok (.enter gf args) w)
    {encs : α → Array Value} (hps : ∀ x, (encs x).size = ps.size) (gr : Nat) (hgr : w.heap.size + 1 < gr)
    (M : α → World → Prop) (hM : ∀ x A o, M x A → M x (A.putObj (w.heap.size + 1) o))
    (Kp : World → World → Prop) (hKt : ∀ {A B C : World}, Kp A B → Kp B C → Kp A C) (hKb : ∀ (A : World) (o : Obj), w.heap.size + 1 < A.heap.size → Kp A (A.putObj (w.heap.size + 1) o))
    (S Sp : List α → Prop) (Nn : Nat)
    (hseq : ∀ (l : Nat) (J Jx : List α → World → Prop) (W : World), W.heap.size = w.heap.size + 2 → w.grownBy W none → (∀ s A B, J s A → A.grownBy B (some gr) → J s B) →
      (∀ pre x W1 m, J pre W1 → M x W1 → pre.length < Nn → YieldAt Fence.wide m P l (encs x) W1 fun e W' => (e = .returned (.bool true) ∧ J (pre ++ [x]) W' ∧ Kp W1 W') ∨ (e = .returned (.bool false) ∧ Jx (pre ++ [x]) W')) →
      J [] W → CallsIn Fence.wide (n - 1) P gf (#[.func (.yield l) #[] #[]] ++ lb) W fun e W' => (∃ v, e = .returned v) ∧ ((∃ xs, S xs ∧ J xs W') ∨ (∃ pre, Sp pre ∧ Jx pre W')))
    (I : List α → World → Prop) (Ix : Code → List α → World → Prop)
    (hI : ∀ s A B r, I s A → A.grownBy B (some r) → (r = gr ∨ r = w.heap.size + 1) → I s B) (hIx : ∀ c s A B, Ix c s A → A.grownBy B (some (w.heap.size + 1)) → Ix c s B) (h0 : I [] w) (a₁ : α → Act)
    (hassign : ∀ (l : Nat) (x : α) (W : World) (K : Act → World → Prop), K (a₁ x) W →
      assign.wpIn (Fence.wide.inRound l) n P (Exit.then K (fun _ _ _ => False)) { tmps := (ps.zip (encs x)).foldl (fun t (p, v) => t.setIfInBounds p v) a.tmps, defers := [] } W)
    (hbody : ∀ (l : Nat) (pre : List α) (x : α) (W : World), I pre W → M x W → pre.length < Nn → body.wpIn (Fence.wide.inRound l) n P (ownPostG w.heap.size Kp I Ix (pre ++ [x]) W) (a₁ x) W)
    (hdone : ∀ (D : Nat) (xs : List α) (W : World), w.heap.size ≤ D → S xs → I xs W → W.heap[D]? = some (.deferred (some [])) → Q .normal { a with defers := { target := .collected D, args := #[] } :: a.defers } W)
    (hstop : ∀ (D : Nat) (c : Code) (pre : List α) (W : World), w.heap.size ≤ D → Sp pre → Ix c pre W → W.heap[D]? = some (.deferred (some [])) → c.wpIn Fence.wide n P Q { a with defers := { target := .collected D, args := #[] } :: a.defers } W) :
    (Code.rangeFunc g ps assign body).wpIn Fence.wide n P Q a w := by
  refine wpIn_rangeFunc fun fn hfn => ?_
  obtain ⟨rc, hrc⟩ : ∃ rc : LoopState → Option Code → Loop, rc = fun st pe => { state := st, pending := pe, fn, tmps := a.tmps, params := ps, assign, body, defers := w.heap.size } := ⟨_, rfl⟩
  obtain ⟨k, hk⟩ : ∃ k, w.heap.size = k := ⟨_, rfl⟩
  obtain ⟨V, hV⟩ : ∃ V, (w.alloc (.deferred (some []))).alloc (.loop (rc .ready none)) = V := ⟨_, rfl⟩
  have sV : V.heap.size = k + 2 := by rw [← hV, ← hk]; simp
  have gV : w.grownBy V none := by
    rw [← hV]
    have h1 := World.grownBy_alloc w (.deferred (some [])) none
    have h2 := World.grownBy_alloc (w.alloc (.deferred (some []))) (.loop (rc .ready none)) none
    exact ⟨h2.os.trans h1.os, h2.tape.trans h1.tape, h2.output.trans h1.output, Nat.le_trans h1.size h2.size, fun i hi _ => (h2.block i (Nat.lt_of_lt_of_le hi h1.size) (by simp)).trans (h1.block i hi (by simp))⟩
  have lV : V.heap[k + 1]? = some (.loop (rc .ready none)) := by
    have := World.alloc_heap_new (w.alloc (.deferred (some []))) (.loop (rc .ready none))
    rw [World.size_alloc, hV, hk] at this
    exact this
  have dV : V.heap[k]? = some (.deferred (some [])) := by
    rw [← hV, ← hk]
    exact (Below.heap_alloc _ _ _ (by simp)).trans (World.alloc_heap_new w _)
  have same : ∀ {A B : World} {r : Nat} {i : Nat} {o : Obj}, A.grownBy B (some r) → i ≠ r → A.heap[i]? = some o → B.heap[i]? = some o := fun hg hi ho => (hg.block _ (Array.getElem?_eq_some_iff.1 ho).1 (fun e => hi (by injection e))).trans ho
  have pg : ∀ (A : World) (i : Nat) (o : Obj), A.grownBy (A.putObj i o) (some i) := fun A i o => grownBy_putObj' A i o
  rw [hk] at hgr hM hKb hI hIx hbody hdone hstop hseq
  refine ⟨k + 1, [{ target := .collected k, args := #[] }], V, { target := .fn (.func gf) lb, args := #[.func (.yield (k + 1)) #[] #[]] }, V, gf, #[.func (.yield (k + 1)) #[] #[]] ++ lb, V, ?_, ?_, fun _ _ => trivial, ?_, fun h => by simp [Fence.wide] at h, ?_⟩
  · have := run_enterLoop_outer (P := P) (w := w) fn a.tmps ps assign body
    rw [hk] at this
    rw [show Fence.wide.round = none from rfl, ← hV, hrc, hk]
    exact this
  · simp only [resolve, hg]
    simp [go_sem]
  · simp [invoke, go_sem, eg]
  · refine (hseq (k + 1)
      (fun pre A => I pre A ∧ A.heap[k + 1]? = some (.loop (rc .ready none)) ∧ A.heap[k]? = some (.deferred (some [])))
      (fun pre A => ∃ c, Ix c pre A ∧ A.heap[k + 1]? = some (.loop (rc .done (some c))) ∧ A.heap[k]? = some (.deferred (some []))) V sV gV
      (fun s A B h hg' => ⟨hI s A B gr h.1 hg' (.inl rfl), same hg' (by omega) h.2.1, same hg' (by omega) h.2.2⟩) ?_
      ⟨hI [] w V gr h0 (gV.but _) (.inl rfl), lV, dV⟩).mono ?_
    · rintro pre x A m ⟨hi, hl, hd⟩ hm hlen
      have hlt : k + 1 < A.heap.size := (Array.getElem?_eq_some_iff.1 hl).1
      have hy := run_yield (P := P) (args := encs x) hl (by rw [hrc]; exact hps x)
      rw [hrc] at hy
      obtain ⟨A2, hA2⟩ : ∃ A2, A.putObj (k + 1) (.loop { rc .ready none with state := .busy }) = A2 := ⟨_, rfl⟩
      have gA : A.grownBy A2 (some (k + 1)) := hA2 ▸ pg _ _ _
      have lA : A2.heap[k + 1]? = some (.loop { rc .ready none with state := .busy }) := by rw [← hA2]; exact World.putObj_heap_same hlt
      have dA : A2.heap[k]? = some (.deferred (some [])) := same gA (by omega) hd
      refine yield_any (m := n) ⟨fn, _, assign, body, hy, roundIn_of_wpIn hfn (hassign _ x A _ ⟨A2, by rw [← hA2]; exact run_beginRound hl (by rw [hrc]), ?_⟩)⟩
      refine wpIn_mono (hbody _ pre x A2 (hI pre A A2 _ hi gA (.inr rfl)) (by rw [← hA2]; exact hM x A _ hm) hlen) ?_
      have kA : Kp A A2 := by rw [← hA2]; exact hKb A _ hlt
      have fin : ∀ (j : Option Code) (B : World), KeepsFrom k A2 B → ∃ C, (Instr.endRound (k + 1) j).run P B = .ok (.bool j.isNone) C ∧ B.grownBy C (some (k + 1)) ∧ Kp B C ∧ C.heap[k + 1]? = some (.loop (rc (if j.isNone then .ready else .done) j)) ∧ C.heap[k]? = some (.deferred (some [])) := fun j B hB => by
        have lB := hB.same _ _ (by omega) lA rfl
        have dB := hB.same _ _ (Nat.le_refl _) dA rfl
        have hlB := (Array.getElem?_eq_some_iff.1 lB).1
        have := run_endRound (P := P) j lB
        rw [hrc] at this ⊢
        exact ⟨_, this, pg _ _ _, hKb B _ hlB, World.putObj_heap_same hlB, (World.putObj_heap_other (by omega)).trans dB⟩
      rintro e a3 B hp
      have out : ∀ c, KeepsFrom k A2 B → Ix c (pre ++ [x]) B → ∃ v C, (Instr.endRound (k + 1) (some c)).run P B = .ok v C ∧ ((Ending.returned v = .returned (.bool true) ∧ (I (pre ++ [x]) C ∧ C.heap[k + 1]? = some (.loop (rc .ready none)) ∧ C.heap[k]? = some (.deferred (some []))) ∧ Kp A C) ∨ (Ending.returned v = .returned (.bool false) ∧ ∃ c, Ix c (pre ++ [x]) C ∧ C.heap[k + 1]? = some (.loop (rc .done (some c))) ∧ C.heap[k]? = some (.deferred (some [])))) := fun c hB hc => by
        obtain ⟨C, h1, h2, h3, h4, h5⟩ := fin (some c) B hB
        exact ⟨_, C, h1, .inr ⟨rfl, c, hIx c _ B C hc h2, h4, h5⟩⟩
      cases e with
      | normal =>
        obtain ⟨hB, hkB, hiB⟩ := hp
        obtain ⟨C, h1, h2, h3, h4, h5⟩ := fin none B hB
        exact ⟨_, C, h1, .inl ⟨rfl, ⟨hI _ B C _ hiB h2 (.inr rfl), h4, h5⟩, hKt (hKt kA hkB) h3⟩⟩
      | ret => exact out _ hp.1 hp.2
      | exit id => exact out _ hp.1 hp.2
      | goto t => exact out _ hp.1 hp.2
      | panic ch => exact hp.elim
      | outgrown => exact hp.elim
    · rintro e B ⟨⟨v, rfl⟩, (⟨xs, hS, hi, hl, hd⟩ | ⟨pre, hS, c, hi, hl, hd⟩)⟩
      · have := run_endLoop (P := P) hl (by rw [hrc]; simp)
        rw [hrc] at this
        exact ⟨none, _, this, hdone k xs _ (Nat.le_refl _) hS (hI _ B _ _ hi (pg _ _ _) (.inr rfl)) ((World.putObj_heap_other (by omega)).trans hd)⟩
      · have := run_endLoop (P := P) hl (by rw [hrc]; simp)
        rw [hrc] at this
        exact ⟨some c, _, this, hstop k c pre _ (Nat.le_refl _) hS (hIx c _ B _ hi (pg _ _ _)) ((World.putObj_heap_other (by omega)).trans hd)⟩
end Go.Proofs.YteaionmjbkildabDoor
