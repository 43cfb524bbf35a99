/- A range over a function that itself ranges over another: a round leaves alone what lies below n₀ and all that was laid since the loop began. -/
import Derived.RangeFuncNested
import Derived.RangeFuncBound
import Derived.RangeFuncCalls
import Derived.RangeFuncLeaves
import Derived.RangeFuncBox
import Derived.RangeFuncWrites
import Derived.WalkKit
import Derived.OwnWalkIn
import Derived.TacticsInMore
import Derived.LoopNIn
import Derived.LoopIn
namespace Go.Proofs.YtjndljjpbkfmiaaGreatDoor
open Go.RowKit
set_option linter.unusedVariables false

theorem yield_any {P : Program} {m m' l : Nat} {args : Array Value} {W : World} {R : Ending → World → Prop} (h : YieldAt Fence.wide m P l args W R) : YieldAt Fence.wide m' P l args W R := by
  obtain ⟨fn, tmps, assign, body, h1, h2⟩ := h
  exact ⟨fn, tmps, assign, body, h1, h2.1, fun c cs _ => h2.2 c cs (room_wide _)⟩

/-- What Pr names stays. -/
structure Kl (Pr : Nat → Prop) (W W' : World) : Prop where
  os : W'.os = W.os
  tape : W'.tape = W.tape
  output : W'.output = W.output
  size : W.heap.size ≤ W'.heap.size
  low : ∀ i, Pr i → i < W.heap.size → W'.heap[i]? = W.heap[i]?
theorem Kl.trans {Pr : Nat → Prop} {X Y Z : World} (h : Kl Pr X Y) (k : Kl Pr Y Z) : Kl Pr X Z :=
  ⟨k.os.trans h.os, k.tape.trans h.tape, k.output.trans h.output, Nat.le_trans h.size k.size, fun i h1 h2 => (k.low i h1 (Nat.lt_of_lt_of_le h2 h.size)).trans (h.low i h1 h2)⟩
theorem Kl.of {Pr : Nat → Prop} {X Y : World} {r : Option Nat} (h : X.grownBy Y r) (hr : ∀ i, r = some i → ¬ Pr i) : Kl Pr X Y :=
  ⟨h.os, h.tape, h.output, h.size, fun i h1 h2 => h.block i h2 (fun e => hr i e.symm h1)⟩
/-- What Pr names, and what lies at B or beyond it, stays. -/
structure Kh (B : Nat) (Pr : Nat → Prop) (W W' : World) : Prop where
  os : W'.os = W.os
  tape : W'.tape = W.tape
  output : W'.output = W.output
  size : W.heap.size ≤ W'.heap.size
  low : ∀ i, Pr i → i < W.heap.size → W'.heap[i]? = W.heap[i]?
  high : ∀ i, B ≤ i → i < W.heap.size → W'.heap[i]? = W.heap[i]?
theorem Kh.refl (B : Nat) (Pr : Nat → Prop) (W : World) : Kh B Pr W W := ⟨rfl, rfl, rfl, Nat.le_refl _, fun _ _ _ => rfl, fun _ _ _ => rfl⟩
theorem Kh.trans {B : Nat} {Pr : Nat → Prop} {X Y Z : World} (h : Kh B Pr X Y) (k : Kh B Pr Y Z) : Kh B Pr X Z :=
  ⟨k.os.trans h.os, k.tape.trans h.tape, k.output.trans h.output, Nat.le_trans h.size k.size, fun i h1 h2 => (k.low i h1 (Nat.lt_of_lt_of_le h2 h.size)).trans (h.low i h1 h2), fun i h1 h2 => (k.high i h1 (Nat.lt_of_lt_of_le h2 h.size)).trans (h.high i h1 h2)⟩
theorem Kh.of {B : Nat} {Pr : Nat → Prop} {X Y : World} {r : Option Nat} (h : X.grownBy Y r) (hr : ∀ i, r = some i → ¬ Pr i ∧ i < B) : Kh B Pr X Y :=
  ⟨h.os, h.tape, h.output, h.size, fun i h1 h2 => h.block i h2 (fun e => (hr i e.symm).1 h1), fun i h1 h2 => h.block i h2 (fun e => by have := hr i e.symm; omega)⟩
theorem Kh.mono {B B' : Nat} {Pr : Nat → Prop} {X Y : World} (h : Kh B Pr X Y) (hB : B ≤ B') : Kh B' Pr X Y := ⟨h.os, h.tape, h.output, h.size, h.low, fun i h1 h2 => h.high i (by omega) h2⟩
theorem Kh.from {B : Nat} {Pr : Nat → Prop} {X Y : World} (h : Kh B Pr X Y) : KeepsFrom B X Y := ⟨h.size, fun k o hB hk _ => (h.high k hB (Array.getElem?_eq_some_iff.1 hk).1).trans hk⟩
theorem Kh.kl {B : Nat} {Pr : Nat → Prop} {X Y : World} (h : Kh B Pr X Y) : Kl Pr X Y := ⟨h.os, h.tape, h.output, h.size, h.low⟩
theorem RoundIn.inRound {F : Fence} {n : Nat} {P : Program} {l : Nat} {f : FuncId} {tmps : Array Value} {assign body : Code} {w : World} {R : Ending → World → Prop} (l₀ : Nat) (h : RoundIn F n P l f tmps assign body w R) : RoundIn (F.inRound l₀) n P l f tmps assign body w R := h

/-- How a round may be left. -/
def postI {α : Type} (B : Nat) (Pr : Nat → Prop) (I : List α → World → Prop) (Ix : Code → List α → World → Prop) (xs : List α) (W : World) : Exit → Act → World → Prop
  | .normal, _, W' => Kh B Pr W W' ∧ I xs W'
  | .ret, _, W' => Kh B Pr W W' ∧ Ix .ret xs W'
  | .exit id, _, W' => Kh B Pr W W' ∧ Ix (.exit id) xs W'
  | .goto t, _, W' => Kh B Pr W W' ∧ Ix (.goto t) xs W'
  | .panic _, _, _ => False
  | .outgrown, _, _ => False

/-- What an iterator must do that is called in a world of that size. -/
def SeqI {α : Type} (P : Program) (n : Nat) (gf : Nat) (lb : Array Value) (encs : α → Array Value) (Pr : Nat → Prop) (S Sp : List α → Prop) (w : World) : Prop :=
  ∀ (l : Nat) (J Jx : List α → World → Prop) (W : World), w.heap.size ≤ W.heap.size → w.grownBy W none → (∀ s A B r, J s A → A.grownBy B r → (∀ i, r = some i → W.heap.size ≤ i) → J s B) → (∀ s A B r, Jx s A → A.grownBy B r → (∀ i, r = some i → W.heap.size ≤ i) → Jx s B) →
    (∀ pre x W1 m, J pre W1 → Sp (pre ++ [x]) → YieldAt Fence.wide m P l (encs x) W1 fun e W' => ((e = .returned (.bool true) ∧ J (pre ++ [x]) W') ∨ (e = .returned (.bool false) ∧ Jx (pre ++ [x]) W')) ∧ Kh W.heap.size Pr W1 W') →
    J [] W → CallsIn Fence.wide n P gf (#[.func (.yield l) #[] #[]] ++ lb) W fun e W' => (∃ v, e = .returned v) ∧ ((∃ xs, S xs ∧ J xs W') ∨ (∃ pre, Sp pre ∧ Jx pre W'))

set_option maxHeartbeats 1000000 in
theorem rangeI {P : Program} {n : Nat} {α : Type} {g : Operand} {ps : Array Tmp} {assign body : Code} {Q : Exit → Act → World → Prop} {a : Act} {w : World}
    {gf : Nat} {lb : Array Value} (hg : a.eval g = .func (.func gf) #[] lb) (eg : ∀ args w, (callFunc gf args).run P w = .ok (.enter gf args) w)
    {encs : α → Array Value} (hps : ∀ x, (encs x).size = ps.size) (Pr : Nat → Prop) (hPr : ∀ i, Pr i → i < w.heap.size)
    {S Sp : List α → Prop} (hseq : SeqI P (n - 1) gf lb encs Pr S Sp w)
    (I : List α → World → Prop) (Ix : Code → List α → World → Prop)
    (hI : ∀ s A B r, I s A → A.grownBy B r → (∀ i, r = some i → w.heap.size ≤ i) → I s B) (hIx : ∀ c s A B r, Ix c s A → A.grownBy B r → (∀ i, r = some i → w.heap.size ≤ i) → Ix c s B) (h0 : I [] w)
    (Ax : α → Act → World → Prop) (hAx : ∀ x a' A B, Ax x a' A → A.grownBy B (some (w.heap.size + 1)) → Ax x a' B)
    (hassign : ∀ (l : Nat) (pre : List α) (x : α) (W : World) (K : Act → World → Prop), I pre W → w.heap.size + 2 ≤ W.heap.size → (∀ a' W', Ax x a' W' → W.grownBy W' none → K a' W') →
      assign.wpIn (Fence.wide.inRound l) n P (Exit.then K (fun _ _ _ => False)) { tmps := (ps.zip (encs x)).foldl (fun t (p, v) => t.setIfInBounds p v) a.tmps, defers := [] } W)
    (hbody : ∀ (l : Nat) (pre : List α) (x : α) (a' : Act) (W : World), I pre W → Ax x a' W → Sp (pre ++ [x]) → body.wpIn (Fence.wide.inRound l) n P (postI w.heap.size Pr I Ix (pre ++ [x]) W) a' W)
    (hdone : ∀ (D : Nat) (xs : List α) (W : World), w.heap.size ≤ D → S xs → I xs W → W.heap[D]? = some (.deferred (some [])) → Q .normal { a with defers := { target := .collected D, args := #[] } :: a.defers } W)
    (hstop : ∀ (D : Nat) (c : Code) (pre : List α) (W : World), w.heap.size ≤ D → Sp pre → Ix c pre W → W.heap[D]? = some (.deferred (some [])) → c.wpIn Fence.wide n P Q { a with defers := { target := .collected D, args := #[] } :: a.defers } W) :
    (Code.rangeFunc g ps assign body).wpIn Fence.wide n P Q a w := by
  refine wpIn_rangeFunc fun fn hfn => ?_
  obtain ⟨rc, hrc⟩ : ∃ rc : LoopState → Option Code → Loop, rc = fun st pe => { state := st, pending := pe, fn, tmps := a.tmps, params := ps, assign, body, defers := w.heap.size } := ⟨_, rfl⟩
  obtain ⟨V, hV⟩ : ∃ V, (w.alloc (.deferred (some []))).alloc (.loop (rc .ready none)) = V := ⟨_, rfl⟩
  obtain ⟨k, hk⟩ : ∃ k, w.heap.size = k := ⟨_, rfl⟩
  have sV : V.heap.size = k + 2 := by rw [← hV, ← hk]; simp
  have gV : w.grownBy V none := by
    rw [← hV]
    have h1 := World.grownBy_alloc w (.deferred (some [])) none
    have h2 := World.grownBy_alloc (w.alloc (.deferred (some []))) (.loop (rc .ready none)) none
    exact ⟨h2.os.trans h1.os, h2.tape.trans h1.tape, h2.output.trans h1.output, Nat.le_trans h1.size h2.size, fun i hi _ => (h2.block i (Nat.lt_of_lt_of_le hi h1.size) (by simp)).trans (h1.block i hi (by simp))⟩
  have lV : V.heap[k + 1]? = some (.loop (rc .ready none)) := by
    have := World.alloc_heap_new (w.alloc (.deferred (some []))) (.loop (rc .ready none))
    rw [World.size_alloc, hV, hk] at this
    exact this
  have dV : V.heap[k]? = some (.deferred (some [])) := by
    rw [← hV, ← hk]
    exact (Below.heap_alloc _ _ _ (by simp)).trans (World.alloc_heap_new w _)
  have same : ∀ {A B : World} {r : Option Nat} {i : Nat} {o : Obj}, A.grownBy B r → (some i ≠ r) → A.heap[i]? = some o → B.heap[i]? = some o := fun hg hi ho => (hg.block _ (Array.getElem?_eq_some_iff.1 ho).1 hi).trans ho
  have pg : ∀ (A : World) (i : Nat) (o : Obj), A.grownBy (A.putObj i o) (some i) := fun A i o => grownBy_putObj' A i o
  rw [hk] at hPr hI hIx hAx hassign hbody hdone hstop
  refine ⟨k + 1, [{ target := .collected k, args := #[] }], V, { target := .fn (.func gf) lb, args := #[.func (.yield (k + 1)) #[] #[]] }, V, gf, #[.func (.yield (k + 1)) #[] #[]] ++ lb, V, ?_, ?_, fun _ _ => trivial, ?_, fun h => by simp [Fence.wide] at h, ?_⟩
  · have := run_enterLoop_outer (P := P) (w := w) fn a.tmps ps assign body
    rw [hk] at this
    rw [show Fence.wide.round = none from rfl, ← hV, hrc, hk]
    exact this
  · simp only [resolve, hg]
    simp [go_sem]
  · simp [invoke, go_sem, eg]
  · refine (hseq (k + 1)
      (fun pre A => I pre A ∧ A.heap[k + 1]? = some (.loop (rc .ready none)) ∧ A.heap[k]? = some (.deferred (some [])))
      (fun pre A => ∃ c, Ix c pre A ∧ A.heap[k + 1]? = some (.loop (rc .done (some c))) ∧ A.heap[k]? = some (.deferred (some []))) V (by rw [hk, sV]; omega) gV
      (fun s A B r h hg' hr => ⟨hI s A B r h.1 hg' (fun i e => by have := hr i e; omega), same hg' (fun e => by have := hr _ e.symm; omega) h.2.1, same hg' (fun e => by have := hr _ e.symm; omega) h.2.2⟩)
      (fun s A B r h hg' hr => by
        obtain ⟨c, h1, h2, h3⟩ := h
        exact ⟨c, hIx c s A B r h1 hg' (fun i e => by have := hr i e; omega), same hg' (fun e => by have := hr _ e.symm; omega) h2, same hg' (fun e => by have := hr _ e.symm; omega) h3⟩) ?_
      ⟨hI [] w V none h0 gV (fun i e => by cases e), lV, dV⟩).mono ?_
    · rintro pre x A m ⟨hi, hl, hd⟩ hlen
      have hlt : k + 1 < A.heap.size := (Array.getElem?_eq_some_iff.1 hl).1
      have hy := run_yield (P := P) (args := encs x) hl (by rw [hrc]; exact hps x)
      rw [hrc] at hy
      refine yield_any (m := n) ⟨fn, _, assign, body, hy, roundIn_of_wpIn hfn (hassign _ pre x A _ hi (by omega) ?_)⟩
      intro a' A1 hax gA1
      have hi1 : I pre A1 := hI pre A A1 none hi gA1 (fun i e => by cases e)
      have hl1 := same gA1 (by simp) hl
      have hd1 := same gA1 (by simp) hd
      have hlt1 : k + 1 < A1.heap.size := (Array.getElem?_eq_some_iff.1 hl1).1
      obtain ⟨A2, hA2⟩ : ∃ A2, A1.putObj (k + 1) (.loop { rc .ready none with state := .busy }) = A2 := ⟨_, rfl⟩
      have gA : A1.grownBy A2 (some (k + 1)) := hA2 ▸ pg _ _ _
      have lA : A2.heap[k + 1]? = some (.loop { rc .ready none with state := .busy }) := by rw [← hA2]; exact World.putObj_heap_same hlt1
      have dA : A2.heap[k]? = some (.deferred (some [])) := same gA (by simp) hd1
      refine ⟨A2, by rw [← hA2]; exact run_beginRound hl1 (by rw [hrc]), ?_⟩
      refine wpIn_mono (hbody _ pre x a' A2 (hI pre A1 A2 _ hi1 gA (fun i e => by cases e; omega)) (hAx x a' A1 A2 hax gA) hlen) ?_
      have nP : ¬ Pr (k + 1) := fun h => by have := hPr _ h; omega
      have kA : Kh (k + 2) Pr A A2 := (Kh.of gA1 (fun i e => by cases e)).trans (Kh.of gA (fun i e => by cases e; exact ⟨nP, by omega⟩))
      have fin : ∀ (j : Option Code) (B : World), Kh k Pr A2 B → ∃ C, (Instr.endRound (k + 1) j).run P B = .ok (.bool j.isNone) C ∧ B.grownBy C (some (k + 1)) ∧ Kh (k + 2) Pr B C ∧ C.heap[k + 1]? = some (.loop (rc (if j.isNone then .ready else .done) j)) ∧ C.heap[k]? = some (.deferred (some [])) := fun j B hB => by
        have lB := (hB.high (k + 1) (by omega) (Array.getElem?_eq_some_iff.1 lA).1).trans lA
        have dB := (hB.high k (Nat.le_refl _) (Array.getElem?_eq_some_iff.1 dA).1).trans dA
        have hlB := (Array.getElem?_eq_some_iff.1 lB).1
        have := run_endRound (P := P) j lB
        rw [hrc] at this ⊢
        exact ⟨_, this, pg _ _ _, Kh.of (pg _ _ _) (fun i e => by cases e; exact ⟨nP, by omega⟩), World.putObj_heap_same hlB, (World.putObj_heap_other (by omega)).trans dB⟩
      rintro e a3 B hp
      have out : ∀ c, Kh k Pr A2 B → Ix c (pre ++ [x]) B → ∃ v C, (Instr.endRound (k + 1) (some c)).run P B = .ok v C ∧ ((Ending.returned v = .returned (.bool true) ∧ (I (pre ++ [x]) C ∧ C.heap[k + 1]? = some (.loop (rc .ready none)) ∧ C.heap[k]? = some (.deferred (some [])))) ∨ (Ending.returned v = .returned (.bool false) ∧ ∃ c, Ix c (pre ++ [x]) C ∧ C.heap[k + 1]? = some (.loop (rc .done (some c))) ∧ C.heap[k]? = some (.deferred (some [])))) ∧ Kh V.heap.size Pr A C := fun c hB hc => by
        obtain ⟨C, h1, h2, h3, h4, h5⟩ := fin (some c) B hB
        exact ⟨_, C, h1, .inr ⟨rfl, c, hIx c _ B C _ hc h2 (fun i e => by cases e; omega), h4, h5⟩, by rw [sV]; exact (kA.trans (hB.mono (by omega))).trans h3⟩
      cases e with
      | normal =>
        obtain ⟨hB, hiB⟩ := hp
        obtain ⟨C, h1, h2, h3, h4, h5⟩ := fin none B hB
        exact ⟨_, C, h1, .inl ⟨rfl, ⟨hI _ B C _ hiB h2 (fun i e => by cases e; omega), h4, h5⟩⟩, by rw [sV]; exact (kA.trans (hB.mono (by omega))).trans h3⟩
      | ret => exact out _ hp.1 hp.2
      | exit id => exact out _ hp.1 hp.2
      | goto t => exact out _ hp.1 hp.2
      | panic ch => exact hp.elim
      | outgrown => exact hp.elim
    · rintro e B ⟨⟨v, rfl⟩, (⟨xs, hS, hi, hl, hd⟩ | ⟨pre, hS, c, hi, hl, hd⟩)⟩
      · have := run_endLoop (P := P) hl (by rw [hrc]; simp)
        rw [hrc] at this
        exact ⟨none, _, this, hdone k xs _ (Nat.le_refl _) hS (hI _ B _ _ hi (pg _ _ _) (fun i e => by cases e; omega)) ((World.putObj_heap_other (by omega)).trans hd)⟩
      · have := run_endLoop (P := P) hl (by rw [hrc]; simp)
        rw [hrc] at this
        exact ⟨some c, _, this, hstop k c pre _ (Nat.le_refl _) hS (hIx c _ B _ _ hi (pg _ _ _) (fun i e => by cases e; omega)) ((World.putObj_heap_other (by omega)).trans hd)⟩
end Go.Proofs.YtjndljjpbkfmiaaGreatDoor
