/- boxed. -/
import Derived.Test.YtbiilklihieomaaZ19
namespace Go.Proofs.Ytbiilklihieomaa
open Go.RowKit Go.Shelf
set_option linter.unusedVariables false
set_option linter.unusedSimpArgs false
set_option maxRecDepth 100000
attribute [local go_sem] Oper.semAt_some

theorem box_is {C R S : Nat} (hz : Sz C R S) (g : Nat → Nat) : ∃ X Y U V : Int, boxA (bx g C R R) = #[.int .i64 X, .int .i64 Y, .int .i64 U, .int .i64 V] ∧ boxB (bx g C R R) = decide (0 < (livc g C R).length) ∧ (livc g C R = [] → X = 0 ∧ Y = 0 ∧ U = 0 ∧ V = 0) ∧ (∀ p ∈ livc g C R, X ≤ p.1 ∧ (p.1 : Int) < X + U ∧ Y ≤ p.2 ∧ (p.2 : Int) < Y + V) ∧
    (livc g C R ≠ [] → (∃ p ∈ livc g C R, (p.1 : Int) = X) ∧ (∃ p ∈ livc g C R, (p.1 : Int) = X + U - 1) ∧ (∃ p ∈ livc g C R, (p.2 : Int) = Y) ∧ (∃ p ∈ livc g C R, (p.2 : Int) = Y + V - 1)) ∧ (0 ≤ X ∧ X ≤ 65536) ∧ (0 ≤ Y ∧ Y ≤ 65536) ∧ (0 ≤ U + 131072 ∧ U ≤ 131072) ∧ (0 ≤ V + 131072 ∧ V ≤ 131072) := by
  have ok := bx_ok hz g R (Nat.le_refl _)
  have his := bx_is g C R R (Nat.le_refl _)
  generalize bx g C R R = e at ok his
  obtain ⟨l, r, t, b⟩ := e
  obtain ⟨o1, o2, o3, o4, o5, o6, o7, o8⟩ := ok
  dsimp only at o1 o2 o3 o4 o5 o6 o7 o8
  rcases his with ⟨e1, e2⟩ | ⟨e1, e2⟩
  · cases e2
    rw [e1]
    refine ⟨0, 0, 0, 0, ?_, ?_, fun _ => ⟨rfl, rfl, rfl, rfl⟩, (fun p hp => by cases hp), fun h => absurd rfl h, by omega, by omega, by omega, by omega⟩
    · rw [boxA, if_pos (by show (-1 : Int) < 0; omega)]
    · rw [boxB]; rfl
  · obtain ⟨i1, ⟨pl, ml, el⟩, ⟨pr, mr, er⟩, ⟨pt, mt, et⟩, ⟨pb, mb, eb⟩⟩ := e2
    dsimp only at i1 el er et eb
    have hb0 : 0 ≤ b := by omega
    refine ⟨l, t, r - l + 1, b - t + 1, ?_, ?_, fun h => absurd h e1, fun p hp => by have := i1 p hp; omega, fun _ => ⟨⟨pl, ml, el⟩, ⟨pr, mr, by omega⟩, ⟨pt, mt, et⟩, ⟨pb, mb, by omega⟩⟩, by omega, by omega, by omega, by omega⟩
    · rw [boxA, if_neg (by show ¬ b < 0; omega)]
    · rw [boxB]
      have : 0 < (livc g C R).length := List.length_pos_iff.2 e1
      rw [decide_eq_true this]
      exact decide_eq_true hb0

/-- The last that has come. -/
def lx (L : List (Nat × Nat)) : Int := match L.getLast? with
  | none => -1
  | some p => (p.1 : Nat)
def ly (L : List (Nat × Nat)) : Int := match L.getLast? with
  | none => -1
  | some p => (p.2 : Nat)
/-- The variables of boxed, so many cells having come. -/
structure BI (o z : Nat) (X Y U V : Int) (L : List (Nat × Nat)) (A : World) : Prop where
  o : Bo A o 4 #[.bool false]
  r : Bo A z 58 #[.int .i64 X, .int .i64 Y, .int .i64 U, .int .i64 V]
  n : Bo A (z + 1) 3 #[.int .i64 (L.length : Nat)]
  l : Bo A (z + 1 + 1) 4 #[.bool (L.any fun p => decide ((p.1 : Int) = X))]
  g : Bo A (z + 1 + 1 + 1) 4 #[.bool (L.any fun p => decide ((p.1 : Int) = X + U - 1))]
  t : Bo A (z + 1 + 1 + 1 + 1) 4 #[.bool (L.any fun p => decide ((p.2 : Int) = Y))]
  b : Bo A (z + 1 + 1 + 1 + 1 + 1) 4 #[.bool (L.any fun p => decide ((p.2 : Int) = Y + V - 1))]
  p : Bo A (z + 1 + 1 + 1 + 1 + 1 + 1) 72 #[.int .i64 (lx L), .int .i64 (ly L)]
theorem BI.kept {o z : Nat} {X Y U V : Int} {L : List (Nat × Nat)} {A B : World} {r : Option Nat} (h : BI o z X Y U V L A) (hg : A.grownBy B r) (hr : ∀ i, r = some i → o < i ∧ z + 1 + 1 + 1 + 1 + 1 + 1 < i) : BI o z X Y U V L B :=
  ⟨h.o.kept hg (fun e => by have := hr _ e.symm; omega), h.r.kept hg (fun e => by have := hr _ e.symm; omega), h.n.kept hg (fun e => by have := hr _ e.symm; omega), h.l.kept hg (fun e => by have := hr _ e.symm; omega), h.g.kept hg (fun e => by have := hr _ e.symm; omega), h.t.kept hg (fun e => by have := hr _ e.symm; omega), h.b.kept hg (fun e => by have := hr _ e.symm; omega), h.p.kept hg (fun e => by have := hr _ e.symm; omega)⟩
theorem Fb.keptO {w w' : World} {b s q C R S : Nat} {g : Nat → Nat} {r : Option Nat} (h : Fb w b s q C R S g) (hg : w.grownBy w' r) (hr : ∀ i, r = some i → b < i ∧ s < i ∧ q < i) : Fb w' b s q C R S g := by
  refine ⟨h.fld.kept hg (fun e => by have := hr _ e.symm; omega), ?_⟩
  obtain ⟨K, k1, k2, f0, k3, k4⟩ := h.st.cap
  exact ⟨K, k1.kept hg (fun e => by have := hr _ e.symm; omega), k2, f0, rowIs_kept k3 hg (fun e => by have := hr _ e.symm; omega), k4⟩

theorem Fb.same {w w' : World} {b s q C R S : Nat} {g : Nat → Nat} (h : Fb w b s q C R S g) (hb : w'.heap[b]? = w.heap[b]?) (hs : w'.heap[s]? = w.heap[s]?) (hq : w'.heap[q]? = w.heap[q]?) : Fb w' b s q C R S g := by
  refine ⟨hb.trans h.fld, ?_⟩
  obtain ⟨K, k1, k2, f0, ⟨c, hc, hr⟩, k4⟩ := h.st.cap
  exact ⟨K, hs.trans k1, k2, f0, ⟨c, hq.trans hc, hr⟩, k4⟩
theorem gb1 (A : World) (b i : Nat) (v : Value) : A.grownBy (A.setCell ⟨b, i, none⟩ v) (some b) := gb_set (World.grownBy.refl _ _) i v
theorem step_same (A : World) (z p1 p2 : Nat) (vl vr vt vb : Bool) (n1 : Int) (i : Nat) (hi : i < z + 1 ∨ z + 1 + 1 + 1 + 1 + 1 + 1 < i) (hl : i < A.heap.size) : (((((((A.setCell ⟨z + 1 + 1 + 1 + 1 + 1 + 1, 0, none⟩ (.int .i64 (p1 : Nat))).setCell ⟨z + 1 + 1 + 1 + 1 + 1 + 1, 1, none⟩ (.int .i64 (p2 : Nat))).setCell ⟨z + 1 + 1, 0, none⟩ (.bool vl)).setCell ⟨z + 1 + 1 + 1, 0, none⟩ (.bool vr)).setCell ⟨z + 1 + 1 + 1 + 1, 0, none⟩ (.bool vt)).setCell ⟨z + 1 + 1 + 1 + 1 + 1, 0, none⟩ (.bool vb)).setCell ⟨z + 1, 0, none⟩ (.int .i64 n1)).heap[i]? = A.heap[i]? := by
  have k1 := (gb1 A (z + 1 + 1 + 1 + 1 + 1 + 1) 0 (.int .i64 (p1 : Nat)))
  have k2 := (gb1 (A.setCell ⟨z + 1 + 1 + 1 + 1 + 1 + 1, 0, none⟩ (.int .i64 (p1 : Nat))) (z + 1 + 1 + 1 + 1 + 1 + 1) 1 (.int .i64 (p2 : Nat)))
  obtain ⟨A1, hA1⟩ : ∃ A1, A.setCell ⟨z + 1 + 1 + 1 + 1 + 1 + 1, 0, none⟩ (.int .i64 (p1 : Nat)) = A1 := ⟨_, rfl⟩
  rw [hA1] at k1 k2 ⊢
  obtain ⟨A2, hA2⟩ : ∃ A2, A1.setCell ⟨z + 1 + 1 + 1 + 1 + 1 + 1, 1, none⟩ (.int .i64 (p2 : Nat)) = A2 := ⟨_, rfl⟩
  rw [hA2] at k2 ⊢
  have k3 := gb1 A2 (z + 1 + 1) 0 (.bool vl)
  obtain ⟨A3, hA3⟩ : ∃ A3, A2.setCell ⟨z + 1 + 1, 0, none⟩ (.bool vl) = A3 := ⟨_, rfl⟩
  rw [hA3] at k3 ⊢
  have k4 := gb1 A3 (z + 1 + 1 + 1) 0 (.bool vr)
  obtain ⟨A4, hA4⟩ : ∃ A4, A3.setCell ⟨z + 1 + 1 + 1, 0, none⟩ (.bool vr) = A4 := ⟨_, rfl⟩
  rw [hA4] at k4 ⊢
  have k5 := gb1 A4 (z + 1 + 1 + 1 + 1) 0 (.bool vt)
  obtain ⟨A5, hA5⟩ : ∃ A5, A4.setCell ⟨z + 1 + 1 + 1 + 1, 0, none⟩ (.bool vt) = A5 := ⟨_, rfl⟩
  rw [hA5] at k5 ⊢
  have k6 := gb1 A5 (z + 1 + 1 + 1 + 1 + 1) 0 (.bool vb)
  obtain ⟨A6, hA6⟩ : ∃ A6, A5.setCell ⟨z + 1 + 1 + 1 + 1 + 1, 0, none⟩ (.bool vb) = A6 := ⟨_, rfl⟩
  rw [hA6] at k6 ⊢
  have k7 := gb1 A6 (z + 1) 0 (.int .i64 n1)
  have s1 := k1.size
  have s2 := k2.size
  have s3 := k3.size
  have s4 := k4.size
  have s5 := k5.size
  have s6 := k6.size
  rw [k7.block i (by omega) (by simp; omega), k6.block i (by omega) (by simp; omega), k5.block i (by omega) (by simp; omega), k4.block i (by omega) (by simp; omega), k3.block i (by omega) (by simp; omega), k2.block i (by omega) (by simp; omega), k1.block i (by omega) (by simp; omega)]
theorem step_size (A : World) (z p1 p2 : Nat) (vl vr vt vb : Bool) (n1 : Int) : A.heap.size ≤ (((((((A.setCell ⟨z + 1 + 1 + 1 + 1 + 1 + 1, 0, none⟩ (.int .i64 (p1 : Nat))).setCell ⟨z + 1 + 1 + 1 + 1 + 1 + 1, 1, none⟩ (.int .i64 (p2 : Nat))).setCell ⟨z + 1 + 1, 0, none⟩ (.bool vl)).setCell ⟨z + 1 + 1 + 1, 0, none⟩ (.bool vr)).setCell ⟨z + 1 + 1 + 1 + 1, 0, none⟩ (.bool vt)).setCell ⟨z + 1 + 1 + 1 + 1 + 1, 0, none⟩ (.bool vb)).setCell ⟨z + 1, 0, none⟩ (.int .i64 n1)).heap.size :=
  Nat.le_trans (gb1 _ _ _ _).size (Nat.le_trans (gb1 _ _ _ _).size (Nat.le_trans (gb1 _ _ _ _).size (Nat.le_trans (gb1 _ _ _ _).size (Nat.le_trans (gb1 _ _ _ _).size (Nat.le_trans (gb1 _ _ _ _).size (gb1 _ _ _ _).size)))))
/-- The world behind a round of boxed, shut. -/
def stepW (A : World) (z p1 p2 : Nat) (vl vr vt vb : Bool) (n1 : Int) : World := (((((((A.setCell ⟨z + 1 + 1 + 1 + 1 + 1 + 1, 0, none⟩ (.int .i64 (p1 : Nat))).setCell ⟨z + 1 + 1 + 1 + 1 + 1 + 1, 1, none⟩ (.int .i64 (p2 : Nat))).setCell ⟨z + 1 + 1, 0, none⟩ (.bool vl)).setCell ⟨z + 1 + 1 + 1, 0, none⟩ (.bool vr)).setCell ⟨z + 1 + 1 + 1 + 1, 0, none⟩ (.bool vt)).setCell ⟨z + 1 + 1 + 1 + 1 + 1, 0, none⟩ (.bool vb)).setCell ⟨z + 1, 0, none⟩ (.int .i64 n1))
theorem step_kh (A : World) (z p1 p2 : Nat) (vl vr vt vb : Bool) (n1 : Int) (B : Nat) (Pr : Nat → Prop) (hP : ∀ i, Pr i → z + 1 + 1 + 1 + 1 + 1 + 1 < i) (hB : z + 1 + 1 + 1 + 1 + 1 + 1 < B) : Kh B Pr A (stepW A z p1 p2 vl vr vt vb n1) := by
  unfold stepW
  exact ⟨(gb1 _ _ _ _).os.trans ((gb1 _ _ _ _).os.trans ((gb1 _ _ _ _).os.trans ((gb1 _ _ _ _).os.trans ((gb1 _ _ _ _).os.trans ((gb1 _ _ _ _).os.trans ((gb1 _ _ _ _).os)))))), (gb1 _ _ _ _).tape.trans ((gb1 _ _ _ _).tape.trans ((gb1 _ _ _ _).tape.trans ((gb1 _ _ _ _).tape.trans ((gb1 _ _ _ _).tape.trans ((gb1 _ _ _ _).tape.trans ((gb1 _ _ _ _).tape)))))), (gb1 _ _ _ _).output.trans ((gb1 _ _ _ _).output.trans ((gb1 _ _ _ _).output.trans ((gb1 _ _ _ _).output.trans ((gb1 _ _ _ _).output.trans ((gb1 _ _ _ _).output.trans ((gb1 _ _ _ _).output)))))), step_size _ _ _ _ _ _ _ _ _, fun i hi hl => step_same A z p1 p2 vl vr vt vb n1 i (.inr (hP i hi)) hl, fun i hi hl => step_same A z p1 p2 vl vr vt vb n1 i (.inr (by omega)) hl⟩
theorem step_below (A w : World) (z p1 p2 : Nat) (vl vr vt vb : Bool) (n1 : Int) (h : Below w.heap.size w A) (hz : w.heap.size ≤ z) : Below w.heap.size w (stepW A z p1 p2 vl vr vt vb n1) := by
  have k := step_kh A z p1 p2 vl vr vt vb n1 (z + 1 + 1 + 1 + 1 + 1 + 1 + 1) (fun _ => False) (fun _ h => h.elim) (Nat.lt_succ_self _)
  refine ⟨k.os.trans h.os, k.tape.trans h.tape, k.output.trans h.output, Nat.le_trans h.size k.size, fun i hi => ?_⟩
  unfold stepW
  exact (step_same A z p1 p2 vl vr vt vb n1 i (.inl (by omega)) (by have := h.size; omega)).trans (h.block i hi)
theorem step_fb (A : World) (z p1 p2 : Nat) (vl vr vt vb : Bool) (n1 : Int) {b s q C R S : Nat} {g : Nat → Nat} (h : Fb A b s q C R S g) (hb : b < z) (hs : s < z) (hq : q < z) : Fb (stepW A z p1 p2 vl vr vt vb n1) b s q C R S g := by
  unfold stepW
  exact h.same (step_same A z p1 p2 vl vr vt vb n1 b (.inl (by omega)) h.fld.lt) (step_same A z p1 p2 vl vr vt vb n1 s (.inl (by omega)) h.st.slt) (step_same A z p1 p2 vl vr vt vb n1 q (.inl (by omega)) h.st.qlt)
theorem lx_app (L : List (Nat × Nat)) (p : Nat × Nat) : lx (L ++ [p]) = (p.1 : Nat) := by unfold lx; rw [List.getLast?_concat]
theorem ly_app (L : List (Nat × Nat)) (p : Nat × Nat) : ly (L ++ [p]) = (p.2 : Nat) := by unfold ly; rw [List.getLast?_concat]
theorem BI.next {o z : Nat} {X Y U V : Int} {L : List (Nat × Nat)} {A : World} (h : BI o z X Y U V L A) (ho : o < z) (p1 p2 : Nat) (vl vr vt vb : Bool) (n1 : Int) (hn : n1 = ((L.length + 1 : Nat) : Int))
    (hl : vl = ((L.any fun p => decide ((p.1 : Int) = X)) || decide ((p1 : Int) = X))) (hr : vr = ((L.any fun p => decide ((p.1 : Int) = X + U - 1)) || decide ((p1 : Int) = X + U - 1))) (ht : vt = ((L.any fun p => decide ((p.2 : Int) = Y)) || decide ((p2 : Int) = Y))) (hb : vb = ((L.any fun p => decide ((p.2 : Int) = Y + V - 1)) || decide ((p2 : Int) = Y + V - 1))) :
    BI o z X Y U V (L ++ [(p1, p2)]) (((((((A.setCell ⟨z + 1 + 1 + 1 + 1 + 1 + 1, 0, none⟩ (.int .i64 (p1 : Nat))).setCell ⟨z + 1 + 1 + 1 + 1 + 1 + 1, 1, none⟩ (.int .i64 (p2 : Nat))).setCell ⟨z + 1 + 1, 0, none⟩ (.bool vl)).setCell ⟨z + 1 + 1 + 1, 0, none⟩ (.bool vr)).setCell ⟨z + 1 + 1 + 1 + 1, 0, none⟩ (.bool vt)).setCell ⟨z + 1 + 1 + 1 + 1 + 1, 0, none⟩ (.bool vb)).setCell ⟨z + 1, 0, none⟩ (.int .i64 n1)) := by
  refine ⟨(((((((h.o.set2 (b := z + 1 + 1 + 1 + 1 + 1 + 1) (i := 0) (v := (.int .i64 (p1 : Nat))) (by omega)).set2 (b := z + 1 + 1 + 1 + 1 + 1 + 1) (i := 1) (v := (.int .i64 (p2 : Nat))) (by omega)).set2 (b := z + 1 + 1) (i := 0) (v := (.bool vl)) (by omega)).set2 (b := z + 1 + 1 + 1) (i := 0) (v := (.bool vr)) (by omega)).set2 (b := z + 1 + 1 + 1 + 1) (i := 0) (v := (.bool vt)) (by omega)).set2 (b := z + 1 + 1 + 1 + 1 + 1) (i := 0) (v := (.bool vb)) (by omega)).set2 (b := z + 1) (i := 0) (v := (.int .i64 n1)) (by omega)), (((((((h.r.set2 (b := z + 1 + 1 + 1 + 1 + 1 + 1) (i := 0) (v := (.int .i64 (p1 : Nat))) (by omega)).set2 (b := z + 1 + 1 + 1 + 1 + 1 + 1) (i := 1) (v := (.int .i64 (p2 : Nat))) (by omega)).set2 (b := z + 1 + 1) (i := 0) (v := (.bool vl)) (by omega)).set2 (b := z + 1 + 1 + 1) (i := 0) (v := (.bool vr)) (by omega)).set2 (b := z + 1 + 1 + 1 + 1) (i := 0) (v := (.bool vt)) (by omega)).set2 (b := z + 1 + 1 + 1 + 1 + 1) (i := 0) (v := (.bool vb)) (by omega)).set2 (b := z + 1) (i := 0) (v := (.int .i64 n1)) (by omega)), ?_, ?_, ?_, ?_, ?_, ?_⟩
  · have e := (((((((h.n.set2 (b := z + 1 + 1 + 1 + 1 + 1 + 1) (i := 0) (v := (.int .i64 (p1 : Nat))) (by omega)).set2 (b := z + 1 + 1 + 1 + 1 + 1 + 1) (i := 1) (v := (.int .i64 (p2 : Nat))) (by omega)).set2 (b := z + 1 + 1) (i := 0) (v := (.bool vl)) (by omega)).set2 (b := z + 1 + 1 + 1) (i := 0) (v := (.bool vr)) (by omega)).set2 (b := z + 1 + 1 + 1 + 1) (i := 0) (v := (.bool vt)) (by omega)).set2 (b := z + 1 + 1 + 1 + 1 + 1) (i := 0) (v := (.bool vb)) (by omega)).set 0 (.int .i64 n1))
    rw [List.length_append, List.length_singleton, ← hn]
    exact e
  · have e := (((((((h.l.set2 (b := z + 1 + 1 + 1 + 1 + 1 + 1) (i := 0) (v := (.int .i64 (p1 : Nat))) (by omega)).set2 (b := z + 1 + 1 + 1 + 1 + 1 + 1) (i := 1) (v := (.int .i64 (p2 : Nat))) (by omega)).set 0 (.bool vl)).set2 (b := z + 1 + 1 + 1) (i := 0) (v := (.bool vr)) (by omega)).set2 (b := z + 1 + 1 + 1 + 1) (i := 0) (v := (.bool vt)) (by omega)).set2 (b := z + 1 + 1 + 1 + 1 + 1) (i := 0) (v := (.bool vb)) (by omega)).set2 (b := z + 1) (i := 0) (v := (.int .i64 n1)) (by omega))
    rw [List.any_append, List.any_cons, List.any_nil, Bool.or_false, ← hl]
    exact e
  · have e := (((((((h.g.set2 (b := z + 1 + 1 + 1 + 1 + 1 + 1) (i := 0) (v := (.int .i64 (p1 : Nat))) (by omega)).set2 (b := z + 1 + 1 + 1 + 1 + 1 + 1) (i := 1) (v := (.int .i64 (p2 : Nat))) (by omega)).set2 (b := z + 1 + 1) (i := 0) (v := (.bool vl)) (by omega)).set 0 (.bool vr)).set2 (b := z + 1 + 1 + 1 + 1) (i := 0) (v := (.bool vt)) (by omega)).set2 (b := z + 1 + 1 + 1 + 1 + 1) (i := 0) (v := (.bool vb)) (by omega)).set2 (b := z + 1) (i := 0) (v := (.int .i64 n1)) (by omega))
    rw [List.any_append, List.any_cons, List.any_nil, Bool.or_false, ← hr]
    exact e
  · have e := (((((((h.t.set2 (b := z + 1 + 1 + 1 + 1 + 1 + 1) (i := 0) (v := (.int .i64 (p1 : Nat))) (by omega)).set2 (b := z + 1 + 1 + 1 + 1 + 1 + 1) (i := 1) (v := (.int .i64 (p2 : Nat))) (by omega)).set2 (b := z + 1 + 1) (i := 0) (v := (.bool vl)) (by omega)).set2 (b := z + 1 + 1 + 1) (i := 0) (v := (.bool vr)) (by omega)).set 0 (.bool vt)).set2 (b := z + 1 + 1 + 1 + 1 + 1) (i := 0) (v := (.bool vb)) (by omega)).set2 (b := z + 1) (i := 0) (v := (.int .i64 n1)) (by omega))
    rw [List.any_append, List.any_cons, List.any_nil, Bool.or_false, ← ht]
    exact e
  · have e := (((((((h.b.set2 (b := z + 1 + 1 + 1 + 1 + 1 + 1) (i := 0) (v := (.int .i64 (p1 : Nat))) (by omega)).set2 (b := z + 1 + 1 + 1 + 1 + 1 + 1) (i := 1) (v := (.int .i64 (p2 : Nat))) (by omega)).set2 (b := z + 1 + 1) (i := 0) (v := (.bool vl)) (by omega)).set2 (b := z + 1 + 1 + 1) (i := 0) (v := (.bool vr)) (by omega)).set2 (b := z + 1 + 1 + 1 + 1) (i := 0) (v := (.bool vt)) (by omega)).set 0 (.bool vb)).set2 (b := z + 1) (i := 0) (v := (.int .i64 n1)) (by omega))
    rw [List.any_append, List.any_cons, List.any_nil, Bool.or_false, ← hb]
    exact e
  · have e := (((((((h.p.set 0 (.int .i64 (p1 : Nat))).set 1 (.int .i64 (p2 : Nat))).set2 (b := z + 1 + 1) (i := 0) (v := (.bool vl)) (by omega)).set2 (b := z + 1 + 1 + 1) (i := 0) (v := (.bool vr)) (by omega)).set2 (b := z + 1 + 1 + 1 + 1) (i := 0) (v := (.bool vt)) (by omega)).set2 (b := z + 1 + 1 + 1 + 1 + 1) (i := 0) (v := (.bool vb)) (by omega)).set2 (b := z + 1) (i := 0) (v := (.int .i64 n1)) (by omega))
    rw [lx_app, ly_app]
    exact e
theorem res_c {P : Program} {fn : Func} {tmps : Array Value} {w : World} {p : Tmp} {t : TypeId} (h : fn.results = #[.cell p t]) (ht : ∀ w, (isAgg t).run P w = .ok false w) {a : Addr} {va : Value} (hp : tmps.getD p undef = .pointer (some a)) (ha : w.cell? a = some va) : (results fn tmps).run P w = .ok va w := by
  have hp' : tmps[p]?.getD undef = .pointer (some a) := by simpa using hp
  simp [results, h, hp', asAddr, load_one (ht w) ha]
theorem Fb.dr {w : World} {b s q C R S : Nat} {g : Nat → Nat} (h : Fb w b s q C R S g) : Fb w.drew b s q C R S g := ⟨h.fld, ⟨h.st.cap⟩⟩
theorem or_yes (a b : Bool) (h : a = true) : true = (a || b) := by rw [h]; rfl
theorem or_no (a : Bool) (x y : Int) (h : ¬ a = true) : (x == y) = (a || decide (x = y)) := by
  have : a = false := by simpa using h
  rw [this, Bool.false_or, Bool.eq_iff_iff]
  simp
theorem last_lt {rest : List (Nat × Nat)} {α : Type} {pre : List α} {x : α} {f : α → Nat × Nat} (h : ((pre ++ [x]).map f ++ rest).Pairwise lexL) : ly (pre.map f) < ((f x).2 : Int) ∨ ly (pre.map f) = ((f x).2 : Int) ∧ lx (pre.map f) < ((f x).1 : Int) := by
  unfold ly lx
  cases e : (pre.map f).getLast? with
  | none => left; show (-1 : Int) < _; omega
  | some p =>
    have hm := List.mem_of_getLast? e
    rw [List.map_append, List.append_assoc, List.pairwise_append] at h
    have := h.2.2 p hm (f x) (by simp)
    unfold lexL at this
    dsimp only
    omega

set_option maxHeartbeats 40000000 in
theorem boxedC (b : Nat) (s q C R S : Nat) (g : Nat → Nat) (hz : Sz C R S) (w : World) (h : Fb w b s q C R S g) : Calls Try.prog 32 #[.pointer (some ⟨b, 0, none⟩)] w fun e w' => e = .returned (.bool true) ∧ w.grownBy w' none := by
  obtain ⟨X, Y, U, Q, hA, hB, hE, hin, hed, bX, bY, bU, bQ⟩ := box_is hz g
  obtain ⟨W1, hW1, sz1, g1, B1⟩ := boxn w #[.bool false] 4
  have h1 := h.kept g1
  have hbx := fBox b s q C R S g hz W1 h1
  rw [hA, hB] at hbx
  obtain ⟨Sm, hSm⟩ : ∃ Sm : Bool, decide (0 < (livc g C R).length) = Sm := ⟨_, rfl⟩
  rw [hSm] at hbx
  have HS : Hid (decide (0 < (livc g C R).length) = Sm) := hSm
  clear hSm hA hB
  refine (callsIn_wide (n := 3)).1 ?_
  refine callsIn_of_wp_marks Try.func32 rfl trivial ?_ rfl
  simp only [Try.ntmps32, List.size_toArray, List.length_cons, List.length_nil, Nat.reduceAdd, Nat.reduceSub, Array.replicate_succ, Array.replicate_zero, List.push_toArray, List.append_toArray, List.nil_append, List.cons_append]
  gi_wp2_with (refine ⟨trivial, ?_⟩; gi_at_call 18; refine (callsIn_wide.2 hbx).mono ?_; rintro e V2 ⟨rfl, g2⟩)
  obtain ⟨W9, hW9⟩ : ∃ W9, (((((((V2.alloc (.cells #[.int .i64 X, .int .i64 Y, .int .i64 U, .int .i64 Q] 58)).alloc (.cells #[.int .i64 0] 3)).alloc (.cells #[.bool false] 4)).alloc (.cells #[.bool false] 4)).alloc (.cells #[.bool false] 4)).alloc (.cells #[.bool false] 4)).alloc (.cells #[.int .i64 (-1), .int .i64 (-1)] 72)) = W9 := ⟨_, rfl⟩
  have G9 : V2.grownBy W9 none := hW9 ▸ gb_alloc (gb_alloc (gb_alloc (gb_alloc (gb_alloc (gb_alloc (World.grownBy_alloc _ _ none) _) _) _) _) _) _
  have Z0 : Bo W9 (V2.heap.size) 58 #[.int .i64 X, .int .i64 Y, .int .i64 U, .int .i64 Q] := by
    have h := ((((((Bo.new V2 58 #[.int .i64 X, .int .i64 Y, .int .i64 U, .int .i64 Q]).more (.cells #[.int .i64 0] 3)).more (.cells #[.bool false] 4)).more (.cells #[.bool false] 4)).more (.cells #[.bool false] 4)).more (.cells #[.bool false] 4)).more (.cells #[.int .i64 (-1), .int .i64 (-1)] 72)
    rw [hW9] at h
    simpa using h
  have Z1 : Bo W9 (V2.heap.size + 1) 3 #[.int .i64 0] := by
    have h := (((((Bo.new (V2.alloc (.cells #[.int .i64 X, .int .i64 Y, .int .i64 U, .int .i64 Q] 58)) 3 #[.int .i64 0]).more (.cells #[.bool false] 4)).more (.cells #[.bool false] 4)).more (.cells #[.bool false] 4)).more (.cells #[.bool false] 4)).more (.cells #[.int .i64 (-1), .int .i64 (-1)] 72)
    rw [hW9] at h
    simpa using h
  have Z2 : Bo W9 (V2.heap.size + 1 + 1) 4 #[.bool false] := by
    have h := ((((Bo.new ((V2.alloc (.cells #[.int .i64 X, .int .i64 Y, .int .i64 U, .int .i64 Q] 58)).alloc (.cells #[.int .i64 0] 3)) 4 #[.bool false]).more (.cells #[.bool false] 4)).more (.cells #[.bool false] 4)).more (.cells #[.bool false] 4)).more (.cells #[.int .i64 (-1), .int .i64 (-1)] 72)
    rw [hW9] at h
    simpa using h
  have Z3 : Bo W9 (V2.heap.size + 1 + 1 + 1) 4 #[.bool false] := by
    have h := (((Bo.new (((V2.alloc (.cells #[.int .i64 X, .int .i64 Y, .int .i64 U, .int .i64 Q] 58)).alloc (.cells #[.int .i64 0] 3)).alloc (.cells #[.bool false] 4)) 4 #[.bool false]).more (.cells #[.bool false] 4)).more (.cells #[.bool false] 4)).more (.cells #[.int .i64 (-1), .int .i64 (-1)] 72)
    rw [hW9] at h
    simpa using h
  have Z4 : Bo W9 (V2.heap.size + 1 + 1 + 1 + 1) 4 #[.bool false] := by
    have h := ((Bo.new ((((V2.alloc (.cells #[.int .i64 X, .int .i64 Y, .int .i64 U, .int .i64 Q] 58)).alloc (.cells #[.int .i64 0] 3)).alloc (.cells #[.bool false] 4)).alloc (.cells #[.bool false] 4)) 4 #[.bool false]).more (.cells #[.bool false] 4)).more (.cells #[.int .i64 (-1), .int .i64 (-1)] 72)
    rw [hW9] at h
    simpa using h
  have Z5 : Bo W9 (V2.heap.size + 1 + 1 + 1 + 1 + 1) 4 #[.bool false] := by
    have h := (Bo.new (((((V2.alloc (.cells #[.int .i64 X, .int .i64 Y, .int .i64 U, .int .i64 Q] 58)).alloc (.cells #[.int .i64 0] 3)).alloc (.cells #[.bool false] 4)).alloc (.cells #[.bool false] 4)).alloc (.cells #[.bool false] 4)) 4 #[.bool false]).more (.cells #[.int .i64 (-1), .int .i64 (-1)] 72)
    rw [hW9] at h
    simpa using h
  have Z6 : Bo W9 (V2.heap.size + 1 + 1 + 1 + 1 + 1 + 1) 72 #[.int .i64 (-1), .int .i64 (-1)] := by
    have h := Bo.new ((((((V2.alloc (.cells #[.int .i64 X, .int .i64 Y, .int .i64 U, .int .i64 Q] 58)).alloc (.cells #[.int .i64 0] 3)).alloc (.cells #[.bool false] 4)).alloc (.cells #[.bool false] 4)).alloc (.cells #[.bool false] 4)).alloc (.cells #[.bool false] 4)) 72 #[.int .i64 (-1), .int .i64 (-1)]
    rw [hW9] at h
    simpa using h
  rw [hW9]
  clear hW9
  have hF9 := (h1.kept g2).kept G9
  have B19 := (B1.kept g2 (by simp)).kept G9 (by simp)
  gi_wp2_with (refine ⟨trivial, ?_⟩; gi_at_call 14; refine (callsIn_wide.2 (cellsC b s q C R S g hz W9 hF9)).mono ?_; rintro e V ⟨bt, s2, q2, rfl, hbt, hS2, lb, ls, lq, g10⟩)
  have hPr : ∀ i, (i = bt ∨ i = s2 ∨ i = q2) → i < V.heap.size := fun i hi => by
    rcases hi with rfl | rfl | rfl
    · exact hbt.lt
    · exact hS2.slt
    · exact hS2.qlt
  have l9 : W9.heap.size ≤ V.heap.size := g10.size
  have z6 : V2.heap.size + 1 + 1 + 1 + 1 + 1 + 1 < W9.heap.size := Z6.lt
  have z0 : w.heap.size < V2.heap.size := (B1.kept g2 (by simp)).lt
  have I0 : BI w.heap.size V2.heap.size X Y U Q [] V := ⟨B19.kept g10 (by simp), Z0.kept g10 (by simp), Z1.kept g10 (by simp), Z2.kept g10 (by simp), Z3.kept g10 (by simp), Z4.kept g10 (by simp), Z5.kept g10 (by simp), Z6.kept g10 (by simp)⟩
  have GV : w.grownBy V none := gb_trans g1 (gb_trans g2 (gb_trans G9 g10))
  have hFV := hF9.kept g10
  clear Z0 Z1 Z2 Z3 Z4 Z5 Z6 B19 B1
  refine rangeI (gf := 48) (lb := #[.pointer (some ⟨bt, 0, none⟩)]) rfl (enters_of Try.func48 (by kernel_rfl) rfl) (fun _ => rfl) (fun i => i = bt ∨ i = s2 ∨ i = q2) hPr
    (cells_seq s2 q2 C R S g hz bt 2 _ (.inr (.inl rfl)) (.inr (.inr rfl)) (.inl rfl) V hPr hbt hS2)
    (fun pre A => BI w.heap.size V2.heap.size X Y U Q (pre.map Subtype.val) A ∧ Below w.heap.size w A ∧ Fb A b s q C R S g)
    (fun _ _ _ => False)
    (fun pre A B r hs hg hr => ⟨hs.1.kept hg (fun i e => by have := hr i e; omega), hs.2.1.grown hg hs.2.1.size (fun i e => by have := hr i e; omega), hs.2.2.keptO hg (fun i e => by have := hr i e; exact ⟨by have := hFV.fld.lt; omega, by have := hFV.st.slt; omega, by have := hFV.st.qlt; omega⟩)⟩)
    (fun _ _ _ _ _ hs _ _ => hs)
    ⟨I0, gb_below GV, hFV⟩
    (fun x a' A => ∃ Bp, V.heap.size + 1 < Bp ∧ Bo A Bp 72 #[.int .i64 (x.val.1 : Nat), .int .i64 (x.val.2 : Nat)] ∧ a' = { tmps := #[.pointer (some ⟨b, 0, none⟩), undef, .pointer (some ⟨w.heap.size, 0, none⟩), .pointer (some ⟨V2.heap.size, 0, none⟩), .bool Sm, .pointer (some ⟨V2.heap.size + 1, 0, none⟩), .pointer (some ⟨V2.heap.size + 1 + 1, 0, none⟩), .pointer (some ⟨V2.heap.size + 1 + 1 + 1, 0, none⟩), .pointer (some ⟨V2.heap.size + 1 + 1 + 1 + 1, 0, none⟩), .pointer (some ⟨V2.heap.size + 1 + 1 + 1 + 1 + 1, 0, none⟩), .pointer (some ⟨V2.heap.size + 1 + 1 + 1 + 1 + 1 + 1, 0, none⟩), .pointer (some ⟨Bp, 0, none⟩), .int .u8 (g (x.val.2 * C + x.val.1) : Nat), .tuple #[.agg #[.int .i64 X, .int .i64 Y, .int .i64 U, .int .i64 Q], .bool Sm], .pointer (some ⟨b, 0, none⟩), .tuple #[.agg #[.int .i64 X, .int .i64 Y, .int .i64 U, .int .i64 Q], .bool Sm], .agg #[.int .i64 X, .int .i64 Y, .int .i64 U, .int .i64 Q], .bool Sm, .agg #[.int .i64 (-1), .int .i64 (-1)], .pointer (some ⟨b, 0, none⟩), .func (.func 48) #[] #[.pointer (some ⟨bt, 0, none⟩)], .agg #[.int .i64 (x.val.1 : Nat), .int .i64 (x.val.2 : Nat)], .int .u8 (g (x.val.2 * C + x.val.1) : Nat), undef, undef, undef, undef, undef, undef, undef, undef, undef, undef, undef, undef, undef, undef, undef, undef, undef, undef, undef, undef, undef, undef, undef, undef, undef, undef, undef, undef, undef, undef, undef, undef, undef, undef, undef, undef, undef, undef, undef, undef, undef, undef, undef, undef, undef, undef, undef, undef, undef, undef, undef, undef, undef, undef, undef, undef, undef, undef, undef, undef, undef, undef, undef, undef, undef, undef, undef, undef, undef, undef, undef, undef, undef, undef, undef, undef, undef, undef, undef, undef, undef, undef, undef, undef, undef, undef, undef, undef, undef, undef, undef, undef, undef, undef, undef, undef, undef, undef, undef, undef, undef, undef, undef, undef, undef, undef, undef, undef, undef, undef, undef, undef, undef, undef, undef, undef, undef, undef, undef, undef, undef, undef, undef, undef, undef, undef, undef, undef, undef], defers := [] })
    (fun x a' A B h hg => by
      obtain ⟨Bp, h1, h2, h3⟩ := h
      exact ⟨Bp, h1, h2.kept hg (by simp; omega), h3⟩)
    ?assign ?body ?done ?stop
  case assign =>
    intro l pre x A K _ hA hK
    simp only [encP]
    gi_wp2
    exact hK _ _ ⟨A.heap.size, by omega, Bo.new A _ _, rfl⟩ (World.grownBy_alloc _ _ none)
  case stop =>
    rintro D c pre A hD _ h _
    exact h.elim
  case body =>
    rintro l pre x a' A ⟨hI, hBel, hFA⟩ ⟨Bp, hBp, bP, rfl⟩ ⟨rest, hrest⟩
    have hmem : x.val ∈ livc g C R := by rw [hrest]; simp
    have hsort := livc_sorted g C R
    rw [hrest] at hsort
    have hord := last_lt hsort
    obtain ⟨i1, i2, i3, i4⟩ := hin _ hmem
    have hg0 := (livc_mem.1 hmem).2.2
    have hlen : (pre.map Subtype.val).length < 1048576 := by
      have e1 := livc_len g C R
      have e2 : (livc g C R).length = pre.length + 1 + rest.length := by rw [hrest]; simp; omega
      have e3 := hz.all
      rw [Nat.mul_comm] at e1
      rw [List.length_map]
      omega
    have HX : Hid ((pre ++ [x]).map Subtype.val = pre.map Subtype.val ++ [x.val]) := by unfold Hid; simp
    generalize pre.map Subtype.val = L at hI hord hlen HX
    obtain ⟨⟨p1, p2⟩, hp1, hp2⟩ := x
    dsimp only at hp1 hp2 hg0 i1 i2 i3 i4 hord bP HX ⊢
    have hc1 := hz.c1
    have hr1 := hz.r1
    clear hrest hsort hmem hin hed hE hbx
    have HJ : Hid (BI w.heap.size V2.heap.size X Y U Q L A) := hI
    have HPz : Hid (∀ i, (i = bt ∨ i = s2 ∨ i = q2) → V2.heap.size + 1 + 1 + 1 + 1 + 1 + 1 < i) := fun i hi => by rcases hi with rfl | rfl | rfl <;> omega
    have hbw := h.fld.lt
    have hsw := h.st.slt
    have hqw := h.st.qlt
    obtain ⟨jo, jr, jn, jl, jg, jt, jb, jp⟩ := hI
    obtain ⟨lxv, hlx⟩ : ∃ v, lx L = v := ⟨_, rfl⟩
    obtain ⟨lyv, hly⟩ : ∃ v, ly L = v := ⟨_, rfl⟩
    obtain ⟨la, hla⟩ : ∃ v, (L.any fun p => decide ((p.1 : Int) = X)) = v := ⟨_, rfl⟩
    obtain ⟨ra, hra⟩ : ∃ v, (L.any fun p => decide ((p.1 : Int) = X + U - 1)) = v := ⟨_, rfl⟩
    obtain ⟨ta, hta⟩ : ∃ v, (L.any fun p => decide ((p.2 : Int) = Y)) = v := ⟨_, rfl⟩
    obtain ⟨ba, hba⟩ : ∃ v, (L.any fun p => decide ((p.2 : Int) = Y + Q - 1)) = v := ⟨_, rfl⟩
    obtain ⟨nn, hnn⟩ : ∃ v, L.length = v := ⟨_, rfl⟩
    rw [hlx, hly] at jp hord
    rw [hla] at jl
    rw [hra] at jg
    rw [hta] at jt
    rw [hba] at jb
    rw [hnn] at jn hlen
    have HN : Hid (lx L = lxv ∧ ly L = lyv ∧ (L.any fun p => decide ((p.1 : Int) = X)) = la ∧ (L.any fun p => decide ((p.1 : Int) = X + U - 1)) = ra ∧ (L.any fun p => decide ((p.2 : Int) = Y)) = ta ∧ (L.any fun p => decide ((p.2 : Int) = Y + Q - 1)) = ba ∧ L.length = nn) := ⟨hlx, hly, hla, hra, hta, hba, hnn⟩
    clear hlx hly hla hra hta hba hnn
    obtain ⟨st, hst⟩ : ∃ st, g (p2 * C + p1) = st := ⟨_, rfl⟩
    rw [hst] at hg0 ⊢
    clear hst
    have cr0 := jr.cell 0 (v := .int .i64 X) rfl
    have cr1 := jr.cell 1 (v := .int .i64 Y) rfl
    have cr2 := jr.cell 2 (v := .int .i64 U) rfl
    have cr3 := jr.cell 3 (v := .int .i64 Q) rfl
    have cn := jn.cell 0 (v := .int .i64 (nn : Nat)) rfl
    have cl := jl.cell 0 (v := .bool la) rfl
    have cg := jg.cell 0 (v := .bool ra) rfl
    have ct := jt.cell 0 (v := .bool ta) rfl
    have cb := jb.cell 0 (v := .bool ba) rfl
    have cp0 := jp.cell 0 (v := .int .i64 lxv) rfl
    have cp1 := jp.cell 1 (v := .int .i64 lyv) rfl
    have cP0 := bP.cell 0 (v := .int .i64 (p1 : Nat)) rfl
    have cP1 := bP.cell 1 (v := .int .i64 (p2 : Nat)) rfl
    have fn := jn.frozen 0
    have fl := jl.frozen 0
    have fg := jg.frozen 0
    have ft := jt.frozen 0
    have fb := jb.frozen 0
    have fp0 := jp.frozen 0
    have fp1 := jp.frozen 1
    have a0 : ((st : Int) == 0) = false := by simp; omega
    have a1 : ¬ ((p1 : Int) < X) := by omega
    have a2 : ¬ (X + U ≤ (p1 : Int)) := by omega
    have a3 : ¬ ((p2 : Int) < Y) := by omega
    have a4 : ¬ (Y + Q ≤ (p2 : Int)) := by omega
    have w1 : IntKind.i64.wrap (X + U) = X + U := by rw [IntKind.wrap_i64]; omega
    have w2 : IntKind.i64.wrap (Y + Q) = Y + Q := by rw [IntKind.wrap_i64]; omega
    have w3 : IntKind.i64.wrap (X + U - 1) = X + U - 1 := by rw [IntKind.wrap_i64]; omega
    have w4 : IntKind.i64.wrap (Y + Q - 1) = Y + Q - 1 := by rw [IntKind.wrap_i64]; omega
    have HKH : Hid (∀ (vl vr vt vb : Bool) (n1 : Int), Kh V.heap.size (fun i => i = bt ∨ i = s2 ∨ i = q2) A (stepW A V2.heap.size p1 p2 vl vr vt vb n1)) := fun vl vr vt vb n1 => step_kh A V2.heap.size p1 p2 vl vr vt vb n1 V.heap.size _ HPz.out (by omega)
    have HBE : Hid (∀ (vl vr vt vb : Bool) (n1 : Int), Below w.heap.size w (stepW A V2.heap.size p1 p2 vl vr vt vb n1)) := fun vl vr vt vb n1 => step_below A w V2.heap.size p1 p2 vl vr vt vb n1 hBel (by omega)
    have HFB : Hid (∀ (vl vr vt vb : Bool) (n1 : Int), Fb (stepW A V2.heap.size p1 p2 vl vr vt vb n1) b s q C R S g) := fun vl vr vt vb n1 => step_fb A V2.heap.size p1 p2 vl vr vt vb n1 hFA (by omega) (by omega) (by omega)
    have HBI : Hid (∀ (vl vr vt vb : Bool) (n1 : Int), n1 = (nn : Int) + 1 → vl = (la || decide ((p1 : Int) = X)) → vr = (ra || decide ((p1 : Int) = X + U - 1)) → vt = (ta || decide ((p2 : Int) = Y)) → vb = (ba || decide ((p2 : Int) = Y + Q - 1)) → BI w.heap.size V2.heap.size X Y U Q ((pre ++ [(⟨(p1, p2), hp1, hp2⟩ : Pl C R)]).map Subtype.val) (stepW A V2.heap.size p1 p2 vl vr vt vb n1)) := fun vl vr vt vb n1 e1 e2 e3 e4 e5 => by
      obtain ⟨_, _, n3, n4, n5, n6, n7⟩ := HN.out
      rw [HX.out]
      unfold stepW
      exact HJ.out.next z0 p1 p2 vl vr vt vb n1 (by rw [n7, e1]; rfl) (by rw [n3]; exact e2) (by rw [n4]; exact e3) (by rw [n5]; exact e4) (by rw [n6]; exact e5)
    clear HN HX HJ HPz hBel hFA hbw hsw hqw jo jr jn jl jg jt jb jp bP
    rcases hord with hord | ⟨ho1, ho2⟩
    · have a5 : ¬ ((p2 : Int) < lyv) := by omega
      have a6 : ((p2 : Int) == lyv) = false := by simp; omega
      gi_wp2
      all_goals refine ⟨HKH.out _ _ _ _ _, HBI.out _ _ _ _ _ rfl ?_ ?_ ?_ ?_, HBE.out _ _ _ _ _, HFB.out _ _ _ _ _⟩
      all_goals first | exact or_yes _ _ (by assumption) | exact or_no _ _ _ (by assumption)
    · have a5 : ¬ ((p2 : Int) < lyv) := by omega
      have a6 : ((p2 : Int) == lyv) = true := by simp; omega
      have a7 : ¬ ((p1 : Int) ≤ lxv) := by omega
      gi_wp2
      all_goals refine ⟨HKH.out _ _ _ _ _, HBI.out _ _ _ _ _ rfl ?_ ?_ ?_ ?_, HBE.out _ _ _ _ _, HFB.out _ _ _ _ _⟩
      all_goals first | exact or_yes _ _ (by assumption) | exact or_no _ _ _ (by assumption)
  case done =>
    rintro D ys A hD hS ⟨hI, hBel, hFA⟩ hK
    rw [hS] at hI
    have hpop0 := fPop b s q C R S g hz A.drew hFA.dr
    rw [← pop_livc] at hpop0
    have hKA : A.drew.heap[D]? = some (.deferred (some [])) := hK
    obtain ⟨jo, jr, jn, jl, jg, jt, jb, jp⟩ := hI
    obtain ⟨N, hN⟩ : ∃ N, (livc g C R).length = N := ⟨_, rfl⟩
    rw [hN] at jn hpop0
    have hSm := HS.out
    rw [hN] at hSm
    have hpop := hpop0
    clear hpop0
    have jr' := jr.dr
    have jn' := jn.dr
    have jo' := jo.dr
    have cn := jn.cell 0 (v := .int .i64 (N : Nat)) rfl
    have q1 : ((N : Int) != (N : Int)) = false := by simp
    rcases Nat.eq_zero_or_pos N with h0 | h0
    · have hnil : livc g C R = [] := List.length_eq_zero_iff.1 (by omega)
      obtain ⟨e1, e2, e3, e4⟩ := hE hnil
      subst e1 e2 e3 e4
      have hs0 : Sm = false := by rw [← hSm]; exact decide_eq_false (by omega)
      subst hs0
      subst h0
      clear hSm hE hin hed HS hN hnil
      gi_wp2
      refine then_false ?_
      gi_region_with (first | (refine ⟨trivial, ?_⟩; gi_at_call 28; refine (callsIn_wide.2 hpop).mono ?_; rintro e A2 ⟨rfl, gA2⟩; have cn2 := (jn'.kept gA2 (by simp)).cell 0 (v := .int .i64 ((0 : Nat) : Int)) rfl))
      all_goals have jr2 := jr'.kept gA2 (by simp)
      all_goals have jn2 := jn'.kept gA2 (by simp)
      all_goals have jo2 := jo'.kept gA2 (by simp)
      all_goals have dr0 := jr2.cell 0 (v := .int .i64 0) rfl
      all_goals have dr1 := jr2.cell 1 (v := .int .i64 0) rfl
      all_goals have dr2 := jr2.cell 2 (v := .int .i64 0) rfl
      all_goals have dr3 := jr2.cell 3 (v := .int .i64 0) rfl
      all_goals have dn := jn2.cell 0 (v := .int .i64 ((0 : Nat) : Int)) rfl
      all_goals have do0 := jo2.cell 0 (v := .bool false) rfl
      all_goals have fo := jo2.frozen 0
      all_goals gi_wp2
      all_goals have kA2 : A2.heap[D]? = some (.deferred (some [])) := (gA2.block D (Array.getElem?_eq_some_iff.1 hKA).1 (by simp)).trans hKA
      all_goals have kD : (A2.setCell ⟨w.heap.size, 0, none⟩ (.bool true)).heap[D]? = some (.deferred (some [])) := ((gb1 A2 w.heap.size 0 (.bool true)).block D (Array.getElem?_eq_some_iff.1 kA2).1 (by simp; omega)).trans kA2
      all_goals have hb3 : Below w.heap.size w A2 := hBel.drew.grown gA2 hBel.size (fun i e => by cases e)
      all_goals have hb5 := (hb3.setCell (p := ⟨w.heap.size, 0, none⟩) (Nat.le_refl _) (.bool true)).trans (belowK_b (w := w) (Nat.le_refl _) _ D _ (.deferred none) (by omega) kD rfl rfl)
      all_goals refine ⟨by simp, .inl ⟨_, _, rfl, run_takeDeferred kD, ?_⟩⟩
      all_goals refine ⟨_, res_c (p := 2) (t := 4) rfl (fun _ => by kernel_rfl) rfl (((jo2.set 0 (.bool true)).kept (grownBy_putObj' _ D (.deferred none)) (by simp; omega)).cell 0 (v := .bool true) rfl), rfl, ?_⟩
      all_goals exact ⟨hb5.os, hb5.tape, hb5.output, hb5.size, fun k hk _ => hb5.block k hk⟩
    · have hne : livc g C R ≠ [] := fun e => by rw [e] at hN; simp at hN; omega
      obtain ⟨⟨pa, ma, ea⟩, ⟨pb, mb, eb⟩, ⟨pc, mc, ec⟩, ⟨pd, md, ed⟩⟩ := hed hne
      rw [show ((livc g C R).any fun p => decide ((p.1 : Int) = X)) = true from List.any_eq_true.2 ⟨pa, ma, decide_eq_true ea⟩] at jl
      rw [show ((livc g C R).any fun p => decide ((p.1 : Int) = X + U - 1)) = true from List.any_eq_true.2 ⟨pb, mb, decide_eq_true eb⟩] at jg
      rw [show ((livc g C R).any fun p => decide ((p.2 : Int) = Y)) = true from List.any_eq_true.2 ⟨pc, mc, decide_eq_true ec⟩] at jt
      rw [show ((livc g C R).any fun p => decide ((p.2 : Int) = Y + Q - 1)) = true from List.any_eq_true.2 ⟨pd, md, decide_eq_true ed⟩] at jb
      have hs0 : Sm = true := by rw [← hSm]; exact decide_eq_true h0
      subst hs0
      have q2 : ((N : Int) == 0) = false := by simp; omega
      have q3 : (0 : Int) < (N : Int) := by omega
      have jl' := jl.dr
      have jg' := jg.dr
      have jt' := jt.dr
      have jb' := jb.dr
      clear hSm hE hin hed HS hN hne ea eb ec ed ma mb mc md
      gi_wp2
      refine then_false ?_
      gi_region_with (first | (refine ⟨trivial, ?_⟩; gi_at_call 28; refine (callsIn_wide.2 hpop).mono ?_; rintro e A2 ⟨rfl, gA2⟩; have cn2 := (jn'.kept gA2 (by simp)).cell 0 (v := .int .i64 (N : Nat)) rfl))
      all_goals have jr2 := jr'.kept gA2 (by simp)
      all_goals have jn2 := jn'.kept gA2 (by simp)
      all_goals have jo2 := jo'.kept gA2 (by simp)
      all_goals have jl2 := jl'.kept gA2 (by simp)
      all_goals have dl := jl2.cell 0 (v := .bool true) rfl
      all_goals have jg2 := jg'.kept gA2 (by simp)
      all_goals have dg := jg2.cell 0 (v := .bool true) rfl
      all_goals have jt2 := jt'.kept gA2 (by simp)
      all_goals have dt := jt2.cell 0 (v := .bool true) rfl
      all_goals have jb2 := jb'.kept gA2 (by simp)
      all_goals have db := jb2.cell 0 (v := .bool true) rfl
      all_goals have dr0 := jr2.cell 0 (v := .int .i64 X) rfl
      all_goals have dr1 := jr2.cell 1 (v := .int .i64 Y) rfl
      all_goals have dr2 := jr2.cell 2 (v := .int .i64 U) rfl
      all_goals have dr3 := jr2.cell 3 (v := .int .i64 Q) rfl
      all_goals have dn := jn2.cell 0 (v := .int .i64 (N : Nat)) rfl
      all_goals have do0 := jo2.cell 0 (v := .bool false) rfl
      all_goals have fo := jo2.frozen 0
      all_goals gi_wp2
      all_goals have kA2 : A2.heap[D]? = some (.deferred (some [])) := (gA2.block D (Array.getElem?_eq_some_iff.1 hKA).1 (by simp)).trans hKA
      all_goals have kD : (A2.setCell ⟨w.heap.size, 0, none⟩ (.bool true)).heap[D]? = some (.deferred (some [])) := ((gb1 A2 w.heap.size 0 (.bool true)).block D (Array.getElem?_eq_some_iff.1 kA2).1 (by simp; omega)).trans kA2
      all_goals have hb3 : Below w.heap.size w A2 := hBel.drew.grown gA2 hBel.size (fun i e => by cases e)
      all_goals have hb5 := (hb3.setCell (p := ⟨w.heap.size, 0, none⟩) (Nat.le_refl _) (.bool true)).trans (belowK_b (w := w) (Nat.le_refl _) _ D _ (.deferred none) (by omega) kD rfl rfl)
      all_goals refine ⟨by simp, .inl ⟨_, _, rfl, run_takeDeferred kD, ?_⟩⟩
      all_goals refine ⟨_, res_c (p := 2) (t := 4) rfl (fun _ => by kernel_rfl) rfl (((jo2.set 0 (.bool true)).kept (grownBy_putObj' _ D (.deferred none)) (by simp; omega)).cell 0 (v := .bool true) rfl), rfl, ?_⟩
      all_goals exact ⟨hb5.os, hb5.tape, hb5.output, hb5.size, fun k hk _ => hb5.block k hk⟩
end Go.Proofs.Ytbiilklihieomaa
