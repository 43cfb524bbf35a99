/- The rows of inputs: what the iterator goes through. -/
import Derived.Laws.EntriesVeiled
import Derived.Test.YteaionmjbkildabDoorQ14
import Derived.Test.YteaionmjbkildabDoorQ15
namespace Go.Proofs.YteaionmjbkildabDoor
open Go.RowKit
set_option linter.unusedVariables false
set_option linter.unusedSimpArgs false
set_option maxRecDepth 100000
attribute [local go_sem] Oper.semAt_some

/-- All rows of m inputs, the last changing fastest. -/
def rws (st : Nat) : Nat → List (List Nat)
  | 0 => [[]]
  | m + 1 => (List.range st).flatMap fun s => (rws st m).map (s :: ·)
theorem rws_len (st : Nat) : ∀ m, (rws st m).length = st ^ m
  | 0 => rfl
  | m + 1 => by
    simp only [rws, List.length_flatMap, List.length_map, rws_len st m]
    have : ∀ n c : Nat, ((List.range n).map fun _ => c).sum = n * c := fun n c => by
      induction n with
      | zero => simp
      | succ n ih => rw [List.range_succ]; simp [ih, Nat.add_mul]
    rw [this, Nat.pow_succ, Nat.mul_comm]
theorem rws_mem (st : Nat) : ∀ m x, x ∈ rws st m → x.length = m ∧ ∀ s ∈ x, s < st
  | 0, x, h => by simp [rws] at h; subst h; simp
  | m + 1, x, h => by
    simp only [rws, List.mem_flatMap, List.mem_range, List.mem_map] at h
    obtain ⟨s, hs, r, hr, rfl⟩ := h
    obtain ⟨h1, h2⟩ := rws_mem st m r hr
    exact ⟨by simp [h1], fun t ht => by
      rcases List.mem_cons.1 ht with rfl | ht
      · exact hs
      · exact h2 t ht⟩
/-- The rows with a head p, whose next input is below j. -/
def rwsP (st m : Nat) (p : List Nat) (j : Nat) : List (List Nat) := (List.range j).flatMap fun s => (rws st m).map fun r => p ++ s :: r
theorem rwsP_succ (st m : Nat) (p : List Nat) (j : Nat) : rwsP st m p (j + 1) = rwsP st m p j ++ (rws st m).map ((p ++ [j]) ++ ·) := by
  simp [rwsP, List.range_succ]
theorem rwsP_all (st m : Nat) (p : List Nat) : rwsP st m p st = (rws st (m + 1)).map (p ++ ·) := by
  simp [rwsP, rws, List.map_flatMap, Function.comp_def]
theorem rwsP_le (st m : Nat) (p : List Nat) {j : Nat} (hj : j ≤ st) : ∃ r, rwsP st m p j ++ r = rwsP st m p st := by
  obtain ⟨d, rfl⟩ := Nat.exists_eq_add_of_le hj
  rw [rwsP, rwsP, List.range_add, List.flatMap_append]
  exact ⟨_, rfl⟩
theorem rwsP_len (st m : Nat) (p : List Nat) : ∀ j, (rwsP st m p j).length = j * st ^ m
  | 0 => by simp [rwsP]
  | j + 1 => by rw [rwsP_succ, List.length_append, rwsP_len st m p j, List.length_map, rws_len, Nat.succ_mul]
/-- What the function 'from' has captured. -/
structure Rc (w : World) (l gI gY gR gS gF gr st inp : Nat) : Prop where
  i : Bo w gI 3 #[.int .i64 (inp : Nat)]
  y : Bo w gY 119 #[.func (.yield l) #[] #[]]
  r : Bo w gR 44 #[.slice (some ⟨gr, 0, none⟩) inp inp]
  s : Bo w gS 3 #[.int .i64 (st : Nat)]
  f : Bo w gF 120 #[.func (.func 70) #[] #[.pointer (some ⟨gI, 0, none⟩), .pointer (some ⟨gY, 0, none⟩), .pointer (some ⟨gR, 0, none⟩), .pointer (some ⟨gS, 0, none⟩), .pointer (some ⟨gF, 0, none⟩)]]
/-- The blocks that a round keeps. -/
def Pr (gI gY gR gS gF gr : Nat) (k : Nat) : Prop := k = gI ∨ k = gY ∨ k = gR ∨ k = gS ∨ k = gF ∨ k = gr
def Kr (gI gY gR gS gF gr : Nat) (A B : World) : Prop := ∀ k, Pr gI gY gR gS gF gr k → B.heap[k]? = A.heap[k]?
theorem Kr.trans {gI gY gR gS gF gr : Nat} {A B C : World} (h : Kr gI gY gR gS gF gr A B) (k : Kr gI gY gR gS gF gr B C) : Kr gI gY gR gS gF gr A C := fun i hi => (k i hi).trans (h i hi)
theorem Rc.kr {A B : World} {l gI gY gR gS gF gr st inp : Nat} (h : Rc A l gI gY gR gS gF gr st inp) (k : Kr gI gY gR gS gF gr A B) : Rc B l gI gY gR gS gF gr st inp :=
  ⟨(k _ (.inl rfl)).trans h.i, (k _ (.inr (.inl rfl))).trans h.y, (k _ (.inr (.inr (.inl rfl)))).trans h.r, (k _ (.inr (.inr (.inr (.inl rfl))))).trans h.s, (k _ (.inr (.inr (.inr (.inr (.inl rfl)))))).trans h.f⟩
theorem Rc.gb {A B : World} {l gI gY gR gS gF gr st inp : Nat} (h : Rc A l gI gY gR gS gF gr st inp) (g : A.grownBy B (some gr)) (hn : gr ≠ gI ∧ gr ≠ gY ∧ gr ≠ gR ∧ gr ≠ gS ∧ gr ≠ gF) : Rc B l gI gY gR gS gF gr st inp :=
  ⟨h.i.kept g (by simpa using Ne.symm hn.1), h.y.kept g (by simpa using Ne.symm hn.2.1), h.r.kept g (by simpa using Ne.symm hn.2.2.1), h.s.kept g (by simpa using Ne.symm hn.2.2.2.1), h.f.kept g (by simpa using Ne.symm hn.2.2.2.2)⟩
/-- The row's head is p. -/
def Rw (w : World) (gr inp st : Nat) (p : List Nat) : Prop := ∃ f : Nat → Value, w.rowIs gr 5 inp f ∧ (∀ i, i < p.length → f i = .int .u8 (p.getD i 0 : Nat)) ∧ ∀ s ∈ p, s < st
/-- The row is x. -/
def Rx (gr inp st : Nat) (x : List Nat) (w : World) : Prop := w.rowIs gr 5 inp (fun i => .int .u8 (x.getD i 0 : Nat)) ∧ x.length = inp ∧ (∀ s ∈ x, s < st) ∧ gr + 2 < w.heap.size
theorem Rw.full {w : World} {gr inp st : Nat} {p : List Nat} (h : Rw w gr inp st p) (hp : p.length = inp) (hz : gr + 2 < w.heap.size) : Rx gr inp st p w := by
  obtain ⟨f, h1, h2, h3⟩ := h
  exact ⟨World.rowIs.congr h1 (fun i hi => h2 i (by omega)), hp, h3, hz⟩
theorem Rw.set {w : World} {gr inp st : Nat} {p : List Nat} (h : Rw w gr inp st p) (j : Nat) (hj : j < st) : Rw (w.setCell ⟨gr, p.length, none⟩ (.int .u8 (j : Nat))) gr inp st (p ++ [j]) := by
  obtain ⟨f, h1, h2, h3⟩ := h
  refine ⟨_, World.rowIs.set h1 _ _, fun i hi => ?_, fun s hs => by
    rcases List.mem_append.1 hs with hs | hs
    · exact h3 s hs
    · simp at hs; omega⟩
  by_cases e : i = p.length
  · subst e; simp [List.getD_eq_getElem?_getD]
  · have hi' : i < p.length := by simp at hi; omega
    simp only [if_neg e]
    rw [h2 i hi']
    simp [List.getD_eq_getElem?_getD, List.getElem?_append_left hi']
theorem Rw.cut {w : World} {gr inp st : Nat} {p q : List Nat} (h : Rw w gr inp st (p ++ q)) : Rw w gr inp st p := by
  obtain ⟨f, h1, h2, h3⟩ := h
  refine ⟨f, h1, fun i hi => ?_, fun s hs => h3 s (by simp [hs])⟩
  rw [h2 i (by simp; omega)]
  simp [List.getD_eq_getElem?_getD, List.getElem?_append_left hi]
theorem Rw.kr {A B : World} {gI gY gR gS gF gr inp st : Nat} {p : List Nat} (h : Rw A gr inp st p) (k : Kr gI gY gR gS gF gr A B) : Rw B gr inp st p := by
  obtain ⟨f, h1, h2⟩ := h
  exact ⟨f, World.rowIs.of_block h1 (k gr (.inr (.inr (.inr (.inr (.inr rfl)))))), h2⟩

set_option maxHeartbeats 2000000 in
theorem fromC (l gI gY gR gS gF gr st inp : Nat) (hst : st ≤ 256) (hin : inp ≤ 16) (hn : gr ≠ gI ∧ gr ≠ gY ∧ gr ≠ gR ∧ gr ≠ gS ∧ gr ≠ gF) (hgF : Hid (gF = gr + 2)) (Nn : Nat) (J Jx : List (List Nat) → World → Prop) (hJ : ∀ s A B, J s A → A.grownBy B (some gr) → J s B)
    (hY : ∀ pre x W1 m, J pre W1 → Rx gr inp st x W1 → pre.length < Nn → YieldAt Fence.wide m Tryd.prog l #[.slice (some ⟨gr, 0, none⟩) inp inp] W1 fun e W' => (e = .returned (.bool true) ∧ J (pre ++ [x]) W' ∧ Kr gI gY gR gS gF gr W1 W') ∨ (e = .returned (.bool false) ∧ Jx (pre ++ [x]) W')) :
    ∀ (m : Nat) (p : List Nat) (pre : List (List Nat)) (w : World) (n : Nat), p.length + m = inp → pre.length + st ^ m ≤ Nn → Rc w l gI gY gR gS gF gr st inp → J pre w → Rw w gr inp st p →
      CallsIn Fence.wide n Tryd.prog 70 #[.int .i64 (p.length : Nat), .pointer (some ⟨gI, 0, none⟩), .pointer (some ⟨gY, 0, none⟩), .pointer (some ⟨gR, 0, none⟩), .pointer (some ⟨gS, 0, none⟩), .pointer (some ⟨gF, 0, none⟩)] w fun e w' => (e = .returned (.bool true) ∧ J (pre ++ (rws st m).map (p ++ ·)) w' ∧ Rc w' l gI gY gR gS gF gr st inp ∧ Rw w' gr inp st p) ∨ (e = .returned (.bool false) ∧ ∃ q r, q ++ r = (rws st m).map (p ++ ·) ∧ Jx (pre ++ q) w')
  | 0, p, pre, w, n, hp, hNn, C, hj, hw => by
    have hpl : p.length = inp := by omega
    have i0 := C.i.cell 0 (v := .int .i64 (inp : Nat)) rfl
    have y0 := C.y.cell 0 (v := .func (.yield l) #[] #[]) rfl
    have r0 := C.r.cell 0 (v := .slice (some ⟨gr, 0, none⟩) inp inp) rfl
    have HX := hw.full hpl (by have := C.f.lt; have := hgF.out; omega)
    have HM : Hid ((rws st 0).map (p ++ ·) = [p]) := by unfold Hid; simp [rws]
    rw [hpl]
    refine callsIn_of_wp Tryd.func70 rfl trivial ?_ rfl
    simp only [Tryd.ntmps70, List.size_toArray, List.length_cons, List.length_nil, Nat.reduceAdd, Nat.reduceSub, Array.replicate_succ, Array.replicate_zero, List.push_toArray, List.append_toArray, List.nil_append, List.cons_append]
    obtain ⟨fn, tmps, assign, body, hy, hR⟩ := hY pre p w (n - 1) hj HX (by have h := hNn; rw [Nat.pow_zero] at h; omega)
    gi_wp2
    refine ⟨fun h => by simp [Fence.wide] at h, hR.mono ?_⟩
    rintro e W3 (⟨rfl, hJ3, hk3⟩ | ⟨rfl, hJx3⟩)
    · gi_wp2
      go_ret
      exact .inl ⟨rfl, by rw [HM.out]; exact hJ3, C.kr hk3, hw.kr hk3⟩
    · gi_wp2
      go_ret
      exact .inr ⟨rfl, [p], [], by rw [HM.out]; simp, hJx3⟩
  | m + 1, p, pre, w, n, hp, hNn, C, hj, hw => by
    have ih := fromC l gI gY gR gS gF gr st inp hst hin hn hgF Nn J Jx hJ hY m
    have i0 := C.i.cell 0 (v := .int .i64 (inp : Nat)) rfl
    have s0 := C.s.cell 0 (v := .int .i64 (st : Nat)) rfl
    obtain ⟨q, hq⟩ : ∃ q, p.length = q := ⟨_, rfl⟩
    have HQ : Hid (p.length = q) := hq
    rw [hq] at hp ⊢
    clear hq
    have hne : ((q : Int) == (inp : Int)) = false := by simp; omega
    have hne2 : ¬ ((q : Int) = (inp : Int)) := by omega
    refine callsIn_of_wp Tryd.func70 rfl trivial ?_ rfl
    simp only [Tryd.ntmps70, List.size_toArray, List.length_cons, List.length_nil, Nat.reduceAdd, Nat.reduceSub, Array.replicate_succ, Array.replicate_zero, List.push_toArray, List.append_toArray, List.nil_append, List.cons_append]
    gi_wp2
    gi_loopw [16] (fun i wr => ∃ j : Nat, j ≤ st ∧ i = .int .i64 j ∧ J (pre ++ rwsP st m p j) wr ∧ Rc wr l gI gY gR gS gF gr st inp ∧ Rw wr gr inp st p) (fun i _ => st - (intOf i).toNat)
    case atStart => exact ⟨0, Nat.zero_le _, rfl, by simpa [rwsP] using hj, C, hw⟩
    case round =>
      obtain ⟨j, hjs, rfl, hJj, Cj, hwj⟩ := hrel
      by_cases hlt : j < st
      · have hlt' : (j : Int) < (st : Int) := by omega
        obtain ⟨W1, hW1⟩ : ∃ W1, wr.setCell ⟨gr, q, none⟩ (.int .u8 (j : Nat)) = W1 := ⟨_, rfl⟩
        have g1 : wr.grownBy W1 (some gr) := (by rw [← hW1]; exact gb_set (World.grownBy.refl wr (some gr)) _ _)
        have w1 : Rw W1 gr inp st (p ++ [j]) := (by rw [← hW1, ← HQ.out]; exact hwj.set j hlt)
        have C1 := Cj.gb g1 hn
        have ihj := ih (p ++ [j]) (pre ++ rwsP st m p j) W1 (n - 1) (by simp [HQ.out]; omega) (by
          rw [List.length_append, rwsP_len]
          have h1 : j * st ^ m + st ^ m ≤ st * st ^ m := by rw [← Nat.succ_mul]; exact Nat.mul_le_mul_right _ hlt
          rw [Nat.pow_succ, Nat.mul_comm] at hNn
          omega) C1 (hJ _ _ _ hJj g1) w1
        rw [show (p ++ [j]).length = q + 1 by simp [HQ.out]] at ihj
        have r0 := Cj.r.cell 0 (v := .slice (some ⟨gr, 0, none⟩) inp inp) rfl
        have f0 := C1.f.cell 0 (v := .func (.func 70) #[] #[.pointer (some ⟨gI, 0, none⟩), .pointer (some ⟨gY, 0, none⟩), .pointer (some ⟨gR, 0, none⟩), .pointer (some ⟨gS, 0, none⟩), .pointer (some ⟨gF, 0, none⟩)]) rfl
        obtain ⟨ff, hff, _, _⟩ := hwj
        have x0 := World.rowIs.cell hff (i := q) (by omega)
        have x1 := World.rowIs.frozen hff q
        have hq1 : (q : Int) < (inp : Int) := by omega
        gi_wp2_with (first | (refine ⟨trivial, fun h => by simp [Fence.wide] at h, ?_⟩; gi_at_call 70; refine ihj.mono ?_; rintro e w2 (⟨rfl, hJ2, C2, hw2⟩ | ⟨rfl, qq, rr, hqr, hx2⟩)))
        · go_roundw
          case rel => exact ⟨j + 1, hlt, by go_num, by rw [rwsP_succ, ← List.append_assoc]; exact hJ2, C2, hw2.cut⟩
          case measure => simp [intOf]; omega
        · go_ret
          refine .inr ⟨rfl, rwsP st m p j ++ qq, ?_⟩
          obtain ⟨r2, hr2⟩ := rwsP_le st m p (show j + 1 ≤ st from hlt)
          refine ⟨rr ++ r2, ?_, by rw [← List.append_assoc]; exact hx2⟩
          rw [← rwsP_all, ← hr2, rwsP_succ, ← hqr]
          simp
      · have hjn : j = st := by omega
        subst hjn
        gi_wp2
        go_ret
        exact .inl ⟨rfl, by rw [← rwsP_all]; exact hJj, Cj, hwj⟩
end Go.Proofs.YteaionmjbkildabDoor
