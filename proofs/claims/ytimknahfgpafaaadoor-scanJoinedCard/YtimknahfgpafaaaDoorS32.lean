/- Lines that are written one behind the other are read as they are; where the next line begins: nothing of a walk in it. -/
import Derived.Test.YtimknahfgpafaaaDoorS29
namespace Go.Proofs.YtimknahfgpafaaaDoor
set_option linter.unusedVariables false
set_option linter.unusedSimpArgs false

/-- Where the line behind these begins. -/
def nxI (s : ByteArray) (i : Nat) (l : List Nat) : Nat := match l.getLast? with | none => i | some y => lx s y
theorem nxI_nil (s : ByteArray) (i : Nat) : nxI s i [] = i := rfl
theorem nxI_snoc (s : ByteArray) (i : Nat) (l : List Nat) (y : Nat) : nxI s i (l ++ [y]) = lx s y := by unfold nxI; simp
theorem nxI_cons (s : ByteArray) (i : Nat) (l : List Nat) : nxI s i (i :: l) = nxI s (lx s i) l := by
  rcases List.eq_nil_or_concat l with rfl | ⟨l', y, rfl⟩
  · rfl
  · rw [List.concat_eq_append, ← List.cons_append, nxI_snoc, nxI_snoc]
theorem lnF_pre (s : ByteArray) : ∀ (f i : Nat) (pre : List Nat) (x : Nat) (q : List Nat), (pre ++ [x]) ++ q = lnF f s i → x = nxI s i pre ∧ x < s.size
  | 0, i, pre, x, q, h => by rw [lnF] at h; simp at h
  | f + 1, i, pre, x, q, h => by
    rw [lnF] at h
    by_cases hi : i < s.size
    · rw [if_pos hi] at h
      cases pre with
      | nil =>
        rw [List.nil_append, List.singleton_append, List.cons.injEq] at h
        exact ⟨h.1, by rw [h.1]; exact hi⟩
      | cons a pre =>
        rw [List.cons_append, List.cons_append, List.cons.injEq] at h
        obtain ⟨rfl, h2⟩ := h
        rw [nxI_cons]
        exact lnF_pre s f _ pre x q h2
    · rw [if_neg hi] at h; simp at h
theorem lnF_last (s : ByteArray) : ∀ (f i : Nat), i ≤ s.size → s.size < i + f → nxI s i (lnF f s i) = s.size
  | 0, i, h1, h2 => by omega
  | f + 1, i, h1, h2 => by
    rw [lnF]
    by_cases hi : i < s.size
    · have hb := lx_bd hi
      rw [if_pos hi, nxI_cons]
      exact lnF_last s f _ hb.2 (by omega)
    · rw [if_neg hi, nxI_nil]; omega
theorem lns_pre {s : ByteArray} {pre : List Nat} {x : Nat} {q : List Nat} (h : (pre ++ [x]) ++ q = lns s) : x = nxI s 0 pre ∧ x < s.size := lnF_pre s _ _ pre x q h
theorem lns_last (s : ByteArray) : nxI s 0 (lns s) = s.size := lnF_last s _ _ (Nat.zero_le _) (by omega)
theorem lx_le {s : ByteArray} {i : Nat} (hi : i ≤ s.size) : lx s i ≤ s.size := by
  have := ln_le hi
  unfold lx; split <;> omega
/-- A line's text, and what stands behind it. -/
theorem line_at {s : ByteArray} {i : Nat} (hi : i ≤ s.size) : (le s i = ln s i ∧ (ln s i < s.size → Sc.bt s (ln s i) = 10)) ∨ (le s i + 1 = ln s i ∧ Sc.bt s (le s i) = 13 ∧ (ln s i < s.size → Sc.bt s (ln s i) = 10)) := by
  have h := Sc.ov_is Sc.noEndB hi
  have h10 : ln s i < s.size → Sc.bt s (ln s i) = 10 := fun hl => (noEnd_no _).1 (h.stop hl)
  have hge : i ≤ ln s i := h.ge
  by_cases h13 : i < ln s i ∧ Sc.bt s (ln s i - 1) = 13
  · refine .inr ⟨?_, ?_, h10⟩
    · unfold le; rw [if_pos h13]; omega
    · unfold le; rw [if_pos h13]; exact h13.2
  · refine .inl ⟨?_, h10⟩
    unfold le; rw [if_neg h13]

theorem bt_app1 (a b : ByteArray) {j : Nat} (h : j < a.size) : Sc.bt (a ++ b) j = Sc.bt a j := by
  rw [← Sc.bt_at (s := a ++ b) (i := j) (by rw [ByteArray.size_append]; omega), ← Sc.bt_at h]
  rw [ByteArray.getElem_append_left h]
theorem bt_app2 (a b : ByteArray) {j : Nat} (h : j < b.size) : Sc.bt (a ++ b) (a.size + j) = Sc.bt b j := by
  rw [← Sc.bt_at (s := a ++ b) (i := a.size + j) (by rw [ByteArray.size_append]; omega), ← Sc.bt_at h]
  rw [ByteArray.getElem_append_right (by omega)]
  simp
/-- The text p stands at i. -/
structure St (s : ByteArray) (i : Nat) (p : ByteArray) : Prop where
  le : i + p.size ≤ s.size
  at' : ∀ j, j < p.size → Sc.bt s (i + j) = Sc.bt p j
theorem St.left {s a b : ByteArray} {i : Nat} (h : St s i (a ++ b)) : St s i a := by
  have hz := ByteArray.size_append (a := a) (b := b)
  have h1 := h.le
  exact ⟨by omega, fun j hj => by rw [h.at' j (by omega), bt_app1 a b hj]⟩
theorem St.right {s a b : ByteArray} {i : Nat} (h : St s i (a ++ b)) : St s (i + a.size) b := by
  have hz := ByteArray.size_append (a := a) (b := b)
  have h1 := h.le
  exact ⟨by omega, fun j hj => by rw [Nat.add_assoc, h.at' (a.size + j) (by omega), bt_app2 a b hj]⟩
theorem St.ext {s p : ByteArray} {i : Nat} (h : St s i p) : s.extract i (i + p.size) = p := by
  refine Sc.ext (by rw [Sc.size_ext s h.le]; omega) fun j hj => ?_
  rw [Sc.size_ext s h.le] at hj
  rw [Sc.bt_ext s h.le (by omega), h.at' j (by omega)]
/-- A line that may be written: no byte 10, and no byte 13 at its end. -/
def Good (p : ByteArray) : Prop := (∀ j, j < p.size → Sc.bt p j ≠ 10) ∧ (0 < p.size → Sc.bt p (p.size - 1) ≠ 13)
/-- The text t is the lines P, each with a byte 10 behind it; they begin at X. -/
def Lnd (t : ByteArray) (X : List Nat) (P : List ByteArray) : Prop := X.length = P.length ∧ ∀ s, St s 0 t → lnF (s.size + 1) s 0 = X ++ lnF (s.size + 1) s t.size ∧ ∀ j (h1 : j < X.length) (h2 : j < P.length), s.extract X[j] (le s X[j]) = P[j]
theorem lnd_nil : Lnd ⟨#[]⟩ [] [] := ⟨rfl, fun s _ => ⟨rfl, fun j h1 => absurd h1 (Nat.not_lt_zero _)⟩⟩
theorem lnd_step {t p : ByteArray} {X : List Nat} {P : List ByteArray} (h : Lnd t X P) (hp : Good p) : Lnd ((t ++ p) ++ ⟨#[10]⟩) (X ++ [t.size]) (P ++ [p]) := by
  refine ⟨by rw [List.length_append, List.length_append, h.1]; rfl, fun s hs => ?_⟩
  have hz1 := ByteArray.size_append (a := t) (b := p)
  have hz2 := ByteArray.size_append (a := t ++ p) (b := (⟨#[10]⟩ : ByteArray))
  have hz9 : (⟨#[10]⟩ : ByteArray).size = 1 := rfl
  have h1 := h.2 s hs.left.left
  have hP := hs.left.right
  rw [Nat.zero_add] at hP
  have hn := hs.right
  rw [Nat.zero_add] at hn
  have hle := hs.le
  have h10 : Sc.bt s (t.size + p.size) = 10 := by
    have := hn.at' 0 (by omega)
    rw [hz1, Nat.add_zero] at this
    rw [this]; rfl
  have hln : ln s t.size = t.size + p.size := ln_of (by omega) (by omega) (fun j a b _ => by
    have := hP.at' (j - t.size) (by omega)
    rw [show t.size + (j - t.size) = j by omega] at this
    rw [this]; exact hp.1 _ (by omega)) (fun _ => h10)
  have hlx : lx s t.size = ((t ++ p) ++ (⟨#[10]⟩ : ByteArray)).size := by unfold lx; rw [hln, if_pos (by omega)]; omega
  have hlE : le s t.size = t.size + p.size := by
    unfold le
    rw [hln, if_neg]
    rintro ⟨a, b⟩
    have := hP.at' (p.size - 1) (by omega)
    rw [show t.size + (p.size - 1) = t.size + p.size - 1 by omega, b] at this
    exact hp.2 (by omega) this.symm
  refine ⟨by rw [h1.1, lnF_line (show t.size < s.size by omega), hlx, List.append_assoc, List.singleton_append], fun j a b => ?_⟩
  have hl := h.1
  rw [List.length_append] at a b
  by_cases hj : j < X.length
  · rw [List.getElem_append_left hj, List.getElem_append_left (by omega)]
    exact h1.2 j hj (by omega)
  · simp only [List.length_cons, List.length_nil] at a b
    obtain rfl : j = X.length := by omega
    rw [List.getElem_append_right (Nat.le_refl _), List.getElem_append_right (by omega)]
    simp only [Nat.sub_self, List.getElem_cons_zero, hl]
    rw [hlE]; exact hP.ext
theorem lnd_end {t : ByteArray} {X : List Nat} {P : List ByteArray} (h : Lnd t X P) : lns t = X := by
  have := (h.2 t ⟨by omega, fun j hj => by rw [Nat.zero_add]⟩).1
  unfold lns
  rw [this, lnF_end t t.size (Nat.lt_irrefl _), List.append_nil]
theorem lnd_at {t : ByteArray} {X : List Nat} {P : List ByteArray} (h : Lnd t X P) (j : Nat) (h1 : j < (lns t).length) (h2 : j < P.length) : t.extract (lns t)[j] (le t (lns t)[j]) = P[j] := by
  have e := lnd_end h
  have := (h.2 t ⟨by omega, fun j hj => by rw [Nat.zero_add]⟩).2 j (by rw [← e]; exact h1) h2
  subst e
  exact this
theorem lnd_len {t : ByteArray} {X : List Nat} {P : List ByteArray} (h : Lnd t X P) : (lns t).length = P.length := by rw [lnd_end h]; exact h.1
end Go.Proofs.YtimknahfgpafaaaDoor
