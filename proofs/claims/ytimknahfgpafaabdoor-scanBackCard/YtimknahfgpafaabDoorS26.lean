/- Runs that are written one behind the other are read as they are: nothing of a walk in it. -/
import Derived.Test.YtimknahfgpafaabDoorS7
import Derived.Lib.ItoaLen
namespace Go.Proofs.YtimknahfgpafaabDoor
set_option linter.unusedVariables false
set_option linter.unusedSimpArgs false

theorem bt_app1 (a b : ByteArray) {j : Nat} (h : j < a.size) : Sc.bt (a ++ b) j = Sc.bt a j := by
  rw [← Sc.bt_at (s := a ++ b) (i := j) (by rw [ByteArray.size_append]; omega), ← Sc.bt_at h]
  rw [ByteArray.getElem_append_left h]
theorem bt_app2 (a b : ByteArray) {j : Nat} (h : j < b.size) : Sc.bt (a ++ b) (a.size + j) = Sc.bt b j := by
  rw [← Sc.bt_at (s := a ++ b) (i := a.size + j) (by rw [ByteArray.size_append]; omega), ← Sc.bt_at h]
  rw [ByteArray.getElem_append_right (by omega)]
  simp
/-- The text p stands at i. -/
structure St (s : ByteArray) (i : Nat) (p : ByteArray) : Prop where
  le : i + p.size ≤ s.size
  at' : ∀ j, j < p.size → Sc.bt s (i + j) = Sc.bt p j
theorem St.left {s a b : ByteArray} {i : Nat} (h : St s i (a ++ b)) : St s i a := by
  have hz := ByteArray.size_append (a := a) (b := b)
  have h1 := h.le
  exact ⟨by omega, fun j hj => by rw [h.at' j (by omega), bt_app1 a b hj]⟩
theorem St.right {s a b : ByteArray} {i : Nat} (h : St s i (a ++ b)) : St s (i + a.size) b := by
  have hz := ByteArray.size_append (a := a) (b := b)
  have h1 := h.le
  exact ⟨by omega, fun j hj => by rw [Nat.add_assoc, h.at' (a.size + j) (by omega), bt_app2 a b hj]⟩
theorem St.ext {s p : ByteArray} {i : Nat} (h : St s i p) : s.extract i (i + p.size) = p := by
  refine Sc.ext (by rw [Sc.size_ext s h.le]; omega) fun j hj => ?_
  rw [Sc.size_ext s h.le] at hj
  rw [Sc.bt_ext s h.le (by omega), h.at' j (by omega)]

/-- A text that may be a tag. -/
def tagOk (t : ByteArray) : Bool := (decide (t.size = 1) || decide (t.size = 2)) && (Sc.twoB (Sc.bt t 0) == decide (t.size = 2)) && !Sc.digitB (Sc.bt t 0) && !Sc.whiteB (Sc.bt t 0) && decide (Sc.bt t 0 ≠ 33) && (oB (stOf t) || t.toList == [36])
theorem tagOk_T : ∀ n : Fin 256, tagOk (tagT n.val) = true ∧ stOf (tagT n.val) = some n.val := by decide +kernel
theorem tagOk_F : ∀ n : Fin 2, tagOk (tagF n.val) = true ∧ stOf (tagF n.val) = some n.val := by decide +kernel
theorem tagOk_R : tagOk ⟨#[36]⟩ = true := by decide +kernel

/-- One run that stands at i, with white bytes behind it. -/
theorem piece_step (s ds tg gp : ByteArray) (i m : Nat) (l : List Rn) (f : Nat) (h : St s i ((ds ++ tg) ++ gp)) (hd : ∀ j, j < ds.size → Sc.digitB (Sc.bt ds j) = true) (ht : tagOk tg = true) (hg : ∀ j, j < gp.size → Sc.whiteB (Sc.bt gp j) = true)
    (hm : (ds.size = 0 ∧ m = 1) ∨ (0 < ds.size ∧ Tx.vl 0 ds.data.toList = m ∧ 1 ≤ m ∧ m ≤ 1099511627776)) :
    runsF (f + gp.size + 1) s i l = runsF f s (i + ((ds ++ tg) ++ gp).size) (l ++ [(m, tg, i)]) := by
  have hD := h.left.left
  have hT := h.left.right
  have hG := h.right
  have hz1 := ByteArray.size_append (a := ds) (b := tg)
  have hz2 := ByteArray.size_append (a := ds ++ tg) (b := gp)
  unfold tagOk at ht
  simp only [Bool.and_eq_true, Bool.or_eq_true, decide_eq_true_eq, beq_iff_eq, Bool.not_eq_true'] at ht
  obtain ⟨⟨⟨⟨⟨hsz, htw⟩, htd⟩, htwh⟩, ht33⟩, htok⟩ := ht
  have h0 : Sc.bt s (i + ds.size) = Sc.bt tg 0 := by have := hT.at' 0 (by omega); rwa [Nat.add_zero] at this
  have hle := hT.le
  have hdg : dg s i = i + ds.size := by
    refine Sc.ov_of ⟨by omega, by omega, fun j h1 h2 => ?_, fun _ => by rw [h0]; exact htd⟩
    have := hD.at' (j - i) (by omega)
    rw [show i + (j - i) = j by omega] at this
    rw [this]; exact hd _ (by omega)
  have htl : tl s (i + ds.size) = tg.size := by
    unfold tl
    rw [h0, htw]
    rcases hsz with e | e <;> rw [e] <;> rfl
  have hta : tagAt s (i + ds.size) = tg := by
    unfold tagAt
    rw [htl]
    exact hT.ext
  have hfirst : Sc.whiteB (Sc.bt s i) = false ∧ Sc.bt s i ≠ 33 := by
    rcases hm with ⟨e, _⟩ | ⟨e, _⟩
    · rw [e, Nat.add_zero] at h0
      rw [h0]; exact ⟨htwh, ht33⟩
    · have h1 := hD.at' 0 e
      rw [Nat.add_zero] at h1
      have h2 := hd 0 e
      rw [← h1] at h2
      unfold Sc.digitB at h2
      rw [Sc.wi_iff] at h2
      refine ⟨?_, by omega⟩
      unfold Sc.whiteB Sc.eqB
      simp; omega
  have hcn : cnB s i = true ∧ cnV s i = m := by
    unfold cnB cnV
    rcases hm with ⟨e, e2⟩ | ⟨e, e2, e3, e4⟩
    · rw [hdg, e, Nat.add_zero, decide_eq_true rfl, Bool.true_or, if_pos rfl]; exact ⟨rfl, e2.symm⟩
    · have hnv : numV s i = m := by
        unfold numV nm
        rw [hdg, hD.ext, e2]
      rw [hnv, hdg, if_neg (by omega), decide_eq_true (show 1 ≤ m ∧ m ≤ 1099511627776 from ⟨e3, e4⟩), Bool.or_true]
      exact ⟨rfl, rfl⟩
  have htg : tgB s (i + ds.size) = true := by
    unfold tgB
    rw [hta, Bool.or_eq_true]
    rcases htok with h1 | h1
    · exact .inl h1
    · exact .inr (by simpa using h1)
  rw [runsF, if_neg (by omega), if_neg (by rw [hfirst.1]; simp), if_neg hfirst.2, if_neg (by rw [hcn.1]; simp), hdg, htl, if_neg (by omega), if_neg (by rw [htg]; simp), hta, hcn.2]
  have hG' : ∀ j, i + ds.size + tg.size ≤ j → j < i + ds.size + tg.size + gp.size → Sc.whiteB (Sc.bt s j) = true := fun j h1 h2 => by
    have := hG.at' (j - (i + (ds ++ tg).size)) (by omega)
    rw [show i + (ds ++ tg).size + (j - (i + (ds ++ tg).size)) = j by omega] at this
    rw [this]; exact hg _ (by omega)
  have hwl : ∀ (c f i : Nat) (l : List Rn), i + c ≤ s.size → (∀ j, i ≤ j → j < i + c → Sc.whiteB (Sc.bt s j) = true) → runsF (f + c) s i l = runsF f s (i + c) l := by
    intro c
    induction c with
    | zero => intro f i l _ _; rfl
    | succ c ih =>
      intro f i l h1 h2
      rw [show f + (c + 1) = (f + c) + 1 by omega, runsF, if_neg (by omega), if_pos (h2 i (Nat.le_refl _) (by omega)), ih f (i + 1) l (by omega) (fun j h3 h4 => h2 j (by omega) (by omega))]
      congr 1; omega
  have hgl := hG.le
  rw [hwl gp.size f (i + ds.size + tg.size) _ (by omega) hG']
  congr 1; omega

/-- All that is written so far is read as the runs l. -/
def Rdn (t : ByteArray) (l : List Rn) : Prop := ∀ s, St s 0 t → runsF (s.size + 1) s 0 [] = runsF (s.size + 1 - t.size) s t.size l
theorem rdn_nil : Rdn ⟨#[]⟩ [] := fun s _ => rfl
theorem rdn_step {t : ByteArray} {l : List Rn} (h : Rdn t l) (ds tg gp : ByteArray) (m : Nat) (hd : ∀ j, j < ds.size → Sc.digitB (Sc.bt ds j) = true) (ht : tagOk tg = true) (hg : ∀ j, j < gp.size → Sc.whiteB (Sc.bt gp j) = true)
    (hm : (ds.size = 0 ∧ m = 1) ∨ (0 < ds.size ∧ Tx.vl 0 ds.data.toList = m ∧ 1 ≤ m ∧ m ≤ 1099511627776)) : Rdn (t ++ ((ds ++ tg) ++ gp)) (l ++ [(m, tg, t.size)]) := fun s hs => by
  have h1 := h s hs.left
  have hp := hs.right
  rw [Nat.zero_add] at hp
  have hle := hp.le
  have hz := ByteArray.size_append (a := t) (b := (ds ++ tg) ++ gp)
  have hz1 := ByteArray.size_append (a := ds) (b := tg)
  have hz2 := ByteArray.size_append (a := ds ++ tg) (b := gp)
  have htz : 1 ≤ tg.size := by
    unfold tagOk at ht
    simp only [Bool.and_eq_true, Bool.or_eq_true, decide_eq_true_eq] at ht
    obtain ⟨⟨⟨⟨⟨hsz, _⟩, _⟩, _⟩, _⟩, _⟩ := ht
    omega
  rw [h1, runsF_fuel s (s.size + 1 - t.size) ((s.size + 1) + gp.size + 1) t.size l (by omega) (by omega), piece_step s ds tg gp t.size m l (s.size + 1) hp hd ht hg hm, ← hz]
  exact runsF_fuel s _ _ _ _ (by omega) (by omega)
theorem rdn_early {t : ByteArray} {l : List Rn} (h : Rdn t l) : runsF (t.size + 1) t 0 [] = (none, t.size, 30) := by
  rw [h t ⟨by omega, fun j hj => by rw [Nat.zero_add]⟩, show t.size + 1 - t.size = 0 + 1 by omega, runsF, if_pos (Nat.le_refl _)]
theorem rdn_end {t b : ByteArray} {l : List Rn} (h : Rdn t l) : runsF (((t ++ ⟨#[33]⟩) ++ b).size + 1) ((t ++ ⟨#[33]⟩) ++ b) 0 [] = (some l, t.size + 1, 0) := by
  have hz1 := ByteArray.size_append (a := t) (b := ⟨#[33]⟩)
  have hz2 := ByteArray.size_append (a := t ++ ⟨#[33]⟩) (b := b)
  have h1 : (⟨#[33]⟩ : ByteArray).size = 1 := rfl
  have hb : Sc.bt ((t ++ ⟨#[33]⟩) ++ b) t.size = 33 := by
    rw [bt_app1 _ b (by omega)]
    have := bt_app2 t ⟨#[33]⟩ (j := 0) (by omega)
    rw [Nat.add_zero] at this
    rw [this]; rfl
  rw [h _ ⟨by omega, fun j hj => by rw [Nat.zero_add, bt_app1 _ b (by omega), bt_app1 t _ hj]⟩]
  obtain ⟨f, hf⟩ : ∃ f, ((t ++ ⟨#[33]⟩) ++ b).size + 1 - t.size = f + 1 := ⟨((t ++ ⟨#[33]⟩) ++ b).size - t.size, by omega⟩
  rw [hf, runsF, if_neg (by omega), hb, if_neg (by decide), if_pos rfl]

/-- A number's text, of a number above 0. -/
theorem itoa_pos {n : Nat} (h1 : 1 ≤ n) (h2 : n ≤ 1099511627776) : Tx.allD (Lib.itoa (n : Int)) = true ∧ Tx.vl 0 (Lib.itoa (n : Int)) = n ∧ Lib.itoa (n : Int) ≠ [] := by
  obtain ⟨hn, ha⟩ := Tx.itoa_back (n := (n : Int)) (by omega) (by omega)
  rcases Tx.num_cases hn with ⟨r, e, hr, hne⟩ | ⟨c, r, e, h3, h4, hD⟩
  · rw [e, Tx.atoi_neg hr hne] at ha
    split at ha
    · injection ha with ha
      omega
    · cases ha
  · rw [e] at ha hD ⊢
    rw [Tx.atoi_pos h3 h4 hD] at ha
    split at ha
    · injection ha with ha
      exact ⟨hD, by omega, by simp⟩
    · cases ha
end Go.Proofs.YtimknahfgpafaabDoor
