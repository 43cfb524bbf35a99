/- A tree's text is read back. -/
import Derived.Test.YteaionmjbkildabDoorQps
import Derived.Test.YteaionmjbkildabDoorQs
import Derived.Test.YteaionmjbkildabDoorQ30
import Derived.Test.YteaionmjbkildabDoorQ26
namespace Go.Proofs.YteaionmjbkildabDoor
open Go.RowKit Go.Lib
set_option linter.unusedVariables false
set_option linter.unusedSimpArgs false
set_option maxRecDepth 100000
namespace Rr
theorem lvl_congr {t u : Nat → TN} {n : Nat} (h : ∀ j, j < n → TnE (t j) (u j)) : ∀ j, j ≤ n → lvl t j = lvl u j
  | 0, _ => rfl
  | j + 1, hj => by
    rw [lvl, lvl, lvl_congr h j (by omega)]
    obtain ⟨_, h2, h3⟩ := h j (by omega)
    by_cases e : (t j).kn = 0
    · rw [if_pos e, if_pos (by rw [← h2]; exact e)]
    · rw [if_neg e, if_neg (by rw [← h2]; exact e), h3 0 (by omega)]
theorem lw_congr {t u : Nat → TN} {n : Nat} (h : ∀ j, j < n → TnE (t j) (u j)) {j : Nat} (hj : j < n) : lw t j = lw u j := by
  unfold lw
  rw [lvl_congr h (j + 1) (by omega)]
theorem tne_symm {x y : TN} (h : TnE x y) : TnE y x := ⟨h.1.symm, h.2.1.symm, fun i hi => (h.2.2 i (by rw [h.2.1]; exact hi)).symm⟩
theorem ck_congr {t u : Nat → TN} {n : Nat} {S I R : Int} (h : ∀ j, j < n → TnE (t j) (u j)) (hc : CkOk S I n R t) : CkOk S I n R u := by
  obtain ⟨h1, h2, h3, h4, h5, h6⟩ := hc
  refine ⟨h1, h2, h3, h4, fun j hj => ?_, by rw [← lw_congr h (by omega)]; exact h6⟩
  obtain ⟨e1, e2, e3⟩ := h j hj
  rcases h5 j hj with ⟨a, b⟩ | ⟨a, b, c, d⟩
  · exact .inl ⟨by rw [← e2]; exact a, by rw [← e1]; exact b⟩
  · refine .inr ⟨by rw [← e2]; exact a, by rw [← e1]; exact b, by rw [← e2]; exact c, fun k hk => ?_⟩
    have d0 := d 0 (by omega)
    have dk := d k hk
    rw [← e3 k (by omega), ← e3 0 (by omega), ← lw_congr h (by omega), ← lw_congr h (by omega)]
    exact dk
theorem lw_tok {S I R n : Nat} {t : Nat → TN} {lv : Nat → Nat} (ht : Tok S I R n t lv) : ∀ j, j < n → lw t j = lv j := by
  intro j
  induction j using Nat.strongRecOn with
  | _ j ih =>
    intro hj
    have hn := ht.hn
    have h1 := ht.hs1
    rw [lw_rec t (by omega)]
    rcases ht.hok j hj with ⟨a, _, c⟩ | ⟨_, b, c, d⟩
    · rw [if_pos a, c]
    · have c0 := c 0 (by omega)
      have hk : ((t j).kf 0).toNat < j := by omega
      rw [if_neg (by omega), d, lvl_get t hk]
      have e := ih _ hk (by omega)
      unfold lw at e
      rw [if_pos (by omega)] at e
      rw [e]
theorem tok_ck {S I R n : Nat} {t : Nat → TN} {lv : Nat → Nat} (ht : Tok S I R n t lv) : CkOk (S : Nat) (I : Nat) n (R : Nat) t := by
  have h1 := ht.hs1
  have h2 := ht.hs2
  have h3 := ht.hi
  have h4 := ht.hr
  refine ⟨?_, ht.hn, by omega, by omega, fun j hj => ?_, ?_⟩
  · unfold maB
    simp
    omega
  · rw [Int.toNat_natCast]
    rcases ht.hok j hj with ⟨a, b, _⟩ | ⟨a, b, c, _⟩
    · exact .inl ⟨a, b⟩
    · refine .inr ⟨by omega, a, b, fun k hk => ?_⟩
      have ck := c k hk
      have c0 := c 0 (by omega)
      refine ⟨ck.1, ck.2.1, ?_⟩
      rw [lw_tok ht _ (by omega), lw_tok ht _ (by omega)]
      exact ck.2.2
  · rw [Int.toNat_natCast, lw_tok ht R h4, ht.hrt]
theorem itoa_pos {x : Int} (h : 0 ≤ x) : itoa x = decDigits x.toNat := by
  unfold itoa
  rw [if_neg (by omega)]
theorem kidsTx_is (kf : Nat → Int) : ∀ k, (∀ i, i < k → 0 ≤ kf i) → kidsTx kf k = Pa.kidsT (fun i => (kf i).toNat) k
  | 0, _ => rfl
  | k + 1, h => by rw [kidsTx, Pa.kidsT, kidsTx_is kf k (fun i hi => h i (by omega)), itoa_pos (h k (by omega))]
theorem nodeTx_is (t : TN) (h : ∀ i, i < t.kn → 0 ≤ t.kf i) : nodeTx t = Pa.nodeT t.st (fun i => (t.kf i).toNat) t.kn := by
  unfold nodeTx Pa.nodeT
  rw [kidsTx_is t.kf t.kn h, Pa.itoa_nat]
theorem nodesTx_is (t : Nat → TN) : ∀ n, (∀ j, j < n → ∀ i, i < (t j).kn → 0 ≤ (t j).kf i) → nodesTx t n = Pa.nodesT (fun j => (t j).st) (fun j => (t j).kn) (fun j i => ((t j).kf i).toNat) n
  | 0, _ => rfl
  | n + 1, h => by rw [nodesTx, Pa.nodesT, nodesTx_is t n (fun j hj => h j (by omega)), nodeTx_is (t n) (h n (by omega))]
theorem headTx_is (S I n R : Nat) : headTx S I n R = Pa.headT S I n R := by
  unfold headTx Pa.headT
  rw [Pa.itoa_nat, Pa.itoa_nat, Pa.itoa_nat, Pa.itoa_nat]
/-- The nodes that a tree's text holds. -/
def ndsOf (t : Nat → TN) (n : Nat) : List (Nat × List Nat) := (List.range n).map fun i => ((t i).st, (List.range (t i).kn).map fun k => ((t i).kf k).toNat)
theorem ck_kf {S I R : Int} {n : Nat} {t : Nat → TN} (hc : CkOk S I n R t) {j : Nat} (hj : j < n) : ∀ i, i < (t j).kn → 0 ≤ (t j).kf i ∧ (t j).kf i < 65536 := fun i hi => by
  have h2 := hc.2.1
  rcases hc.2.2.2.2.1 j hj with ⟨a, b⟩ | ⟨a, b, c, d⟩
  · omega
  · have := d i (by omega)
    omega
theorem tr_tx {S I n R : Nat} {t : Nat → TN} (hc : CkOk (S : Nat) (I : Nat) n (R : Nat) t) (hst : ∀ j, (t j).st < 256) : Pa.trR (treeTx S I n R t) = ([S, I, n, R], ndsOf t n, false, true, []) := by
  have hm := maB_is hc.1
  have h2 := hc.2.1
  have h4 := hc.2.2.2.1
  unfold treeTx
  rw [headTx_is, nodesTx_is t n (fun j hj i hi => (ck_kf hc hj i hi).1)]
  refine Pa.trR_back (by omega) (by omega) (by omega) (by omega) _ _ _ (fun i hi => ⟨hst i, fun h => ?_, fun k hk => ?_⟩)
  · rcases hc.2.2.2.2.1 i hi with ⟨a, b⟩ | ⟨a, b, c, d⟩
    · omega
    · exact b
  · have := ck_kf hc hi k hk
    omega
end Rr
end Go.Proofs.YteaionmjbkildabDoor
