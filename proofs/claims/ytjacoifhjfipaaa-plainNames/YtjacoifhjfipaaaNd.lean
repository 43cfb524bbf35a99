/- A text of dots is read: no cells. -/
import Derived.Test.YtjacoifhjfipaaaNm
namespace Go.Proofs.Ytjacoifhjfipaaa
open Go.RowKit Ln
set_option linter.unusedVariables false
set_option linter.unusedSimpArgs false

/-- n dots. -/
def dots (n : Nat) : ByteArray := runesBytes ((List.replicate n 0).map sgn)
theorem dots_data : ∀ n, (dots n).data.toList = List.replicate n 46
  | 0 => rfl
  | n + 1 => by
    have h : dots (n + 1) = dots n ++ Utf8.encode 46 := by
      unfold dots
      rw [List.replicate_succ', List.map_append, rb_app]
      show _ ++ runesBytes [46] = _
      rw [rb_one]
    rw [h, ByteArray.data_append, Array.toList_append, dots_data n, List.replicate_succ']
    rfl
theorem dots_size (n : Nat) : (dots n).size = n := by
  have h : (dots n).data.toList.length = n := by rw [dots_data, List.length_replicate]
  have h2 : (dots n).data.toList.length = (dots n).size := Array.length_toList
  omega
theorem dots_bt {n k : Nat} (h : k < n) : Sc.bt (dots n) k = 46 := by
  have h1 : (dots n).data.toList[k]? = some 46 := by rw [dots_data, List.getElem?_replicate, if_pos h]
  rw [Sc.bt_list h1]; rfl
theorem dots_ln (n : Nat) : ln (dots n) 0 = n := by
  have hs := dots_size n
  exact Sc.ov_of ⟨by omega, by omega, fun j h1 h2 => (noEnd_iff _).2 (by rw [dots_bt h2]; decide), fun h => by omega⟩
theorem dots_lin (n : Nat) : lin (dots n) 0 = dots n := by
  have hs := dots_size n
  have e : le (dots n) 0 = n := by
    unfold le
    rw [dots_ln]
    refine if_neg (fun h => ?_)
    have h2 := h.2
    rw [dots_bt (by omega)] at h2
    cases h2
  unfold lin
  rw [e]
  apply ByteArray.ext
  rw [ByteArray.data_extract]
  apply Array.ext'
  rw [Array.toList_extract]
  simp [dots_data, List.extract]
theorem rcF_zero : ∀ (n x y : Nat), rcF (List.replicate n 0) x y = []
  | 0, _, _ => rfl
  | n + 1, x, y => by rw [List.replicate_succ, rcF, rcF_zero n]; rfl
theorem rd_row0 {s : ByteArray} (hl : lns s = [0]) (h1 : remB (lin s 0) = false) (h2 : rowA (lin s 0) 0 0 0 [] = ([], none)) : rd s = ([], none) := by
  unfold rd
  rw [hl]
  have e := rdF_snoc s [] 0
  rw [List.nil_append] at e
  rw [e, show rdF s [] = (0, [], none) from rfl, stepR_row (c := []) rfl h1 h2]
theorem rd_dots {n : Nat} (hn : n ≤ 1048576) (h0 : 0 < n) : rdE (dots n) = 0 ∧ rdP (dots n) = 0 ∧ rdC (dots n) = [] := by
  have hs := dots_size n
  have hl : lns (dots n) = [0] := by
    unfold lns
    rw [hs, lnF, if_pos (by omega)]
    have : lx (dots n) 0 = n := by unfold lx; rw [dots_ln, if_neg (by omega)]
    rw [this]
    obtain ⟨m, rfl⟩ : ∃ m, n = m + 1 := ⟨n - 1, by omega⟩
    rw [lnF, if_neg (by omega)]
  have hr : remB (dots n) = false := by
    unfold remB
    rw [dots_bt h0, decide_eq_false]
    intro h; cases h.2
  have hrow : rowA (dots n) 0 0 0 [] = ([], none) := by
    have h := rowA_all 0 (List.replicate n 0) [] (fun v hv => by rw [List.eq_of_mem_replicate hv]; decide)
    rw [rcF_zero] at h
    exact h
  have hrd : rd (dots n) = ([], none) := rd_row0 hl (by rw [dots_lin]; exact hr) (by rw [dots_lin]; exact hrow)
  have hlt : ¬ 1048576 < (dots n).size := by omega
  unfold rdE rdP rdC
  rw [if_neg hlt, if_neg hlt, if_neg hlt, hrd]
  exact ⟨rfl, rfl, rfl⟩
end Go.Proofs.Ytjacoifhjfipaaa
