/- A list of lines that came in, opened. -/
import Derived.Test.YtbiilklihieomaaZ21
import Derived.Test.YtbiilklihieomaaOpenZ
import Derived.Deep.Slices
namespace Go.Proofs.Ytbiilklihieomaa
open Go.ChangeShapes Go.WideShapes Go.RowKit Go.ChangeAt Go.Deep
set_option linter.unusedVariables false
set_option linter.unusedSimpArgs false

theorem lsCells : Try.prog.cellsOf 39 = 1 := by kernel_rfl
theorem lsBytes : Try.prog.bytesOf 39 = 24 := by kernel_rfl
theorem uLS : Try.prog.underlying 74 = some (.slice 39) := by kernel_rfl
theorem weightsAll_mem {H : Type} {P : Program} {e : TypeId} {x : Nat} {d : DataW H} : ∀ {l : List (DataW H)}, d ∈ l → x ∈ d.weights P e → x ∈ DataW.weightsAll P e l
  | [], h, _ => by cases h
  | a :: l, h, hx => by
    rw [DataW.weightsAll, List.mem_append]
    rcases List.mem_cons.1 h with rfl | h
    · exact .inl hx
    · exact .inr (weightsAll_mem h hx)
theorem spot_no {w : World} {a : Addr} {v : Value} (h : w.cell? a = some v) : a = ⟨a.block, a.off, none⟩ := by
  obtain ⟨b, o, sp⟩ := a
  cases sp with
  | none => rfl
  | some x =>
    unfold World.cell? at h
    split at h
    · simp at h
    · cases h
set_option maxRecDepth 100000 in
set_option maxHeartbeats 2000000 in
theorem openLines {H : Type} {enc : TypeId × Value → H} {W : World} {fuel : Nat} {V : Value} {x : DataW H × List MemPlace} (h : DataW.trod enc Try.prog W 0 (fun _ => true) true fuel 74 [V] = some x) (hw : ∀ y ∈ x.1.weights Try.prog 74, y ≤ reachBytes) :
    ∃ sp q o n c, ∃ t : Nat → LN, V = .slice sp n c ∧ (0 < n → sp = some ⟨q, o, none⟩) ∧ n ≤ 5864062014634 ∧ (∀ j i, (t j).kf i < 256) ∧ (∀ j, j < n → (t j).kn ≤ 140737488351232) ∧ (∀ j, j < n → (t j).kp = none → (t j).kn = 0 ∧ (t j).kc = 0) ∧ Ln W q o n t := by
  rcases open_slice1 uLS lsCells h with ⟨hcs, _⟩ | ⟨a, len, cap, m, k, V1, D1, P1, hcs, _, hl, hm, hmm, rfl, hx⟩
  · obtain rfl : V = .slice none 0 0 := by simpa using hcs
    exact ⟨none, 0, 0, 0, 0, fun _ => ⟨none, 0, 0, fun _ => 0⟩, rfl, fun h => absurd h (Nat.lt_irrefl _), by decide, fun _ _ => by show 0 < 256; decide, fun j hj => absurd hj (Nat.not_lt_zero _), fun j hj => absurd hj (Nat.not_lt_zero _), fun j hj => absurd hj (Nat.not_lt_zero _)⟩
  · obtain rfl : V = .slice (some a) len cap := by simpa using hcs
    simp only [if_true] at hmm
    subst hmm
    have hlen : len ≤ 5864062014634 := by
      have h8 := hw ((((List.range len).map D1).length + ((List.range (m - len)).map fun j => D1 (len + j)).length) * Try.prog.bytesOf 39) (by simp [DataW.weights, uLS])
      rw [lsBytes, reach_is] at h8
      simp at h8
      omega
    have key : ∀ i, ∃ T : LN, (∀ j, T.kf j < 256) ∧ (i < len → T.kn ≤ 140737488351232 ∧ (T.kp = none → T.kn = 0 ∧ T.kc = 0) ∧ W.cell? (a.add i) = some (.slice T.kp T.kn T.kc) ∧ By W T.kp T.kn T.kf) := fun i => by
      by_cases hi : i < len
      · obtain ⟨h0, h3⟩ := hx i (by omega)
        obtain ⟨kp, kn, kc, kf, e1, hn, hin, h256, hk⟩ := openBy h3 (fun y hy => hw y (by
          simp only [DataW.weights, uLS]
          exact List.mem_cons_of_mem _ (List.mem_append.2 (.inl (weightsAll_mem (d := D1 i) (List.mem_map.2 ⟨i, List.mem_range.2 hi, rfl⟩) hy)))))
        exact ⟨⟨kp, kn, kc, kf⟩, h256, fun _ => ⟨hk, hn, by rw [h0, e1], hin⟩⟩
      · exact ⟨⟨none, 0, 0, fun _ => 0⟩, fun _ => by show 0 < 256; decide, fun h => absurd h hi⟩
    obtain ⟨t, ht⟩ := Classical.axiomOfChoice key
    refine ⟨some a, a.block, a.off, len, _, t, rfl, fun h0 => ?_, hlen, fun j i => (ht j).1 i, fun j hj => ((ht j).2 hj).1, fun j hj => ((ht j).2 hj).2.1, fun j hj => ?_⟩
    · have hc := ((ht 0).2 h0).2.2.1
      rw [Addr.add_zero'] at hc
      rw [← spot_no hc]
    · have hc := ((ht 0).2 (by omega)).2.2.1
      rw [Addr.add_zero'] at hc
      have ha := spot_no hc
      obtain ⟨_, _, h1, h2⟩ := (ht j).2 hj
      rw [ha, Addr.add_lit] at h1
      exact ⟨h1, h2⟩
end Go.Proofs.Ytbiilklihieomaa
