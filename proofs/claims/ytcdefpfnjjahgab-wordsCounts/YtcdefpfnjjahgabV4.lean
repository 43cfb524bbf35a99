/- A list of rows that came in, opened. -/
import Derived.Test.YtcdefpfnjjahgabV2
import Derived.Test.YtcdefpfnjjahgabChecked
import Derived.ChangeSlices
import Derived.Deep.SlicePairs
import Derived.OpenShut
import Derived.ProofKit
import Derived.SizedLaws
namespace Go.Proofs.Ytcdefpfnjjahgab
open Go.ChangeShapes Go.WideShapes Go.RowKit Go.ChangeAt Go.Deep
set_option linter.unusedVariables false
set_option linter.unusedSimpArgs false

theorem vrCells : Try.prog.cellsOf 31 = 2 := by kernel_rfl
theorem viCells : Try.prog.cellsOf 3 = 1 := by kernel_rfl
theorem vwsCells : Try.prog.cellsOf 29 = 1 := by kernel_rfl
theorem vwCells : Try.prog.cellsOf 22 = 1 := by kernel_rfl
theorem vrBytes : Try.prog.bytesOf 31 = 32 := by kernel_rfl
theorem vwBytes : Try.prog.bytesOf 22 = 8 := by kernel_rfl
theorem vuWS : Try.prog.underlying 29 = some (.slice 22) := by kernel_rfl
theorem vuRS : Try.prog.underlying 28 = some (.slice 31) := by kernel_rfl
theorem vuI : Try.prog.underlying 3 = some (.int .i64) := by kernel_rfl
theorem vuW : Try.prog.underlying 22 = some (.int .u64) := by kernel_rfl
theorem vbd {x : Int} (h : (Lit.int .u64 x).wf = true) : 0 ≤ x ∧ x < 18446744073709551616 := by
  simp [Lit.wf, IntKind.min, IntKind.max, IntKind.signed, IntKind.bits] at h
  omega
theorem vreach : reachBytes = 140737488351232 := by decide
theorem vweights {H : Type} {P : Program} {e : TypeId} {x : Nat} {d : DataW H} : ∀ {l : List (DataW H)}, d ∈ l → x ∈ d.weights P e → x ∈ DataW.weightsAll P e l
  | [], h, _ => by cases h
  | a :: l, h, hx => by
    rw [DataW.weightsAll, List.mem_append]
    rcases List.mem_cons.1 h with rfl | h
    · exact .inl hx
    · exact .inr (vweights h hx)
theorem vspot {w : World} {a : Addr} {v : Value} (h : w.cell? a = some v) : a = ⟨a.block, a.off, none⟩ := by
  obtain ⟨b, o, sp⟩ := a
  cases sp with
  | none => rfl
  | some x =>
    unfold World.cell? at h
    split at h
    · simp at h
    · cases h
set_option maxRecDepth 100000 in
set_option maxHeartbeats 1000000 in
theorem openWs {H : Type} {enc : TypeId × Value → H} {W : World} {fuel : Nat} {V : Value} {x : DataW H × List MemPlace} (h : DataW.trod enc Try.prog W 0 (fun _ => true) true fuel 29 [V] = some x) (hw : ∀ y ∈ x.1.weights Try.prog 29, y ≤ reachBytes) :
    ∃ sp n c f, V = .slice sp n c ∧ (sp = none → n = 0 ∧ c = 0) ∧ Wd W sp n f ∧ (∀ k, k < n → f k < 18446744073709551616) ∧ n ≤ 17592186043904 := by
  rcases open_ints vuWS vuW vwCells h with ⟨hcs, _⟩ | ⟨a, len, cap, zs, hcs, _, hl, hm, hz, hxe, hcell, hwf⟩
  · obtain rfl : V = .slice none 0 0 := by simpa using hcs
    exact ⟨none, 0, 0, fun _ => 0, rfl, fun _ => ⟨rfl, rfl⟩, fun k hk => absurd hk (Nat.not_lt_zero _), fun k hk => absurd hk (Nat.not_lt_zero _), by decide⟩
  · obtain rfl : V = .slice (some a) len cap := by simpa using hcs
    simp only [if_true] at hz
    have hb : ∀ k, 0 ≤ zs.getD k 0 ∧ zs.getD k 0 < 18446744073709551616 := fun k => by
      by_cases hk : k < zs.length
      · have e : zs.getD k 0 = zs[k] := by simp [hk]
        rw [e]
        exact vbd (hwf _ (List.getElem_mem hk))
      · have e : zs.getD k 0 = 0 := by simp [hk]
        rw [e]; decide
    refine ⟨some a, len, cap, fun k => (zs.getD k 0).toNat, rfl, (fun h => by cases h), fun k hk => ⟨a, rfl, ?_⟩, fun k hk => ?_, ?_⟩
    · rw [hcell k (by omega), Int.toNat_of_nonneg (hb k).1]
    · have := hb k; show (zs.getD k 0).toNat < 18446744073709551616; omega
    · subst hxe
      have h8 := hw (((lits IntKind.u64 (zs.take len) : List (DataW H)).length + (lits IntKind.u64 (zs.drop len) : List (DataW H)).length) * Try.prog.bytesOf 22) (by simp [DataW.weights, vuWS])
      rw [vwBytes, vreach] at h8
      simp [lits] at h8
      omega
set_option maxRecDepth 100000 in
set_option maxHeartbeats 1000000 in
theorem openRows {H : Type} {enc : TypeId × Value → H} {W : World} {fuel : Nat} {V : Value} {x : DataW H × List MemPlace} (h : DataW.trod enc Try.prog W 0 (fun _ => true) true fuel 28 [V] = some x) (hw : ∀ y ∈ x.1.weights Try.prog 28, y ≤ reachBytes) :
    ∃ sp q o n c, ∃ r : Nat → RD, V = .slice sp n c ∧ (0 < n → sp = some ⟨q, o, none⟩) ∧ n ≤ 4398046510976 ∧ (∀ j, j < n → (r j).n ≤ 17592186043904) ∧ (∀ j, j < n → (r j).sp = none → (r j).n = 0 ∧ (r j).cap = 0) ∧ RwsO W q o n r := by
  rcases open_slice_pairs vuRS Try.underlying31 vrCells rfl rfl viCells vwsCells h with ⟨hcs, _⟩ | ⟨a, len, cap, m, k, V0, V1, D0, D1, P0, P1, hcs, _, hl, hm, hmm, rfl, hx⟩
  · obtain rfl : V = .slice none 0 0 := by simpa using hcs
    exact ⟨none, 0, 0, 0, 0, fun _ => ⟨0, none, 0, 0, fun _ => 0⟩, rfl, fun h => absurd h (Nat.lt_irrefl _), by decide, fun j hj => absurd hj (Nat.not_lt_zero _), fun j hj => absurd hj (Nat.not_lt_zero _), fun j hj => absurd hj (Nat.not_lt_zero _)⟩
  · obtain rfl : V = .slice (some a) len cap := by simpa using hcs
    simp only [if_true] at hmm
    subst hmm
    have hlen : len ≤ 4398046510976 := by
      have h8 := hw ((((List.range len).map fun i => (DataW.agg [D0 i, D1 i] : DataW H)).length + ((List.range (m - len)).map fun j => (DataW.agg [D0 (len + j), D1 (len + j)] : DataW H)).length) * Try.prog.bytesOf 31) (by simp [DataW.weights, vuRS])
      rw [vrBytes, vreach] at h8
      simp at h8
      omega
    have key : ∀ i, ∃ T : RD, (i < len → T.n ≤ 17592186043904 ∧ (T.sp = none → T.n = 0 ∧ T.cap = 0) ∧ W.cell? (a.add (i * 2)) = some (.int .i64 T.N) ∧ W.cell? (a.add (i * 2 + 1)) = some (.slice T.sp T.n T.cap) ∧ T.ok W) := fun i => by
      by_cases hi : i < len
      · obtain ⟨h0, h1, h2, h3⟩ := hx i (by omega)
        obtain ⟨z, e0, _, hwf⟩ := DataW.trod_int vuI h2
        have e0' : V0 i = .int .i64 z := by simpa using e0
        obtain ⟨kp, kn, kc, kf, e1, hn, hin, hfl, hk⟩ := openWs h3 (fun y hy => hw y (by
          simp only [DataW.weights, vuRS]
          refine List.mem_cons_of_mem _ (List.mem_append.2 (.inl (vweights (d := .agg [D0 i, D1 i]) (List.mem_map.2 ⟨i, List.mem_range.2 hi, rfl⟩) ?_)))
          simp only [DataW.weights, Try.underlying31]
          exact DataW.weights_mem_each (j := 1) (t := 29) (d := D1 i) rfl rfl y hy))
        refine ⟨⟨z, kp, kn, kc, kf⟩, fun _ => ⟨hk, hn, ?_, ?_, hin, hfl, by show kn ≤ _; omega⟩⟩
        · rw [h0, e0']
        · rw [h1, e1]
      · exact ⟨⟨0, none, 0, 0, fun _ => 0⟩, fun h => absurd h hi⟩
    obtain ⟨r, ht⟩ := Classical.axiomOfChoice key
    refine ⟨some a, a.block, a.off, len, _, r, rfl, fun h0 => ?_, hlen, fun j hj => ((ht j) hj).1, fun j hj => ((ht j) hj).2.1, fun j hj => ?_⟩
    · have hc := ((ht 0) h0).2.2.1
      rw [Nat.zero_mul, Addr.add_zero'] at hc
      rw [← vspot hc]
    · have hc := ((ht 0) (by omega)).2.2.1
      rw [Nat.zero_mul, Addr.add_zero'] at hc
      have ha := vspot hc
      obtain ⟨_, _, h1, h2, h3⟩ := (ht j) hj
      rw [ha, Addr.add_lit] at h1 h2
      exact ⟨h1, by rw [Nat.add_assoc]; exact h2, h3⟩
end Go.Proofs.Ytcdefpfnjjahgab
