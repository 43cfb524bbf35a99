/- A tree that came in, opened. -/
import Derived.Test.YteaionmjbkildacDoorQ20
import Derived.Test.YteaionmjbkildacDoorChecked
import Derived.ChangeSlices
import Derived.Deep.SlicePairs
import Derived.OpenShut
import Derived.ProofKit
import Derived.SizedLaws
namespace Go.Proofs.YteaionmjbkildacDoor
open Go.ChangeShapes Go.WideShapes Go.RowKit Go.ChangeAt Go.Deep
set_option linter.unusedVariables false
set_option linter.unusedSimpArgs false

theorem tCells : Tryd.prog.cellsOf 24 = 4 := by kernel_rfl
theorem bCells : Tryd.prog.cellsOf 48 = 2 := by kernel_rfl
theorem iCells : Tryd.prog.cellsOf 3 = 1 := by kernel_rfl
theorem isCells : Tryd.prog.cellsOf 43 = 1 := by kernel_rfl
theorem u8Cells : Tryd.prog.cellsOf 5 = 1 := by kernel_rfl
theorem bBytes : Tryd.prog.bytesOf 48 = 32 := by kernel_rfl
theorem iBytes : Tryd.prog.bytesOf 3 = 8 := by kernel_rfl
theorem u8Bytes : Tryd.prog.bytesOf 5 = 1 := by kernel_rfl
theorem uIS : Tryd.prog.underlying 43 = some (.slice 3) := by kernel_rfl
theorem uBS : Tryd.prog.underlying 22 = some (.slice 48) := by kernel_rfl
theorem u8S : Tryd.prog.underlying 35 = some (.slice 5) := by kernel_rfl
theorem uI : Tryd.prog.underlying 3 = some (.int .i64) := by kernel_rfl
theorem uU : Tryd.prog.underlying 5 = some (.int .u8) := by kernel_rfl
theorem array4 {α : Type} {cs : Array α} (h : cs.size = 4) : ∃ c0 c1 c2 c3, cs = #[c0, c1, c2, c3] := by
  obtain ⟨l⟩ := cs
  match l, h with
  | [c0, c1, c2, c3], _ => exact ⟨c0, c1, c2, c3, rfl⟩
theorem rField {H : Type} {enc : TypeId × Value → H} {P : Program} {W : World} {base n i : Nat} {spare : Nat → Bool} {held : Bool} {f : Field} {cs : List Value} {y : Option (DataW H × List MemPlace)} {k : IntKind} {c : Value}
    (ht : P.underlying f.type = some (.int k)) (ho : f.offset = i ∧ P.cellsOf f.type = 1) (hc : cs[i]? = some c) (hy : y.isSome = true)
    (h : DataW.trod enc P W base spare held n f.type ((cs.drop f.offset).take (P.cellsOf f.type)) = y) : ∃ x, c = .int k x ∧ (Lit.int k x).wf = true := by
  obtain ⟨y', rfl⟩ := Option.isSome_iff_exists.1 hy
  obtain ⟨x, h1, _, h3⟩ := DataW.trod_int ht h
  rw [ho.1, ho.2] at h1
  obtain ⟨hi, he⟩ := List.getElem?_eq_some_iff.1 hc
  have : (cs.drop i).take 1 = [cs[i]] := by rw [List.drop_eq_getElem_cons hi]; rfl
  rw [this] at h1
  refine ⟨x, ?_, h3⟩
  rw [← he]
  simpa using h1
theorem bdu {x : Int} (h : (Lit.int .u8 x).wf = true) : 0 ≤ x ∧ x < 256 := by
  simp [Lit.wf, IntKind.min, IntKind.max, IntKind.signed, IntKind.bits] at h
  omega
theorem reach_is : reachBytes = 140737488351232 := by decide
theorem weightsAll_mem {H : Type} {P : Program} {e : TypeId} {x : Nat} {d : DataW H} : ∀ {l : List (DataW H)}, d ∈ l → x ∈ d.weights P e → x ∈ DataW.weightsAll P e l
  | [], h, _ => by cases h
  | a :: l, h, hx => by
    rw [DataW.weightsAll, List.mem_append]
    rcases List.mem_cons.1 h with rfl | h
    · exact .inl hx
    · exact .inr (weightsAll_mem h hx)
theorem spot_no {w : World} {a : Addr} {v : Value} (h : w.cell? a = some v) : a = ⟨a.block, a.off, none⟩ := by
  obtain ⟨b, o, sp⟩ := a
  cases sp with
  | none => rfl
  | some x =>
    unfold World.cell? at h
    split at h
    · simp at h
    · cases h
set_option maxRecDepth 100000 in
set_option maxHeartbeats 2000000 in
theorem openKids {H : Type} {enc : TypeId × Value → H} {W : World} {fuel : Nat} {V : Value} {x : DataW H × List MemPlace} (h : DataW.trod enc Tryd.prog W 0 (fun _ => true) true fuel 43 [V] = some x) (hw : ∀ y ∈ x.1.weights Tryd.prog 43, y ≤ reachBytes) :
    ∃ kp kn kc kf, V = .slice kp kn kc ∧ (kp = none → kn = 0 ∧ kc = 0) ∧ In W kp kn kf ∧ kn ≤ 17592186043904 := by
  rcases open_ints uIS uI iCells h with ⟨hcs, _⟩ | ⟨a, len, cap, zs, hcs, _, hl, hm, hz, hxe, hcell, hwf⟩
  · obtain rfl : V = .slice none 0 0 := by simpa using hcs
    exact ⟨none, 0, 0, fun _ => 0, rfl, fun _ => ⟨rfl, rfl⟩, fun k hk => absurd hk (Nat.not_lt_zero _), by decide⟩
  · obtain rfl : V = .slice (some a) len cap := by simpa using hcs
    simp only [if_true] at hz
    refine ⟨some a, len, cap, fun k => zs.getD k 0, rfl, (fun h => by cases h), fun k hk => ⟨a, rfl, hcell k (by omega)⟩, ?_⟩
    subst hxe
    have h8 := hw (((lits IntKind.i64 (zs.take len) : List (DataW H)).length + (lits IntKind.i64 (zs.drop len) : List (DataW H)).length) * Tryd.prog.bytesOf 3) (by simp [DataW.weights, uIS])
    rw [iBytes, reach_is] at h8
    simp [lits] at h8
    omega
set_option maxRecDepth 100000 in
set_option maxHeartbeats 2000000 in
theorem openBy {H : Type} {enc : TypeId × Value → H} {W : World} {fuel : Nat} {V : Value} {x : DataW H × List MemPlace} (h : DataW.trod enc Tryd.prog W 0 (fun _ => true) true fuel 35 [V] = some x) (hw : ∀ y ∈ x.1.weights Tryd.prog 35, y ≤ reachBytes) :
    ∃ sa m ca f, V = .slice sa m ca ∧ (sa = none → m = 0 ∧ ca = 0) ∧ By W sa m f ∧ (∀ i, f i < 256) ∧ m ≤ 140737488351232 := by
  rcases open_ints u8S uU u8Cells h with ⟨hcs, _⟩ | ⟨a, len, cap, zs, hcs, _, hl, hm, hz, hxe, hcell, hwf⟩
  · obtain rfl : V = .slice none 0 0 := by simpa using hcs
    exact ⟨none, 0, 0, fun _ => 0, rfl, fun _ => ⟨rfl, rfl⟩, fun k hk => absurd hk (Nat.not_lt_zero _), fun _ => by show 0 < 256; decide, by decide⟩
  · obtain rfl : V = .slice (some a) len cap := by simpa using hcs
    simp only [if_true] at hz
    have hb : ∀ k, 0 ≤ zs.getD k 0 ∧ zs.getD k 0 < 256 := fun k => by
      by_cases hk : k < zs.length
      · have e : zs.getD k 0 = zs[k] := by simp [hk]
        rw [e]
        exact bdu (hwf _ (List.getElem_mem hk))
      · have e : zs.getD k 0 = 0 := by simp [hk]
        rw [e]; decide
    refine ⟨some a, len, cap, fun k => (zs.getD k 0).toNat, rfl, (fun h => by cases h), fun k hk => ⟨a, rfl, ?_⟩, fun k => ?_, ?_⟩
    · rw [hcell k (by omega), Int.toNat_of_nonneg (hb k).1]
    · have := hb k; show (zs.getD k 0).toNat < 256; omega
    · subst hxe
      have h8 := hw (((lits IntKind.u8 (zs.take len) : List (DataW H)).length + (lits IntKind.u8 (zs.drop len) : List (DataW H)).length) * Tryd.prog.bytesOf 5) (by simp [DataW.weights, u8S])
      rw [u8Bytes, reach_is] at h8
      simp [lits] at h8
      omega
set_option maxRecDepth 100000 in
set_option maxHeartbeats 2000000 in
theorem openNodes {H : Type} {enc : TypeId × Value → H} {W : World} {fuel : Nat} {V : Value} {x : DataW H × List MemPlace} (h : DataW.trod enc Tryd.prog W 0 (fun _ => true) true fuel 22 [V] = some x) (hw : ∀ y ∈ x.1.weights Tryd.prog 22, y ≤ reachBytes) :
    ∃ sp q o n c, ∃ t : Nat → TN, V = .slice sp n c ∧ (0 < n → sp = some ⟨q, o, none⟩) ∧ n ≤ 4398046510976 ∧ (∀ j, (t j).st < 256) ∧ (∀ j, j < n → (t j).kn ≤ 17592186043904) ∧ (∀ j, j < n → (t j).kp = none → (t j).kn = 0 ∧ (t j).kc = 0) ∧ Tn W q o n t := by
  rcases open_slice_pairs uBS Tryd.underlying48 bCells rfl rfl u8Cells isCells h with ⟨hcs, _⟩ | ⟨a, len, cap, m, k, V0, V1, D0, D1, P0, P1, hcs, _, hl, hm, hmm, rfl, hx⟩
  · obtain rfl : V = .slice none 0 0 := by simpa using hcs
    exact ⟨none, 0, 0, 0, 0, fun _ => ⟨0, none, 0, 0, fun _ => 0⟩, rfl, fun h => absurd h (Nat.lt_irrefl _), by decide, fun _ => by show 0 < 256; decide, fun j hj => absurd hj (Nat.not_lt_zero _), fun j hj => absurd hj (Nat.not_lt_zero _), fun j hj => absurd hj (Nat.not_lt_zero _)⟩
  · obtain rfl : V = .slice (some a) len cap := by simpa using hcs
    simp only [if_true] at hmm
    subst hmm
    have hlen : len ≤ 4398046510976 := by
      have h8 := hw ((((List.range len).map fun i => (DataW.agg [D0 i, D1 i] : DataW H)).length + ((List.range (m - len)).map fun j => (DataW.agg [D0 (len + j), D1 (len + j)] : DataW H)).length) * Tryd.prog.bytesOf 48) (by simp [DataW.weights, uBS])
      rw [bBytes, reach_is] at h8
      simp at h8
      omega
    have key : ∀ i, ∃ T : TN, T.st < 256 ∧ (i < len → T.kn ≤ 17592186043904 ∧ (T.kp = none → T.kn = 0 ∧ T.kc = 0) ∧ W.cell? (a.add (i * 2)) = some (.int .u8 (T.st : Nat)) ∧ W.cell? (a.add (i * 2 + 1)) = some (.slice T.kp T.kn T.kc) ∧ In W T.kp T.kn T.kf) := fun i => by
      by_cases hi : i < len
      · obtain ⟨h0, h1, h2, h3⟩ := hx i (by omega)
        obtain ⟨z, e0, _, hwf⟩ := DataW.trod_int uU h2
        have e0' : V0 i = .int .u8 z := by simpa using e0
        have hz := bdu hwf
        obtain ⟨kp, kn, kc, kf, e1, hn, hin, hk⟩ := openKids h3 (fun y hy => hw y (by
          simp only [DataW.weights, uBS]
          refine List.mem_cons_of_mem _ (List.mem_append.2 (.inl (weightsAll_mem (d := .agg [D0 i, D1 i]) (List.mem_map.2 ⟨i, List.mem_range.2 hi, rfl⟩) ?_)))
          simp only [DataW.weights, Tryd.underlying48]
          exact DataW.weights_mem_each (j := 1) (t := 43) (d := D1 i) rfl rfl y hy))
        refine ⟨⟨z.toNat, kp, kn, kc, kf⟩, by show z.toNat < 256; omega, fun _ => ⟨hk, hn, ?_, ?_, hin⟩⟩
        · rw [h0, e0']
          show some (Value.int .u8 z) = some (.int .u8 (z.toNat : Int))
          rw [Int.toNat_of_nonneg hz.1]
        · rw [h1, e1]
      · exact ⟨⟨0, none, 0, 0, fun _ => 0⟩, by show 0 < 256; decide, fun h => absurd h hi⟩
    obtain ⟨t, ht⟩ := Classical.axiomOfChoice key
    refine ⟨some a, a.block, a.off, len, _, t, rfl, fun h0 => ?_, hlen, fun j => (ht j).1, fun j hj => ((ht j).2 hj).1, fun j hj => ((ht j).2 hj).2.1, fun j hj => ?_⟩
    · have hc := ((ht 0).2 h0).2.2.1
      rw [Nat.zero_mul, Addr.add_zero'] at hc
      rw [← spot_no hc]
    · have hc := ((ht 0).2 (by omega)).2.2.1
      rw [Nat.zero_mul, Addr.add_zero'] at hc
      have ha := spot_no hc
      obtain ⟨_, _, h1, h2, h3⟩ := (ht j).2 hj
      rw [ha, Addr.add_lit] at h1 h2
      exact ⟨h1, by rw [Nat.add_assoc]; exact h2, h3⟩
set_option maxRecDepth 100000 in
set_option maxHeartbeats 2000000 in
theorem openTree {H : Type} {enc : TypeId × Value → H} {W : World} {r : Reach} {b0 : Nat} {v : Value} {d : DataW H} {p : List MemPlace}
    (hv : Value.okWide Tryd.prog W r b0 24 v) (h : DataW.Trod enc Tryd.prog W 0 (fun _ => true) true 24 v d p) (hw : ∀ y ∈ d.weights Tryd.prog 24, y ≤ reachBytes) :
    ∃ (S I R : Int) (sp : Option Addr) (q o n c : Nat) (t : Nat → TN), v = .agg #[.int .i64 S, .int .i64 I, .slice sp n c, .int .i64 R] ∧ (0 < n → sp = some ⟨q, o, none⟩) ∧ n ≤ 4398046510976 ∧ (∀ j, (t j).st < 256) ∧ (∀ j, j < n → (t j).kn ≤ 17592186043904) ∧ (∀ j, j < n → (t j).kp = none → (t j).kn = 0 ∧ (t j).kc = 0) ∧ Tn W q o n t := by
  obtain ⟨cs, rfl, hsz⟩ := okWide_struct Tryd.underlying24 hv
  obtain ⟨c0, c1, c2, c3, rfl⟩ := array4 (hsz.trans tCells)
  obtain ⟨fuel, hf⟩ := h
  obtain ⟨xs, n, _, hx, _, hlen, hfs⟩ := DataW.trod_struct Tryd.underlying24 hf
  have hl4 : xs.length = 4 := hlen
  obtain ⟨x0, x1, x2, x3, rfl⟩ : ∃ x0 x1 x2 x3, xs = [x0, x1, x2, x3] := by
    match xs, hl4 with
    | [x0, x1, x2, x3], _ => exact ⟨x0, x1, x2, x3, rfl⟩
  have g0 := hfs 0 _ rfl
  have g1 := hfs 1 _ rfl
  have g3 := hfs 3 _ rfl
  obtain ⟨S, rfl, q0⟩ := rField uI (i := 0) (c := c0) ⟨rfl, by kernel_rfl⟩ rfl rfl g0
  obtain ⟨I, rfl, q1⟩ := rField uI (i := 1) (c := c1) ⟨rfl, by kernel_rfl⟩ rfl rfl g1
  obtain ⟨R, rfl, q3⟩ := rField uI (i := 3) (c := c3) ⟨rfl, by kernel_rfl⟩ rfl rfl g3
  have g2 := hfs 2 _ rfl
  have g2' : DataW.trod enc Tryd.prog W 0 (fun _ => true) true n 22 [c2] = some x2 := g2
  have hd := congrArg Prod.fst hx
  obtain ⟨sp, q, o, m, c, t, rfl, h1, h2, h3, h4, h5, h6⟩ := openNodes g2' (fun y hy => hw y (by
    rw [show d = .agg [x0.1, x1.1, x2.1, x3.1] from hd]
    simp only [DataW.weights, Tryd.underlying24]
    exact DataW.weights_mem_each (j := 2) (t := 22) (d := x2.1) rfl rfl y hy))
  exact ⟨S, I, R, sp, q, o, m, c, t, rfl, h1, h2, h3, h4, h5, h6⟩
end Go.Proofs.YteaionmjbkildacDoor
