/- THE STATEMENT WordsEach: for every input the call returns true, and what came in reads afterwards as it read before. No condition. -/
import Derived.Test.YtcdefpfnjjahgacRows
import Derived.Test.YtcdefpfnjjahgacW22
import Derived.ProofKit
import Derived.OpenShut
import Derived.ChangeOld
import Derived.Carry
import Derived.Deep.Grids
namespace Go.Proofs.Ytcdefpfnjjahgac.wordsEach
open Go.ChangeShapes Go.WideShapes Go.ChangeAt Go.RowKit Go.Deep
set_option linter.unusedVariables false

theorem own : ownKnob Try.prog.godebug = none := by kernel_rfl
theorem laidOut : laidOutB Try.prog = true := by kernel_rfl
theorem u0 : Try.prog.underlying 22 = some (.slice 24) := by kernel_rfl
theorem u1 : Try.prog.underlying 24 = some (.slice 4) := by kernel_rfl
theorem u2 : Try.prog.underlying 4 = some .bool := by kernel_rfl
theorem c1 : Try.prog.cellsOf 24 = 1 := by kernel_rfl
theorem c2 : Try.prog.cellsOf 4 = 1 := by kernel_rfl

theorem openGrid {H : Type} {enc : TypeId × Value → H} {W : World} {r : Reach} {b0 : Nat} {v : Value} {d : DataW H} {p : List MemPlace}
    (hv : Value.okWide Try.prog W r b0 22 v) (h : DataW.Trod enc Try.prog W 0 (fun _ => true) true 22 v d p) :
    ∃ sp K c AA L C BB, v = .slice sp K c ∧ (K ≤ c ∧ c ≤ 9223372036854775807) ∧ Gd W sp K AA L C BB := by
  obtain ⟨a, len, cap, rfl⟩ := okWide_slice u0 hv
  obtain ⟨fuel, hf⟩ := h
  rcases open_bool_rows u0 u1 u2 c1 c2 hf with ⟨hcs, _⟩ | ⟨a', len', cap', AA, L, C, B, hcs, _, hl, hm, _, hc⟩
  · simp [Value.cells] at hcs
    obtain ⟨rfl, rfl, rfl⟩ := hcs
    exact ⟨none, 0, 0, fun _ => none, fun _ => 0, fun _ => 0, fun _ _ => false, rfl, ⟨Nat.le_refl _, by decide⟩, fun k hk => absurd hk (Nat.not_lt_zero _)⟩
  · simp [Value.cells] at hcs
    obtain ⟨rfl, rfl, rfl⟩ := hcs
    refine ⟨_, _, _, AA, L, C, B, rfl, ⟨hl, hm⟩, fun k hk => ?_⟩
    obtain ⟨h1, h2, h3, h4, h5⟩ := hc k (by omega)
    refine ⟨_, rfl, h1, h2, h3, fun t ht => ?_⟩
    cases hA : AA k with
    | none => have := h4 hA; omega
    | some a2 => exact ⟨a2, rfl, (h5 a2 hA).2 t (by omega)⟩

set_option maxRecDepth 100000 in
theorem lifted (os : Os) (started : os.Started) (H : Type) (enc : TypeId × Value → H) :
    ReturnsInHanded {} Try.checked os 3 .any (Rows.wordsEachSpec.pre6 enc Try.prog Try.f3 Rows.wordsEachRow.domain false) (Rows.wordsEachSpec.post enc Try.prog Try.f3 false true false false) := by
  refine returnsInHanded_of_change (C := Try.checked) own started (by kernel_rfl) Try.func3
    (ChangeSpec.witness6 (enc := enc) (C := Try.checked) false ⟨#[], #[.slice none 0 0], []⟩ 8 (by kernel_rfl) (by kernel_rfl) (by kernel_rfl) (by kernel_rfl)) ?_
  intro W base args ds gs before hval0 hW hcnd _
  have hval : ∀ (j : Nat) t v, Try.f3.params[j]? = some t → args[j]? = some v → Value.okWide Try.prog W .any base t v := hval0
  have hW' := hW
  obtain ⟨p, q, hA0, hV, rfl, hfz, hnd⟩ := hW
  have hA : DataW.TrodAll enc Try.prog W 0 (fun _ => true) true Try.f3.params.toList args.toList ds p := hA0
  rw [Try.params3] at hA hval
  obtain ⟨v0, vs0, d0, ds0, p0, q0, hargs, rfl, rfl, h0, r0⟩ := trodAll_cons hA
  obtain ⟨rfl, rfl, rfl⟩ := trodAll_nil r0
  obtain rfl : args = #[v0] := by cases args; simp_all
  obtain ⟨rfl, rfl⟩ := trodVars_none hV
  have k0 := h0
  have lt0 : ∀ x ∈ p0, x.block < W.heap.size := by obtain ⟨m, hm⟩ := k0; exact DataW.trod_lt m _ _ _ hm
  obtain ⟨sp, K, c, AA, L, C, BB, rfl, b0, e0⟩ := openGrid (hval 0 _ v0 rfl rfl) h0
  clear hA0 hval0
  refine (walkEach K c sp AA L C BB b0 W e0).mono fun e W' ⟨he, bel⟩ => ?_
  subst he
  exact ⟨_, rfl, _, _, _, [], _, [], hW', trodAll_mk1 (shut_bool Try.underlying4 _), (trodAll_cons_mk (Below.trod laidOut (by kernel_rfl) (of_decide_eq_true (by kernel_rfl)) k0 bel lt0) trodAll_mk0), rfl, bel.frame _, fun h => by cases h⟩

theorem over : Rows.wordsEachRow.holds Try.pinned (OpenSpec.ofChange Rows.wordsEachSpec) :=
  OpenClaim.holds_of_wide 3 Try.f3 rfl rfl rfl rfl rfl rfl rfl ⟨rfl, rfl, rfl, rfl, rfl⟩ rfl rfl rfl rfl rfl (by kernel_rfl) Try.func3 (by kernel_rfl)
    (of_decide_eq_true (by kernel_rfl)) (by unfold Func.isWrapper; first | (rw [if_pos (by decide +kernel)]; kernel_rfl) | (rw [if_neg (by decide +kernel)]; exact ⟨rfl, rfl⟩))
    (fun os started H enc _ => lifted os started H enc)
end Go.Proofs.Ytcdefpfnjjahgac.wordsEach
namespace Go.Proofs.Ytcdefpfnjjahgac
theorem wordsEach_holds : Rows.WordsEachSaid := wordsEach.over
#print axioms wordsEach_holds
end Go.Proofs.Ytcdefpfnjjahgac
