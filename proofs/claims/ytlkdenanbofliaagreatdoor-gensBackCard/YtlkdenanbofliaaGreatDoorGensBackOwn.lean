/- THE STATEMENT GensBack: for every input the call returns true, and what came in reads afterwards as it read before, where the listed package-level variables (the program's own table of neighbourhoods; of the library tables of math/bits, internal/strconv and unicode/utf8, two errors of strconv) hold what the program's text lays in them. The card ties that to the program's text. -/
import Derived.Test.YtlkdenanbofliaaGreatDoorG16
import Derived.Test.YtlkdenanbofliaaGreatDoorFlat
import Derived.Test.YtlkdenanbofliaaGreatDoorOpenG
import Derived.Test.YtlkdenanbofliaaGreatDoorCards
import Derived.Test.YtlkdenanbofliaaGreatDoorTie
import Derived.ProofKit
import Derived.LaidMore
import Derived.Lay
import Derived.OpenShut
import Derived.ChangeOld
import Derived.Carry
import Derived.Stop.Joined
import Derived.Stop.LaidErr
import Derived.SizedLaws
import Derived.SevenTiedAt
import Derived.ShutString
import Derived.Lib.LaidTab
import Derived.Shelf.Vars
namespace Go.Proofs.YtlkdenanbofliaaGreatDoor.gensBack
open Go.ChangeShapes Go.WideShapes Go.ChangeAt Go.RowKit
open Go.ChangeMaps (open_string shut_string)
set_option linter.unusedVariables false

theorem bdu8 {x : Int} (h : (Lit.int .u8 x).wf = true) : 0 ≤ x ∧ x ≤ 255 := by simpa [Lit.wf, IntKind.min, IntKind.max, IntKind.signed, IntKind.bits] using h
theorem bd64 {x : Int} (h : (Lit.int .i64 x).wf = true) : -9223372036854775808 ≤ x ∧ x ≤ 9223372036854775807 := by simpa [Lit.wf, IntKind.min, IntKind.max, IntKind.signed, IntKind.bits] using h
theorem own : ownKnob Tryz.prog.godebug = none := by kernel_rfl
theorem laidOut : laidOutB Tryz.prog = true := by kernel_rfl
theorem gHv : Tryz.prog.globalNamed "vivarium/hood.hoods" = some 0 := by kernel_rfl
theorem gHvType : (Tryz.prog.globals[0]?).map (·.type) = some 143 := by kernel_rfl
theorem flatHv : flat (H := Unit) Rows.laid_vivarium_hood_hoods = hvC.toList := by kernel_rfl
theorem gERType : (Tryz.prog.globals[8]?).map (·.type) = some 113 := by kernel_rfl
theorem cellsErr : Tryz.prog.cellsOf 183 = 1 := by kernel_rfl
theorem cellsStr : Tryz.prog.cellsOf 9 = 1 := by kernel_rfl
theorem star : "*" ++ "errors.errorString" = "*errors.errorString" := by decide
theorem rowErr (u : TypeId) (h : Tryz.prog.typeName? 3 u = some "*errors.errorString") : u = 181 :=
  typeName_ptr_named (nm := "errors.errorString") (by rw [star]; kernel_rfl) (by kernel_rfl) (by decide) u (by rw [star]; exact h)
theorem gPow : Tryz.prog.globalNamed "internal/strconv.uint64pow10" = some 2 := by kernel_rfl
theorem gPowType : (Tryz.prog.globals[2]?).map (·.type) = some 153 := by kernel_rfl
theorem cellsE : Tryz.prog.cellsOf 138 = 1 := by kernel_rfl
theorem cellsT : Tryz.prog.cellsOf 153 = 20 := by kernel_rfl
/-- What the list and the world's shape give the walk. -/
theorem en_laid {W : World} (h : laidMetH Tryz.prog Rows.gensBackRow.laid W) (hsh : W.ShapedOpen Tryz.prog) : En W := by
  rw [MakeChecks.laidMetH_plain _ _ _ (by kernel_rfl)] at h
  have h1 : laidMet Tryz.prog (("math/bits.deBruijn32tab", Rows.laid_math_bits_deBruijn32tab) :: ("math/bits.deBruijn64tab", Rows.laid_math_bits_deBruijn64tab) :: ("internal/strconv.uint64pow10", Rows.laid_internal_strconv_uint64pow10) :: ("unicode/utf8.acceptRanges", Rows.laid_unicode_utf8_acceptRanges) :: ("strconv.ErrRange", Rows.laid_strconv_ErrRange) :: ("strconv.ErrSyntax", Rows.laid_strconv_ErrSyntax) :: ("vivarium/hood.hoods", Rows.laid_vivarium_hood_hoods) :: [("unicode/utf8.first", Rows.laid_unicode_utf8_first)]) W := h
  have h2 : laidMet Tryz.prog (("math/bits.deBruijn32tab", Rows.laid_math_bits_deBruijn32tab) :: ("math/bits.deBruijn64tab", Rows.laid_math_bits_deBruijn64tab) :: ("internal/strconv.uint64pow10", Lib.tabData .u64 Lib.pow10Tab) :: ("unicode/utf8.acceptRanges", Rows.laid_unicode_utf8_acceptRanges) :: ("strconv.ErrRange", Rows.laid_strconv_ErrRange) :: ("strconv.ErrSyntax", Rows.laid_strconv_ErrSyntax) :: ("vivarium/hood.hoods", Rows.laid_vivarium_hood_hoods) :: [("unicode/utf8.first", Rows.laid_unicode_utf8_first)]) W := h
  obtain ⟨a, _, hv, -, -, -⟩ := laid_sentinel h1.tail.tail.tail.tail Nu.gER gERType Tryz.underlying113 rowErr Tryz.underlying181 Tryz.underlying183 rfl rfl Tryz.underlying9 cellsErr cellsStr
  have hEr : Nu.Er 181 _ W := hv
  have hlt : 8 < W.heap.size := by
    have h1 : W.cell? ⟨8, 0, none⟩ = some (.iface 181 (.pointer (some a))) := by rw [World.var?_cell Nu.gER hEr 0]; rfl
    exact cell_lt h1
  refine ⟨?_, cell_of_shapedOpen_int (zero := #[.int .i64 0]) (t := 3) hsh (of_decide_eq_true (by kernel_rfl)) (by kernel_rfl) rfl (by kernel_rfl) (by kernel_rfl) Tryz.underlying3, ⟨181, _, hEr⟩, Lib.tabIs_of_head gPow gPowType Tryz.underlying153 Tryz.underlying138 cellsE cellsT h2.tail.tail, hlt⟩
  obtain ⟨ps, ⟨g', t', cs, fuel, p, q, hg', ht', hvar, hd, _, _⟩, _⟩ := h1.tail.tail.tail.tail.tail.tail
  obtain rfl := Option.some.inj (gHv.symm.trans hg')
  obtain rfl := Option.some.inj (gHvType.symm.trans ht')
  have hc := flat_of 8 fuel 143 cs.toList _ (by kernel_rfl) hd
  have hcs : cs = hvC := by
    have e : cs.toList = hvC.toList := hc.trans flatHv
    cases cs; cases hh : hvC; simp_all
  subst hcs
  simp only [World.var?, gHv, Option.bind_some] at hvar
  split at hvar
  · rename_i c t fr hb
    obtain rfl := Option.some.inj hvar
    exact ⟨t, fr, hb⟩
  · cases hvar

set_option maxRecDepth 100000 in
theorem lifted (os : Os) (started : os.Started) (H : Type) (enc : TypeId × Value → H) :
    ReturnsInHanded {} Tryz.checked os 6 .any (fun w args => (Rows.gensBackSpec.pre enc Tryz.prog Tryz.f6 [] false w args ∧ laidMetH Tryz.prog Rows.gensBackRow.laid w) ∧ sizedMet enc Tryz.prog Tryz.f6 (OpenSpec.ofChange Rows.gensBackSpec) false w args)
      (Rows.gensBackSpec.post enc Tryz.prog Tryz.f6 false true false false) := by
  refine returnsInHanded_of_calls own started (by kernel_rfl)
    (ChangeSpec.witness_shaped (enc := enc) (C := Tryz.checked) (os := os) (X := fun w _ => laidMetH Tryz.prog Rows.gensBackRow.laid w) false (World.laidAll Tryz.prog os Rows.gensBackRow.laid) #[.agg #[.int .u8 0, .int .u16 0, .int .u16 0, .int .i64 0], .string ⟨#[]⟩] 8 (World.laidAll_os _ _ _) (World.shaped_of_ZipB (by kernel_rfl) (by kernel_rfl)) (by kernel_rfl) (by kernel_rfl) (by kernel_rfl)
      (by rw [MakeChecks.laidMetH_plain _ _ _ (by kernel_rfl)]; exact laidMet_laidAll _ (by kernel_rfl) (by kernel_rfl))) ?_
  intro w0 tape i _ hsh _ hok hpre _
  obtain ⟨_, _, _, fn', hfn', _, _, _, _, hval00⟩ := hok
  obtain rfl : fn' = Tryz.f6 := Option.some.inj (hfn'.symm.trans Tryz.func6)
  obtain ⟨⟨⟨ds, gs, before, hw00, hc⟩, hL0⟩, hz⟩ := hpre
  have hW : DataW.Whole enc Tryz.prog Tryz.f6.params.toList Rows.gensBackSpec.vars false (w0.forCall tape i) i.args.toList ds gs before := DataW.Whole.of_heap (w' := w0.forCall tape i) (by rfl) hw00
  have hsz0 := hz.weights hw00
  have hL : laidMetH Tryz.prog Rows.gensBackRow.laid (w0.forCall tape i) := laidMetH.of_heap (by rfl) hL0
  have hval0 := hval00
  revert hsh hW hval0 hL
  generalize w0.forCall tape i = W
  generalize w0.heap.size = base
  generalize i.args = args at *
  intro hsh hW hL hval0
  suffices hs : Calls Tryz.prog 6 args W fun e W' => ∃ v, e = .returned v ∧ Rows.gensBackSpec.post enc Tryz.prog Tryz.f6 false true false false W args v W' from hs.mono fun e W' ⟨v, he, hp⟩ => by
    subst he
    exact ChangeSpec.post_blind hp
  have hval : ∀ (j : Nat) t v, Tryz.f6.params[j]? = some t → args[j]? = some v → Value.okWide Tryz.prog W .any base t v := hval0
  have hW' := hW
  obtain ⟨p, q, hA0, hV, rfl, hfz, hnd⟩ := hW
  have hA : DataW.TrodAll enc Tryz.prog W 0 (fun _ => true) true Tryz.f6.params.toList args.toList ds p := hA0
  rw [Tryz.params6] at hA hval
  obtain ⟨v0, vs0, d0, ds0, p0, q0, hargs, rfl, rfl, h0, r0⟩ := trodAll_cons hA
  obtain ⟨v1, vs1, d1, ds1, p1, q1, rfl, rfl, rfl, h1, r1⟩ := trodAll_cons r0
  obtain ⟨rfl, rfl, rfl⟩ := trodAll_nil r1
  obtain rfl : args = #[v0, v1] := by cases args; simp_all
  obtain ⟨rfl, rfl⟩ := trodVars_none hV
  have k0 := h0
  have lt0 : ∀ x ∈ p0, x.block < W.heap.size := by obtain ⟨m, hm⟩ := k0; exact DataW.trod_lt m _ _ _ hm
  obtain ⟨xa0, xb0, xc0, xd0, rfl, ya0, yb0, yc0, yd0⟩ := openGens (hval 0 _ v0 rfl rfl) h0
  have k1 := h1
  have lt1 : ∀ x ∈ p1, x.block < W.heap.size := by obtain ⟨m, hm⟩ := k1; exact DataW.trod_lt m _ _ _ hm
  obtain ⟨a1, rfl, rfl, rfl, w1⟩ := open_string Tryz.underlying9 (hval 1 9 v1 rfl rfl) h1
  clear hA0 hval0
  refine (back_walk xa0 xb0 xc0 xd0 a1 W ya0 yb0 yc0 yd0  (en_laid hL hsh)).mono fun e W' ⟨he, bel⟩ => ?_
  subst he
  exact ⟨_, rfl, _, _, _, [], _, [], hW', trodAll_mk1 (shut_bool Tryz.underlying4 _), (trodAll_cons_mk (Below.trod laidOut (by kernel_rfl) (of_decide_eq_true (by kernel_rfl)) k0 bel lt0) (trodAll_cons_mk (Below.trod laidOut (by kernel_rfl) (of_decide_eq_true (by kernel_rfl)) k1 bel lt1) trodAll_mk0)), rfl, bel.frame _, fun h => by cases h⟩

theorem said : Rows.GensBackSaid :=
  OpenClaim.holds_of_wide 6 Tryz.f6 rfl rfl rfl rfl rfl rfl rfl ⟨rfl, rfl, rfl, rfl, rfl⟩ rfl rfl rfl rfl rfl (by kernel_rfl) Tryz.func6 (by kernel_rfl)
    (of_decide_eq_true (by kernel_rfl)) (by unfold Func.isWrapper; first | (rw [if_pos (by decide +kernel)]; kernel_rfl) | (rw [if_neg (by decide +kernel)]; exact ⟨rfl, rfl⟩))
    (fun os started H enc _ => lifted os started H enc)

theorem plain (f : FuncId) (fn : Func) (hf : Tryz.pinned.checked.prog.funcNamed "vivarium/vivariumlaw09.GensBack" = some f) (hfn : Tryz.pinned.checked.prog.funcs[f]? = some fn) :
    true = Tryz.pinned.checked.prog.looks [] ∧ ∀ (j : Nat) t, fn.params[j]? = some t → Tryz.pinned.checked.prog.wantsStandIn t = false := by
  obtain rfl : f = 6 := Option.some.inj ((show Tryz.prog.funcNamed "vivarium/vivariumlaw09.GensBack" = some 6 by kernel_rfl).symm.trans hf) |>.symm
  obtain rfl : fn = Tryz.f6 := (Option.some.inj (Tryz.func6.symm.trans hfn)).symm
  refine ⟨by kernel_rfl, fun j t ht => ?_⟩
  rw [Tryz.params6] at ht
  have hm : t ∈ [27, 9] := by simpa using Array.mem_of_getElem? ht
  have hall : ([27, 9].all fun u => !Tryz.prog.wantsStandIn u) = true := by kernel_rfl
  exact (show Tryz.prog.wantsStandIn t = false by simpa using List.all_eq_true.1 hall t hm)

theorem card : Rows.GensBackCardSaid :=
  Claim7.holds_tied_plain_at .later [] _ _ _ _ said (fun _ h => by cases h) (by kernel_rfl) (fun _ h => by cases h) gensBack_row_tie rfl ⟨rfl, rfl⟩ (by kernel_rfl) rfl plain (by kernel_rfl)
end Go.Proofs.YtlkdenanbofliaaGreatDoor.gensBack
namespace Go.Proofs.YtlkdenanbofliaaGreatDoor
theorem gensBack_holds : Rows.GensBackCardSaid := gensBack.card
#print axioms gensBack_holds
end Go.Proofs.YtlkdenanbofliaaGreatDoor
