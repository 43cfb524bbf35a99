/- Points as keys of maps. -/
import Derived.DeepKeys4
import Derived.Maps.OwnSet
import Derived.Maps.RangeWalk
import Derived.Test.YtbmpiddjakdebaaGreatBo
import Derived.Test.YtbmpiddjakdebaaGreatProg
import Derived.WalkKit
import Derived.Lib.Hide
import Derived.LoopN
namespace Go.Proofs.YtbmpiddjakdebaaGreat
open Go.RowKit
set_option linter.unusedVariables false
set_option linter.unusedSimpArgs false
set_option maxRecDepth 100000

namespace Ln
abbrev Pt := Int × Int
def PtOk (p : Pt) : Prop := (-9223372036854775808 ≤ p.1 ∧ p.1 ≤ 9223372036854775807) ∧ (-9223372036854775808 ≤ p.2 ∧ p.2 ≤ 9223372036854775807)
def ptV (p : Pt) : Value := .agg #[.int .i64 p.1, .int .i64 p.2]
theorem laidK : laidOutB Tryz.prog = true := by kernel_rfl
theorem rowK : 40 < Tryz.prog.types.size := of_decide_eq_true (by kernel_rfl)
theorem wideK : (match Tryz.prog.underlying 40 with | some (.array _ _) | some (.struct _) => true | _ => false) = true := by kernel_rfl
theorem lawK : Maps.Keyed Tryz.prog 40 := Maps.Keyed.of_law (deep_law_laid laidK (m := 3) (by omega) rowK (by kernel_rfl) wideK)
theorem underM : Tryz.prog.underlying 73 = some (.map 40 71) := by kernel_rfl
theorem underI : Tryz.prog.underlying 3 = some (.int .i64) := by kernel_rfl
theorem keyT : Tryz.prog.keyType 40 = true := by kernel_rfl
theorem cellsK : Tryz.prog.cellsOf 40 = 2 := by kernel_rfl
theorem cellsI : Tryz.prog.cellsOf 3 = 1 := by kernel_rfl
theorem zeroU (w : World) : (zeroValue 71).run Tryz.prog w = .ok (.agg #[]) w := by kernel_rfl
theorem fieldsK : ∃ f0 f1 : Field, Tryz.prog.underlying 40 = some (.struct #[f0, f1]) ∧ f0.type = 3 ∧ f0.offset = 0 ∧ f1.type = 3 ∧ f1.offset = 1 ∧ (f0.name != "_") = true ∧ (f1.name != "_") = true := by
  have h : (match Tryz.prog.underlying 40 with | some (.struct fs) => (decide (fs.toList.map (fun f => (f.type, f.offset, f.name != "_")) = [(3, 0, true), (3, 1, true)])) | _ => false) = true := by kernel_rfl
  split at h
  · rename_i fs hfs
    rcases fs with ⟨l⟩
    match l, of_decide_eq_true h with
    | [f0, f1], e =>
      simp only [List.map_cons, List.map_nil, List.cons.injEq, Prod.mk.injEq, and_true] at e
      exact ⟨f0, f1, hfs, e.1.1, e.1.2.1, e.2.1, e.2.2.1, e.1.2.2, e.2.2.2⟩
  · cases h
/-- What a key reads as. -/
def pk (p : Pt) : Lit := .string (keyBytes [.int .i64 p.1, .int .i64 p.2])
theorem typesK : Tryz.prog.types.size + 1 = (Tryz.prog.types.size - 1) + 1 + 1 := by have := rowK; omega
theorem keyOf_is (v : Value) (l : Lit) : keyOf Tryz.prog 40 v = some l ↔ ∃ x y, v = .agg #[.int .i64 x, .int .i64 y] ∧ (Lit.int .i64 x).wf = true ∧ (Lit.int .i64 y).wf = true ∧ l = pk (x, y) := by
  obtain ⟨f0, f1, hf, t0, o0, t1, o1, n0, n1⟩ := fieldsK
  have e : keyOf Tryz.prog 40 v = if v.formed Tryz.prog 40 then (Tryz.prog.keyLits (Tryz.prog.types.size + 1) 40 v.cells.toList).map (fun ls => .string (keyBytes ls)) else none := by
    unfold keyOf; rw [hf]; simp [keyT]
  obtain ⟨D, hD⟩ : ∃ D, Tryz.prog.types.size + 1 = D + 1 + 1 := ⟨Tryz.prog.types.size - 1, typesK⟩
  rw [hD] at e
  have kI : ∀ c, Tryz.prog.keyLits (D + 1) 3 [c] = (match c with | .int q' n => if q' = .i64 ∧ (Lit.int .i64 n).wf = true then some [.int .i64 n] else none | _ => none) := fun c => by
    unfold Program.keyLits; rw [underI]; cases c <;> rfl
  have kK : ∀ c0 c1, Tryz.prog.keyLits (D + 1 + 1) 40 [c0, c1] = ((Tryz.prog.keyLits (D + 1) 3 [c0]).bind fun x => (Tryz.prog.keyLits (D + 1) 3 [c1]).map fun y => x ++ y) := fun c0 c1 => by
    conv => lhs; unfold Program.keyLits
    rw [hf]
    simp only [List.length_cons, List.length_nil, cellsK, Nat.reduceAdd, true_and, Array.all_push, List.mapM_cons, List.mapM_nil, t0, o0, t1, o1, cellsI, List.drop_zero, List.take_succ_cons, List.take_zero, List.drop_succ_cons]
    have hall : (#[f0, f1].all fun x => x.name != "_") = true := by simp_all
    rw [hall, if_pos rfl]
    cases Tryz.prog.keyLits (D + 1) 3 [c0] <;> cases Tryz.prog.keyLits (D + 1) 3 [c1] <;> simp
  rw [e]
  constructor
  · intro h
    split at h
    · rename_i hfm
      cases v with
      | agg cs =>
        simp only [Value.formed, hf, cellsK, beq_iff_eq] at hfm
        rcases cs with ⟨l⟩
        match l, hfm with
        | [c0, c1], _ =>
          have ec : (Value.agg #[c0, c1]).cells.toList = [c0, c1] := rfl
          rw [ec, kK, kI, kI] at h
          obtain ⟨ls, h1, h2⟩ := Option.map_eq_some_iff.1 h
          obtain ⟨x, h3, h4⟩ := Option.bind_eq_some_iff.1 h1
          obtain ⟨y, h5, h6⟩ := Option.map_eq_some_iff.1 h4
          cases c0 <;> simp at h3
          cases c1 <;> simp at h5
          obtain ⟨⟨rfl, hw⟩, rfl⟩ := h3
          obtain ⟨⟨rfl, hb⟩, rfl⟩ := h5
          subst h6
          exact ⟨_, _, rfl, hw, hb, h2.symm⟩
      | _ => simp [Value.formed, hf] at hfm
    · cases h
  · rintro ⟨x, y, rfl, hw, hb, rfl⟩
    have hfm : (Value.agg #[.int .i64 x, .int .i64 y]).formed Tryz.prog 40 = true := by simp [Value.formed, hf, cellsK]
    rw [hfm, if_pos rfl]
    have ec : (Value.agg #[.int .i64 x, .int .i64 y]).cells.toList = [.int .i64 x, .int .i64 y] := rfl
    rw [ec, kK, kI, kI]
    simp [hw, hb, pk]
theorem PtOk.wf {p : Pt} (h : PtOk p) : (Lit.int .i64 p.1).wf = true ∧ (Lit.int .i64 p.2).wf = true := ⟨WalkArith.wf_i64 (by have := h.1; omega), WalkArith.wf_i64 (by have := h.2; omega)⟩
theorem PtOk.key {p : Pt} (h : PtOk p) : keyOf Tryz.prog 40 (ptV p) = some (pk p) := (keyOf_is _ _).2 ⟨p.1, p.2, rfl, h.wf.1, h.wf.2, rfl⟩
theorem ptV_inj {p q : Pt} (h : ptV p = ptV q) : p = q := by
  simp only [ptV, Value.agg.injEq, Array.mk.injEq, List.cons.injEq, Value.int.injEq, true_and, and_true] at h
  exact Prod.ext h.1 h.2
theorem pk_inj {p q : Pt} (hp : PtOk p) (hq : PtOk q) (h : pk p = pk q) : p = q := ptV_inj (lawK.inj hp.key (h ▸ hq.key))
end Ln
end Go.Proofs.YtbmpiddjakdebaaGreat
namespace Go.Proofs.YtbmpiddjakdebaaGreat
open Go.RowKit
set_option linter.unusedVariables false
set_option linter.unusedSimpArgs false
set_option maxRecDepth 100000

namespace Ln
/-- A point is put in, or taken out again. -/
def flp (S : List Pt) (p : Pt) : List Pt := if p ∈ S then S.erase p else S ++ [p]
/-- A point is put in. -/
def adp (S : List Pt) (p : Pt) : List Pt := if p ∈ S then S else S ++ [p]
theorem nodup_flp {S : List Pt} (h : S.Nodup) (p : Pt) : (flp S p).Nodup := by
  unfold flp
  split
  · exact h.erase p
  · rename_i hp
    rw [List.nodup_append]
    exact ⟨h, by simp, fun a ha b hb => by simp at hb; subst hb; exact fun e => hp (e ▸ ha)⟩
theorem nodup_adp {S : List Pt} (h : S.Nodup) (p : Pt) : (adp S p).Nodup := by
  unfold adp
  split
  · exact h
  · rename_i hp
    rw [List.nodup_append]
    exact ⟨h, by simp, fun a ha b hb => by simp at hb; subst hb; exact fun e => hp (e ▸ ha)⟩
theorem mem_flp {S : List Pt} (h : S.Nodup) (p q : Pt) : q ∈ flp S p ↔ (q ∈ S ∧ q ≠ p) ∨ (q ∉ S ∧ q = p) := by
  unfold flp
  split
  · rename_i hp
    rw [h.mem_erase_iff]
    constructor
    · rintro ⟨h1, h2⟩; exact .inl ⟨h2, h1⟩
    · rintro (⟨h1, h2⟩ | ⟨h1, h2⟩)
      · exact ⟨h2, h1⟩
      · exact absurd (h2 ▸ hp) h1
  · rename_i hp
    simp only [List.mem_append, List.mem_singleton]
    constructor
    · rintro (h1 | h1)
      · exact .inl ⟨h1, fun e => hp (e ▸ h1)⟩
      · exact .inr ⟨h1 ▸ hp, h1⟩
    · rintro (⟨h1, _⟩ | ⟨_, h1⟩)
      · exact .inl h1
      · exact .inr h1
theorem mem_adp (S : List Pt) (p q : Pt) : q ∈ adp S p ↔ q ∈ S ∨ q = p := by
  unfold adp
  split
  · rename_i hp
    constructor
    · exact .inl
    · rintro (h | h)
      · exact h
      · exact h ▸ hp
  · simp
theorem length_flp (S : List Pt) (p : Pt) : (flp S p).length ≤ S.length + 1 := by
  unfold flp
  split
  · have := List.length_erase_le (a := p) (l := S); omega
  · simp
theorem length_adp (S : List Pt) (p : Pt) : (adp S p).length ≤ S.length + 1 := by
  unfold adp
  split
  · omega
  · simp

/-- The map of block b has the points S, none twice. -/
def Sm (w : World) (b : Nat) (S : List Pt) : Prop := ∃ D : DataW Unit, w.ownsMap Tryz.prog 40 unitElem b S.length D ∧ Maps.size D = S.length ∧ S.Nodup ∧ (∀ p ∈ S, PtOk p) ∧ (∀ p ∈ S, Maps.has D (pk p) = true) ∧ (∀ q, Maps.has D q = true → ∃ p ∈ S, q = pk p)
theorem tight {w : World} {b n : Nat} {D : DataW Unit} (h : w.ownsMap Tryz.prog 40 unitElem b n D) : w.ownsMap Tryz.prog 40 unitElem b (Maps.size D) D := by
  obtain ⟨es, clock, h1, h2, h3, h4⟩ := h
  refine ⟨es, clock, h1, h2, ?_, h4⟩
  rw [h4, Maps.size_eq, length_read]
  exact Nat.le_refl _
theorem Sm.kept {w w' : World} {b : Nat} {S : List Pt} {r : Option Nat} (h : Sm w b S) (hg : w.grownBy w' r) (hne : some b ≠ r) : Sm w' b S := by
  obtain ⟨D, h1, h2⟩ := h
  exact ⟨D, h1.kept hg hne, h2⟩
theorem Sm.lt {w : World} {b : Nat} {S : List Pt} (h : Sm w b S) : b < w.heap.size := by
  obtain ⟨D, h1, h2⟩ := h
  exact h1.lt
theorem Sm.made (w : World) : Sm (w.alloc (.map #[] 0)) w.heap.size [] := ⟨.map [], World.ownsMap_made _ _ _ _, rfl, List.nodup_nil, fun p h => by simp at h, fun p h => by simp at h, fun q h => by cases h⟩
theorem Sm.has {S : List Pt} {D : DataW Unit} (h1 : ∀ p ∈ S, PtOk p) (h2 : ∀ p ∈ S, Maps.has D (pk p) = true) (h3 : ∀ q, Maps.has D q = true → ∃ p ∈ S, q = pk p) {p : Pt} (hp : PtOk p) : Maps.has D (pk p) = decide (p ∈ S) := by
  by_cases h : p ∈ S
  · rw [h2 p h]; simp [h]
  · cases hq : Maps.has D (pk p) with
    | false => simp [h]
    | true =>
      obtain ⟨y, hy, e⟩ := h3 _ hq
      exact absurd (pk_inj hp (h1 y hy) e ▸ hy) h
/-- Behind a store. -/
theorem put_facts {S : List Pt} {D : DataW Unit} {p : Pt} (hp : PtOk p) (hT : Maps.Tidy D) (s : Maps.size D = S.length) (h1 : ∀ p ∈ S, PtOk p) (h2 : ∀ p ∈ S, Maps.has D (pk p) = true) (h3 : ∀ q, Maps.has D q = true → ∃ p ∈ S, q = pk p) : Maps.size (D.put (pk p) (.agg [])) = (adp S p).length ∧ (∀ q ∈ adp S p, Maps.has (D.put (pk p) (.agg [])) (pk q) = true) ∧ (∀ q, Maps.has (D.put (pk p) (.agg [])) q = true → ∃ y ∈ adp S p, q = pk y) := by
  have hh := Sm.has h1 h2 h3 hp
  refine ⟨?_, fun q hq => ?_, fun q hq => ?_⟩
  · rw [Maps.size_put hT, hh, s]
    unfold adp
    by_cases h : p ∈ S
    · simp [h]
    · simp [h]
  · by_cases e : pk q = pk p
    · rw [e]; exact Maps.has_put_same hT.isMap (lawK.key hp.key) _
    · rw [Maps.has_put_other e]
      rcases (mem_adp S p q).1 hq with h | h
      · exact h2 q h
      · exact absurd (h ▸ rfl) e
  · by_cases e : q = pk p
    · exact ⟨p, (mem_adp S p p).2 (.inr rfl), e⟩
    · rw [Maps.has_put_other e] at hq
      obtain ⟨y, hy, e'⟩ := h3 q hq
      exact ⟨y, (mem_adp S p y).2 (.inl hy), e'⟩
theorem Sm.put {w : World} {b n : Nat} {S : List Pt} {D : DataW Unit} {p : Pt} (hp : PtOk p) (hT : Maps.Tidy D) (own : w.ownsMap Tryz.prog 40 unitElem b n (D.put (pk p) (.agg []))) (s : Maps.size D = S.length) (nd : S.Nodup) (h1 : ∀ p ∈ S, PtOk p) (h2 : ∀ p ∈ S, Maps.has D (pk p) = true) (h3 : ∀ q, Maps.has D q = true → ∃ p ∈ S, q = pk p) : Sm w b (adp S p) ∧ Maps.size (D.put (pk p) (.agg [])) = (adp S p).length := by
  obtain ⟨hs, k2, k3⟩ := put_facts hp hT s h1 h2 h3
  exact ⟨⟨_, hs ▸ tight own, hs, nodup_adp nd p, fun q hq => ((mem_adp S p q).1 hq).elim (h1 q) (fun h => h ▸ hp), k2, k3⟩, hs⟩
/-- Behind a deletion. -/
theorem Sm.del {w' : World} {b n : Nat} {S : List Pt} {p : Pt} {E : DataW Unit} (hp : PtOk p) (hin : p ∈ S) (hE : Maps.Tidy E) (own : w'.ownsMap Tryz.prog 40 unitElem b n (E.del (pk p))) (s : Maps.size E = S.length) (nd : S.Nodup) (h1 : ∀ p ∈ S, PtOk p) (h2 : ∀ p ∈ S, Maps.has E (pk p) = true) (h3 : ∀ q, Maps.has E q = true → ∃ p ∈ S, q = pk p) : Sm w' b (S.erase p) := by
  have hs : Maps.size (E.del (pk p)) = (S.erase p).length := by
    have := Maps.size_del (k := pk p) hE
    rw [h2 p hin, if_pos rfl, s] at this
    rw [List.length_erase_of_mem hin]
    omega
  refine ⟨_, hs ▸ tight own, hs, nd.erase p, fun q hq => h1 q (List.mem_of_mem_erase hq), fun q hq => ?_, fun q hq => ?_⟩
  · obtain ⟨e, hq'⟩ := nd.mem_erase_iff.1 hq
    rw [Maps.has_del_other (fun ee => e (pk_inj (h1 q hq') hp ee))]
    exact h2 q hq'
  · by_cases e : q = pk p
    · rw [e, Maps.has_del_same] at hq; cases hq
    · rw [Maps.has_del_other e] at hq
      obtain ⟨y, hy, e'⟩ := h3 q hq
      exact ⟨y, nd.mem_erase_iff.2 ⟨fun ee => e (ee ▸ e'), hy⟩, e'⟩

set_option maxHeartbeats 1000000 in
theorem flipC (b : Nat) (S : List Pt) (p : Pt) (hp : PtOk p) (hl : S.length < 1073741824) (w : World) (F : Sm w b S) :
    Calls Tryz.prog 66 #[.map (some b), ptV p] w fun e w' => e = .returned (.tuple #[]) ∧ Sm w' b (flp S p) ∧ w.grownBy w' (some b) := by
  obtain ⟨D, F1, F2, F3, F4, F5, F6⟩ := F
  obtain ⟨x, y⟩ := p
  obtain ⟨W1, hW1, sz1, g1, B1⟩ := boxn w #[.int .i64 x, .int .i64 y] 40
  have KY : keyOf Tryz.prog 40 (.agg #[.int .i64 x, .int .i64 y]) = some (pk (x, y)) := hp.key
  have own1 := F1.kept g1 (by simp)
  have hb := F1.lt
  have nb : some w.heap.size ≠ some b := fun e => by injection e; omega
  have c0 := B1.cell 0 (v := .int .i64 x) rfl
  have c1 := B1.cell 1 (v := .int .i64 y) rfl
  obtain ⟨c, hc⟩ : ∃ c, S.length = c := ⟨_, rfl⟩
  have HC : Hid (S.length = c) := hc
  unfold ptV
  by_cases hin : (x, y) ∈ S
  · have HL : Hid ((adp S (x, y)).length = c) := by unfold Hid adp; rw [if_pos hin, hc]
    have HA : Hid (adp S (x, y) = S) := by unfold Hid adp; rw [if_pos hin]
    have HF : Hid (flp S (x, y) = S.erase (x, y)) := by unfold Hid flp; rw [if_pos hin]
    have hcc : ((c : Int) == (c : Int)) = true := by simp
    rw [hc] at own1 hl
    clear F1
    have F2' := F2
    rw [hc] at F2'
    go_enter Tryz.func66, Tryz.ntmps66
    go_wp2_with (first | (at_len; (fail_if_success (guard_hyp m1)); refine wpList_len_own _ rfl _ 73 rfl 40 71 underM _ b _ D rfl own1 ?_; rw [F2']; have m1 : True := trivial) | (at_mapUpdate; refine wpList_mapUpdate_own _ rfl _ _ _ 73 rfl 40 71 lawK underM _ b _ _ rfl own1 (by unfold maxLen; omega) _ _ _ rfl rfl KY _ [] unitElem_mk ?_; intro w2 own2 g2; obtain ⟨P2, P3⟩ := Sm.put hp (own1.tidy lawK) own2 F2 F3 F4 F5 F6; have B2 := B1.kept g2 nb; have d0 := B2.cell 0 (v := .int .i64 x) rfl; have d1 := B2.cell 1 (v := .int .i64 y) rfl) | (at_len; guard_hyp m1; refine wpList_len_own _ rfl _ 73 rfl 40 71 underM _ b _ _ rfl own2 ?_; rw [P3, HL.out]) | (at_delete; refine wpList_delete_own _ rfl _ _ 73 40 rfl 71 lawK underM _ b _ _ rfl own2 _ _ rfl KY ?_; intro w3 own3 ht3) | go_in)
    go_end0
    refine ⟨rfl, ?_, ((World.grownBy.but g1 _).andThen g2 (fun j hj => .inr hj)).andThen ht3.grown (fun j hj => .inr hj)⟩
    rw [HF.out]
    obtain ⟨hs, k2, k3⟩ := put_facts hp (own1.tidy lawK) F2 F4 F5 F6
    rw [HA.out] at hs k2 k3
    exact Sm.del hp hin (own2.tidy lawK) own3 hs F3 F4 k2 k3
  · have HL : Hid ((adp S (x, y)).length = c + 1) := by unfold Hid adp; rw [if_neg hin, List.length_append, hc]; rfl
    have HF : Hid (flp S (x, y) = adp S (x, y)) := by unfold Hid flp adp; rw [if_neg hin, if_neg hin]
    have hcc : (((c + 1 : Nat) : Int) == (c : Int)) = false := by simp; omega
    rw [hc] at own1 hl
    have F2' := F2
    rw [hc] at F2'
    clear F1
    go_enter Tryz.func66, Tryz.ntmps66
    go_wp2_with (first | (at_len; (fail_if_success (guard_hyp m1)); refine wpList_len_own _ rfl _ 73 rfl 40 71 underM _ b _ D rfl own1 ?_; rw [F2']; have m1 : True := trivial) | (at_mapUpdate; refine wpList_mapUpdate_own _ rfl _ _ _ 73 rfl 40 71 lawK underM _ b _ _ rfl own1 (by unfold maxLen; omega) _ _ _ rfl rfl KY _ [] unitElem_mk ?_; intro w2 own2 g2; obtain ⟨P2, P3⟩ := Sm.put hp (own1.tidy lawK) own2 F2 F3 F4 F5 F6; have B2 := B1.kept g2 nb; have d0 := B2.cell 0 (v := .int .i64 x) rfl; have d1 := B2.cell 1 (v := .int .i64 y) rfl) | (at_len; guard_hyp m1; refine wpList_len_own _ rfl _ 73 rfl 40 71 underM _ b _ _ rfl own2 ?_; rw [P3, HL.out]) | go_in)
    go_end0
    exact ⟨rfl, by rw [HF.out]; exact P2, (World.grownBy.but g1 _).andThen g2 (fun j hj => .inr hj)⟩
/-- Points that can be read. -/
def Pl (w : World) (sp : Option Addr) (n : Nat) (f : Nat → Pt) : Prop := ∀ k, k < n → ∃ q o, sp = some ⟨q, o, none⟩ ∧ w.cell? ⟨q, o + k * 2, none⟩ = some (.int .i64 (f k).1) ∧ w.cell? ⟨q, o + k * 2 + 1, none⟩ = some (.int .i64 (f k).2)
theorem Pl.kept {w w' : World} {sp : Option Addr} {n : Nat} {f : Nat → Pt} {r : Option Nat} (h : Pl w sp n f) (hg : w.grownBy w' r) (hne : ∀ a, sp = some a → some a.block ≠ r) : Pl w' sp n f := fun k hk => by
  obtain ⟨q, o, h1, h2, h3⟩ := h k hk
  exact ⟨q, o, h1, hg.cell h2 (hne ⟨q, o, none⟩ h1), hg.cell h3 (hne ⟨q, o, none⟩ h1)⟩
def adL (f : Nat → Pt) : Nat → List Pt
  | 0 => []
  | k + 1 => adp (adL f k) (f k)
theorem adL_len (f : Nat → Pt) : ∀ k, (adL f k).length ≤ k
  | 0 => Nat.le_refl _
  | k + 1 => by have := adL_len f k; have := length_adp (adL f k) (f k); show (adp (adL f k) (f k)).length ≤ _; omega
theorem mem_adL (f : Nat → Pt) (q : Pt) : ∀ k, q ∈ adL f k ↔ ∃ i, i < k ∧ q = f i
  | 0 => by simp [adL]
  | k + 1 => by
    show q ∈ adp (adL f k) (f k) ↔ _
    rw [mem_adp, mem_adL f q k]
    constructor
    · rintro (⟨i, hi, e⟩ | e)
      · exact ⟨i, by omega, e⟩
      · exact ⟨k, by omega, e⟩
    · rintro ⟨i, hi, e⟩
      by_cases h : i = k
      · exact .inr (h ▸ e)
      · exact .inl ⟨i, by omega, e⟩
theorem adL_full (f : Nat → Pt) : ∀ k, (adL f k).length = k ↔ ∀ i j, i < j → j < k → f i ≠ f j
  | 0 => by simp [adL]
  | k + 1 => by
    have h1 := adL_len f k
    have h2 := adL_full f k
    show (adp (adL f k) (f k)).length = k + 1 ↔ _
    by_cases hin : f k ∈ adL f k
    · obtain ⟨i, hi, e⟩ := (mem_adL f (f k) k).1 hin
      have h3 : (adp (adL f k) (f k)).length = (adL f k).length := by unfold adp; rw [if_pos hin]
      constructor
      · intro h; omega
      · intro h; exact absurd e.symm (h i k hi (by omega))
    · have h3 : (adp (adL f k) (f k)).length = (adL f k).length + 1 := by unfold adp; rw [if_neg hin]; simp
      rw [h3]
      constructor
      · intro h i j hij hj
        by_cases e : j = k
        · subst e; exact fun ee => hin ((mem_adL f _ j).2 ⟨i, hij, ee.symm⟩)
        · exact h2.1 (by omega) i j hij (by omega)
      · intro h
        have := h2.2 (fun i j hij hj => h i j hij (by omega))
        omega

theorem mkM (w : World) (n : Nat) : (Instr.makeMap 73 (some (.int .i64 n))).run Tryz.prog w = .ok (.map (some w.heap.size)) (w.alloc (.map #[] 0)) := by
  simp [Instr.makeMap, asInt, asIntOf]
set_option maxHeartbeats 1000000 in
theorem setOfC (sp : Option Addr) (n cap : Nat) (f : Nat → Pt) (hf : ∀ k, k < n → PtOk (f k)) (hn : n < 1073741824) (w : World) (h : Pl w sp n f) :
    Calls Tryz.prog 40 #[.slice sp n cap] w fun e w' => ∃ b, e = .returned (.map (some b)) ∧ Sm w' b (adL f n) ∧ w.heap.size ≤ b ∧ w.grownBy w' none := by
  have hmk := mkM w n
  have M1 := Sm.made w
  obtain ⟨W1, hW1⟩ : ∃ W1, w.alloc (.map #[] 0) = W1 := ⟨_, rfl⟩
  have g1 : w.grownBy W1 none := (by rw [← hW1]; exact World.grownBy_alloc _ _ _)
  rw [hW1] at M1 hmk
  clear hW1
  go_enter Tryz.func40, Tryz.ntmps40
  go_wp2
  clear hmk
  go_loopw [11] (fun x wr => ∃ k : Nat, k ≤ n ∧ x = .int .i64 k ∧ Sm wr w.heap.size (adL f k) ∧ w.grownBy wr none) (fun x _ => n - (intOf x).toNat)
  case atStart => exact ⟨0, Nat.zero_le _, rfl, M1, g1⟩
  case round =>
    obtain ⟨k, hk, rfl, Mk, gk⟩ := hrel
    by_cases hlt : k < n
    · have hlt' : (k : Int) < (n : Int) := by omega
      obtain ⟨q, o, rfl, c0, c1⟩ := (h.kept gk (by simp)) k hlt
      have hfk := hf k hlt
      have hlen := adL_len f k
      have HS : Hid (adL f (k + 1) = adp (adL f k) (f k)) := rfl
      obtain ⟨p, hp⟩ : ∃ p, f k = p := ⟨_, rfl⟩
      rw [hp] at c0 c1 hfk HS
      clear hp
      obtain ⟨x, y⟩ := p
      obtain ⟨W3, hW3, sz3, g3, B3⟩ := boxn wr #[.int .i64 x, .int .i64 y] 40
      have d0 := B3.cell 0 (v := .int .i64 x) rfl
      have d1 := B3.cell 1 (v := .int .i64 y) rfl
      have KY : keyOf Tryz.prog 40 (.agg #[.int .i64 x, .int .i64 y]) = some (pk (x, y)) := hfk.key
      obtain ⟨D, F1, F2, F3, F4, F5, F6⟩ := Mk
      have own3 := F1.kept g3 (by simp)
      go_wp2_with (first | (at_mapUpdate; refine wpList_mapUpdate_own _ rfl _ _ _ 73 rfl 40 71 lawK underM _ _ _ _ rfl own3 (by unfold maxLen; omega) _ _ _ rfl rfl KY _ [] unitElem_mk ?_; intro w4 own4 g4; obtain ⟨P4, _⟩ := Sm.put (p := (x, y)) hfk (own3.tidy lawK) own4 F2 F3 F4 F5 F6; refine Hid.out ?_) | go_in)
      refine Lib.hid ?_
      have G4 : w.grownBy w4 none := (gb_trans gk g3).andThen g4 (fun j hj => .inl (by injection hj with hj; omega))
      clear own4 g4 own3 F1 F2 F3 F4 F5 F6
      go_wp2
      go_roundw
      case rel => exact ⟨k + 1, by omega, by go_num, by rw [HS.out]; exact P4, G4⟩
      case measure => simp [intOf]; omega
    · have hkn : k = n := by omega
      subst hkn
      have hlt' : ¬ (k : Int) < (k : Int) := by omega
      go_wp2
      go_ret
      exact ⟨_, rfl, Mk, Nat.le_refl _, gk⟩
end Ln
end Go.Proofs.YtbmpiddjakdebaaGreat
namespace Go.Proofs.YtbmpiddjakdebaaGreat
open Go.RowKit
set_option linter.unusedVariables false
set_option linter.unusedSimpArgs false
set_option maxRecDepth 100000

namespace Ln
def padd (p q : Pt) : Pt := (p.1 + q.1, p.2 + q.2)
/-- Does an odd number of the moves take p to q? -/
def od1 (p : Pt) (f : Nat → Pt) : Nat → Pt → Bool
  | 0, _ => false
  | k + 1, q => Bool.xor (od1 p f k q) (decide (q = padd p (f k)))
/-- .. of the places S? -/
def odS (S : List Pt) (f : Nat → Pt) (n : Nat) (q : Pt) : Bool := S.foldr (fun p a => Bool.xor (od1 p f n q) a) false
theorem odS_perm {S T : List Pt} (h : S.Perm T) (f : Nat → Pt) (n : Nat) (q : Pt) : odS S f n q = odS T f n q := by
  unfold odS
  exact h.foldr_eq' (fun x _ y _ z => by cases od1 x f n q <;> cases od1 y f n q <;> cases z <;> rfl) false
def fl1 (T : List Pt) (p : Pt) (f : Nat → Pt) : Nat → List Pt
  | 0 => T
  | k + 1 => flp (fl1 T p f k) (padd p (f k))
theorem nodup_fl1 {T : List Pt} (h : T.Nodup) (p : Pt) (f : Nat → Pt) : ∀ k, (fl1 T p f k).Nodup
  | 0 => h
  | k + 1 => nodup_flp (nodup_fl1 h p f k) _
theorem len_fl1 (T : List Pt) (p : Pt) (f : Nat → Pt) : ∀ k, (fl1 T p f k).length ≤ T.length + k
  | 0 => Nat.le_refl _
  | k + 1 => by have := len_fl1 T p f k; have := length_flp (fl1 T p f k) (padd p (f k)); show (flp _ _).length ≤ _; omega
theorem mem_fl1 {T : List Pt} (h : T.Nodup) (p : Pt) (f : Nat → Pt) (q : Pt) : ∀ k, decide (q ∈ fl1 T p f k) = Bool.xor (decide (q ∈ T)) (od1 p f k q)
  | 0 => by rw [show od1 p f 0 q = false from rfl, Bool.xor_false]; rfl
  | k + 1 => by
    have ih := mem_fl1 h p f q k
    have hm := mem_flp (nodup_fl1 h p f k) (padd p (f k)) q
    show decide (q ∈ flp (fl1 T p f k) (padd p (f k))) = Bool.xor _ (Bool.xor (od1 p f k q) (decide (q = padd p (f k))))
    rw [← Bool.xor_assoc, ← ih]
    by_cases h1 : q ∈ fl1 T p f k <;> by_cases h2 : q = padd p (f k)
    · rw [decide_eq_false (fun hh => by rcases hm.1 hh with ⟨_, h⟩ | ⟨h, _⟩; exact h h2; exact h h1), decide_eq_true h1, decide_eq_true h2]; rfl
    · rw [decide_eq_true (hm.2 (.inl ⟨h1, h2⟩)), decide_eq_true h1, decide_eq_false h2]; rfl
    · rw [decide_eq_true (hm.2 (.inr ⟨h1, h2⟩)), decide_eq_false h1, decide_eq_true h2]; rfl
    · rw [decide_eq_false (fun hh => by rcases hm.1 hh with ⟨h, _⟩ | ⟨_, h⟩; exact h1 h; exact h2 h), decide_eq_false h1, decide_eq_false h2]; rfl
theorem pk_same (p : Pt) : (pk p).sameKey (pk p) = true := by simp [pk, Lit.sameKey]
/-- Which of the keys have come: those of dn. -/
structure Cm (S dn : List Pt) (left : Lit → Bool) : Prop where
  nd : dn.Nodup
  sub : ∀ p ∈ dn, p ∈ S ∧ left (pk p) = false
  all : ∀ p ∈ S, left (pk p) = false → p ∈ dn
theorem Cm.start {S : List Pt} {left : Lit → Bool} (h : ∀ p ∈ S, left (pk p) = true) : Cm S [] left := ⟨List.nodup_nil, fun p hp => by simp at hp, fun p hp h' => by rw [h p hp] at h'; cases h'⟩
theorem Cm.next {S dn : List Pt} {left : Lit → Bool} (h : Cm S dn left) (hok : ∀ p ∈ S, PtOk p) {p : Pt} (hp : p ∈ S) (hl : left (pk p) = true) : Cm S (p :: dn) (fun z => left z && !z.sameKey (pk p)) := by
  have hnp : p ∉ dn := fun hh => by have := (h.sub p hh).2; rw [hl] at this; cases this
  refine ⟨List.nodup_cons.2 ⟨hnp, h.nd⟩, fun q hq => ?_, fun q hq hf => ?_⟩
  · rcases List.mem_cons.1 hq with rfl | hq
    · exact ⟨hp, by simp [pk_same]⟩
    · exact ⟨(h.sub q hq).1, by simp [(h.sub q hq).2]⟩
  · by_cases e : q = p
    · exact e ▸ List.mem_cons_self
    · have hne : pk q ≠ pk p := fun ee => e (pk_inj (hok q hq) (hok p hp) ee)
      simp only [Maps.sameKey_ne hne, Bool.not_false, Bool.and_true] at hf
      exact List.mem_cons_of_mem _ (h.all q hq hf)
theorem Cm.done {S dn : List Pt} {left : Lit → Bool} (h : Cm S dn left) (hS : S.Nodup) (hl : ∀ l, left l = false) : dn.Perm S := (List.perm_ext_iff_of_nodup h.nd hS).2 (fun q => ⟨fun hq => (h.sub q hq).1, fun hq => h.all q hq (hl _)⟩)
theorem len_sub : ∀ (dn S : List Pt), dn.Nodup → (∀ q ∈ dn, q ∈ S) → dn.length ≤ S.length
  | [], S, _, _ => Nat.zero_le _
  | p :: dn, S, hn, hs => by
    have h1 := List.nodup_cons.1 hn
    have hp := hs p List.mem_cons_self
    have := len_sub dn (S.erase p) h1.2 (fun q hq => (List.mem_erase_of_ne (fun (e : q = p) => h1.1 (by rw [← e]; exact hq))).2 (hs q (List.mem_cons_of_mem _ hq)))
    rw [List.length_erase_of_mem hp] at this
    have := List.length_pos_of_mem hp
    simp only [List.length_cons]
    omega
theorem Cm.len {S dn : List Pt} {left : Lit → Bool} (h : Cm S dn left) : dn.length ≤ S.length := len_sub dn S h.nd (fun q hq => (h.sub q hq).1)

set_option maxHeartbeats 2000000 in
theorem spreadC (b : Nat) (S : List Pt) (sp : Option Addr) (n cap : Nat) (f : Nat → Pt) (hf : ∀ p ∈ S, ∀ k, k < n → PtOk (padd p (f k))) (hl : S.length * n < 1000000000) (hSl : S.length < 1000000000) (hn : n < 1000000000) (w : World) (F : Sm w b S) (h : Pl w sp n f) :
    Calls Tryz.prog 37 #[.map (some b), .slice sp n cap] w fun e w' => ∃ b' T, e = .returned (.map (some b')) ∧ Sm w' b' T ∧ (∀ q, decide (q ∈ T) = odS S f n q) ∧ T.length ≤ S.length * n ∧ w.heap.size ≤ b' ∧ w.grownBy w' none := by
  obtain ⟨D, F1, F2, F3, F4, F5, F6⟩ := F
  have hmk := mkM w S.length
  have M1 := Sm.made w
  obtain ⟨W1, hW1⟩ : ∃ W1, w.alloc (.map #[] 0) = W1 := ⟨_, rfl⟩
  have g1 : w.grownBy W1 none := (by rw [← hW1]; exact World.grownBy_alloc _ _ _)
  have hs1 : w.heap.size < W1.heap.size := (by rw [← hW1]; simp)
  rw [hW1] at M1 hmk
  clear hW1
  have hb := F1.lt
  have own1 := F1.kept g1 (by simp)
  obtain ⟨c, hc⟩ : ∃ c, S.length = c := ⟨_, rfl⟩
  rw [hc] at F2 own1 F1 hmk
  go_enter Tryz.func37, Tryz.ntmps37
  go_wp2_with (first | (at_len; refine wpList_len_own _ rfl _ 73 rfl 40 71 underM _ b _ D rfl F1 ?_; rw [F2]) | (at_range; refine wpList_range_own _ rfl _ 73 rfl 40 71 lawK underM _ b _ D rfl own1 ?_; intro w0 hrg0 hg0 hs0) | go_in)
  go_frame
  have hall : ∀ p ∈ S, Maps.has D (pk p) = true := F5
  have nbr : b ≠ w.heap.size := by omega
  have nrb : W1.heap.size ≠ w.heap.size := by omega
  clear hmk
  go_loopw [14] (fun _ wr => ∃ (left : Lit → Bool) (cnt : Nat) (T dn : List Pt), wr.ranges Tryz.prog 40 unitElem b W1.heap.size c D left cnt ∧ Sm wr w.heap.size T ∧ w.grownBy wr none ∧ Cm S dn left ∧ Hid (∀ q, decide (q ∈ T) = odS dn f n q) ∧ T.length ≤ dn.length * n) (fun _ wr => wr.rangeLeft b W1.heap.size)
  case atStart => exact ⟨_, _, [], [], hrg0, M1.kept hg0 (by simp), gb_trans g1 hg0, Cm.start hall, fun q => rfl, Nat.zero_le _⟩
  case round =>
    obtain ⟨left, cnt, T, dn, hrg, MT, Gw, hC, HT, hTl⟩ := hrel
    go_wp2_with (first | (at_next; refine wpList_next_ranges (α := Int × Int) (β := Unit) _ rfl _ rfl 40 lawK _ (fun p => .agg #[.int .i64 p.1, .int .i64 p.2]) (fun _ => .agg #[]) (fun key l hk => by obtain ⟨x, y, e, _⟩ := (keyOf_is key l).1 hk; exact ⟨(x, y), e⟩) (fun v y hv => ⟨(), (unitElem_inv hv).1⟩) b W1.heap.size c D left cnt rfl hrg ?_ ?_) | go_in)
    · intro hc0 hl0
      have hperm := hC.done F3 hl0
      go_wp2
      go_ret
      exact ⟨_, T, rfl, MT, fun q => (HT.out q).trans (odS_perm hperm f n q), by rw [← hperm.length_eq]; exact hTl, Nat.le_refl _, Gw⟩
    · intro x y l yd yp w1 cnt1 hkey hlk hv hat hrg1 hlt hg1 hsw hen
      try dsimp only at hkey hen ⊢
      obtain ⟨p, hpS, rfl⟩ := F6 _ (Maps.has_true_of_atKey hat)
      have hp := F4 p hpS
      have hkv : (.agg #[.int .i64 x, .int .i64 y] : Value) = ptV p := lawK.inj hkey hp.key
      have hxy : x = p.1 ∧ y = p.2 := by simpa [ptV] using hkv
      have HX : Hid (x = p.1 ∧ y = p.2) := hxy
      clear hkv hxy hkey hv hat
      have hC1 := hC.next F4 hpS hlk
      have hdl : (p :: dn).length ≤ S.length := hC1.len
      have hTn : T.length + n ≤ S.length * n := by
        have h2 : (p :: dn).length * n ≤ S.length * n := Nat.mul_le_mul_right n hdl
        rw [List.length_cons, Nat.succ_mul] at h2
        omega
      have hpf := hf p hpS
      have hTnd : T.Nodup := by obtain ⟨_, _, _, h3, _⟩ := MT; exact h3
      have HT1 : Hid (∀ q, decide (q ∈ fl1 T p f n) = odS (p :: dn) f n q) := fun q => by
        rw [mem_fl1 hTnd p f q n, HT.out q, Bool.xor_comm]; rfl
      have hr2 := hrg.lt
      have hG1 : w.grownBy w1 none := Gw.andThen hg1 (fun j hj => .inl (by injection hj with hj; omega))
      have MT1 := MT.kept hg1 (fun e => by injection e with e; omega)
      obtain ⟨W3, hW3, sz3, g3, B3⟩ := boxn w1 #[.int .i64 x, .int .i64 y] 40
      have hrg3 := hrg1.kept g3 (by simp) (by simp)
      have MT3 := MT1.kept g3 (by simp)
      have hG3 := gb_trans hG1 g3
      have hsz := hG1.size
      have hsw' : Hid (w1.heap.size = wr.heap.size) := hsw
      obtain ⟨wo, hwo⟩ : ∃ W, W = wr := ⟨_, rfl⟩
      subst hwo
      rw [hsw] at B3
      have hwr : w.heap.size < wo.heap.size := MT.lt
      have hlt2 : Hid (cnt1 < cnt) := hlt
      have hrgl : Hid (wo.rangeLeft b W1.heap.size = cnt) := hrg.left_eq
      go_wp2
      clear hen hlt hrg hrg1
      go_loopw [20] (fun v wr' => ∃ k : Nat, k ≤ n ∧ v = .int .i64 k ∧ Sm wr' w.heap.size (fl1 T p f k) ∧ wr'.ranges Tryz.prog 40 unitElem b W1.heap.size c D (fun z => left z && !z.sameKey (pk p)) cnt1 ∧ Bo wr' wo.heap.size 40 #[.int .i64 x, .int .i64 y] ∧ w.grownBy wr' none) (fun v _ => n - (intOf v).toNat)
      case atStart => exact ⟨0, Nat.zero_le _, rfl, MT3, hrg3, B3, hG3⟩
      case round =>
        obtain ⟨k, hk, rfl, Mk, rk, Bk, Gk⟩ := hrel
        by_cases hkn : k < n
        · have hkn' : (k : Int) < (n : Int) := by omega
          obtain ⟨q, o, rfl, c0, c1⟩ := (h.kept Gk (by simp)) k hkn
          have hok := hpf k hkn
          have HS : Hid (fl1 T p f (k + 1) = flp (fl1 T p f k) (padd p (f k))) := rfl
          have HPX : Hid (padd p (f k) = (x + (f k).1, y + (f k).2)) := by unfold Hid padd; rw [HX.out.1, HX.out.2]
          rw [HPX.out] at hok HS
          obtain ⟨d, hd⟩ : ∃ d, f k = d := ⟨_, rfl⟩
          rw [hd] at c0 c1 hok HS
          obtain ⟨dx, dy⟩ := d
          clear hd HPX
          have w0x : IntKind.i64.wrap (x + dx) = x + dx := by rw [IntKind.wrap_i64]; have := hok.1; simp only at this; omega
          have w0y : IntKind.i64.wrap (y + dy) = y + dy := by rw [IntKind.wrap_i64]; have := hok.2; simp only at this; omega
          have e0 := Bk.cell 0 (v := .int .i64 x) rfl
          have e1 := Bk.cell 1 (v := .int .i64 y) rfl
          obtain ⟨W5, hW5, sz5, g5, B5⟩ := boxn wr #[.int .i64 dx, .int .i64 dy] 40
          have Bk5 := Bk.kept g5 (by simp)
          have e2 := Bk5.cell 0 (v := .int .i64 x) rfl
          have e3 := Bk5.cell 1 (v := .int .i64 y) rfl
          have e4 := B5.cell 0 (v := .int .i64 dx) rfl
          have e5 := B5.cell 1 (v := .int .i64 dy) rfl
          have hll : (fl1 T p f k).length < 1073741824 := by have := len_fl1 T p f k; omega
          have hfl := flipC w.heap.size (fl1 T p f k) (x + dx, y + dy) hok hll W5 (Mk.kept g5 (by simp))
          unfold ptV at hfl
          have hwB : w.heap.size ≠ wo.heap.size := by omega
          go_wp2_with (first | (go_at_call 66; refine hfl.mono ?_; rintro e w6 ⟨rfl, M6, g6⟩; refine Hid.out ?_) | go_in)
          refine Lib.hid ?_
          have r6 := (rk.kept g5 (by simp) (by simp)).kept g6 (by simpa using nbr) (by simpa using nrb)
          have B6 := Bk5.kept g6 (fun e => by injection e with e; omega)
          have G6 : w.grownBy w6 none := (gb_trans Gk g5).andThen g6 (fun j hj => .inl (by injection hj with hj; omega))
          clear hfl
          go_wp2
          go_roundw
          case rel => exact ⟨k + 1, by omega, by go_num, by rw [HS.out]; exact M6, r6, B6, G6⟩
          case measure => simp [intOf]; omega
        · have hkn2 : k = n := by omega
          subst hkn2
          have hkn' : ¬ (k : Int) < (k : Int) := by omega
          go_wp2
          go_roundw
          case rel => exact ⟨_, cnt1, fl1 T p f k, p :: dn, rk, Mk, Gk, hC1, HT1, by have := len_fl1 T p f k; rw [List.length_cons, Nat.succ_mul]; omega⟩
          case measure =>
            have h9 := rk.left_eq
            have := hrgl.out
            have := hlt2.out
            omega
end Ln
end Go.Proofs.YtbmpiddjakdebaaGreat
