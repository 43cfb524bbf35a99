/- The book's stands. -/
import Derived.Test.YtbmpiddjakdebaaGreatNw
namespace Go.Proofs.YtbmpiddjakdebaaGreat
open Go.RowKit
set_option linter.unusedVariables false
set_option linter.unusedSimpArgs false
set_option maxRecDepth 100000

namespace Ln
/-- Values in a row, readable. -/
def Gs (w : World) (sp : Option Addr) (n : Nat) (L : List Value) : Prop := ∀ i, i < n → ∃ q, sp = some ⟨q, 0, none⟩ ∧ w.cell? ⟨q, i, none⟩ = some (L.getD i nv)
theorem Gs.kept {w w' : World} {sp : Option Addr} {n : Nat} {L : List Value} {r : Option Nat} (h : Gs w sp n L) (hg : w.grownBy w' r) (hne : ∀ a, sp = some a → some a.block ≠ r) : Gs w' sp n L := fun i hi => by
  obtain ⟨q, e, c⟩ := h i hi
  exact ⟨q, e, hg.cell c (hne ⟨q, 0, none⟩ e)⟩
theorem gs_own {w : World} {base n : Nat} {x : Value} {L : List Value} (H : w.ownsRow base 24 1 x n L) (hn : L.length = n) : ∃ sp cap, x = .slice sp n cap ∧ Gs w sp n L ∧ (∀ a, sp = some a → x.ownBlock = some a.block) := by
  rcases H.2 with ⟨rfl, hnil⟩ | ⟨g, cap, cur, rfl, hb, hbk, h1, h2, h3, h4⟩
  · have h0 : n = 0 := by
      cases n with
      | zero => rfl
      | succ n => simp at hnil
    subst h0
    exact ⟨none, 0, rfl, fun k hk => by omega, fun a e => by cases e⟩
  · refine ⟨_, cap, rfl, fun k hk => ⟨g, rfl, ?_⟩, fun a e => by injection e with e; subst e; rfl⟩
    have hk' : k < L.length := by rw [hn]; exact hk
    have e : (cur.toList.take (n * 1))[k]? = L[k]? := by rw [h4]
    rw [List.getElem?_take_of_lt (by omega), List.getElem?_eq_getElem hk', Array.getElem?_toList] at e
    simp only [World.cell?, hbk]
    rw [List.getD_eq_getElem?_getD, List.getElem?_eq_getElem hk']
    simpa using e
/-- The rows that were answered, in a stage of being written over. -/
structure Rq (w : World) (base b : Nat) (bx : Array Value) (sg : Option Addr) (V : List Value) (n : Nat → Nat) (Q : Nat → List Pt) : Prop where
  box : Bo w b 31 bx
  got : Gs w sg V.length V
  len : ∀ j, j < V.length → (Q j).length = n j
  row : ∀ j, j < V.length → w.ownsRow base 40 2 (V.getD j nv) (n j) (fl (Q j))
theorem Rq.kept {w w' : World} {base b : Nat} {bx : Array Value} {sg : Option Addr} {V : List Value} {n : Nat → Nat} {Q : Nat → List Pt} (h : Rq w base b bx sg V n Q) (hg : w.grownBy w' none) : Rq w' base b bx sg V n Q := ⟨h.box.kept hg (by simp), h.got.kept hg (by simp), h.len, fun j hj => (h.row j hj).kept hg (Classical.em _)⟩
/-- What does not change: the places of the values. -/
structure Fx (base b : Nat) (sg : Option Addr) (V : List Value) : Prop where
  hb : b < base
  ap : ∀ i j, i < j → j < V.length → Nb (V.getD i nv) (V.getD j nv)
  gV : ∀ i, i < V.length → ∀ a, sg = some a → (V.getD i nv).ownBlock ≠ some a.block
  gb : ∀ a, sg = some a → a.block ≠ b
theorem Fx.apart {base b : Nat} {sg : Option Addr} {V : List Value} (h : Fx base b sg V) {i j : Nat} (hi : i < V.length) (hj : j < V.length) (hij : i ≠ j) {g : Nat} (e : (V.getD i nv).ownBlock = some g) : (V.getD j nv).ownBlock ≠ some g := by
  rcases Nat.lt_or_gt_of_ne hij with h1 | h1
  · exact h.ap i j h1 hj g e
  · exact fun e2 => h.ap j i h1 hi g e2 e
theorem set_getD (L : List Pt) (k : Nat) (p : Pt) (t : Nat) (hk : k < L.length) : (L.set k p).getD t (0, 0) = if t = k then p else L.getD t (0, 0) := by
  rw [List.getD_eq_getElem?_getD, List.getD_eq_getElem?_getD, List.getElem?_set]
  by_cases e : k = t
  · subst e; rw [if_pos rfl, if_pos hk, if_pos rfl]; rfl
  · rw [if_neg e, if_neg (fun e2 => e e2.symm)]
/-- Where things lie. -/
structure Cx (base b S0 : Nat) (sg : Option Addr) (V : List Value) : Prop where
  fx : Fx base b sg V
  vS : ∀ j, j < V.length → ∀ g, (V.getD j nv).ownBlock = some g → g < S0
  sS : ∀ a, sg = some a → a.block < S0
  vO : ∀ j, j < V.length → ∀ a m c, V.getD j nv = .slice (some a) m c → a = ⟨a.block, 0, none⟩
/-- The rows while they are grown: those from i0 on are still to be grown. -/
structure R3 (w : World) (base b : Nat) (bx : Array Value) (sg : Option Addr) (V : List Value) (n : Nat → Nat) (S0 i0 i : Nat) (M : List Value) (mv : Value) : Prop where
  box : Bo w b 31 bx
  got : Gs w sg V.length V
  rd : ∀ j, j < V.length → ∃ sp cap, V.getD j nv = .slice sp (n j) cap ∧ Pl w sp (n j) (fun _ => (500 + (j : Int), 0))
  vr : ∀ j, i0 ≤ j → j < V.length → w.ownsRow base 40 2 (V.getD j nv) (n j) (fl (mks j (n j)))
  ml : M.length = i
  mr : ∀ j, j < i → w.ownsRow base 40 2 (M.getD j nv) (n j + 70) (fl (mks j (n j + 70)))
  mo : w.ownsRow base 24 1 mv i M
  mS : ∀ g, mv.ownBlock = some g → S0 ≤ g
  mM : ∀ j, j < i → Nb mv (M.getD j nv)
  mb : ∀ j, j < i → ∀ g, (M.getD j nv).ownBlock = some g → (V.getD j nv).ownBlock = some g ∨ S0 ≤ g
theorem R3.kept {w w' : World} {base b : Nat} {bx : Array Value} {sg : Option Addr} {V : List Value} {n : Nat → Nat} {S0 i0 i : Nat} {M : List Value} {mv : Value} (h : R3 w base b bx sg V n S0 i0 i M mv) (hg : w.grownBy w' none) : R3 w' base b bx sg V n S0 i0 i M mv :=
  ⟨h.box.kept hg (by simp), h.got.kept hg (by simp), fun j hj => by obtain ⟨sp, cap, e, p⟩ := h.rd j hj; exact ⟨sp, cap, e, p.kept hg (by simp)⟩, fun j h1 h2 => (h.vr j h1 h2).kept hg (Classical.em _), h.ml, fun j hj => (h.mr j hj).kept hg (Classical.em _), h.mo.kept hg (Classical.em _), h.mS, h.mM, h.mb⟩
theorem R3.by {w w' : World} {base b : Nat} {bx : Array Value} {sg : Option Addr} {V : List Value} {n : Nat → Nat} {S0 i0 i : Nat} {M : List Value} {mv : Value} (h : R3 w base b bx sg V n S0 i0 i M mv) {g : Nat} (hg : w.grownBy w' (some g)) (hb : b ≠ g) (hsg : ∀ a, sg = some a → a.block ≠ g) (jx : Nat) (hvj : ∀ j, j < V.length → j ≠ jx → (V.getD j nv).ownBlock ≠ some g) (hjx : jx < i0)
    (hx : jx < V.length → ∃ sp cap, V.getD jx nv = .slice sp (n jx) cap ∧ Pl w' sp (n jx) (fun _ => (500 + (jx : Int), 0))) (hm : ∀ j, j < i → (M.getD j nv).ownBlock ≠ some g) (hmv : mv.ownBlock ≠ some g) : R3 w' base b bx sg V n S0 i0 i M mv :=
  ⟨h.box.kept hg (fun e => hb (Option.some.inj e)), h.got.kept hg (fun a e e2 => hsg a e (Option.some.inj e2)), fun j hj => by
    by_cases e : j = jx
    · subst e; exact hx hj
    · obtain ⟨sp, cap, e1, p⟩ := h.rd j hj
      refine ⟨sp, cap, e1, p.kept hg (fun a ha e2 => hvj j hj e ?_)⟩
      rw [e1, ha]
      exact e2, fun j h1 h2 => (h.vr j h1 h2).kept hg (.inr (hvj j h2 (by omega))), h.ml, fun j hj => (h.mr j hj).kept hg (.inr (hm j hj)), h.mo.kept hg (.inr hmv), h.mS, h.mM, h.mb⟩
/-- The list l under growth: it lies where V's row lay, or anew. -/
structure Lg (w : World) (base S0 : Nat) (V : List Value) (n : Nat → Nat) (i k : Nat) (M : List Value) (mv lv : Value) : Prop where
  own : w.ownsRow base 40 2 lv (n i + k) (fl (mks i (n i + k)))
  at_ : ∀ g, lv.ownBlock = some g → (V.getD i nv).ownBlock = some g ∨ S0 ≤ g
  nM : ∀ j, j < i → Nb lv (M.getD j nv)
  nm : Nb lv mv
theorem Lg.step {w W3 w' : World} {base b : Nat} {bx : Array Value} {sg : Option Addr} {V : List Value} {n : Nat → Nat} {S0 i k : Nat} {M : List Value} {mv lv : Value} (C : Cx base b S0 sg V) (hi : i < V.length) (hS : S0 ≤ w.heap.size) (hbS : base ≤ S0) (h : R3 w base b bx sg V n S0 (i + 1) i M mv) (l : Lg w base S0 V n i k M mv lv) (g3 : w.grownBy W3 none) {g cap : Nat}
    (own : w'.ownsRow base 40 2 (.slice (some ⟨g, 0, none⟩) (n i + k + 1) cap) (n i + k + 1) (fl (mks i (n i + k)) ++ [.int .i64 (500 + (i : Int)), .int .i64 0])) (hc : (lv.ownBlock = some g ∧ W3.grownBy w' (some g)) ∨ (W3.heap.size ≤ g ∧ W3.grownBy w' none)) :
    R3 w' base b bx sg V n S0 (i + 1) i M mv ∧ Lg w' base S0 V n i (k + 1) M mv (.slice (some ⟨g, 0, none⟩) (n i + k + 1) cap) := by
  have h3 := h.kept g3
  have s3 := g3.size
  have hfl : fl (mks i (n i + k)) ++ [.int .i64 (500 + (i : Int)), .int .i64 0] = fl (mks i (n i + (k + 1))) := by
    rw [show n i + (k + 1) = n i + k + 1 from rfl, mks_snoc, fl_app]; rfl
  rw [hfl] at own
  have hgb := (own.lt g rfl).1
  have hbb := C.fx.hb
  rcases hc with ⟨e, hg⟩ | ⟨hge, hg⟩
  · have hat := l.at_ g e
    refine ⟨h3.by hg (by omega) (fun a ha e2 => ?_) i (fun j hj hji e2 => ?_) (by omega) (fun _ => ?_) (fun j hj e2 => l.nM j hj g e e2) (fun e2 => l.nm g e e2), ⟨own, fun g' e' => by injection e' with e'; subst e'; exact hat, fun j hj g' e' => by injection e' with e'; subst e'; exact l.nM j hj g e, fun g' e' => by injection e' with e'; subst e'; exact l.nm g e⟩⟩
    · rcases hat with h1 | h1
      · exact C.fx.gV i hi a ha (by rw [e2]; exact h1)
      · have := C.sS a ha; omega
    · rcases hat with h1 | h1
      · exact C.fx.apart hi hj (fun e3 => hji e3.symm) h1 e2
      · have := C.vS j hj g e2; omega
    · obtain ⟨sp, cp, e1, p⟩ := h3.rd i hi
      refine ⟨sp, cp, e1, fun t ht => ?_⟩
      obtain ⟨q, o, hq, c0, c1⟩ := p t ht
      by_cases hqg : q = g
      · subst hqg
        have ho : o = 0 := by
          have := C.vO i hi ⟨q, o, none⟩ (n i) cp (by rw [e1, hq])
          injection this
        subst ho
        obtain ⟨q', o', hq', d0, d1⟩ := (pl_own own (by rw [mks_len]; rfl)) t (by omega)
        injection hq' with hq'
        injection hq' with hq1 hq2
        subst hq1
        subst hq2
        simp only at d0 d1
        rw [mks_get i _ t (by omega)] at d0 d1
        exact ⟨q, 0, hq, d0, d1⟩
      · exact ⟨q, o, hq, hg.cell c0 (fun e2 => hqg (Option.some.inj e2)), hg.cell c1 (fun e2 => hqg (Option.some.inj e2))⟩
  · refine ⟨h3.kept hg, ⟨own, fun g' e' => by have e' : g = g' := Option.some.inj e'; subst e'; exact .inr (by omega), fun j hj g' e' e2 => ?_, fun g' e' e2 => ?_⟩⟩
    · injection e' with e'
      subst e'
      have := ((h3.mr j hj).lt g e2).2
      omega
    · injection e' with e'
      subst e'
      have := (h3.mo.lt g e2).2
      omega
theorem R3.push {w W3 w' : World} {base b : Nat} {bx : Array Value} {sg : Option Addr} {V : List Value} {n : Nat → Nat} {S0 i : Nat} {M : List Value} {mv lv : Value} (C : Cx base b S0 sg V) (hi : i < V.length) (hS : S0 ≤ w.heap.size) (hbS : base ≤ S0) (h : R3 w base b bx sg V n S0 (i + 1) i M mv) (l : Lg w base S0 V n i 70 M mv lv) (g3 : w.grownBy W3 none) {g cap : Nat}
    (own : w'.ownsRow base 24 1 (.slice (some ⟨g, 0, none⟩) (i + 1) cap) (i + 1) (M ++ [lv])) (hc : (mv.ownBlock = some g ∧ W3.grownBy w' (some g)) ∨ (W3.heap.size ≤ g ∧ W3.grownBy w' none)) :
    R3 w' base b bx sg V n S0 (i + 1) (i + 1) (M ++ [lv]) (.slice (some ⟨g, 0, none⟩) (i + 1) cap) := by
  have h3 := h.kept g3
  have s3 := g3.size
  have hbb := C.fx.hb
  have l3 := l.own.kept g3 (Classical.em _)
  have hgS : S0 ≤ g := by
    rcases hc with ⟨e, _⟩ | ⟨e, _⟩
    · exact h.mS g e
    · omega
  have hnl : ∀ g', lv.ownBlock = some g' → g' ≠ g := fun g' e' e2 => by
    subst e2
    rcases hc with ⟨e, _⟩ | ⟨e, _⟩
    · exact l.nm g' e' e
    · have := (l3.lt g' e').2; omega
  have hnM : ∀ j, j < i → ∀ g', (M.getD j nv).ownBlock = some g' → g' ≠ g := fun j hj g' e' e2 => by
    subst e2
    rcases hc with ⟨e, _⟩ | ⟨e, _⟩
    · exact h.mM j hj g' e e'
    · have := ((h3.mr j hj).lt g' e').2; omega
  have hg : ∃ r, W3.grownBy w' r ∧ (r = none ∨ r = some g) := by
    rcases hc with ⟨_, e⟩ | ⟨_, e⟩
    · exact ⟨_, e, .inr rfl⟩
    · exact ⟨_, e, .inl rfl⟩
  obtain ⟨r, hg, hr⟩ := hg
  have hne : ∀ x, x ≠ g → some x ≠ r := fun x hx e => by
    rcases hr with hr | hr
    · rw [hr] at e; cases e
    · rw [hr] at e; exact hx (Option.some.inj e)
  have keepV : ∀ (x : Value), (∀ g', x.ownBlock = some g' → g' ≠ g) → x.ownBlock = none ∨ x.ownBlock ≠ r := fun x hx => by
    cases e : x.ownBlock with
    | none => exact .inl rfl
    | some g' => exact .inr (hne g' (hx g' e))
  have hml : (M ++ [lv]).length = i + 1 := by rw [List.length_append, h.ml]; rfl
  have gM1 : ∀ j, j < i → (M ++ [lv]).getD j nv = M.getD j nv := fun j hj => by rw [getD_snoc, if_pos (by rw [h.ml]; exact hj)]
  have gM2 : (M ++ [lv]).getD i nv = lv := by rw [getD_snoc, if_neg (by rw [h.ml]; exact Nat.lt_irrefl _), if_pos h.ml.symm]
  have hvS := fun j (hj : j < V.length) => (fun g' e' e2 => by have := C.vS j hj g' e'; omega : ∀ g', (V.getD j nv).ownBlock = some g' → g' ≠ g)
  have split : ∀ j, j < i + 1 → j < i ∨ j = i := fun j hj => by omega
  refine ⟨h3.box.kept hg (hne b (by omega)), h3.got.kept hg (fun a ha => hne _ (by have := C.sS a ha; omega)), fun j hj => ?_, fun j h1 h2 => (h3.vr j h1 h2).kept hg (keepV _ (hvS j h2)), hml, fun j hj => ?_, own, fun g' e' => by have e' : g = g' := Option.some.inj e'; omega, fun j hj g' e' e2 => ?_, fun j hj g' e' => ?_⟩
  · obtain ⟨sp, cp, e1, p⟩ := h3.rd j hj
    exact ⟨sp, cp, e1, p.kept hg (fun a ha => hne _ (hvS j hj a.block (by rw [e1, ha]; rfl)))⟩
  · rcases split j hj with h1 | h1
    · rw [gM1 j h1]; exact (h3.mr j h1).kept hg (keepV _ (hnM j h1))
    · subst h1; rw [gM2]; exact l3.kept hg (keepV _ hnl)
  · injection e' with e'
    subst e'
    rcases split j hj with h1 | h1
    · rw [gM1 j h1] at e2; exact hnM j h1 _ e2 rfl
    · subst h1; rw [gM2] at e2; exact hnl _ e2 rfl
  · rcases split j hj with h1 | h1
    · rw [gM1 j h1] at e'; exact h.mb j h1 g' e'
    · subst h1; rw [gM2] at e'; exact l.at_ g' e'
theorem Rq.put {w : World} {base b : Nat} {bx : Array Value} {sg : Option Addr} {V : List Value} {n : Nat → Nat} {Q : Nat → List Pt} (h : Rq w base b bx sg V n Q) (hF : Fx base b sg V) {i k g cap : Nat} (hi : i < V.length) (hk : k < n i) (hV : V.getD i nv = .slice (some ⟨g, 0, none⟩) (n i) cap) (x y : Int) :
    Rq ((w.setCell ⟨g, k * 2, none⟩ (.int .i64 x)).setCell ⟨g, k * 2 + 1, none⟩ (.int .i64 y)) base b bx sg V n (fun j => if j = i then (Q i).set k (x, y) else Q j) := by
  have hr := h.row i hi
  rw [hV] at hr
  obtain ⟨o1, g1⟩ := hr.stored (k * 2) (.int .i64 x)
  obtain ⟨o2, g2⟩ := o1.stored (k * 2 + 1) (.int .i64 y)
  have G := gb_set (gb_set (World.grownBy.refl w (some g)) (k * 2) (.int .i64 x)) (k * 2 + 1) (.int .i64 y)
  have hgb := (hr.lt g rfl).1
  have hbb := hF.hb
  refine ⟨h.box.kept G (fun e => by have e := Option.some.inj e; omega), h.got.kept G (fun a e e2 => hF.gV i hi a e (by rw [hV]; exact e2.symm)), fun j hj => ?_, fun j hj => ?_⟩
  · by_cases e : j = i
    · subst e
      try simp only
      first | rw [if_pos rfl] | rw [if_pos trivial]
      rw [List.length_set]
      exact h.len j hj
    · try simp only
      rw [if_neg e]
      exact h.len j hj
  · by_cases e : j = i
    · subst e
      try simp only
      first | rw [if_pos rfl] | rw [if_pos trivial]
      rw [hV, ← fl_set]
      exact o2
    · try simp only
      rw [if_neg e]
      exact (h.row j hj).kept G (.inr (hF.apart hi hj (fun e2 => e e2.symm) (by rw [hV]; rfl)))
set_option maxHeartbeats 8000000 in
theorem standsC (Wb w : World) (gb : Wb.grownBy w none) (base b : Nat) (hbW : Wb.heap.size ≤ b) (gv uv : Value) (V U : List Value) (P : Nat → List Pt) (hB : Bk w base b gv uv V U P) (hN : V.length < 100) (hP : ∀ i, i < V.length → (P i).length < 1000000 ∧ ∀ k, k < (P i).length → PtOk ((P i).getD k (0, 0))) :
    Calls Tryz.prog 12 #[.pointer (some ⟨b, 0, none⟩)] w fun e w' => e = .returned (.bool true) ∧ Wb.grownBy w' none := by
  obtain ⟨sg, cg, hgv, HG, hgb⟩ := gs_own hB.got rfl
  obtain ⟨su, cu, huv, HU, hub⟩ := gs_own hB.want hB.lenU
  have HBk : Hid (Bk w base b gv uv V U P) := hB
  have HP : Hid (∀ i, i < V.length → (P i).length < 1000000 ∧ ∀ k, k < (P i).length → PtOk ((P i).getD k (0, 0))) := hP
  have hFx : Fx base b sg V := ⟨hB.hb, hB.ap, fun i hi a e e2 => hB.gV i hi a.block (hgb a e) e2, fun a e e2 => by have := (hB.got.lt a.block (hgb a e)).1; have := hB.hb; omega⟩
  have HFx : Hid (Fx base b sg V) := hFx
  have HSG : Hid (∀ a, sg = some a → a.block < w.heap.size) := fun a e => (hB.got.lt a.block (hgb a e)).2
  have B0 := hB.box
  have hbs := hB.hbw
  have hbb := hB.hb
  subst hgv
  subst huv
  obtain ⟨bx, hbx⟩ : ∃ bx : Array Value, #[.slice sg V.length cg, .slice su V.length cu, .bool false] = bx := ⟨_, rfl⟩
  obtain ⟨n, hn⟩ : ∃ n : Nat → Nat, (fun i => (P i).length) = n := ⟨_, rfl⟩
  have HN : Hid (∀ i, (P i).length = n i) := fun i => by rw [← hn]
  have hR0 : Rq w base b #[.slice sg V.length cg, .slice su V.length cu, .bool false] sg V n P := ⟨B0, HG, fun j hj => HN.out j, fun j hj => by have := hB.ev j hj; rw [HN.out] at this; exact this⟩
  have HR0 : Hid (Rq w base b #[.slice sg V.length cg, .slice su V.length cu, .bool false] sg V n P) := hR0
  have b0 := B0.cell 0 (v := .slice sg V.length cg) rfl
  have b1 := B0.cell 1 (v := .slice su V.length cu) rfl
  have b2 := B0.cell 2 (v := .bool false) rfl
  obtain ⟨NN, hNN⟩ : ∃ m, V.length = m := ⟨_, rfl⟩
  have HNN : Hid (V.length = NN) := hNN
  clear hB hP hFx hR0 hbx bx hn hgb hub
  rw [hNN] at b0 b1 hN
  go_enter Tryz.func12, Tryz.ntmps12
  go_wp2
  go_loopw [3] (fun v wr => ∃ i : Nat, i ≤ NN ∧ v = .int .i64 i ∧ w.grownBy wr none) (fun v _ => NN - (intOf v).toNat)
  case atStart => exact ⟨0, Nat.zero_le _, rfl, World.grownBy.refl _ _⟩
  case round =>
    obtain ⟨i, hi, rfl, gi⟩ := hrel
    have Bi := B0.kept gi (by simp)
    have c0 := Bi.cell 0 (v := .slice sg V.length cg) rfl
    have c1 := Bi.cell 1 (v := .slice su V.length cu) rfl
    rw [hNN] at c0 c1
    by_cases hlt : i < NN
    · have hlt' : (i : Int) < (NN : Int) := by omega
      have hiV : i < V.length := by omega
      obtain ⟨q, rfl, d0⟩ := (HG.kept gi (by simp)) i hiV
      obtain ⟨q2, rfl, d1⟩ := (HU.kept gi (by simp)) i (by omega)
      obtain ⟨s1, k1, e1, P1, _⟩ := own_shape0 ((HBk.out.ev i hiV).kept gi (Classical.em _)) rfl
      obtain ⟨s2, k2, e2, P2, _⟩ := own_shape0 ((HBk.out.eu i hiV).kept gi (Classical.em _)) rfl
      have hp := HP.out i hiV
      have gdr : wr.grownBy wr.drew none := gb_drew (World.grownBy.refl wr none)
      have kS := sameEq s1 (P i).length k1 (fun k => (P i).getD k (0, 0)) hp.2 (by omega) s2 k2 wr P1 P2
      have kSd := sameEq s1 (P i).length k1 (fun k => (P i).getD k (0, 0)) hp.2 (by omega) s2 k2 wr.drew (P1.kept gdr (by simp)) (P2.kept gdr (by simp))
      rw [e1] at d0
      rw [e2] at d1
      have D0 := gdr.cell d0 (by simp)
      have D1 := gdr.cell d1 (by simp)
      have C0 := gdr.cell c0 (by simp)
      have C1 := gdr.cell c1 (by simp)
      clear e1 e2 P1 P2 hp kS
      generalize (P i).length = nP at kSd d0 d1 D0 D1
      go_wp2
      go_region_held2 (fun w' => w'.cell? ⟨b, 0, none⟩ = some (.slice (some ⟨q, 0, none⟩) NN cg) ∧ w'.cell? ⟨b, 1, none⟩ = some (.slice (some ⟨q2, 0, none⟩) NN cu) ∧ w'.cell? ⟨q, i, none⟩ = some (.slice s1 nP k1) ∧ w'.cell? ⟨q2, i, none⟩ = some (.slice s2 nP k2)) (go_keep) (first | (go_at_call 20; refine kSd.mono ?_; rintro e w2 ⟨rfl, g2⟩; clear kSd; have X0 := g2.cell C0 (by simp); have X1 := g2.cell C1 (by simp); have X2 := g2.cell D0 (by simp); have X3 := g2.cell D1 (by simp)))
      go_wp2
      go_roundw
      case rel => exact ⟨i + 1, by omega, by go_num, gb_trans gi (gb_trans gdr g2)⟩
      case measure => simp [intOf]; omega
    · have hin : i = NN := by omega
      subst hin
      have hlt' : ¬ (i : Int) < (i : Int) := by omega
      have hR2 := HR0.out.kept gi
      have gw2 := gb_trans gb gi
      have HR2 : Hid (Rq wr base b #[.slice sg V.length cg, .slice su V.length cu, .bool false] sg V n P) := hR2
      have HPn : Hid (∀ j, j < V.length → n j < 1000000) := fun j hj => by have := (HP.out j hj).1; rw [HN.out] at this; exact this
      clear hR2 HR0 HBk HG HU b0 b1 b2 B0 Bi HP
      obtain ⟨NN, hNi⟩ : ∃ m, m = i := ⟨_, rfl⟩
      subst hNi
      go_wp2
      clear c0 c1
      go_loopw [5] (fun v wr => ∃ (i : Nat) (Q : Nat → List Pt), i ≤ NN ∧ v = .int .i64 i ∧ Hid (Rq wr base b #[.slice sg V.length cg, .slice su V.length cu, .bool false] sg V n Q) ∧ Hid (∀ j t, j < i → j < V.length → t < n j → (Q j).getD t (0, 0) = (500 + (j : Int), 0)) ∧ w.heap.size ≤ wr.heap.size ∧ Wb.grownBy wr none) (fun v _ => NN - (intOf v).toNat)
      case atStart => exact ⟨0, P, Nat.zero_le _, rfl, HR2.out, (fun j t hj => by omega), gi.size, gw2⟩
      case round =>
        obtain ⟨i, Q, hi, rfl, HR, HM, hsz, gi⟩ := hrel
        have b0 := HR.out.box.cell 0 (v := .slice sg V.length cg) rfl
        rw [hNN] at b0
        by_cases hlt : i < NN
        · have hlt' : (i : Int) < (NN : Int) := by omega
          have hiV : i < V.length := by omega
          have HM0 : Hid (∀ j t, (j < i ∨ (j = i ∧ t < 0)) → j < V.length → t < n j → (Q j).getD t (0, 0) = (500 + (j : Int), 0)) := fun j t h1 => HM.out j t (by omega)
          have hni := HPn.out i hiV
          clear HM
          go_wp2
          go_loopw [6] (fun v wr => ∃ (k : Nat) (Q : Nat → List Pt), k ≤ n i ∧ v = .int .i64 k ∧ Hid (Rq wr base b #[.slice sg V.length cg, .slice su V.length cu, .bool false] sg V n Q) ∧ Hid (∀ j t, (j < i ∨ (j = i ∧ t < k)) → j < V.length → t < n j → (Q j).getD t (0, 0) = (500 + (j : Int), 0)) ∧ w.heap.size ≤ wr.heap.size ∧ Wb.grownBy wr none) (fun v _ => n i - (intOf v).toNat)
          case atStart => exact ⟨0, Q, Nat.zero_le _, rfl, HR.out, HM0.out, hsz, gi⟩
          case round =>
            obtain ⟨k, Q, hk, rfl, HR, HM, hszk, gk⟩ := hrel
            have b0 := HR.out.box.cell 0 (v := .slice sg V.length cg) rfl
            rw [hNN] at b0
            obtain ⟨q, rfl, d0⟩ := HR.out.got i hiV
            obtain ⟨s1, k1, e1, P1, _⟩ := own_shape0 (HR.out.row i hiV) (HR.out.len i hiV)
            by_cases hkt : k < n i
            · have hkt' : (k : Int) < (n i : Int) := by omega
              obtain ⟨g, cap, hVi, hgb, hglt⟩ := (HR.out.row i hiV).form (by omega)
              have hro := HR.out.row i hiV
              rw [hVi] at hro d0
              obtain ⟨z0, z1⟩ := fl_at (Q i) k (by rw [HR.out.len i hiV]; exact hkt)
              have x0 := (hro.cellAt (k * 2) (by omega)).trans z0
              have x1 := (hro.cellAt (k * 2 + 1) (by omega)).trans z1
              have y0 := hro.frozenAt (k * 2)
              have y1 := hro.frozenAt (k * 2 + 1)
              have hw5 : IntKind.i64.wrap (500 + (i : Int)) = 500 + (i : Int) := by rw [IntKind.wrap_i64]; omega
              have HR1 : Hid (Rq ((wr.setCell ⟨g, k * 2, none⟩ (.int .i64 (500 + (i : Int)))).setCell ⟨g, k * 2 + 1, none⟩ (.int .i64 0)) base b #[.slice (some ⟨q, 0, none⟩) V.length cg, .slice su V.length cu, .bool false] (some ⟨q, 0, none⟩) V n (fun j => if j = i then (Q i).set k (500 + (i : Int), 0) else Q j)) := HR.out.put HFx.out hiV hkt hVi _ _
              have HM1 : Hid (∀ j t, (j < i ∨ (j = i ∧ t < k + 1)) → j < V.length → t < n j → ((fun j => if j = i then (Q i).set k (500 + (i : Int), 0) else Q j) j).getD t (0, 0) = (500 + (j : Int), 0)) := fun j t h1 h2 h3 => by
                by_cases e : j = i
                · subst e
                  try simp only
                  first | rw [if_pos rfl] | rw [if_pos trivial]
                  rw [set_getD _ _ _ _ (by rw [HR.out.len j hiV]; exact hkt)]
                  by_cases e2 : t = k
                  · rw [if_pos e2]
                  · rw [if_neg e2]; exact HM.out j t (by omega) h2 h3
                · try simp only
                  rw [if_neg e]
                  exact HM.out j t (by omega) h2 h3
              have gk1 : Wb.grownBy ((wr.setCell ⟨g, k * 2, none⟩ (.int .i64 (500 + (i : Int)))).setCell ⟨g, k * 2 + 1, none⟩ (.int .i64 0)) none := gb_new (gb_new gk (a := ⟨g, k * 2, none⟩) (by simp only; omega) _) (a := ⟨g, k * 2 + 1, none⟩) (by simp only; omega) _
              have hsz1 : w.heap.size ≤ ((wr.setCell ⟨g, k * 2, none⟩ (.int .i64 (500 + (i : Int)))).setCell ⟨g, k * 2 + 1, none⟩ (.int .i64 0)).heap.size := by simpa [World.setCell] using hszk
              clear HM HR hro z0 z1 P1 e1
              generalize (Q i).getD k (0, 0) = pq at x0 x1
              generalize n i = ni at d0 hkt hkt' hk hni
              go_wp2
              first | go_roundw | (go_quiet (fail); go_wp2; go_roundw)
              case rel => exact ⟨k + 1, _, by omega, by go_num, HR1.out, HM1.out, hsz1, gk1⟩
              case measure => simp [intOf]; omega
            · have hkn : k = n i := by omega
              have hkt' : ¬ (k : Int) < (n i : Int) := by omega
              rw [e1] at d0
              have HM1 : Hid (∀ j t, j < i + 1 → j < V.length → t < n j → (Q j).getD t (0, 0) = (500 + (j : Int), 0)) := fun j t h1 h2 h3 => HM.out j t (by
                by_cases e : j = i
                · subst e; exact .inr ⟨rfl, by omega⟩
                · exact .inl (by omega)) h2 h3
              go_wp2
              first | go_roundw | (go_quiet (fail); go_wp2; go_roundw)
              case rel => exact ⟨i + 1, Q, by omega, by go_num, HR.out, HM1.out, hszk, gk⟩
              case measure => simp [intOf]; omega
        · have hie : i = NN := by omega
          have hlt' : ¬ (i : Int) < (NN : Int) := by omega
          have HA : Hid (∀ j, j < V.length → Q j = mks j (n j)) := fun j hj => mks_of (HR.out.len j hj) (fun t ht => HM.out j t (by omega) hj ht)
          have hC : Cx base b wr.heap.size sg V := ⟨HFx.out, fun j hj g e => ((HR.out.row j hj).lt g e).2, fun a ha => Nat.lt_of_lt_of_le (HSG.out a ha) hsz, fun j hj a m c e => by
            rcases (HR.out.row j hj).2 with ⟨e2, _⟩ | ⟨g, cap, cur, e2, _⟩
            · rw [e] at e2; cases e2
            · rw [e] at e2
              injection e2 with e3 e4 e5
              injection e3 with e3
              rw [e3]⟩
          have HC : Hid (Cx base b wr.heap.size sg V) := hC
          have hR3 : R3 wr base b #[.slice sg V.length cg, .slice su V.length cu, .bool false] sg V n wr.heap.size 0 0 [] (.slice none 0 0) := ⟨HR.out.box, HR.out.got, fun j hj => by
              obtain ⟨sp, cap, e, p, _⟩ := own_shape0 (HR.out.row j hj) (HR.out.len j hj)
              exact ⟨sp, cap, e, p.congr (fun t ht => by rw [HA.out j hj, mks_get j _ t ht])⟩, fun j _ hj => by have := HR.out.row j hj; rw [HA.out j hj] at this; exact this, rfl, fun j hj => by omega, World.ownsRow_nil _ _ _ _, fun g e => (by cases e), fun j hj => by omega, fun j hj => by omega⟩
          have HR3 : Hid (R3 wr base b #[.slice sg V.length cg, .slice su V.length cu, .bool false] sg V n wr.heap.size 0 0 [] (.slice none 0 0)) := hR3
          have hbS : base ≤ wr.heap.size := by omega
          obtain ⟨S0, hS0⟩ : ∃ S, wr.heap.size = S := ⟨_, rfl⟩
          have hSw : S0 ≤ wr.heap.size := by omega
          rw [hS0] at HC HR3 hbS
          clear hC hR3 HA HM HR hS0
          obtain ⟨iS, HIS⟩ : ∃ i, Hid (Tryz.prog.info? 24 = some i ∧ i.zero = some (.slice none 0 0) ∧ i.size = 1 ∧ i.bytes = 24) := by
            obtain ⟨i, h1, h2, h3, h4⟩ := info_parts infoPS
            exact ⟨i, h1, h2, h3, h4⟩
          obtain ⟨iK, HIK⟩ : ∃ i, Hid (Tryz.prog.info? 40 = some i ∧ i.zero = some (.agg #[.int .i64 0, .int .i64 0]) ∧ i.size = 2 ∧ i.bytes = 16) := by
            obtain ⟨i, h1, h2, h3, h4⟩ := info_parts infoK
            exact ⟨i, h1, h2, h3, h4⟩
          go_wp2
          clear b0
          go_loopw [8, 7] (fun v mv wr => ∃ (i : Nat) (M : List Value) (ov : Value), i ≤ NN ∧ v = .int .i64 i ∧ mv = ov ∧ Hid (R3 wr base b #[.slice sg V.length cg, .slice su V.length cu, .bool false] sg V n S0 i i M ov) ∧ S0 ≤ wr.heap.size ∧ Wb.grownBy wr none) (fun v _ _ => NN - (intOf v).toNat)
          case atStart => exact ⟨0, [], _, Nat.zero_le _, rfl, rfl, HR3.out, hSw, gi⟩
          case round =>
            obtain ⟨i, M, mv, hi, rfl, hmv, HR, hS, gi⟩ := hrel
            subst hmv
            have b0 := HR.out.box.cell 0 (v := .slice sg V.length cg) rfl
            rw [hNN] at b0
            by_cases hlt : i < NN
            · have hlt' : (i : Int) < (NN : Int) := by omega
              have hiV : i < V.length := by omega
              obtain ⟨q, rfl, d0⟩ := HR.out.got i hiV
              obtain ⟨s1, k1, e1, P1⟩ := HR.out.rd i hiV
              have hni := HPn.out i hiV
              have hL0 : Lg wr base S0 V n i 0 M u7 (V.getD i nv) := ⟨HR.out.vr i (Nat.le_refl _) hiV, fun g e => .inl e, fun j hj g e e2 => by
                  rcases HR.out.mb j hj g e2 with h1 | h1
                  · exact HC.out.fx.apart (show j < V.length by omega) hiV (by omega) h1 e
                  · have := HC.out.vS i hiV g e; omega, fun g e e2 => by have := HR.out.mS g e2; have := HC.out.vS i hiV g e; omega⟩
              have HL0 : Hid (Lg wr base S0 V n i 0 M u7 (.slice s1 (n i) k1)) := by unfold Hid; rw [← e1]; exact hL0
              have HR1 : Hid (R3 wr base b #[.slice (some ⟨q, 0, none⟩) V.length cg, .slice su V.length cu, .bool false] (some ⟨q, 0, none⟩) V n S0 (i + 1) i M u7) := ⟨HR.out.box, HR.out.got, HR.out.rd, fun j h1 h2 => HR.out.vr j (by omega) h2, HR.out.ml, HR.out.mr, HR.out.mo, HR.out.mS, HR.out.mM, HR.out.mb⟩
              rw [e1] at d0
              have hw5 : IntKind.i64.wrap (500 + (i : Int)) = 500 + (i : Int) := by rw [IntKind.wrap_i64]; omega
              have HX : Hid (∀ k, n i + k = n i + k) := fun _ => rfl
              clear hL0 HR P1 e1
              obtain ⟨ni, hnie⟩ : ∃ m, n i = m := ⟨_, rfl⟩
              have HNI : Hid (n i = ni) := hnie
              rw [hnie] at d0 hni
              rw [hnie] at HL0
              clear hnie
              go_wp2
              go_loopw [10, 9] (fun v lv wr => ∃ (k : Nat) (ov : Value), k ≤ 70 ∧ v = .int .i64 k ∧ lv = ov ∧ Hid (R3 wr base b #[.slice (some ⟨q, 0, none⟩) V.length cg, .slice su V.length cu, .bool false] (some ⟨q, 0, none⟩) V n S0 (i + 1) i M u7) ∧ Hid (Lg wr base S0 V n i k M u7 ov) ∧ S0 ≤ wr.heap.size ∧ Wb.grownBy wr none) (fun v _ _ => 70 - (intOf v).toNat)
              case atStart => exact ⟨0, _, Nat.zero_le _, rfl, rfl, HR1.out, HL0.out, hS, gi⟩
              case round =>
                obtain ⟨k, lv, hk, rfl, hlv, HR, HL, hSk, gk⟩ := hrel
                subst hlv
                by_cases hkt : k < 70
                · have hkt' : (k : Int) < 70 := by omega
                  obtain ⟨W3, hW3⟩ : ∃ W3, wr.alloc (.cells #[.int .i64 (500 + (i : Int)), .int .i64 0] 40) = W3 := ⟨_, rfl⟩
                  have g3 : wr.grownBy W3 none := (by rw [← hW3]; exact World.grownBy_alloc _ _ _)
                  have nX : ∀ l u, [Value.int .i64 (500 + (i : Int)), .int .i64 0][l]? = some u → W3.cell? ((⟨wr.heap.size, 0, none⟩ : Addr).add l) = some u := by rw [← hW3]; exact World.news_of_block (heap_alloc_new _ _)
                  have own3 := HL.out.own.kept g3 (Classical.em _)
                  rw [HNI.out] at own3
                  have s3 := g3.size
                  have hb3 : base ≤ W3.heap.size := by omega
                  go_wp2_with (first | (at_builtin; refine wpList_appS _ rfl _ _ 24 rfl base 40 iK (.agg #[.int .i64 0, .int .i64 0]) 2 16 underPS HIK.out.1 HIK.out.2.1 HIK.out.2.2.1 HIK.out.2.2.2 rfl (by decide) _ (ni + k) _ rfl own3 ⟨wr.heap.size, 0, none⟩ 1 [.int .i64 (500 + (i : Int)), .int .i64 0] rfl rfl nX (by intro u hu; simp at hu; rcases hu with rfl | rfl <;> rfl) (by unfold maxLen; omega) (by omega) hb3 ?_; intro g6 c6 w6 own6 hc6) | go_in)
                  rw [← HNI.out] at own6
                  obtain ⟨hR6, hL6⟩ := Lg.step HC.out hiV hSk hbS HR.out HL.out g3 own6 hc6
                  have HR6 : Hid (R3 w6 base b #[.slice (some ⟨q, 0, none⟩) V.length cg, .slice su V.length cu, .bool false] (some ⟨q, 0, none⟩) V n S0 (i + 1) i M u7) := hR6
                  have HL6 : Hid (Lg w6 base S0 V n i (k + 1) M u7 (.slice (some ⟨g6, 0, none⟩) (ni + k + 1) c6)) := by rw [HNI.out] at hL6; exact hL6
                  have gk6 : Wb.grownBy w6 none ∧ W3.heap.size ≤ w6.heap.size := by
                    have hbb' := HC.out.fx.hb
                    have h6 := (own6.lt g6 rfl).1
                    rcases hc6 with ⟨_, h⟩ | ⟨_, h⟩
                    · exact ⟨(gb_trans gk g3).andThen h (fun j hj => .inl (by have hj : g6 = j := Option.some.inj hj; omega)), h.size⟩
                    · exact ⟨gb_trans gk (gb_trans g3 h), h.size⟩
                  clear hR6 hL6 hc6 own6 own3 HR HL
                  go_roundw
                  case rel => exact ⟨k + 1, _, by omega, by go_num, rfl, HR6.out, HL6.out, by omega, gk6.1⟩
                  case measure => simp [intOf]; omega
                · have hke : k = 70 := by omega
                  subst hke
                  have hml := HR.out.ml
                  have hmo := HR.out.mo
                  obtain ⟨sl, cl, hlve, _, _⟩ := own_shape0 HL.out.own (mks_len _ _)
                  subst hlve
                  rw [HNI.out] at HL ⊢
                  obtain ⟨W3, hW3⟩ : ∃ W3, wr.alloc (.cells #[.slice sl (ni + 70) cl] 24) = W3 := ⟨_, rfl⟩
                  have g3 : wr.grownBy W3 none := (by rw [← hW3]; exact World.grownBy_alloc _ _ _)
                  have nX : ∀ l u, [Value.slice sl (ni + 70) cl][l]? = some u → W3.cell? ((⟨wr.heap.size, 0, none⟩ : Addr).add l) = some u := by rw [← hW3]; exact World.news_of_block (heap_alloc_new _ _)
                  have own3 := hmo.kept g3 (Classical.em _)
                  have s3 := g3.size
                  have hb3 : base ≤ W3.heap.size := by omega
                  clear hmo
                  go_wp2_with (first | (at_builtin; refine wpList_appS _ rfl _ _ 29 rfl base 24 iS (.slice none 0 0) 1 24 underPSS HIS.out.1 HIS.out.2.1 HIS.out.2.2.1 HIS.out.2.2.2 rfl (by decide) _ i _ rfl own3 ⟨wr.heap.size, 0, none⟩ 1 [.slice sl (ni + 70) cl] rfl rfl nX (by intro u hu; simp at hu; subst hu; rfl) (by unfold maxLen; omega) (by omega) hb3 ?_; intro g6 c6 w6 own6 hc6) | go_in)
                  have hR6 := R3.push HC.out hiV hSk hbS HR.out HL.out g3 own6 hc6
                  have HR6 : Hid (R3 w6 base b #[.slice (some ⟨q, 0, none⟩) V.length cg, .slice su V.length cu, .bool false] (some ⟨q, 0, none⟩) V n S0 (i + 1) (i + 1) (M ++ [.slice sl (ni + 70) cl]) (.slice (some ⟨g6, 0, none⟩) (i + 1) c6)) := hR6
                  have gk6 : Wb.grownBy w6 none ∧ W3.heap.size ≤ w6.heap.size := by
                    have hbb' := HC.out.fx.hb
                    have h6 := (own6.lt g6 rfl).1
                    rcases hc6 with ⟨_, h⟩ | ⟨_, h⟩
                    · exact ⟨(gb_trans gk g3).andThen h (fun j hj => .inl (by have hj : g6 = j := Option.some.inj hj; omega)), h.size⟩
                    · exact ⟨gb_trans gk (gb_trans g3 h), h.size⟩
                  clear hR6 hc6 own6 own3 HR HL
                  go_roundw
                  case rel => exact ⟨i + 1, _, _, by omega, by go_num, rfl, HR6.out, by omega, gk6.1⟩
                  case measure => simp [intOf]; omega
            · have hie : i = NN := by omega
              subst hie
              have hlt' : ¬ (i : Int) < (i : Int) := by omega
              obtain ⟨sm, cm, rfl, GM, _⟩ := gs_own HR.out.mo HR.out.ml
              obtain ⟨w4, hw4⟩ : ∃ W, W = wr := ⟨_, rfl⟩
              subst hw4
              go_wp2
              clear b0
              go_loopw [11] (fun v wr => ∃ (t : Nat), t ≤ i ∧ v = .int .i64 t ∧ w4.grownBy wr none) (fun v _ => i - (intOf v).toNat)
              case atStart => exact ⟨0, Nat.zero_le _, rfl, World.grownBy.refl _ _⟩
              case round =>
                obtain ⟨t, ht, rfl, gt⟩ := hrel
                by_cases htl : t < i
                · have htl' : (t : Int) < (i : Int) := by omega
                  have htV : t < V.length := by omega
                  obtain ⟨s2, c2, e2, P2, _⟩ := own_shape0 (HR.out.mr t htl) (mks_len _ _)
                  obtain ⟨s1, c1, e1, P1⟩ := HR.out.rd t htV
                  have hnt := HPn.out t htV
                  obtain ⟨nt, hnte⟩ : ∃ m, n t = m := ⟨_, rfl⟩
                  rw [hnte] at e1 e2 P1 P2 hnt
                  clear hnte
                  have hw5 : IntKind.i64.wrap (500 + (t : Int)) = 500 + (t : Int) := by rw [IntKind.wrap_i64]; omega
                  obtain ⟨qm, rfl, m0⟩ := (GM.kept gt (by simp)) t htl
                  rw [e2] at m0
                  go_wp2
                  go_loopw [12] (fun v wr => ∃ (k : Nat), k ≤ nt + 70 ∧ v = .int .i64 k ∧ w4.grownBy wr none) (fun v _ => nt + 70 - (intOf v).toNat)
                  case atStart => exact ⟨0, Nat.zero_le _, rfl, gt⟩
                  case round =>
                    obtain ⟨k, hk, rfl, gk⟩ := hrel
                    obtain ⟨qm2, hqm, m0⟩ := (GM.kept gk (by simp)) t htl
                    obtain rfl : qm = qm2 := by simpa using hqm
                    rw [e2] at m0
                    by_cases hkt : k < nt + 70
                    · have hkt' : (k : Int) < ((nt + 70 : Nat) : Int) := by omega
                      have hkt2 : (k : Int) < (nt : Int) + 70 := by omega
                      obtain ⟨q2, o2, rfl, x0, x1⟩ := (P2.kept gk (by simp)) k hkt
                      simp only at x0
                      rw [mks_get t _ k hkt] at x0
                      simp only at x0
                      have b0 := (HR.out.box.kept gk (by simp)).cell 0 (v := .slice sg V.length cg) rfl
                      rw [hNN] at b0
                      obtain ⟨q, rfl, d0⟩ := (HR.out.got.kept gk (by simp)) t htV
                      rw [e1] at d0
                      have hne : ((500 + (t : Int)) != (500 + (t : Int))) = false := by simp
                      by_cases hkn : k < nt
                      · have hkn' : (k : Int) < (nt : Int) := by omega
                        obtain ⟨q1, o1, rfl, y0, y1⟩ := (P1.kept gk (by simp)) k hkn
                        simp only at y0
                        go_wp2
                        first | go_roundw | (go_quiet (fail); go_wp2; go_roundw)
                        case rel => exact ⟨k + 1, by omega, by go_num, by first | exact gk | exact gb_drew gk | exact gb_drewN gk _⟩
                        case measure => simp [intOf]; omega
                      · have hkn' : ¬ (k : Int) < (nt : Int) := by omega
                        go_wp2
                        first | go_roundw | (go_quiet (fail); go_wp2; go_roundw)
                        case rel => exact ⟨k + 1, by omega, by go_num, by first | exact gk | exact gb_drew gk | exact gb_drewN gk _⟩
                        case measure => simp [intOf]; omega
                    · have hke : k = nt + 70 := by omega
                      subst hke
                      have hkt' : ¬ ((nt + 70 : Nat) : Int) < ((nt + 70 : Nat) : Int) := by omega
                      go_wp2
                      first | go_roundw | (go_quiet (fail); go_wp2; go_roundw)
                      case rel => exact ⟨t + 1, by omega, by go_num, gk⟩
                      case measure => simp [intOf]; omega
                · have hte : t = i := by omega
                  subst hte
                  have htl' : ¬ (t : Int) < (t : Int) := by omega
                  go_wp2
                  go_ret
                  exact ⟨rfl, gb_trans gi gt⟩
end Ln
end Go.Proofs.YtbmpiddjakdebaaGreat
