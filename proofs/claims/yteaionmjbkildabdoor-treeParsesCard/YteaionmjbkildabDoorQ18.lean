/- What a function answers, row by row. -/
import Derived.Shelf.Abstract
import Derived.Deep.Onto
import Derived.Test.YteaionmjbkildabDoorQ17
namespace Go.Proofs.YteaionmjbkildabDoor
open Go.RowKit Go.Shelf
set_option linter.unusedVariables false
set_option linter.unusedSimpArgs false
set_option maxRecDepth 100000
attribute [local go_sem] Oper.semAt_some

/-- No panic. -/
def noP (Q : Exit → Act → World → Prop) : Exit → Act → World → Prop
  | .panic _, _, _ => False
  | e, a, w => Q e a w
theorem noP_le {Q : Exit → Act → World → Prop} : ∀ e a w, noP Q e a w → Q e a w := fun e a w h => by
  cases e <;> first | exact h | exact h.elim
theorem noP_normal {Q : Exit → Act → World → Prop} {a : Act} {w : World} (h : Q .normal a w) : noP Q .normal a w := h
/-- The answers as cells. -/
def av (fn : List Nat → Nat) (xs : List (List Nat)) : List Value := xs.map fun x => .int .u8 (fn x : Nat)
/-- What the loop of ask keeps: the boxes, the answers so far; k: how many blocks lay ahead of the loop. -/
structure Ak (st gx k : Nat) (w : World) (fn : List Nat → Nat) (xs : List (List Nat)) (W : World) : Prop where
  s : Bo W w.heap.size 3 #[.int .i64 (st : Nat)]
  f : Bo W (w.heap.size + 1) 56 #[.func (.func 45) #[] #[.pointer (some ⟨gx, 0, none⟩)]]
  a : ∃ v, Bo W (w.heap.size + 1 + 1) 44 #[v] ∧ W.ownsRow (k + 6) 5 1 v xs.length (av fn xs)
  o : Bo W (w.heap.size + 1 + 1 + 1) 4 #[.bool (xs.all fun x => decide (fn x < st))]
  b : Below w.heap.size w W

theorem bodyDone {st gx : Nat} {w V4 V6 W Wa Wb V w' : World} {fn : List Nat → Nat} {pre : List (List Nat)} {x : List Nat} {v : Value} {gg cap y : Nat} {r : Bool} {a : Act}
    (q4 : V4.heap.size = w.heap.size + 4) (q6 : V6.heap.size = w.heap.size + 6) (h1 : Bo W w.heap.size 3 #[.int .i64 (st : Nat)]) (h2 : Bo W (w.heap.size + 1) 56 #[.func (.func 45) #[] #[.pointer (some ⟨gx, 0, none⟩)]]) (h3' : W.ownsRow (V6.heap.size + 6) 5 1 v pre.length (av fn pre)) (h5 : Below w.heap.size w W)
    (ga : W.grownBy Wa none) (gb : Wa.grownBy Wb (some (w.heap.size + 1 + 1 + 1))) (gV : Wb.grownBy V none) (own' : w'.ownsRow (V6.heap.size + 6) 5 1 (.slice (some ⟨gg, 0, none⟩) (pre.length + 1) cap) (pre.length + 1) (av fn pre ++ [.int .u8 (y : Nat)])) (g' : V.grownBy w' v.ownBlock)
    {r0 : Value} (a4 : Bo Wa (w.heap.size + 1 + 1 + 1) 4 #[r0]) (ownV : V.ownsRow (V6.heap.size + 6) 5 1 v pre.length (av fn pre)) (b4 : Bo Wb (w.heap.size + 1 + 1 + 1) 4 #[.bool r]) (x3 : Bo w' (w.heap.size + 1 + 1) 44 #[v]) (m4 : V6.heap.size + 3 + 2 < W.heap.size) (hy : fn x = y) (hr : ((pre ++ [x]).all fun x => decide (fn x < st)) = r) :
    ownPostG V6.heap.size (Kr (V4.heap.size + 1) (V6.heap.size + 2) (V6.heap.size + 4) V4.heap.size (V6.heap.size + 5) (V6.heap.size + 3)) (Ak st gx V6.heap.size w fn) (fun _ _ _ => False) (pre ++ [x]) W .normal a (w'.setCell ⟨w.heap.size + 1 + 1, 0, none⟩ (.slice (some ⟨gg, 0, none⟩) (pre.length + 1) cap)) := by
  have gs : w'.grownBy (w'.setCell ⟨w.heap.size + 1 + 1, 0, none⟩ (.slice (some ⟨gg, 0, none⟩) (pre.length + 1) cap)) (some (w.heap.size + 1 + 1)) := gb_set (World.grownBy.refl _ _) 0 _
  have ow : ∀ j, v.ownBlock = some j → V6.heap.size + 6 ≤ j := fun j e => (h3'.lt j e).1
  have hbl : ∀ j, j < W.heap.size → j ≠ w.heap.size + 1 + 1 → j ≠ w.heap.size + 1 + 1 + 1 → j < V6.heap.size + 6 → (w'.setCell ⟨w.heap.size + 1 + 1, 0, none⟩ (.slice (some ⟨gg, 0, none⟩) (pre.length + 1) cap)).heap[j]? = W.heap[j]? := fun j hj hj2 hj3 hj6 => by
    have a1 := ga.block j hj (by simp)
    have z1 := Nat.lt_of_lt_of_le hj ga.size
    have a2 := gb.block j z1 (by simpa using hj3)
    have z2 := Nat.lt_of_lt_of_le z1 gb.size
    have a3 := gV.block j z2 (by simp)
    have z3 := Nat.lt_of_lt_of_le z2 gV.size
    have a4 := g'.block j z3 (fun e => by have := ow j e.symm; omega)
    have z4 := Nat.lt_of_lt_of_le z3 g'.size
    exact (gs.block j z4 (by simpa using hj2)).trans (a4.trans (a3.trans (a2.trans a1)))
  have hsz : W.heap.size ≤ (w'.setCell ⟨w.heap.size + 1 + 1, 0, none⟩ (.slice (some ⟨gg, 0, none⟩) (pre.length + 1) cap)).heap.size := Nat.le_trans ga.size (Nat.le_trans gb.size (Nat.le_trans gV.size (Nat.le_trans g'.size gs.size)))
  have ko : KeepsOthers W (w'.setCell ⟨w.heap.size + 1 + 1, 0, none⟩ (.slice (some ⟨gg, 0, none⟩) (pre.length + 1) cap)) := by
    refine ((((KeepsOthers.of_grownBy ga (fun j o e => by cases e)).trans (KeepsOthers.of_grownBy gb ?_)).trans (KeepsOthers.of_grownBy gV (fun j o e => by cases e))).trans (KeepsOthers.of_grownBy g' ?_)).trans (KeepsOthers.setCell _ _ _)
    · intro j o e ho
      cases e
      rw [show Wa.heap[w.heap.size + 1 + 1 + 1]? = _ from a4] at ho
      cases ho
      rfl
    · intro j o e ho
      rcases ownV.2 with ⟨rfl, _⟩ | ⟨g, cp, cur, rfl, _, hgb, _⟩
      · simp [Value.ownBlock] at e
      · obtain rfl : g = j := by simpa [Value.ownBlock] using e
        rw [hgb] at ho
        cases ho
        rfl
  refine ⟨ko.from _, fun k hk => hbl k ?_ ?_ ?_ ?_, ?_⟩
  · rcases hk with h | h | h | h | h | h <;> omega
  · rcases hk with h | h | h | h | h | h <;> omega
  · rcases hk with h | h | h | h | h | h <;> omega
  · rcases hk with h | h | h | h | h | h <;> omega
  · have z := h5.size
    refine ⟨(hbl _ (by omega) (by omega) (by omega) (by omega)).trans h1, (hbl _ (by omega) (by omega) (by omega) (by omega)).trans h2, ⟨_, x3.set 0 _, ?_⟩, ?_, ?_⟩
    · have e : (pre ++ [x]).length = pre.length + 1 := by simp
      have e2 : av fn (pre ++ [x]) = av fn pre ++ [.int .u8 (y : Nat)] := by simp [av, hy]
      rw [e, e2]
      exact own'.kept gs (.inr (fun e => by
        have := (own'.lt gg rfl).1
        have e3 : gg = w.heap.size + 1 + 1 := by simpa [Value.ownBlock] using e
        omega))
    · rw [hr]
      exact (((b4.kept gV (by simp)).kept g' (fun e => by have := ow _ e.symm; omega)).kept gs (by simp))
    · refine ⟨gs.os.trans (g'.os.trans (gV.os.trans (gb.os.trans (ga.os.trans h5.os)))), gs.tape.trans (g'.tape.trans (gV.tape.trans (gb.tape.trans (ga.tape.trans h5.tape)))), gs.output.trans (g'.output.trans (gV.output.trans (gb.output.trans (ga.output.trans h5.output)))), Nat.le_trans h5.size hsz, fun k hk => (hbl k (by omega) (by omega) (by omega) (by omega)).trans (h5.block k hk)⟩

set_option maxHeartbeats 2000000 in
theorem askC (st inp gx : Nat) (hst : st ≤ 256) (hin : inp ≤ 16) (hq : st ^ inp ≤ 1048576) (fn : List Nat → Nat) (hfn : ∀ x, fn x < 256) (Ef : World → Prop) (w : World) (hE0 : Ef w) (hE : ∀ A B, Ef A → Below w.heap.size A B → Ef B)
    (hF : ∀ gr x W, Ef W → x.length = inp → (∀ s ∈ x, s < st) → W.rowIs gr 5 inp (fun i => .int .u8 (x.getD i 0 : Nat)) → Calls Tryd.prog 45 #[.slice (some ⟨gr, 0, none⟩) inp inp, .pointer (some ⟨gx, 0, none⟩)] W fun e W' => e = .returned (.int .u8 (fn x : Nat)) ∧ W.grownBy W' none) :
    Calls Tryd.prog 53 #[.int .i64 (st : Nat), .int .i64 (inp : Nat), .func (.func 45) #[] #[.pointer (some ⟨gx, 0, none⟩)]] w fun e w' => ∃ v, e = .returned (.tuple #[v, .bool ((rws st inp).all fun x => decide (fn x < st))]) ∧ w'.ownsRow w.heap.size 5 1 v (st ^ inp) (av fn (rws st inp)) ∧ w.grownBy w' none := by
  obtain ⟨V4, hV4⟩ : ∃ V4, (((w.alloc (.cells #[.int .i64 (st : Nat)] 3)).alloc (.cells #[.func (.func 45) #[] #[.pointer (some ⟨gx, 0, none⟩)]] 56)).alloc (.cells #[.slice none 0 0] 44)).alloc (.cells #[.bool true] 4) = V4 := ⟨_, rfl⟩
  have s4 : Hid (V4.heap.size = w.heap.size + 4) := (by unfold Hid; rw [← hV4]; simp)
  have g4 : w.grownBy V4 none := (by rw [← hV4]; exact gb_alloc (gb_alloc (gb_alloc (World.grownBy_alloc _ _ _) _) _) _)
  have D0 : Bo V4 w.heap.size 3 #[.int .i64 (st : Nat)] := (by rw [← hV4]; exact (((Bo.new w _ _).more _).more _).more _)
  have D1 : Bo V4 (w.heap.size + 1) 56 #[.func (.func 45) #[] #[.pointer (some ⟨gx, 0, none⟩)]] := (by rw [← hV4]; exact ((bo_at (by simp)).more _).more _)
  have D2 : Bo V4 (w.heap.size + 1 + 1) 44 #[.slice none 0 0] := (by rw [← hV4]; exact (bo_at (by simp)).more _)
  have D3 : Bo V4 (w.heap.size + 1 + 1 + 1) 4 #[.bool true] := (by rw [← hV4]; exact bo_at (by simp))
  obtain ⟨V6, hV6⟩ : ∃ V6, (V4.alloc (.cells #[.int .i64 (st : Nat)] 3)).alloc (.cells #[.int .i64 (inp : Nat)] 3) = V6 := ⟨_, rfl⟩
  have g6 : V4.grownBy V6 none := (by rw [← hV6]; exact gb_alloc (World.grownBy_alloc _ _ _) _)
  have s6 : Hid (V6.heap.size = w.heap.size + 6) := (by unfold Hid; rw [← hV6]; have := s4.out; simp; omega)
  have D4 : Bo V6 V4.heap.size 3 #[.int .i64 (st : Nat)] := (by rw [← hV6]; exact (Bo.new V4 _ _).more _)
  have D5 : Bo V6 (V4.heap.size + 1) 3 #[.int .i64 (inp : Nat)] := (by rw [← hV6]; exact bo_at (by simp))
  have d0 := D0.cell 0 (v := .int .i64 (st : Nat)) rfl
  have hr := rowsC 2 st inp V4
  rw [hV6] at hr
  refine (callsIn_wide (n := 3)).1 ?_
  refine callsIn_of_wp_marks Tryd.func53 rfl trivial ?_ rfl
  simp only [Tryd.ntmps53, List.size_toArray, List.length_cons, List.length_nil, Nat.reduceAdd, Nat.reduceSub, Array.replicate_succ, Array.replicate_zero, List.push_toArray, List.append_toArray, List.nil_append, List.cons_append]
  gi_wp2_with (first | (refine ⟨trivial, ?_⟩; gi_at_call 57; refine hr.mono ?_; rintro e w6 ⟨rfl, hw6⟩; subst w6))
  have q4 := s4.out
  have q6 := s6.out
  have hG : w.grownBy V6 none := gb_trans g4 g6
  refine rangeM (gf := 69) (lb := #[.pointer (some ⟨V4.heap.size + 1, 0, none⟩), .pointer (some ⟨V4.heap.size, 0, none⟩)]) rfl (enters_of Tryd.func69 (by kernel_rfl) rfl)
    (encs := fun _ : List Nat => #[.slice (some ⟨V6.heap.size + 3, 0, none⟩) inp inp]) (fun _ => rfl) (V6.heap.size + 3) (by omega)
    (Rx (V6.heap.size + 3) inp st) (fun x A o h => ⟨rowIs_kept h.1 (grownBy_putObj' A _ o) (by simp), h.2.1, h.2.2.1, by have := h.2.2.2; simpa [World.putObj] using this⟩)
    (Kr (V4.heap.size + 1) (V6.heap.size + 2) (V6.heap.size + 4) V4.heap.size (V6.heap.size + 5) (V6.heap.size + 3)) Kr.trans
    (fun A o hA k hk => World.putObj_heap_other (by rcases hk with h | h | h | h | h | h <;> omega))
    (fun xs => xs = rws st inp) (fun pre => ∃ r, pre ++ r = rws st inp) (st ^ inp)
    (fun l J Jx W hsz hgW hJ hY h0 => by
      have e1 : W.heap.size + 1 = V6.heap.size + 3 := by omega
      have e2 : W.heap.size + 1 + 1 = V6.heap.size + 4 := by omega
      have e3 : W.heap.size + 1 + 1 + 1 = V6.heap.size + 5 := by omega
      exact rows1C 2 l (V4.heap.size + 1) V4.heap.size st inp hst hin J Jx W (D5.kept hgW (by simp)) (D4.kept hgW (by simp)) (by rw [e1]; exact hJ) (by rw [e3, e2, e1, hsz]; exact hY) h0)
    (Ak st gx V6.heap.size w fn) (fun _ _ _ => False) ?own (fun _ _ _ _ h _ => h) ?start
    (fun x => { tmps := #[.int .i64 (st : Nat), .int .i64 (inp : Nat), .func (.func 45) #[] #[.pointer (some ⟨gx, 0, none⟩)], .pointer (some ⟨w.heap.size, 0, none⟩), undef, .pointer (some ⟨w.heap.size + 1, 0, none⟩), .slice none 0 0, .bool false, .pointer (some ⟨w.heap.size + 1 + 1, 0, none⟩), .pointer (some ⟨w.heap.size + 1 + 1 + 1, 0, none⟩), .slice (some ⟨V6.heap.size + 3, 0, none⟩) inp inp, undef, .int .i64 (st : Nat), .int .i64 (inp : Nat), .func (.func 69) #[] #[.pointer (some ⟨V4.heap.size + 1, 0, none⟩), .pointer (some ⟨V4.heap.size, 0, none⟩)], .slice (some ⟨V6.heap.size + 3, 0, none⟩) inp inp, undef, undef, undef, undef, undef, undef, undef, undef, undef, undef, undef, undef, undef, undef, undef, undef], defers := [] }) ?assign ?body ?done ?stop
  case own =>
    rintro s A B r ⟨h1, h2, ⟨v, h3, h3'⟩, h4, h5⟩ hg hr
    have hr' : V6.heap.size + 1 ≤ r ∧ r ≤ V6.heap.size + 3 := by rcases hr with h | h <;> omega
    refine ⟨h1.kept hg (by simp; omega), h2.kept hg (by simp; omega), ⟨v, h3.kept hg (by simp; omega), h3'.kept hg ?_⟩, h4.kept hg (by simp; omega), h5.grown hg h5.size (fun k e => by cases e; omega)⟩
    by_cases hv : v.ownBlock = none
    · exact .inl hv
    · refine .inr fun e => ?_
      have := (h3'.lt r e).1
      omega
  case start =>
    exact ⟨D0.kept g6 (by simp), D1.kept g6 (by simp), ⟨_, D2.kept g6 (by simp), World.ownsRow_nil _ _ _ _⟩, D3.kept g6 (by simp), gb_below hG⟩
  case assign =>
    clear q4 q6
    intro l x W K hK
    gi_wp2
    exact hK
  case body =>
    rintro l pre x W ⟨h1, h2, ⟨v, h3, h3'⟩, h4, h5⟩ ⟨m1, m2, m3, m4⟩ hlen
    obtain ⟨i8, HI8⟩ : ∃ i, Hid (Tryd.prog.info? 5 = some i ∧ i.zero = some (.int .u8 0) ∧ i.size = 1 ∧ i.bytes = 1) := by
      obtain ⟨i, h1, h2, h3, h4⟩ := info_parts info8
      exact ⟨i, h1, h2, h3, h4⟩
    have hpl : pre.length < 1048576 := by omega
    have hf := hF (V6.heap.size + 3) x W (hE _ _ hE0 h5) m2 m3 m1
    have Q4 := s4
    have Q6 := s6
    have hx8 := hfn x
    obtain ⟨y, hy⟩ : ∃ y, fn x = y := ⟨_, rfl⟩
    have HY : Hid (fn x = y) := hy
    rw [hy] at hf hx8
    clear q4 q6 hy
    have c2 := h2.cell 0 (v := .func (.func 45) #[] #[.pointer (some ⟨gx, 0, none⟩)]) rfl
    obtain ⟨r, hr⟩ : ∃ r, (pre.all fun x => decide (fn x < st)) = r := ⟨_, rfl⟩
    have HR : Hid ((pre.all fun x => decide (fn x < st)) = r) := hr
    rw [hr] at h4
    clear hr
    cases r with
    | false =>
      gi_wp2_with (first | (refine ⟨trivial, ?_⟩; gi_at_call 45; refine (CallsIn.inRound l (callsIn_wide.2 hf)).mono ?_; rintro e Wa ⟨rfl, ga⟩; have a1 := (h1.kept ga (by simp)).cell 0 (v := .int .i64 (st : Nat)) rfl; have a4 := h4.kept ga (by simp); have a40 := a4.cell 0 (v := .bool false) rfl; have a41 := a4.frozen 0; obtain ⟨Wb, hWb⟩ : ∃ Wb, Wa.setCell ⟨w.heap.size + 1 + 1 + 1, 0, none⟩ (.bool false) = Wb := ⟨_, rfl⟩; have gb : Wa.grownBy Wb (some (w.heap.size + 1 + 1 + 1)) := (by rw [← hWb]; exact gb_set (World.grownBy.refl _ _) 0 _); have b4 : Bo Wb (w.heap.size + 1 + 1 + 1) 4 #[.bool false] := (by rw [← hWb]; exact a4.set 0 _); have b3 := (h3.kept ga (by simp)).kept gb (by simp); have b30 := b3.cell 0 (v := v) rfl; obtain ⟨V, hV⟩ : ∃ V, Wb.alloc (.cells #[.int .u8 (y : Nat)] 5) = V := ⟨_, rfl⟩; have gV : Wb.grownBy V none := (by rw [← hV]; exact World.grownBy_alloc _ _ _); have nV : ∀ l u, [Value.int .u8 (y : Nat)][l]? = some u → V.cell? ((⟨Wb.heap.size, 0, none⟩ : Addr).add l) = some u := (by rw [← hV]; exact World.news_of_block (cs := #[.int .u8 (y : Nat)]) (heap_alloc_new Wb _)); have own1 := (h3'.kept ga (Classical.em _)).kept gb (.inr (fun e => by have := (h3'.lt _ e).1; have := Q6.out; omega)); have ownV := own1.kept gV (Classical.em _); have sV : V6.heap.size + 6 ≤ V.heap.size := Nat.le_trans (by omega) (Nat.le_trans ga.size (Nat.le_trans gb.size gV.size)); have v3 := b3.kept gV (by simp)) | (gi_at_builtin; refine wpListIn_append_own _ rfl _ _ 44 rfl (V6.heap.size + 6) 5 i8 (.int .u8 0) 1 1 under8S HI8.out.1 HI8.out.2.1 HI8.out.2.2.1 HI8.out.2.2.2 rfl (by decide) _ _ _ rfl ownV ⟨Wb.heap.size, 0, none⟩ 1 1 [.int .u8 (y : Nat)] rfl rfl nV (by intro u hu; simp at hu; subst hu; rfl) (by unfold maxLen; omega) (by omega) sV ?_; intro v' w' own' g' hnil'; obtain ⟨gg, cap4, rfl⟩ := ownsRow_succ own'; have x3 := v3.kept g' (fun e => by have := (ownV.lt _ e.symm).1; have := Q6.out; omega); have x30 := x3.cell 0 (v := v) rfl; have x31 := x3.frozen 0))
      refine bodyDone Q4.out Q6.out h1 h2 h3' h5 ga gb gV own' g' a4 ownV b4 x3 m4 HY.out ?_
      rw [List.all_append, HR.out]; simp [HY.out]
    | true =>
      gi_wp2_with (first | (refine ⟨trivial, ?_⟩; gi_at_call 45; refine (CallsIn.inRound l (callsIn_wide.2 hf)).mono ?_; rintro e Wa ⟨rfl, ga⟩; have a1 := (h1.kept ga (by simp)).cell 0 (v := .int .i64 (st : Nat)) rfl; have a4 := h4.kept ga (by simp); have a40 := a4.cell 0 (v := .bool true) rfl; have a41 := a4.frozen 0; obtain ⟨Wb, hWb⟩ : ∃ Wb, Wa.setCell ⟨w.heap.size + 1 + 1 + 1, 0, none⟩ (.bool (decide (y < st))) = Wb := ⟨_, rfl⟩; have gb : Wa.grownBy Wb (some (w.heap.size + 1 + 1 + 1)) := (by rw [← hWb]; exact gb_set (World.grownBy.refl _ _) 0 _); have b4 : Bo Wb (w.heap.size + 1 + 1 + 1) 4 #[.bool (decide (y < st))] := (by rw [← hWb]; exact a4.set 0 _); have b3 := (h3.kept ga (by simp)).kept gb (by simp); have b30 := b3.cell 0 (v := v) rfl; obtain ⟨V, hV⟩ : ∃ V, Wb.alloc (.cells #[.int .u8 (y : Nat)] 5) = V := ⟨_, rfl⟩; have gV : Wb.grownBy V none := (by rw [← hV]; exact World.grownBy_alloc _ _ _); have nV : ∀ l u, [Value.int .u8 (y : Nat)][l]? = some u → V.cell? ((⟨Wb.heap.size, 0, none⟩ : Addr).add l) = some u := (by rw [← hV]; exact World.news_of_block (cs := #[.int .u8 (y : Nat)]) (heap_alloc_new Wb _)); have own1 := (h3'.kept ga (Classical.em _)).kept gb (.inr (fun e => by have := (h3'.lt _ e).1; have := Q6.out; omega)); have ownV := own1.kept gV (Classical.em _); have sV : V6.heap.size + 6 ≤ V.heap.size := Nat.le_trans (by omega) (Nat.le_trans ga.size (Nat.le_trans gb.size gV.size)); have v3 := b3.kept gV (by simp)) | (gi_at_builtin; refine wpListIn_append_own _ rfl _ _ 44 rfl (V6.heap.size + 6) 5 i8 (.int .u8 0) 1 1 under8S HI8.out.1 HI8.out.2.1 HI8.out.2.2.1 HI8.out.2.2.2 rfl (by decide) _ _ _ rfl ownV ⟨Wb.heap.size, 0, none⟩ 1 1 [.int .u8 (y : Nat)] rfl rfl nV (by intro u hu; simp at hu; subst hu; rfl) (by unfold maxLen; omega) (by omega) sV ?_; intro v' w' own' g' hnil'; obtain ⟨gg, cap4, rfl⟩ := ownsRow_succ own'; have x3 := v3.kept g' (fun e => by have := (ownV.lt _ e.symm).1; have := Q6.out; omega); have x30 := x3.cell 0 (v := v) rfl; have x31 := x3.frozen 0))
      refine bodyDone Q4.out Q6.out h1 h2 h3' h5 ga gb gV own' g' a4 ownV b4 x3 m4 HY.out ?_
      rw [List.all_append, HR.out]; simp [HY.out]
  case done =>
    rintro D xs W hD rfl ⟨h1, h2, ⟨v, h3, h3'⟩, h4, h5⟩ hK
    have c3 := h3.cell 0 (v := v) rfl
    obtain ⟨r, hr⟩ : ∃ r, ((rws st inp).all fun x => decide (fn x < st)) = r := ⟨_, rfl⟩
    have HR : Hid (((rws st inp).all fun x => decide (fn x < st)) = r) := hr
    rw [hr] at h4
    clear hr
    have c4 := h4.cell 0 (v := .bool r) rfl
    gi_wp2
    refine wpIn_wide.2 (Code.wp_mono noP_le ?_)
    go_quiet (fail)
    refine noP_normal ?_
    gi_wp2
    refine ⟨by simp, .inl ⟨_, _, rfl, run_takeDeferred (w := W.drewN nq) hK, ?_⟩⟩
    refine ⟨_, results_tmp2 rfl _ _ _, v, ?_, ?_, ?_⟩
    · rw [HR.out]; rfl
    · have h6 : (W.drewN nq).ownsRow (V6.heap.size + 6) 5 1 v (rws st inp).length (av fn (rws st inp)) := h3'
      rw [rws_len] at h6
      exact (ownsRow_putObj h6 _ hK rfl).mono (by omega)
    · exact gb_past (gb_drewN ⟨h5.os, h5.tape, h5.output, h5.size, fun k hk _ => h5.block k hk⟩ nq) (grownBy_putObj' _ D _) (by omega)
  case stop =>
    rintro D c pre W _ _ h _
    exact h.elim
end Go.Proofs.YteaionmjbkildabDoor
