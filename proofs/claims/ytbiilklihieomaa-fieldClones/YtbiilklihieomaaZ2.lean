/- A field that is none: Pop, Box; a way through nothing. -/
import Derived.Test.YtbiilklihieomaaZ1
import Derived.RangeFuncNested
import Derived.RangeFuncBound
import Derived.RangeFuncCalls
import Derived.RangeFuncLeaves
import Derived.RangeFuncWrites
import Derived.RangeFuncMany
import Derived.RangeFuncBox
import Derived.Shelf.RegionOpen
import Derived.OwnWalkIn
import Derived.TacticsInMore
import Derived.LoopNIn
import Derived.LoopIn
namespace Go.Proofs.Ytbiilklihieomaa
open Go.RowKit Go.Shelf
set_option linter.unusedVariables false
set_option linter.unusedSimpArgs false
set_option maxRecDepth 100000
attribute [local go_sem] Oper.semAt_some

theorem nonePop (p : Option Addr) (w : World) (hp : Nf w p) : Calls Try.prog 28 #[.pointer p] w fun e w' => e = .returned (.int .i64 0) ∧ w' = w := by
  go_enter Try.func28, Try.ntmps28
  go_wp2_with (go_at_call 25; refine (noneH p w hp).mono ?_; rintro e _ ⟨rfl, rfl⟩)
  refine wp_loop_rounds 1 ?_
  rw [rounds_succ]
  go_wp2
  go_ret
  exact ⟨rfl, rfl⟩

theorem noneBox (p : Option Addr) (w : World) (hp : Nf w p) : Calls Try.prog 18 #[.pointer p] w fun e w' => e = .returned (.tuple #[.agg #[.int .i64 0, .int .i64 0, .int .i64 0, .int .i64 0], .bool false]) ∧ w.grownBy w' none := by
  have hp1 : Nf (w.alloc (.cells #[.int .i64 0, .int .i64 0, .int .i64 0, .int .i64 0] 58)) p := by
    rcases hp with h | ⟨b, h, hb⟩
    · exact .inl h
    · exact .inr ⟨b, h, hb.more _⟩
  go_enter Try.func18, Try.ntmps18
  go_wp2_with (first | (go_at_call 24; refine (noneW p _ hp1).mono ?_; rintro e V ⟨rfl, hV⟩; subst V) | (go_at_call 25; refine (noneH p _ hp1).mono ?_; rintro e V ⟨rfl, hV⟩; subst V))
  refine wp_loop_rounds 1 ?_
  rw [rounds_succ]
  go_wp2
  obtain ⟨fs, hfs⟩ : ∃ fs, Try.prog.underlying 58 = some (.struct fs) := ⟨_, Try.underlying58⟩
  refine ret_c2 (g := w.heap.size) (t := 58) (cs := #[.int .i64 0, .int .i64 0, .int .i64 0, .int .i64 0]) rfl hfs (by kernel_rfl) rfl (Bo.new w _ _) rfl ?_
  exact ⟨rfl, World.grownBy_alloc _ _ none⟩

theorem bo_own {W W' : World} {row : Option Nat} {g : Nat} {t : TypeId} {cs : Array Value} (h : Bo W g t cs) (hg : W.grownBy W' row) (hr : ∀ r, row = some r → ∃ o : Obj, W.heap[r]? = some o ∧ o.isCells = false) : Bo W' g t cs :=
  h.kept hg (fun e => by
    obtain ⟨o, ho, hc⟩ := hr g e.symm
    rw [show W.heap[g]? = _ from h] at ho; cases ho; cases hc)

theorem none_stops (n : Nat) (w : World) : SeqStopsK Fence.wide n Try.prog 47 #[] (fun x : Empty => x.elim) (fun _ _ => True) (fun ys => ys = []) (fun _ => False) 0 w := fun l J Jx W hW _ _ hY h0 => by
  refine callsIn_of_wp Try.func47 rfl trivial ?_ rfl
  simp only [Try.ntmps47, List.size_toArray, List.length_cons, List.length_nil, Nat.reduceAdd, Nat.reduceSub, Array.replicate_succ, Array.replicate_zero, List.push_toArray, List.append_toArray, List.nil_append, List.cons_append]
  gi_wp2
  go_end0
  exact ⟨⟨_, rfl⟩, h0⟩

theorem throughNone (w : World) : Calls Try.prog 13 #[.func (.func 47) #[] #[], .slice none 0 0, .int .i64 (-1)] w fun e w' => e = .returned (.bool true) ∧ w.grownBy w' none := by
  obtain ⟨W4, hW4⟩ : ∃ W4, (((w.alloc (.cells #[.slice none 0 0] 45)).alloc (.cells #[.int .i64 (-1)] 3)).alloc (.cells #[.int .i64 0] 3)).alloc (.cells #[.bool true] 4) = W4 := ⟨_, rfl⟩
  have G4 : w.grownBy W4 none := hW4 ▸ gb_alloc (gb_alloc (gb_alloc (World.grownBy_alloc _ _ none) _) _) _
  have B1 : Bo W4 w.heap.size 45 #[.slice none 0 0] := hW4 ▸ (((Bo.new w _ _).more _).more _).more _
  have B3 : Bo W4 (w.heap.size + 1 + 1) 3 #[.int .i64 0] := by
    have h := (Bo.new ((w.alloc (.cells #[.slice none 0 0] 45)).alloc (.cells #[.int .i64 (-1)] 3)) 3 #[.int .i64 0]).more (.cells #[.bool true] 4)
    rw [hW4] at h
    simpa using h
  have B4 : Bo W4 (w.heap.size + 1 + 1 + 1) 4 #[.bool true] := by
    have h := Bo.new (((w.alloc (.cells #[.slice none 0 0] 45)).alloc (.cells #[.int .i64 (-1)] 3)).alloc (.cells #[.int .i64 0] 3)) 4 #[.bool true]
    rw [hW4] at h
    simpa using h
  have HW : Hid ((((w.alloc (.cells #[.slice none 0 0] 45)).alloc (.cells #[.int .i64 (-1)] 3)).alloc (.cells #[.int .i64 0] 3)).alloc (.cells #[.bool true] 4) = W4) := hW4
  clear hW4
  refine (callsIn_wide (n := 3)).1 ?_
  refine callsIn_of_wp_marks Try.func13 rfl trivial ?_ rfl
  simp only [Try.ntmps13, List.size_toArray, List.length_cons, List.length_nil, Nat.reduceAdd, Nat.reduceSub, Array.replicate_succ, Array.replicate_zero, List.push_toArray, List.append_toArray, List.nil_append, List.cons_append]
  gi_wp2
  rw [HW.out]
  refine wpIn_rangeFunc_ownF rfl (by omega) (gf := 47) (lb := #[]) rfl trivial (enters_of Try.func47 (by kernel_rfl) rfl)
    (none_stops 2 W4) (by intros; trivial) (by intros; trivial) (Below.refl _ _) (fun (x : Empty) => x.elim)
    (fun pre W => (Bo W w.heap.size 45 #[.slice none 0 0] ∧ Bo W (w.heap.size + 1 + 1) 3 #[.int .i64 0] ∧ Bo W (w.heap.size + 1 + 1 + 1) 4 #[.bool true]) ∧ Below w.heap.size w W)
    (fun _ _ _ => False)
    (OwnFrom.and (Own.from (fun s A B row hs hg hr => ⟨bo_own hs.1 hg hr, bo_own hs.2.1 hg hr, bo_own hs.2.2 hg hr⟩) _) (ownFrom_below (Nat.le_refl _) G4.size))
    (fun _ _ _ _ _ hs _ _ => hs)
    ⟨⟨B1, B3, B4⟩, gb_below G4⟩
    (fun (x : Empty) => x.elim) ?assign ?body ?done ?stop
  case assign => intro l x; cases x
  case body => intro l pre x; cases x
  case stop =>
    rintro D c pre W hD h _ _
    exact h.elim
  case done =>
    rintro D ys W hD hS ⟨⟨b1, b2, b3⟩, hBel⟩ hK
    have c1 := b1.cell 0 (v := .slice none 0 0) rfl
    have c2 := b2.cell 0 (v := .int .i64 0) rfl
    have c3 := b3.cell 0 (v := .bool true) rfl
    gi_wp2
    refine ⟨by simp, .inl ⟨_, _, rfl, run_takeDeferred hK, ?_⟩⟩
    refine ⟨_, results_tmp rfl _ _ _, rfl, ?_⟩
    have hb := hBel.trans (belowK_b (w := w) (Nat.le_refl _) W D _ (.deferred none) (Nat.le_trans G4.size hD) hK rfl rfl)
    exact ⟨hb.os, hb.tape, hb.output, hb.size, fun k hk _ => hb.block k hk⟩
end Go.Proofs.Ytbiilklihieomaa
