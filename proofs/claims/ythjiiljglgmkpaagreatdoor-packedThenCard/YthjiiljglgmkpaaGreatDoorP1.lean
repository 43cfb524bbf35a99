/- packed.states: a row's bits, a byte each. -/
import Derived.Test.YthjiiljglgmkpaaGreatDoorWc
import Derived.Test.YthjiiljglgmkpaaGreatDoorKb
import Derived.RangeFuncFrom
namespace Go.Proofs.YthjiiljglgmkpaaGreatDoor.Pd
open Go.RowKit
set_option linter.unusedVariables false
set_option linter.unusedSimpArgs false
set_option maxRecDepth 100000
attribute [local go_sem] Oper.semAt_some

theorem underBS : Tryz.prog.underlying 81 = some (.slice 5) := by kernel_rfl
theorem infoB : (Tryz.prog.info? 5).map (fun i => (i.zero, i.size, i.bytes)) = some (some (.int .u8 0), 1, 1) := by kernel_rfl
theorem _root_.Go.Proofs.YthjiiljglgmkpaaGreatDoor.Wo.kf_of {W W' : World} {b d : Nat} (g : W.grownBy W' (some d)) (h1 : b ≠ d) (h2 : b < W.heap.size) (h3 : 1 ≠ d) (h4 : 1 < W.heap.size) : Wo.Kf b W W' := ⟨g.block b h2 (fun e => h1 (Option.some.inj e)), g.block 1 h4 (fun e => h3 (Option.some.inj e))⟩
/-- One for a bit that is there. -/
def oneB (b : Bool) : Nat := if b then 1 else 0
/-- The line while places come. -/
def lnI (pre : List Nat) (x : Nat) : Value := .int .u8 (oneB (decide (x ∈ pre)) : Nat)
set_option maxHeartbeats 2000000 in
theorem statesC (m n cap : Nat) (sp : Option Addr) (p : Nat → Bool) (M : MayBe m n p) (w : World) (hT : Wo.Tab64 w) (hc : Wd w sp n (Pk.pack p)) :
    Calls Tryz.prog 62 #[.agg #[.int .i64 (m : Nat), .slice sp n cap]] w fun e w' => ∃ d, e = .returned (.slice (some ⟨d, 0, none⟩) m m) ∧ w'.rowIs d 5 m (fun x => .int .u8 (oneB (p x) : Nat)) ∧ w.heap.size ≤ d ∧ w.grownBy w' none := by
  have ml := M.le
  have hn := Wo.MayBe.len M
  have hnw : Hid (n = (m + 63) / 64) := M.words
  have hmk := run_make_row' (P := Tryz.prog) 81 5 (.int .u8 0) 1 underBS infoB rfl .i64 .i64 m (by omega) (by omega)
  obtain ⟨W1, hW1, c0, c1, sz1, g1, B1⟩ := box2 w (.int .i64 (m : Nat)) (.slice sp n cap) 33
  obtain ⟨W2, hW2, sz2, g2, B2⟩ := boxn W1 (madeCells #[.int .u8 0] m) 5
  have hr2 := World.rowIs_made W1 (.int .u8 0) m 5
  rw [hW2] at hr2
  obtain ⟨W3, hW3, sz3, g3, B3⟩ := boxn W2 #[.slice (some ⟨W1.heap.size, 0, none⟩) m m] 81
  have T3 := (B1.kept g2 (by simp)).kept g3 (by simp)
  have hr3 := rowIs_kept hr2 g3 (by simp)
  have t0 := T3.cell0
  have t1 := T3.cell1
  have G3 := gb_trans g1 (gb_trans g2 g3)
  have hb := Wo.bitsF m n cap sp p M W3 (hc.kept G3 (by simp))
  have tlt := cell_lt (hT 0 (by decide))
  have hTx := hT
  clear hT
  refine (callsIn_wide (n := 3)).1 ?_
  refine callsIn_of_wp_marks Tryz.func62 rfl trivial ?_ rfl
  simp only [Tryz.ntmps62, List.size_toArray, List.length_cons, List.length_nil, Nat.reduceAdd, Nat.reduceSub, Array.replicate_succ, Array.replicate_zero, List.push_toArray, List.append_toArray, List.nil_append, List.cons_append]
  gi_wp2_with (refine ⟨trivial, ?_⟩; gi_at_call 89; refine (callsIn_wide.2 hb).mono ?_; rintro e V ⟨b, B, rfl, hB, hr, lb, lB, gV⟩)
  have G4 := gb_trans G3 gV
  have rV := rowIs_kept hr3 gV (by simp)
  have LV := B3.kept gV (by simp)
  have hTV := hTx.below (gb_below G4) tlt
  have z1 : w.heap.size < W1.heap.size := by have := sz1.out; omega
  have z2 : W1.heap.size < W2.heap.size := by have := sz2.out; omega
  have z3 : W2.heap.size < W3.heap.size := by have := sz3.out; omega
  have blt := hr.lt
  have s4 := G4.size
  have sV := gV.size
  refine with_tmps ?_
  intro AR hAR
  refine wpIn_rangeFunc_ownF rfl (by omega) (gf := 127) (lb := #[.pointer (some ⟨B, 0, none⟩)]) (by subst hAR; rfl) trivial (enters_of Tryz.func127 (by kernel_rfl) rfl)
    (Wo.places_stopsK 2 (by omega) B b n n m (some ⟨b, 0, none⟩) p hn (fun a ha _ => by cases ha; rfl) (fun j _ hj => Nat.lt_of_not_le fun h => by rw [M.tail j h] at hj; cases hj) V hB hr.wd hTV) Wo.Kf.trans (Wo.Kf.put blt (by omega)) (Below.refl _ _) (fun _ => rfl)
    (fun pre W => W.rowIs W1.heap.size 5 m (lnI (pre.map Fin.val)) ∧ Bo W W2.heap.size 81 #[.slice (some ⟨W1.heap.size, 0, none⟩) m m] ∧ w.grownBy W none ∧ V.heap.size ≤ W.heap.size) (fun _ _ _ => False)
    (fun pre X Y q hs hg hr => ⟨rowIs_kept hs.1 hg (fun e => by have := (hr _ e.symm).1; omega), hs.2.1.kept hg (fun e => by have := (hr _ e.symm).1; omega), gb_beyond hs.2.2.1 hg (fun i e => by have := (hr i e).1; omega), Nat.le_trans hs.2.2.2 hg.size⟩)
    (fun c pre X Y q hs hg hr => hs)
    ⟨rV.congr (fun x _ => by simp [lnI, oneB]), LV, G4, Nat.le_refl _⟩
    (fun x => { tmps := (AR.setIfInBounds 10 (.int .i64 (x.val : Int))).setIfInBounds 4 (.int .i64 (x.val : Int)), defers := [] }) ?assign ?body ?done ?stop
  case assign =>
    intro l x W K hK
    subst hAR
    gi_wp2
    exact hK
  case body =>
    rintro l pre ⟨x, hxm⟩ W ⟨rW, LW, GW, LE⟩ hlen
    subst hAR
    have f0 := LW.cell 0 (v := .slice (some ⟨W1.heap.size, 0, none⟩) m m) rfl
    have rf : W.frozen? ⟨W1.heap.size, x, none⟩ = false := by
      obtain ⟨c, hc, _⟩ := rW
      simp [World.frozen?, hc]
    have ra := rW.cell hxm
    have q1 : (x : Int) < (m : Int) := by omega
    clear hlen
    gi_wp2
    have g8 : W.grownBy (W.setCell ⟨W1.heap.size, x, none⟩ (.int .u8 1)) (some W1.heap.size) := gb_set (World.grownBy.refl _ _) _ _
    have hbl : b < W.heap.size := by omega
    refine ⟨KeepsOthers.setCell _ _ _, Wo.kf_of g8 (by omega) hbl (by omega) (by have := GW.size; omega), (World.rowIs.set rW x (.int .u8 1)).congr (fun i _ => ?_), LW.kept g8 (by simp; omega), gb_past GW g8 (by omega), Nat.le_trans LE g8.size⟩
    show (if i = x then (.int .u8 1 : Value) else lnI (pre.map Fin.val) i) = lnI ((pre ++ [(⟨x, hxm⟩ : Fin m)]).map Fin.val) i
    rw [List.map_append]
    unfold lnI
    by_cases e : i = x
    · rw [if_pos e, decide_eq_true (by simp [e])]; rfl
    · rw [if_neg e]
      congr 3
      simp [e]
  case done =>
    rintro D ys W hD hS ⟨rW, LW, GW, LE⟩ hK
    subst hAR
    have f0 := LW.cell 0 (v := .slice (some ⟨W1.heap.size, 0, none⟩) m m) rfl
    gi_wp2
    refine ⟨by simp, .inl ⟨_, _, rfl, run_takeDeferred hK, ?_⟩⟩
    have g9 := grownBy_putObj' W D (.deferred none)
    refine ⟨_, results_tmp rfl _ _ _, W1.heap.size, rfl, (rowIs_kept rW g9 (by simp; omega)).congr (fun x hx => ?_), g1.size, gb_past GW g9 (by omega)⟩
    show Value.int .u8 (oneB (decide (x ∈ ys.map Fin.val)) : Nat) = _
    rw [hS]
    have hxn : x < 64 * n := by rw [hnw.out]; omega
    cases hp : p x with
    | true => rw [decide_eq_true (Wo.mem_come.2 ⟨hxn, hp⟩)]
    | false => rw [decide_eq_false (fun h => by have := (Wo.mem_come.1 h).2; rw [hp] at this; cases this)]
  case stop =>
    rintro D cc pre W _ _ h _
    exact h.elim
end Go.Proofs.YthjiiljglgmkpaaGreatDoor.Pd
