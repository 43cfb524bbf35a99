/- Of of a function that answers states. -/
import Derived.Test.YteaionmjbkildabDoorQ18
namespace Go.Proofs.YteaionmjbkildabDoor
open Go.RowKit
set_option linter.unusedVariables false
set_option linter.unusedSimpArgs false
set_option maxRecDepth 100000

theorem eqFn (gx : Nat) (w : World) : (binOp BinOp.eql 56 (.func (.func 45) #[] #[.pointer (some ⟨gx, 0, none⟩)]) Value.nilFunc).run Tryd.prog w = .ok (.bool false) w := by
  kernel_rfl
/-- The answer of the row number i. -/
def ans (st inp : Nat) (fn : List Nat → Nat) (i : Nat) : Nat := fn ((rws st inp).getD i [])
theorem by_own {w : World} {base n : Nat} {v : Value} {fn : List Nat → Nat} {xs : List (List Nat)} (h : w.ownsRow base 5 1 v n (av fn xs)) : ∃ sp cap, v = .slice sp n cap ∧ By w sp n (fun i => fn (xs.getD i [])) ∧ ∀ a, sp = some a → base ≤ a.block ∧ a.block < w.heap.size := by
  rcases h.2 with ⟨rfl, h0⟩ | ⟨g, cap, cur, rfl, hb, hg, hc⟩
  · subst h0
    exact ⟨none, 0, rfl, fun k hk => absurd hk (Nat.not_lt_zero _), fun a e => by cases e⟩
  · refine ⟨_, cap, rfl, fun k hk => ⟨_, rfl, ?_⟩, fun a e => by cases e; exact h.lt g rfl⟩
    have hl : (av fn xs).length = n := by simpa using h.1
    have hkl : k < xs.length := by unfold av at hl; rw [List.length_map] at hl; omega
    refine h.cells (g := g) rfl k _ ?_
    simp [av, List.getD_eq_getElem?_getD, hkl]
theorem clN_one : ∀ l, clN 1 l = l + 1
  | 0 => rfl
  | l + 1 => by rw [clN, clN_one l]; omega
theorem clN_two (st : Nat) (h2 : 2 ≤ st) : ∀ l, clN st l + 1 ≤ 2 * st ^ l
  | 0 => by simp [clN]
  | l + 1 => by
    have ih := clN_two st h2 l
    have h := Nat.mul_le_mul_left st ih
    rw [Nat.mul_add, Nat.mul_one] at h
    have e : st * (2 * st ^ l) = 2 * st ^ (l + 1) := by rw [Nat.pow_succ, Nat.mul_comm (st ^ l) st, Nat.mul_left_comm]
    rw [e] at h
    rw [clN]
    omega
theorem clN_le (st : Nat) (h1 : 1 ≤ st) (l : Nat) (hl : l ≤ 16) : clN st l ≤ 2 * st ^ l + 17 := by
  by_cases h : st = 1
  · subst h; rw [clN_one]; omega
  · have := clN_two st (by omega) l; omega

theorem Nz.keep {w w' : World} {lo gN : Nat} {kb : Nat → Nat} {L : List Nd} {r : Nat} (h : Nz w lo gN kb L) (hg : w.grownBy w' (some r)) (h1 : gN ≠ r) (h2 : r < lo) : Nz w' lo gN kb L := by
  obtain ⟨f, hf, hx⟩ := h
  refine ⟨f, rowIs_kept hf hg (by simpa using h1), fun j x hj => ?_⟩
  obtain ⟨e1, sp, e2, k⟩ := hx j x hj
  exact ⟨e1, sp, e2, k.kept hg (fun hk e => by have := (k.2 hk).2.2; injection e with e; omega)⟩
theorem Nz.kept {w w' : World} {lo gN : Nat} {kb : Nat → Nat} {L : List Nd} (h : Nz w lo gN kb L) (hg : w.grownBy w' none) : Nz w' lo gN kb L := by
  obtain ⟨f, hf, hx⟩ := h
  refine ⟨f, rowIs_kept hf hg (by simp), fun j x hj => ?_⟩
  obtain ⟨e1, sp, e2, k⟩ := hx j x hj
  exact ⟨e1, sp, e2, k.kept hg (fun hk e => by cases e)⟩
theorem Nz.low {w : World} {lo lo' gN : Nat} {kb : Nat → Nat} {L : List Nd} (h : Nz w lo gN kb L) (hl : lo' ≤ lo) : Nz w lo' gN kb L := by
  obtain ⟨f, hf, hx⟩ := h
  refine ⟨f, hf, fun j x hj => ?_⟩
  obtain ⟨e1, sp, e2, k⟩ := hx j x hj
  exact ⟨e1, sp, e2, k.1, fun hk => ⟨(k.2 hk).1, (k.2 hk).2.1, Nat.le_trans hl (k.2 hk).2.2⟩⟩

set_option maxHeartbeats 2000000 in
theorem ofOk (st inp gx : Nat) (h1 : 1 ≤ st) (hst : st ≤ 256) (hin : inp ≤ 16) (hq : st ^ inp ≤ 1048576) (fn : List Nat → Nat) (hfn : ∀ x, fn x < 256) (Ef : World → Prop) (w : World) (hE0 : Ef w) (hE : ∀ A B, Ef A → Below w.heap.size A B → Ef B)
    (hF : ∀ gr x W, Ef W → x.length = inp → (∀ s ∈ x, s < st) → W.rowIs gr 5 inp (fun i => .int .u8 (x.getD i 0 : Nat)) → Calls Tryd.prog 45 #[.slice (some ⟨gr, 0, none⟩) inp inp, .pointer (some ⟨gx, 0, none⟩)] W fun e W' => e = .returned (.int .u8 (fn x : Nat)) ∧ W.grownBy W' none) (hall : ((rws st inp).all fun x => decide (fn x < st)) = true) (hlen : (frm st inp (ans st inp fn)).length ≤ 65536) :
    Calls Tryd.prog 27 #[.int .i64 (st : Nat), .int .i64 (inp : Nat), .func (.func 45) #[] #[.pointer (some ⟨gx, 0, none⟩)]] w fun e w' => ∃ gN kb, e = .returned (.tuple #[.agg #[.int .i64 (st : Nat), .int .i64 (inp : Nat), .slice (some ⟨gN, 0, none⟩) (frm st inp (ans st inp fn)).length (frm st inp (ans st inp fn)).length, .int .i64 (((frm st inp (ans st inp fn)).length - 1 : Nat))], .int .i64 0]) ∧ Nz w' w.heap.size gN kb (frm st inp (ans st inp fn)) ∧ Ap gN kb (frm st inp (ans st inp fn)) ∧ w.grownBy w' none ∧ w.heap.size ≤ gN := by
  have hm := mayAskC (st : Int) (inp : Int)
  rw [show maB (st : Int) (inp : Int) = true by unfold maB; simp; omega] at hm
  have hc := canGoC st inp h1 hst hin
  rw [decide_eq_true hq] at hc
  have hnil := eqFn gx
  obtain ⟨fs, hfs⟩ := underTree
  have HFs : Hid (Tryd.prog.underlying 24 = some (.struct fs)) := hfs
  clear hfs
  obtain ⟨W1, hW1, sz1, g1, B1⟩ := boxn w #[.int .i64 0, .int .i64 0, .slice none 0 0, .int .i64 0] 24
  have ha := askC st inp gx hst hin hq fn hfn Ef W1 (hE _ _ hE0 (gb_below g1)) (fun A B h hb => hE A B h (hb.mono g1.size)) hF
  rw [hall] at ha
  obtain ⟨L, hL⟩ : ∃ L, frm st inp (ans st inp fn) = L := ⟨_, rfl⟩
  have hS := bld_stp st (ans st inp fn) hst (fun i => hfn _) inp
  have hGf : Gf L := by rw [← hL]; exact hS.good ([], 0) Gf.nil (by have := clN_le st h1 inp hin; simp; omega)
  have h0 : 0 < L.length := by rw [← hL]; have := hS.lt ([], 0); unfold frm; omega
  have hfo := fun sa ca w hy hsa => formOfC st inp (st ^ inp) ca sa (ans st inp fn) (fun i => hfn _) hst hin hq (Nat.le_refl _) (by have := clN_le st h1 inp hin; omega) w hy hsa
  rw [hL] at hfo hlen ⊢
  have htr := fun b w F => treeC b st inp L hGf (by omega) h0 w F
  clear hS hL hall
  go_enter Tryd.func27, Tryd.ntmps27
  go_wp2_with (first | (go_at_call 46; refine (hm _).mono ?_; rintro e w' ⟨rfl, hw'⟩; subst w') | (go_at_call 52; refine (hc _).mono ?_; rintro e w' ⟨rfl, hw'⟩; subst w') | (go_at_call 53; refine ha.mono ?_; rintro e w2 ⟨v, rfl, own2, g2⟩; obtain ⟨sp, cp, rfl, by2, hsp⟩ := by_own own2) | (go_at_call 54; refine (hfo sp cp w2 by2 (fun x hx => (hsp x hx).2)).mono ?_; rintro e w3 ⟨b, rfl, F3, g3, hb3⟩; obtain ⟨D, F3a, F3b, F3c⟩ := id F3) | (at_len; refine wpList_len_own _ rfl _ 100 rfl 116 3 underM _ b _ D rfl F3a ?_; rw [F3b]) | (go_at_call 55; refine (htr b w3 F3).mono ?_; rintro e w4 ⟨gN, kb, rfl, N4, A4, g4, hg4⟩; have B4 := ((B1.kept g2 (by simp)).kept g3 (by simp)).kept g4 (by simp); have c0 := B4.cell 0 (v := .int .i64 0) rfl; have c1 := B4.cell 1 (v := .int .i64 0) rfl; have c2 := B4.cell 2 (v := .slice none 0 0) rfl; have c3 := B4.cell 3 (v := .int .i64 0) rfl; have f0 := B4.frozen 0; have f1 := B4.frozen 1; have f2 := B4.frozen 2; have f3 := B4.frozen 3) | go_in)
  have le : w.heap.size ≤ w.heap.size := Nat.le_refl _
  have hgN : gN ≠ w.heap.size := by have := B1.lt; have := g2.size; have := g3.size; omega
  have G4 : w.grownBy w4 none := gb_trans g1 (gb_trans g2 (gb_trans g3 g4))
  have go4 : ∀ {W : World} i v, W.grownBy (W.setCell ⟨w.heap.size, i, none⟩ v) (some w.heap.size) := fun i v => gb_set (World.grownBy.refl _ _) i v
  refine ret_c2 (g := w.heap.size) (t := 24) (cs := #[.int .i64 (st : Nat), .int .i64 (inp : Nat), .slice (some ⟨gN, 0, none⟩) L.length L.length, .int .i64 ((L.length - 1 : Nat))]) rfl HFs.out infoTree rfl ((((B4.set 0 _).set 1 _).set 2 _).set 3 _) rfl ⟨gN, kb, rfl, ?_, A4, gb_new (gb_new (gb_new (gb_new G4 le _) le _) le _) le _, Nat.le_trans g1.size (Nat.le_trans g2.size (Nat.le_trans g3.size hg4))⟩
  have hlo : w.heap.size < w3.heap.size := by have := B1.lt; have := g2.size; have := g3.size; omega
  exact (((N4.keep (go4 _ _) hgN hlo).keep (go4 _ _) hgN hlo).keep (go4 _ _) hgN hlo).keep (go4 _ _) hgN hlo |>.low (Nat.le_of_lt hlo)
end Go.Proofs.YteaionmjbkildabDoor
