/- The example's tree. -/
import Derived.Test.YteaionmjbkildabDoorQ5
import Derived.Test.YteaionmjbkildabDoorQ19
import Derived.Test.YteaionmjbkildabDoorQ23
import Derived.Test.YteaionmjbkildabDoorQ25
namespace Go.Proofs.YteaionmjbkildabDoor
open Go.RowKit Go.Lib
set_option linter.unusedVariables false
set_option linter.unusedSimpArgs false
set_option maxRecDepth 100000

/-- The nodes of a form, the places of their kids given. -/
def tnOf (L : List Nd) (sp : Nat → Option Addr) (j : Nat) : TN := ⟨(L.getD j (0, [])).1, sp j, (L.getD j (0, [])).2.length, (L.getD j (0, [])).2.length, lf (L.getD j (0, [])).2⟩
theorem Nz.tn {w : World} {lo gN : Nat} {kb : Nat → Nat} {L : List Nd} (h : Nz w lo gN kb L) : ∃ sp, Tn w gN 0 L.length (tnOf L sp) := by
  obtain ⟨f, hf, hr⟩ := h
  refine ⟨fun j => match f (j * 2 + 1) with | .slice sp _ _ => sp | _ => none, fun j hj => ?_⟩
  have hx : L[j]? = some (L.getD j (0, [])) := by simp [List.getD, hj]
  obtain ⟨h0, sp, h1, h2⟩ := hr j _ hx
  have c0 := hf.cell (i := j * 2) (by omega)
  have c1 := hf.cell (i := j * 2 + 1) (by omega)
  rw [h0] at c0
  rw [h1] at c1
  refine ⟨by rw [Nat.zero_add]; exact c0, ?_, ?_⟩
  · rw [Nat.zero_add]; simp only [tnOf, h1]; exact c1
  · simp only [tnOf, h1]; exact h2.in

/-- Whether two states differ. -/
def fnD (x : List Nat) : Nat := if x.getD 0 0 = x.getD 1 0 then 0 else 1
def LD : List Nd := [(0, []), (1, []), (0, [0, 1]), (0, [1, 0]), (0, [2, 3])]
theorem frmD : frm 2 2 (ans 2 2 fnD) = LD := by decide
def lvD (j : Nat) : Nat := [0, 0, 1, 1, 2].getD j 0
theorem tokD (sp : Nat → Option Addr) : Tok 2 2 4 5 (tnOf LD sp) lvD where
  hs1 := by decide
  hs2 := by decide
  hi := by decide
  hn := by decide
  hr := by decide
  hlv := fun j => match j with | 0 | 1 | 2 | 3 | 4 => by decide | j + 5 => by simp [lvD]
  hst := fun j => match j with | 0 | 1 | 2 | 3 | 4 => by simp [tnOf, LD] | j + 5 => by simp [tnOf, LD]
  hok := fun j hj => match j, hj with
    | 0, _ => .inl ⟨rfl, by simp [tnOf, LD], rfl⟩
    | 1, _ => .inl ⟨rfl, by simp [tnOf, LD], rfl⟩
    | 2, _ => .inr ⟨rfl, rfl, fun k hk => match k, hk with | 0, _ => ⟨by simp [tnOf, LD, lf], by simp [tnOf, LD, lf], rfl⟩ | 1, _ => ⟨by simp [tnOf, LD, lf], by simp [tnOf, LD, lf], rfl⟩, rfl⟩
    | 3, _ => .inr ⟨rfl, rfl, fun k hk => match k, hk with | 0, _ => ⟨by simp [tnOf, LD, lf], by simp [tnOf, LD, lf], rfl⟩ | 1, _ => ⟨by simp [tnOf, LD, lf], by simp [tnOf, LD, lf], rfl⟩, rfl⟩
    | 4, _ => .inr ⟨rfl, rfl, fun k hk => match k, hk with | 0, _ => ⟨by simp [tnOf, LD, lf], by simp [tnOf, LD, lf], rfl⟩ | 1, _ => ⟨by simp [tnOf, LD, lf], by simp [tnOf, LD, lf], rfl⟩, rfl⟩
  hrt := rfl
theorem it1 (i : Nat) (h : i < 10) : itoa (i : Int) = [UInt8.ofNat (48 + i)] := by rw [itoa_nonneg, decDigits_one h]
def txD : List UInt8 := [116, 114, 101, 101, 32, 50, 32, 50, 32, 53, 32, 52, 10, 61, 32, 48, 10, 61, 32, 49, 10, 48, 32, 49, 10, 49, 32, 48, 10, 50, 32, 51, 10]
theorem txD_is (sp : Nat → Option Addr) : treeTx 2 2 5 4 (tnOf LD sp) = txD := by
  have i0 := it1 0 (by decide)
  have i1 := it1 1 (by decide)
  have i2 := it1 2 (by decide)
  have i3 := it1 3 (by decide)
  have i4 := it1 4 (by decide)
  have i5 := it1 5 (by decide)
  simp only [Int.ofNat_eq_natCast, Int.cast_ofNat_Int] at i0 i1 i2 i3 i4 i5
  simp [treeTx, headTx, nodesTx, nodeTx, kidsTx, tnOf, LD, lf, i0, i1, i2, i3, i4, i5, txD]
theorem goD (sp : Nat → Option Addr) : (tnOf LD sp (goN (tnOf LD sp) (fun i => [1, 0].getD i 0) 4 2)).st = 1 := rfl
theorem keD (sp : Nat → Option Addr) : ((rws 2 2).all fun x => decide (ev (tnOf LD sp) 4 2 x = ev (tnOf LD sp) 4 2 (px (fun i => [1, 0].getD i 0) 2 x))) = true := by rfl
theorem orD : Ord (fun i => (([1, 0].getD i 0 : Nat) : Int)) 2 := fun i hi => match i, hi with
  | 0, _ => ⟨by decide, by decide, fun j hj => absurd hj (Nat.not_lt_zero _)⟩
  | 1, _ => ⟨by decide, by decide, fun j hj => match j, hj with | 0, _ => by decide⟩

/-- of(differ()). -/
theorem ofD (gA : Nat) (w : World) (BA : Bo w gA 5 dfC) : Calls Tryd.prog 19 #[.agg #[.int .i64 2, .int .i64 2, .slice (some ⟨gA, 0, none⟩) 4 4]] w fun e w' => ∃ gN sp, e = .returned (.tuple #[.agg #[.int .i64 2, .int .i64 2, .slice (some ⟨gN, 0, none⟩) 5 5, .int .i64 4], .int .i64 0]) ∧ Tn w' gN 0 5 (tnOf LD sp) ∧ w.grownBy w' none := by
  obtain ⟨fs, hfs⟩ := underTree
  have HFs : Hid (Tryd.prog.underlying 24 = some (.struct fs)) := hfs
  clear hfs
  obtain ⟨W1, hW1, sz1, g1, B1⟩ := boxn w #[.int .i64 2, .int .i64 2, .slice (some ⟨gA, 0, none⟩) 4 4] 46
  obtain ⟨W2, hW2, sz2, g2, B2⟩ := boxn W1 #[.int .i64 0, .int .i64 0, .slice none 0 0, .int .i64 0] 24
  have X2 := B1.kept g2 (by simp)
  have BA2 := (BA.kept g1 (by simp)).kept g2 (by simp)
  have lx := X2.lt
  have la := BA2.lt
  have ho := ofOk 2 2 w.heap.size (by decide) (by decide) (by decide) (by decide) fnD (fun x => by unfold fnD; split <;> decide) (fun W => Bo W w.heap.size 46 #[.int .i64 2, .int .i64 2, .slice (some ⟨gA, 0, none⟩) 4 4] ∧ Bo W gA 5 dfC) W2 ⟨X2, BA2⟩
    (fun X Y h hb => ⟨(hb.block _ lx).trans h.1, (hb.block _ la).trans h.2⟩)
    (fun gr x W hE hx hs hr => by
      match x, hx, hs, hr with
      | [a, b], _, hs, hr =>
        have ha : a = 0 ∨ a = 1 := by have := hs a (by simp); omega
        have hb : b = 0 ∨ b = 1 := by have := hs b (by simp); omega
        have r0 := hr.cell (i := 0) (by decide)
        have r1 := hr.cell (i := 1) (by decide)
        rcases ha with rfl | rfl <;> rcases hb with rfl | rfl
        · exact clo00 _ gA gr 2 W hE.1 hE.2 r0 r1
        · exact clo01 _ gA gr 2 W hE.1 hE.2 r0 r1
        · exact clo10 _ gA gr 2 W hE.1 hE.2 r0 r1
        · exact clo11 _ gA gr 2 W hE.1 hE.2 r0 r1) (by decide) (by rw [frmD]; decide)
  rw [frmD] at ho
  have hq : Calls Tryd.prog 27 #[.int .i64 2, .int .i64 2, .func (.func 45) #[] #[.pointer (some ⟨w.heap.size, 0, none⟩)]] W2 fun e w' => ∃ gN kb, e = .returned (.tuple #[.agg #[.int .i64 2, .int .i64 2, .slice (some ⟨gN, 0, none⟩) 5 5, .int .i64 4], .int .i64 0]) ∧ Nz w' W2.heap.size gN kb LD ∧ W2.grownBy w' none ∧ W2.heap.size ≤ gN := by
    refine ho.mono ?_
    rintro e w' ⟨gN, kb, rfl, hN, _, hg, hl⟩
    exact ⟨gN, kb, rfl, hN, hg, hl⟩
  clear ho lx la BA BA2
  have c0 := X2.cell 0 (v := .int .i64 2) rfl
  have c1 := X2.cell 1 (v := .int .i64 2) rfl
  clear X2
  go_enter Tryd.func19, Tryd.ntmps19
  go_wp2_with (go_at_call 27; refine hq.mono ?_; rintro e w4 ⟨gN, kb, rfl, N4, g4, hl4⟩; have B4 := B2.kept g4 (by simp); have d0 := B4.cell 0 (v := .int .i64 0) rfl; have d1 := B4.cell 1 (v := .int .i64 0) rfl; have d2 := B4.cell 2 (v := .slice none 0 0) rfl; have d3 := B4.cell 3 (v := .int .i64 0) rfl; have f0 := B4.frozen 0; have f1 := B4.frozen 1; have f2 := B4.frozen 2; have f3 := B4.frozen 3)
  have le : w.heap.size ≤ W1.heap.size := g1.size
  have hlo : W1.heap.size < W2.heap.size := B2.lt
  have hgN : gN ≠ W1.heap.size := by omega
  have G4 : w.grownBy w4 none := gb_trans g1 (gb_trans g2 g4)
  have go4 : ∀ {W : World} i v, W.grownBy (W.setCell ⟨W1.heap.size, i, none⟩ v) (some W1.heap.size) := fun i v => gb_set (World.grownBy.refl _ _) i v
  have NF := (((N4.keep (go4 0 (.int .i64 2)) hgN hlo).keep (go4 1 (.int .i64 2)) hgN hlo).keep (go4 2 (.slice (some ⟨gN, 0, none⟩) 5 5)) hgN hlo).keep (go4 3 (.int .i64 4)) hgN hlo
  obtain ⟨sp, hT⟩ := NF.tn
  exact ret_c2 (g := W1.heap.size) (t := 24) (cs := #[.int .i64 2, .int .i64 2, .slice (some ⟨gN, 0, none⟩) 5 5, .int .i64 4]) rfl HFs.out infoTree rfl ((((B4.set 0 _).set 1 _).set 2 _).set 3 _) rfl ⟨gN, sp, rfl, hT, gb_new (gb_new (gb_new (gb_new G4 le _) le _) le _) le _⟩
end Go.Proofs.YteaionmjbkildabDoor
