/- TreePrints. -/
import Derived.Test.YteaionmjbkildabDoorQ63
import Derived.Test.YteaionmjbkildabDoorQ38
import Derived.Test.YteaionmjbkildabDoorQ27
namespace Go.Proofs.YteaionmjbkildabDoor
open Go.RowKit
set_option linter.unusedVariables false
set_option linter.unusedSimpArgs false
set_option maxRecDepth 100000

/-- Two trees with the same states and kids. -/
def Sim (t t' : Nat → TN) : Prop := ∀ j, (t j).st = (t' j).st ∧ (t j).kn = (t' j).kn ∧ (t j).kf = (t' j).kf
theorem Sim.lt (t : Nat → TN) (kb kq : Nat → Nat) : Sim (ltT t kb kq) t := fun j => ⟨rfl, rfl, rfl⟩
theorem Sim.lvl {t t' : Nat → TN} (h : Sim t t') : ∀ j, Go.Proofs.YteaionmjbkildabDoor.lvl t j = Go.Proofs.YteaionmjbkildabDoor.lvl t' j
  | 0 => rfl
  | j + 1 => by rw [Go.Proofs.YteaionmjbkildabDoor.lvl, Go.Proofs.YteaionmjbkildabDoor.lvl, Sim.lvl h j, (h j).2.1, (h j).2.2]
theorem Sim.lw {t t' : Nat → TN} (h : Sim t t') : Go.Proofs.YteaionmjbkildabDoor.lw t = Go.Proofs.YteaionmjbkildabDoor.lw t' := by
  funext j
  unfold Go.Proofs.YteaionmjbkildabDoor.lw
  rw [h.lvl]
theorem Sim.ck {t t' : Nat → TN} (h : Sim t t') {S I R : Int} {n : Nat} (hc : CkOk S I n R t) : CkOk S I n R t' := by
  obtain ⟨h1, h2, h3, h4, h5, h6⟩ := hc
  refine ⟨h1, h2, h3, h4, fun j hj => ?_, by rw [← h.lw]; exact h6⟩
  have := h5 j hj
  unfold okN at this ⊢
  rw [← h.lw, ← (h j).1, ← (h j).2.1, ← (h j).2.2]
  exact this
theorem Sim.symm {t t' : Nat → TN} (h : Sim t t') : Sim t' t := fun j => ⟨(h j).1.symm, (h j).2.1.symm, (h j).2.2.symm⟩
theorem Sim.node {t t' : TN} (h : t.st = t'.st ∧ t.kn = t'.kn ∧ t.kf = t'.kf) : nodeTx t = nodeTx t' := by unfold nodeTx; rw [h.1, h.2.1, h.2.2]
theorem Sim.nodes {t t' : Nat → TN} (h : Sim t t') : ∀ n, nodesTx t n = nodesTx t' n
  | 0 => rfl
  | n + 1 => by rw [nodesTx, nodesTx, Sim.nodes h n, Sim.node (h n)]
theorem Sim.tx {t t' : Nat → TN} (h : Sim t t') (S I n R : Nat) : treeTx S I n R t = treeTx S I n R t' := by unfold treeTx; rw [h.nodes]
theorem Sim.pr {t t' : Nat → TN} (h : Sim t t') {S I R : Int} {n : Nat} {l : List UInt8} {E : Int} (k : PrE S I n R t l E) : PrE S I n R t' l E := by
  rcases k with ⟨h1, h2⟩ | ⟨h1, h2, h3⟩
  · exact .inl ⟨fun k => h1 (h.symm.ck k), h2⟩
  · exact .inr ⟨h.ck h1, by rw [← h.tx]; exact h2, by rw [← h.tx]; exact h3⟩

set_option maxHeartbeats 3000000 in
theorem printsC (S I R : Int) (sp : Option Addr) (q o n c : Nat) (t : Nat → TN) (hsp : 0 < n → sp = some ⟨q, o, none⟩) (hn : n ≤ 4398046510976) (hst : ∀ j, (t j).st < 256) (hkn : ∀ j, j < n → (t j).kn ≤ 17592186043904) (hnil : ∀ j, j < n → (t j).kp = none → (t j).kn = 0 ∧ (t j).kc = 0) (w : World) (htab : Tab w) (hT : Tn w q o n t) :
    Calls Tryd.prog 3 #[.agg #[.int .i64 S, .int .i64 I, .slice sp n c, .int .i64 R]] w fun e w' => e = .returned (.bool true) ∧ w.grownBy w' none := by
  obtain ⟨W1, hW1, sz1, g1, B1⟩ := boxn w #[.int .i64 S, .int .i64 I, .slice sp n c, .int .i64 R] 24
  have a0 := B1.cell 0 (v := .int .i64 S) rfl
  have a1 := B1.cell 1 (v := .int .i64 I) rfl
  have a2 := B1.cell 2 (v := .slice sp n c) rfl
  have a3 := B1.cell 3 (v := .int .i64 R) rfl
  have hal := aliveC W1 (tab_kept htab g1)
  go_enter Tryd.func3, Tryd.ntmps3
  go_wp2_with (first | (go_at_call 9; refine hal.mono ?_; rintro e w2 ⟨rfl, g2⟩; refine Hid.out ?_))
  refine Lib.hid ?_
  clear hal a0 a1 a2 a3
  have G2 := gb_trans g1 g2
  have B2 := B1.kept g2 (by simp)
  have a0 := B2.cell 0 (v := .int .i64 S) rfl
  have a1 := B2.cell 1 (v := .int .i64 I) rfl
  have a2 := B2.cell 2 (v := .slice sp n c) rfl
  have a3 := B2.cell 3 (v := .int .i64 R) rfl
  have hle := lentC S I R sp q o n c t hsp hn hst hkn hnil w2 (hT.kept G2)
  go_wp2_with (first | (go_at_call 10; refine hle.mono ?_; rintro e w3 ⟨Bq, gN, cN, kb, kq, rfl, hL, hBq, g3⟩; refine Hid.out ?_))
  refine Lib.hid ?_
  clear hle a0 a1 a2 a3
  obtain ⟨W4, hW4, sz4, g4, X4⟩ := boxn w3 #[.int .i64 S, .int .i64 I, .slice (some ⟨gN, 0, none⟩) n cN, .int .i64 R] 24
  have G3 := gb_trans G2 g3
  have G4 := gb_trans G3 g4
  have B4 := (B2.kept g3 (by simp)).kept g4 (by simp)
  have hL4 := hL.keep g4 (by simp)
  have x0 := X4.cell 0 (v := .int .i64 S) rfl
  have x1 := X4.cell 1 (v := .int .i64 I) rfl
  have x2 := X4.cell 2 (v := .slice (some ⟨gN, 0, none⟩) n cN) rfl
  have x3 := X4.cell 3 (v := .int .i64 R) rfl
  obtain ⟨l, E, hE⟩ := PrE.some S I n R t
  have HE : Hid (PrE S I n R t l E) := hE
  have hpr := printG S I R (some ⟨gN, 0, none⟩) gN 0 n cN (ltT t kb kq) (fun _ => rfl) (fun j => hst j) l E ((Sim.lt t kb kq).symm.pr hE) W4 hL4.tn (tab_kept htab G4)
  clear hE
  obtain ⟨X, hX⟩ : ∃ X : ByteArray, (⟨l.toArray⟩ : ByteArray) = X := ⟨_, rfl⟩
  have HX : Hid ((⟨l.toArray⟩ : ByteArray) = X) := hX
  rw [hX] at hpr
  clear hX
  go_wp2_with (first | (go_at_call 11; refine hpr.mono ?_; rintro e w5 ⟨rfl, g5⟩; refine Hid.out ?_))
  refine Lib.hid ?_
  clear hpr x0 x1 x2 x3
  have G5 := gb_trans G4 g5
  have hL5 := hL4.keep g5 (by simp)
  have X5 := X4.kept g5 (by simp)
  have B5 := B4.kept g5 (by simp)
  have x0 := B5.cell 0 (v := .int .i64 S) rfl
  have x1 := B5.cell 1 (v := .int .i64 I) rfl
  have x2 := B5.cell 2 (v := .slice sp n c) rfl
  have x3 := B5.cell 3 (v := .int .i64 R) rfl
  have hrp := rprintG S I R sp q o n c t hsp hst l E HE.out w5 (hT.kept G5) (tab_kept htab G5)
  rw [HX.out] at hrp
  go_wp2_with (first | (go_at_call 12; refine hrp.mono ?_; rintro e w6 ⟨rfl, g6⟩; refine Hid.out ?_))
  refine Lib.hid ?_
  clear hrp x0 x1 x2 x3
  have G6 := gb_trans G5 g6
  have hL6 := hL5.keep g6 (by simp)
  have X6 := X5.kept g6 (by simp)
  have B6 := B5.kept g6 (by simp)
  have hkp := keptC S I R sp q o n c Bq gN cN kb kq t hsp hn hkn w6 hL6 (hT.kept G6)
  have x0 := X6.cell 0 (v := .int .i64 S) rfl
  have x1 := X6.cell 1 (v := .int .i64 I) rfl
  have x2 := X6.cell 2 (v := .slice (some ⟨gN, 0, none⟩) n cN) rfl
  have x3 := X6.cell 3 (v := .int .i64 R) rfl
  have y0 := B6.cell 0 (v := .int .i64 S) rfl
  have y1 := B6.cell 1 (v := .int .i64 I) rfl
  have y2 := B6.cell 2 (v := .slice sp n c) rfl
  have y3 := B6.cell 3 (v := .int .i64 R) rfl
  have z1 : (E == E) = true := by simp
  go_wp2_with (first | (go_at_call 13; refine hkp.mono ?_; rintro e w7 ⟨rfl, g7⟩))
  go_ret
  exact ⟨rfl, gb_trans G6 g7⟩
end Go.Proofs.YteaionmjbkildabDoor
