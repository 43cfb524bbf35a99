/- Print of a tree that may be. -/
import Derived.Test.YteaionmjbkildabDoorQ24
import Derived.Lib.SlBytesConst
import Derived.Lib.SmallJoins
import Derived.ArgAppend
namespace Go.Proofs.YteaionmjbkildabDoor
open Go.RowKit Go.Lib
set_option linter.unusedVariables false
set_option linter.unusedSimpArgs false
set_option maxRecDepth 100000

def nodesTx (t : Nat → TN) : Nat → List UInt8
  | 0 => []
  | j + 1 => nodesTx t j ++ nodeTx (t j)
/-- The first line. -/
def headTx (S I n R : Nat) : List UInt8 := [116, 114, 101, 101] ++ [32] ++ itoa (S : Int) ++ [32] ++ itoa (I : Int) ++ [32] ++ itoa (n : Int) ++ [32] ++ itoa (R : Int) ++ [10]
def treeTx (S I n R : Nat) (t : Nat → TN) : List UInt8 := headTx S I n R ++ nodesTx t n
theorem nodesTx_le (t : Nat → TN) {i j : Nat} (h : i ≤ j) : (nodesTx t i).length ≤ (nodesTx t j).length := by
  induction j with
  | zero => have e : i = 0 := (by omega)
            rw [e]; exact Nat.le_refl _
  | succ j ih =>
    by_cases e : i = j + 1
    · subst e; exact Nat.le_refl _
    · have := ih (by omega)
      simp [nodesTx]; omega

theorem withNodeC (B : Nat) (t : TN) (ht : t.st < 256) (hkf : ∀ k, k < t.kn → -9223372036854775808 ≤ t.kf k ∧ t.kf k ≤ 9223372036854775807) (hkn2 : t.kn ≤ 65536) (v : Value) (l : List UInt8) (hl : l.length ≤ 4194304) (w : World) (hB : B ≤ w.heap.size) (hK : In w t.kp t.kn t.kf) (hkp : 0 < t.kn → ∀ a, t.kp = some a → a.block < B) (hown : w.ownsRow B 5 1 v l.length (byteCells l)) (hT : TabB B w) :
    Calls Tryd.prog 34 #[v, .agg #[.int .u8 (t.st : Nat), .slice t.kp t.kn t.kc]] w fun e w' => ∃ v', e = .returned v' ∧ Tx B w w' v' (l ++ nodeTx t) := by
  unfold nodeTx
  by_cases h : t.kn = 0
  · rw [if_pos h]
    have := leafTx B t.st ht t.kp t.kc v l hl w hB hown hT
    rw [← h] at this
    exact this
  · rw [if_neg h]
    exact kidsLine B t.kp t.kn t.kc t.kf hkf (by omega) hkn2 t.st v l hl w hB hK (hkp (by omega)) hown hT

theorem Tx.trans {B : Nat} {w0 w w' : World} {v v' : Value} {l l' : List UInt8} (h : Tx B w0 w v l) (k : Tx B w w' v' l') : Tx B w0 w' v' l' := ⟨k.own, h.below.trans k.below, h.kept.trans k.kept⟩
theorem Tn.lowK {w w' : World} {q o n : Nat} {t : Nat → TN} (h : Tn w q o n t) (hb : Below w.heap.size w w') : Tn w' q o n t := fun j hj => by
  obtain ⟨h0, h1, h2⟩ := h j hj
  refine ⟨(hb.cell (cell_lt h0)).trans h0, (hb.cell (cell_lt h1)).trans h1, fun k hk => ?_⟩
  obtain ⟨a, ha, hc⟩ := h2 k hk
  exact ⟨a, ha, (hb.cell (cell_lt hc)).trans hc⟩
theorem Nok.kf {S : Nat} {lv : Nat → Nat} {t : TN} {j : Nat} (h : Nok S lv t j) (hj : j ≤ 65536) : ∀ k, k < t.kn → -9223372036854775808 ≤ t.kf k ∧ t.kf k ≤ 9223372036854775807 := fun k hk => by
  rcases h with ⟨h0, _⟩ | ⟨_, h1, h2, _⟩
  · omega
  · have := h2 k (by omega)
    omega
theorem Nok.kn {S : Nat} {lv : Nat → Nat} {t : TN} {j : Nat} (h : Nok S lv t j) (hS : S ≤ 256) : t.kn ≤ 65536 := by
  rcases h with ⟨h0, _⟩ | ⟨_, h1, h2, _⟩ <;> omega
theorem nodeTx_pos (t : TN) : 0 < (nodeTx t).length := by
  unfold nodeTx
  split <;> simp
theorem below_gb {w w' : World} (h : Below w.heap.size w w') : w.grownBy w' none := ⟨h.os, h.tape, h.output, h.size, fun k hk _ => h.block k hk⟩

theorem headCells (w2 : World) (o : Obj) : ∀ b, (some ⟨w2.heap.size, 0, none⟩ : Option Addr) = some b → ∀ j u, (byteCells [116, 114, 101, 101])[j]? = some u → ((w2.alloc (.cells #[.int .u8 116, .int .u8 114, .int .u8 101, .int .u8 101] 5 (4, 5))).alloc o).cell? (b.add j) = some u := by
  intro b e
  obtain rfl := Option.some.inj e
  exact World.news_of_block (cs := #[.int .u8 116, .int .u8 114, .int .u8 101, .int .u8 101]) ((alloc_old _ o w2.heap.size (by simp)).trans (heap_alloc_new w2 _))
theorem tx0 {B : Nat} {W1 w3 y : World} {o : Obj} {p : Value} (hB : B ≤ W1.heap.size) (g : W1.grownBy w3 none) (own : y.ownsRow (w3.alloc o).heap.size 5 1 p (4 + 1) (byteCells [116, 114, 101, 101] ++ [.int .u8 32])) (g' : (w3.alloc o).grownBy y none) : Tx B W1 y p ([116, 114, 101, 101] ++ [32]) :=
  ⟨Joins.ownsRow_le own (by have := g.size; simp; omega), (Below.refl B W1).grown (gb_trans (gb_trans g (World.grownBy_alloc _ _ _)) g') hB (by simp), (OthersKept.refl _ _ _).grown (gb_trans (gb_trans g (World.grownBy_alloc _ _ _)) g') (by simp)⟩

theorem ixA0 (x0 x1 x2 x3 : Value) (w : World) : (Instr.index 70 (.agg #[x0, x1, x2, x3]) (.int .i64 0)).run Tryd.prog w = .ok x0 w := by kernel_rfl
theorem ixA1 (x0 x1 x2 x3 : Value) (w : World) : (Instr.index 70 (.agg #[x0, x1, x2, x3]) (.int .i64 1)).run Tryd.prog w = .ok x1 w := by kernel_rfl
theorem ixA2 (x0 x1 x2 x3 : Value) (w : World) : (Instr.index 70 (.agg #[x0, x1, x2, x3]) (.int .i64 2)).run Tryd.prog w = .ok x2 w := by kernel_rfl
theorem ixA3 (x0 x1 x2 x3 : Value) (w : World) : (Instr.index 70 (.agg #[x0, x1, x2, x3]) (.int .i64 3)).run Tryd.prog w = .ok x3 w := by kernel_rfl

/-- What Print answers of a text: it, if it is not too long. -/
def prT (l : List UInt8) : List UInt8 := if l.length ≤ 1048576 then l else []
def prE (l : List UInt8) : Int := if l.length ≤ 1048576 then 0 else 3
set_option maxHeartbeats 3000000 in
theorem printA (S I R q o n c : Nat) (t : Nat → TN) (lv : Nat → Nat) (ht : Tok S I R n t lv) (w : World) (hT : Tn w q o n t) (htab : Tab w) :
    Calls Tryd.prog 11 #[.agg #[.int .i64 (S : Nat), .int .i64 (I : Nat), .slice (some ⟨q, o, none⟩) n c, .int .i64 (R : Nat)]] w fun e w' => e = .returned (.tuple #[.string ⟨(prT (treeTx S I n R t)).toArray⟩, .int .i64 (prE (treeTx S I n R t))]) ∧ w.grownBy w' none := by
  have hi16 := ht.hi
  have hs2 := ht.hs2
  have hn16 := ht.hn
  have hr := ht.hr
  have lS := Lib.itoa_length_le (S : Int) (by omega) (by omega)
  have lI := Lib.itoa_length_le (I : Int) (by omega) (by omega)
  have ln := Lib.itoa_length_le (n : Int) (by omega) (by omega)
  have lR := Lib.itoa_length_le (R : Int) (by omega) (by omega)
  obtain ⟨i8, HI8⟩ : ∃ i, Hid (Tryd.prog.info? 5 = some i ∧ i.zero = some (.int .u8 0) ∧ i.size = 1 ∧ i.bytes = 1) := by
    obtain ⟨i, h1, h2, h3, h4⟩ := info_parts info8
    exact ⟨i, h1, h2, h3, h4⟩
  have i0 := ixA0
  have i1 := ixA1
  have i2 := ixA2
  have i3 := ixA3
  obtain ⟨B, hBe⟩ : ∃ B, w.heap.size = B := ⟨_, rfl⟩
  have HBe : Hid (w.heap.size = B) := hBe
  have hTB : TabB B w := hBe ▸ Lib.tabBelow_of_tabIs htab
  obtain ⟨W1, hW1, sz1, g1, B1⟩ := boxn w #[.int .i64 (S : Nat), .int .i64 (I : Nat), .slice (some ⟨q, o, none⟩) n c, .int .i64 (R : Nat)] 24
  have hB1 : B ≤ W1.heap.size := by rw [← hBe]; exact g1.size
  have hT1 : TabB B W1 := hTB.on (hBe ▸ gb_below g1)
  have gb0 : Below B w W1 := hBe ▸ gb_below g1
  clear hBe
  have t0 := B1.cell 0 (v := .int .i64 (S : Nat)) rfl
  have t1 := B1.cell 1 (v := .int .i64 (I : Nat)) rfl
  have t2 := B1.cell 2 (v := .slice (some ⟨q, o, none⟩) n c) rfl
  have t3 := B1.cell 3 (v := .int .i64 (R : Nat)) rfl
  have hck := checkK S I R q o n c t lv ht W1 (hT.kept g1)
  go_enter Tryd.func11, Tryd.ntmps11
  go_wp2_with (go_at_call 20; refine hck.mono ?_; rintro e w2 ⟨rfl, g2⟩; refine Hid.out ?_)
  refine Lib.hid ?_
  have B2 := B1.kept g2 (by simp)
  obtain ⟨w3, hw3⟩ : ∃ w3, w2.alloc (.cells #[.int .u8 116, .int .u8 114, .int .u8 101, .int .u8 101] 5 (4, 5)) = w3 := ⟨_, rfl⟩
  have HW3 : Hid (w2.alloc (.cells #[.int .u8 116, .int .u8 114, .int .u8 101, .int .u8 101] 5 (4, 5)) = w3) := hw3
  have g3 : w2.grownBy w3 none := (by rw [← hw3]; exact World.grownBy_alloc _ _ _)
  have kc : (convert 44 44 (.slice (some ⟨w2.heap.size, 0, none⟩) 4 4)).run Tryd.prog (w2.alloc (.cells #[.int .u8 116, .int .u8 114, .int .u8 101, .int .u8 101] 5)) = .ok (.slice (some ⟨w2.heap.size, 0, none⟩) 4 4) w3 := by
    rw [← hw3]; exact Lib.run_convert_bytes_const (P := Tryd.prog) w2 44 5 _ 4 4 under8S under8
  have B3 := B2.kept g3 (by simp)
  have u0 := B3.cell 0 (v := .int .i64 (S : Nat)) rfl
  have u1 := B3.cell 1 (v := .int .i64 (I : Nat)) rfl
  have u2 := B3.cell 2 (v := .slice (some ⟨q, o, none⟩) n c) rfl
  have u3 := B3.cell 3 (v := .int .i64 (R : Nat)) rfl
  clear hw3
  go_wp2
  obtain ⟨L0, hL0⟩ : ∃ L, ([116, 114, 101, 101] : List UInt8) = L := ⟨_, rfl⟩
  have HL0 : Hid ([116, 114, 101, 101] = L0) := hL0
  have hl0 : L0.length ≤ 4 := by rw [← hL0]; simp
  clear hL0
  refine wp_loop_rounds 5 ?_
  rw [rounds_succ]
  go_wp2_with (at_builtin; refine wpList_append_grows _ rfl _ _ 44 rfl 5 i8 (.int .u8 0) 1 1 under8S HI8.out.1 HI8.out.2.1 HI8.out.2.2.1 HI8.out.2.2.2 rfl (by decide) (some ⟨w2.heap.size, 0, none⟩) 4 4 (byteCells [116, 114, 101, 101]) rfl (by simp) rfl (by rw [← HW3.out]; exact headCells w2 _) ⟨w3.heap.size, 0, none⟩ 1 1 [.int .u8 32] rfl rfl (new1 _ _ _) (by intro u hu; simp at hu; subst hu; rfl) (by decide) (by unfold maxLen; omega) (by omega) ?_; intro p0 y0 own' g'; have P0 : Tx B W1 y0 p0 (L0 ++ [32]) := HL0.out ▸ tx0 hB1 (gb_trans g2 g3) own' g'; clear own' g'; refine Hid.out ?_)
  refine Lib.hid ?_
  have hP0 : B ≤ y0.heap.size := Nat.le_trans hB1 P0.below.size
  have hq0 : (L0 ++ [32]).length = L0.length + 1 := by simp
  go_wp2_with (go_at_call 33; refine (Tryd.strconv_AppendInt_10 B _ (S : Int) (by omega) (by omega) _ _ y0 P0.own hP0 (by omega) (hT1.on P0.below)).mono ?_; rintro e x0 ⟨r0, rfl, own', hb', hk'⟩; have R0 : Tx B W1 x0 r0 (L0 ++ [32] ++ itoa (S : Int)) := P0.num own' hb' hk'; clear own' hb' hk'; refine Hid.out ?_)
  refine Lib.hid ?_
  have hR0 : B ≤ x0.heap.size := Nat.le_trans hB1 R0.below.size
  obtain ⟨L1, hL1⟩ : ∃ L, L0 ++ [32] ++ itoa (S : Int) = L := ⟨_, rfl⟩
  have HL1 : Hid (L0 ++ [32] ++ itoa (S : Int) = L1) := hL1
  have hl1 : L1.length ≤ L0.length + 22 := by rw [← hL1]; simp; omega
  rw [hL1] at R0
  clear hL1
  go_wp2
  rw [rounds_succ]
  go_wp2_with (at_builtin; refine wpList_append_own _ rfl _ _ 44 rfl B 5 i8 (.int .u8 0) 1 1 under8S HI8.out.1 HI8.out.2.1 HI8.out.2.2.1 HI8.out.2.2.2 rfl (by decide) _ _ _ rfl (R0.own.alloc _) ⟨x0.heap.size, 0, none⟩ 1 1 [.int .u8 32] rfl rfl (new1 _ _ _) (by intro u hu; simp at hu; subst hu; rfl) (by unfold maxLen; omega) (by omega) (by simp; omega) ?_; intro p1 y1 own' g' hn'; have P1 : Tx B W1 y1 p1 (L1 ++ [32]) := R0.app (m := [32]) hR0 own' g'; clear own' g' hn'; refine Hid.out ?_)
  refine Lib.hid ?_
  have hP1 : B ≤ y1.heap.size := Nat.le_trans hB1 P1.below.size
  have hq1 : (L1 ++ [32]).length = L1.length + 1 := by simp
  go_wp2_with (go_at_call 33; refine (Tryd.strconv_AppendInt_10 B _ (I : Int) (by omega) (by omega) _ _ y1 P1.own hP1 (by omega) (hT1.on P1.below)).mono ?_; rintro e x1 ⟨r1, rfl, own', hb', hk'⟩; have R1 : Tx B W1 x1 r1 (L1 ++ [32] ++ itoa (I : Int)) := P1.num own' hb' hk'; clear own' hb' hk'; refine Hid.out ?_)
  refine Lib.hid ?_
  have hR1 : B ≤ x1.heap.size := Nat.le_trans hB1 R1.below.size
  obtain ⟨L2, hL2⟩ : ∃ L, L1 ++ [32] ++ itoa (I : Int) = L := ⟨_, rfl⟩
  have HL2 : Hid (L1 ++ [32] ++ itoa (I : Int) = L2) := hL2
  have hl2 : L2.length ≤ L1.length + 22 := by rw [← hL2]; simp; omega
  rw [hL2] at R1
  clear hL2
  go_wp2
  rw [rounds_succ]
  go_wp2_with (at_builtin; refine wpList_append_own _ rfl _ _ 44 rfl B 5 i8 (.int .u8 0) 1 1 under8S HI8.out.1 HI8.out.2.1 HI8.out.2.2.1 HI8.out.2.2.2 rfl (by decide) _ _ _ rfl (R1.own.alloc _) ⟨x1.heap.size, 0, none⟩ 1 1 [.int .u8 32] rfl rfl (new1 _ _ _) (by intro u hu; simp at hu; subst hu; rfl) (by unfold maxLen; omega) (by omega) (by simp; omega) ?_; intro p2 y2 own' g' hn'; have P2 : Tx B W1 y2 p2 (L2 ++ [32]) := R1.app (m := [32]) hR1 own' g'; clear own' g' hn'; refine Hid.out ?_)
  refine Lib.hid ?_
  have hP2 : B ≤ y2.heap.size := Nat.le_trans hB1 P2.below.size
  have hq2 : (L2 ++ [32]).length = L2.length + 1 := by simp
  go_wp2_with (go_at_call 33; refine (Tryd.strconv_AppendInt_10 B _ (n : Int) (by omega) (by omega) _ _ y2 P2.own hP2 (by omega) (hT1.on P2.below)).mono ?_; rintro e x2 ⟨r2, rfl, own', hb', hk'⟩; have R2 : Tx B W1 x2 r2 (L2 ++ [32] ++ itoa (n : Int)) := P2.num own' hb' hk'; clear own' hb' hk'; refine Hid.out ?_)
  refine Lib.hid ?_
  have hR2 : B ≤ x2.heap.size := Nat.le_trans hB1 R2.below.size
  obtain ⟨L3, hL3⟩ : ∃ L, L2 ++ [32] ++ itoa (n : Int) = L := ⟨_, rfl⟩
  have HL3 : Hid (L2 ++ [32] ++ itoa (n : Int) = L3) := hL3
  have hl3 : L3.length ≤ L2.length + 22 := by rw [← hL3]; simp; omega
  rw [hL3] at R2
  clear hL3
  go_wp2
  rw [rounds_succ]
  go_wp2_with (at_builtin; refine wpList_append_own _ rfl _ _ 44 rfl B 5 i8 (.int .u8 0) 1 1 under8S HI8.out.1 HI8.out.2.1 HI8.out.2.2.1 HI8.out.2.2.2 rfl (by decide) _ _ _ rfl (R2.own.alloc _) ⟨x2.heap.size, 0, none⟩ 1 1 [.int .u8 32] rfl rfl (new1 _ _ _) (by intro u hu; simp at hu; subst hu; rfl) (by unfold maxLen; omega) (by omega) (by simp; omega) ?_; intro p3 y3 own' g' hn'; have P3 : Tx B W1 y3 p3 (L3 ++ [32]) := R2.app (m := [32]) hR2 own' g'; clear own' g' hn'; refine Hid.out ?_)
  refine Lib.hid ?_
  have hP3 : B ≤ y3.heap.size := Nat.le_trans hB1 P3.below.size
  have hq3 : (L3 ++ [32]).length = L3.length + 1 := by simp
  go_wp2_with (go_at_call 33; refine (Tryd.strconv_AppendInt_10 B _ (R : Int) (by omega) (by omega) _ _ y3 P3.own hP3 (by omega) (hT1.on P3.below)).mono ?_; rintro e x3 ⟨r3, rfl, own', hb', hk'⟩; have R3 : Tx B W1 x3 r3 (L3 ++ [32] ++ itoa (R : Int)) := P3.num own' hb' hk'; clear own' hb' hk'; refine Hid.out ?_)
  refine Lib.hid ?_
  have hR3 : B ≤ x3.heap.size := Nat.le_trans hB1 R3.below.size
  obtain ⟨L4, hL4⟩ : ∃ L, L3 ++ [32] ++ itoa (R : Int) = L := ⟨_, rfl⟩
  have HL4 : Hid (L3 ++ [32] ++ itoa (R : Int) = L4) := hL4
  have hl4 : L4.length ≤ L3.length + 22 := by rw [← hL4]; simp; omega
  rw [hL4] at R3
  clear hL4
  go_wp2
  rw [rounds_succ]
  go_wp2_with (at_builtin; refine wpList_append_own _ rfl _ _ 44 rfl B 5 i8 (.int .u8 0) 1 1 under8S HI8.out.1 HI8.out.2.1 HI8.out.2.2.1 HI8.out.2.2.2 rfl (by decide) _ _ _ rfl (R3.own.alloc _) ⟨x3.heap.size, 0, none⟩ 1 1 [.int .u8 10] rfl rfl (new1 _ _ _) (by intro u hu; simp at hu; subst hu; rfl) (by unfold maxLen; omega) (by omega) (by simp; omega) ?_; intro p4 y4 own' g' hn'; have P4 : Tx B W1 y4 p4 (L4 ++ [10]) := R3.app (m := [10]) hR3 own' g'; clear own' g' hn'; refine Hid.out ?_)
  refine Lib.hid ?_
  have hP4 : B ≤ y4.heap.size := Nat.le_trans hB1 P4.below.size
  have hL5 : L4 ++ [10] = headTx S I n R := by rw [← HL4.out, ← HL3.out, ← HL2.out, ← HL1.out, ← HL0.out]; rfl
  rw [hL5] at P4
  obtain ⟨H, hH⟩ : ∃ H, headTx S I n R = H := ⟨_, rfl⟩
  have HH : Hid (headTx S I n R = H) := hH
  have hH0 : H.length ≤ 1000 := by rw [← hH, ← hL5]; simp; omega
  rw [hH] at P4
  clear hL5 hl0 hl1 hl2 hl3 hl4 hq0 hq1 hq2 hq3 lS lI ln lR
  have B4 := P4.bo B1 (by decide)
  have v2 := B4.cell 2 (v := .slice (some ⟨q, o, none⟩) n c) rfl
  go_wp2
  clear hH t0 t1 t2 t3 u0 u1 u2 u3 v2
  go_loopw [43, 5] (fun i u wr => ∃ j : Nat, j ≤ n ∧ i = .int .i64 j ∧ (H ++ nodesTx t j).length ≤ 1048576 ∧ Tx B W1 wr u (H ++ nodesTx t j)) (fun i _ _ => n - (RowKit.intOf i).toNat)
  case atStart => exact ⟨0, Nat.zero_le _, rfl, by simp [nodesTx]; omega, by simpa [nodesTx] using P4⟩
  case round =>
    obtain ⟨j, hj, rfl, hlj, Xj⟩ := hrel
    have hBj : B ≤ wr.heap.size := Nat.le_trans hB1 Xj.below.size
    by_cases hlt : j < n
    · have hlt' : (j : Int) < (n : Int) := by omega
      have HG : Hid ((H ++ nodesTx t j ++ nodeTx (t j)).length ≤ (treeTx S I n R t).length) := by unfold Hid; have := nodesTx_le t (i := j + 1) (j := n) (by omega); simp [nodesTx] at this; unfold treeTx; rw [HH.out]; simp; omega
      have HS : Hid (H ++ nodesTx t (j + 1) = H ++ nodesTx t j ++ nodeTx (t j)) := by unfold Hid; simp [nodesTx]
      have hTj := hT.lowK (HBe.out ▸ gb0.trans Xj.below)
      obtain ⟨x0, x1, x2⟩ := hTj j hlt
      obtain ⟨W3, hW3, sz3, g3, B3⟩ := boxn wr #[.int .u8 ((t j).st : Nat), .slice (t j).kp (t j).kn (t j).kc] 69
      have y0 := B3.cell 0 (v := .int .u8 ((t j).st : Nat)) rfl
      have y1 := B3.cell 1 (v := .slice (t j).kp (t j).kn (t j).kc) rfl
      have X3 := Xj.alloc hBj (.cells #[.int .u8 ((t j).st : Nat), .slice (t j).kp (t j).kn (t j).kc] 69)
      rw [hW3] at X3
      have hok := ht.hok j hlt
      have hwn := withNodeC B (t j) (ht.hst j) (Nok.kf hok (by omega)) (Nok.kn hok (by omega)) _ _ (by omega) W3 (Nat.le_trans hBj g3.size) (x2.kept g3 (by simp)) (fun h0 a ha => by
        have hw := (hT j hlt).2.2 0 h0
        obtain ⟨a', ha', hc⟩ := hw
        rw [ha] at ha'
        cases ha'
        have := cell_lt hc
        rw [add_block] at this
        exact HBe.out ▸ this) X3.own (hT1.on X3.below)
      obtain ⟨L, hL⟩ : ∃ L, H ++ nodesTx t j = L := ⟨_, rfl⟩
      rw [hL] at Xj hlj HG HS X3 hwn
      have hne : 0 < (L ++ nodeTx (t j)).length := by have := nodeTx_pos (t j); simp; omega
      obtain ⟨M, hM⟩ : ∃ M, L ++ nodeTx (t j) = M := ⟨_, rfl⟩
      rw [hM] at HG HS hwn hne
      clear hL hM hTj
      by_cases hls : M.length ≤ 1048576
      · have hz : ¬ ((1048576 : Int) < (M.length : Int)) := by omega
        have HM2 : Hid (M.length ≤ 1048576) := hls
        clear hls
        go_wp2_with (go_at_call 34; refine hwn.mono ?_; rintro e w4 ⟨v4, rfl, Z4⟩; have X4 : Tx B W1 w4 v4 M := X3.trans Z4; obtain ⟨g4, cap4, hv4⟩ := Joins.ownsRow_form X4.own hne; subst hv4)
        go_roundw
        case rel => exact ⟨j + 1, by omega, by go_num, by rw [HS.out]; exact HM2.out, by rw [HS.out]; exact X4⟩
        case measure => simp [RowKit.intOf]; omega
      · have hz : (1048576 : Int) < (M.length : Int) := by omega
        have HL3 : Hid (¬ (treeTx S I n R t).length ≤ 1048576) := by
          have := HG.out
          unfold Hid; omega
        have GF0 : Hid (w.grownBy W3 none) := below_gb (HBe.out ▸ gb0.trans X3.below)
        clear hls HG
        go_wp2_with (go_at_call 34; refine hwn.mono ?_; rintro e w4 ⟨v4, rfl, Z4⟩; have X4 : Tx B W1 w4 v4 M := X3.trans Z4; obtain ⟨g4, cap4, hv4⟩ := Joins.ownsRow_form X4.own hne; subst hv4)
        have GF : w.grownBy w4 none := below_gb (HBe.out ▸ gb0.trans X4.below)
        go_ret2
        exact ⟨by unfold prT prE; rw [if_neg HL3.out, if_neg HL3.out]; rfl, GF⟩
    · have hjn : j = n := by omega
      subst hjn
      obtain ⟨M, hM⟩ : ∃ M, H ++ nodesTx t j = M := ⟨_, rfl⟩
      rw [hM] at Xj hlj
      have hne : 0 < M.length := by rw [← hM, ← HH.out]; simp [headTx]
      obtain ⟨g4, cap4, hv4⟩ := Joins.ownsRow_form Xj.own hne
      subst hv4
      have hcv := run_convert_bytes_back (P := Tryd.prog) wr 44 9 5 ⟨g4, 0, none⟩ cap4 M under8S under8 underSt (fun i hi => by
        refine Xj.own.cells (g := g4) rfl i _ ?_
        simp [byteCells, hi])
      have HM : Hid (treeTx S I j R t = M) := by unfold Hid treeTx; rw [HH.out]; exact hM
      have GF : Hid (w.grownBy wr none) := below_gb (HBe.out ▸ gb0.trans Xj.below)
      clear hM
      go_wp2
      go_ret2
      exact ⟨by unfold prT prE; rw [HM.out, if_pos hlj, if_pos hlj]; rfl, GF.out⟩
theorem printC (S I R q o n c : Nat) (t : Nat → TN) (lv : Nat → Nat) (ht : Tok S I R n t lv) (hlen : (treeTx S I n R t).length ≤ 1048576) (w : World) (hT : Tn w q o n t) (htab : Tab w) :
    Calls Tryd.prog 11 #[.agg #[.int .i64 (S : Nat), .int .i64 (I : Nat), .slice (some ⟨q, o, none⟩) n c, .int .i64 (R : Nat)]] w fun e w' => e = .returned (.tuple #[.string ⟨(treeTx S I n R t).toArray⟩, .int .i64 0]) ∧ w.grownBy w' none := by
  have h := printA S I R q o n c t lv ht w hT htab
  unfold prT prE at h
  rw [if_pos hlen, if_pos hlen] at h
  exact h
end Go.Proofs.YteaionmjbkildabDoor
