/- A node as a line of a text. -/
import Derived.Lib.AppendStr
import Derived.Lib.AppendIntMem
import Derived.Lib.ItoaLen
import Derived.Lib.Hide
import Derived.Lib.OthersKept
import Derived.Test.YteaionmjbkildabDoorShelf
import Derived.Test.YteaionmjbkildabDoorQ21
namespace Go.Proofs.YteaionmjbkildabDoor
open Go.RowKit Go.Lib
set_option linter.unusedVariables false
set_option linter.unusedSimpArgs false
set_option maxRecDepth 100000

abbrev Tab (w : World) : Prop := Lib.TabIs Tryd.prog w "internal/strconv.uint64pow10" .u64 Lib.pow10Tab
abbrev TabB (B : Nat) (w : World) : Prop := Lib.TabBelow Tryd.prog B w "internal/strconv.uint64pow10" .u64 Lib.pow10Tab
/-- A text that is written on: l so far. -/
structure Tx (B : Nat) (w0 w : World) (v : Value) (l : List UInt8) : Prop where
  own : w.ownsRow B 5 1 v l.length (byteCells l)
  below : Below B w0 w
  kept : OthersKept 5 none w0 w
theorem Tx.bo {B : Nat} {w0 w : World} {v : Value} {l : List UInt8} (h : Tx B w0 w v l) {g : Nat} {t : TypeId} {cs : Array Value} (b : Bo w0 g t cs) (ht : t ≠ 5) : Bo w g t cs :=
  h.kept g _ b (by simp) (fun c fz e => by injection e with _ e2; exact ht e2)
theorem Tx.row {B : Nat} {w0 w : World} {v : Value} {l : List UInt8} (h : Tx B w0 w v l) : ∀ g, v.ownBlock = some g → ∃ c fz, w.heap[g]? = some (.cells c 5 fz) := fun g e => by
  rcases h.own.2 with ⟨rfl, _⟩ | ⟨g', cap, cur, rfl, _, hgb, _⟩
  · simp [Value.ownBlock] at e
  · obtain rfl : g' = g := by simpa [Value.ownBlock] using e
    exact ⟨_, _, hgb⟩
/-- Behind an append: bytes m more. -/
theorem Tx.app {B : Nat} {w0 w w' : World} {v v' : Value} {l m : List UInt8} {o : Obj} (h : Tx B w0 w v l) (hB : B ≤ w.heap.size) (own' : w'.ownsRow B 5 1 v' (l.length + m.length) (byteCells l ++ byteCells m)) (g : (w.alloc o).grownBy w' v.ownBlock) : Tx B w0 w' v' (l ++ m) :=
  ⟨by rw [List.length_append]; simpa [byteCells] using own', (h.below.alloc (by have := h.below.size; omega) o).grown g (by have := h.below.size; simp; omega) (fun k hk => (h.own.lt k hk).1), (h.kept.alloc o).grown g (fun k hk => by
    obtain ⟨c, fz, hc⟩ := h.row k hk
    exact ⟨c, fz, (alloc_old w o k (Array.getElem?_eq_some_iff.1 hc).1).trans hc⟩)⟩
theorem Tx.str {B : Nat} {w0 w w' : World} {v v' : Value} {l m : List UInt8} (h : Tx B w0 w v l) (hB : B ≤ w.heap.size) (own' : w'.ownsRow B 5 1 v' (l.length + m.length) (byteCells l ++ byteCells m)) (g : w.grownBy w' v.ownBlock) : Tx B w0 w' v' (l ++ m) :=
  ⟨by rw [List.length_append]; simpa [byteCells] using own', h.below.grown g hB (fun k hk => (h.own.lt k hk).1), h.kept.grown g h.row⟩
theorem Tx.num {B : Nat} {w0 w w' : World} {v v' : Value} {l m : List UInt8} (h : Tx B w0 w v l) (own' : w'.ownsRow B 5 1 v' (l.length + m.length) (byteCells l ++ byteCells m)) (hb : Below B w w') (hk : OthersKept 5 none w w') : Tx B w0 w' v' (l ++ m) :=
  ⟨by rw [List.length_append]; simpa [byteCells] using own', h.below.trans hb, h.kept.trans hk⟩
theorem Tx.refl {B : Nat} {w : World} {v : Value} {l : List UInt8} (h : w.ownsRow B 5 1 v l.length (byteCells l)) : Tx B w w v l := ⟨h, Below.refl _ _, OthersKept.refl _ _ _⟩
theorem Tx.alloc {B : Nat} {w0 w : World} {v : Value} {l : List UInt8} (h : Tx B w0 w v l) (hB : B ≤ w.heap.size) (o : Obj) : Tx B w0 (w.alloc o) v l := ⟨h.own.alloc o, h.below.alloc (by have := h.below.size; omega) o, h.kept.alloc o⟩
theorem new1 (w : World) (x : Value) (t : TypeId) : ∀ l u, [x][l]? = some u → (w.alloc (.cells #[x] t)).cell? ((⟨w.heap.size, 0, none⟩ : Addr).add l) = some u := World.news_of_block (cs := #[x]) (heap_alloc_new w _)

/-- The kids of a node as a text. -/
def kidsTx (kf : Nat → Int) : Nat → List UInt8
  | 0 => []
  | k + 1 => kidsTx kf k ++ (if k = 0 then [] else [32]) ++ itoa (kf k)
/-- A node as a line. -/
def nodeTx (t : TN) : List UInt8 := if t.kn = 0 then [61, 32] ++ itoa (t.st : Int) ++ [10] else kidsTx t.kf t.kn ++ [10]

theorem sC : strCells ⟨#[61, 32]⟩ = byteCells [61, 32] := rfl

theorem kidsTx_len (kf : Nat → Int) {kn : Nat} (h : ∀ k, k < kn → -9223372036854775808 ≤ kf k ∧ kf k ≤ 9223372036854775807) : ∀ k, k ≤ kn → (kidsTx kf k).length ≤ 22 * k
  | 0, _ => by simp [kidsTx]
  | k + 1, hk => by
    have ih := kidsTx_len kf h k (by omega)
    have la := Lib.itoa_length_le (kf k) (h k (by omega)).1 (h k (by omega)).2
    rw [kidsTx, List.length_append, List.length_append]
    split <;> simp <;> omega

set_option maxHeartbeats 2000000 in
theorem leafTx (B : Nat) (st : Nat) (hst : st < 256) (kp : Option Addr) (kc : Nat) (v : Value) (l : List UInt8) (hl : l.length ≤ 4194304) (w : World) (hB : B ≤ w.heap.size) (hown : w.ownsRow B 5 1 v l.length (byteCells l)) (hT : TabB B w) :
    Calls Tryd.prog 34 #[v, .agg #[.int .u8 (st : Nat), .slice kp 0 kc]] w fun e w' => ∃ v', e = .returned v' ∧ Tx B w w' v' (l ++ ([61, 32] ++ itoa (st : Int) ++ [10])) := by
  obtain ⟨i8, HI8⟩ : ∃ i, Hid (Tryd.prog.info? 5 = some i ∧ i.zero = some (.int .u8 0) ∧ i.size = 1 ∧ i.bytes = 1) := by
    obtain ⟨i, h1, h2, h3, h4⟩ := info_parts info8
    exact ⟨i, h1, h2, h3, h4⟩
  obtain ⟨W1, hW1, sz1, g1, B1⟩ := boxn w #[.int .u8 (st : Nat), .slice kp 0 kc] 69
  have b0 := B1.cell 0 (v := .int .u8 (st : Nat)) rfl
  have b1 := B1.cell 1 (v := .slice kp 0 kc) rfl
  have X0 : Tx B w W1 v l := hW1 ▸ (Tx.refl hown).alloc hB _
  have X1 : Tx B W1 W1 v l := Tx.refl X0.own
  have hT1 := hT.on X0.below
  have hB1 : B ≤ W1.heap.size := Nat.le_trans hB g1.size
  have hil := isLeafA (st : Nat) kp 0 kc W1
  rw [show decide (0 = 0) = true from rfl] at hil
  have la := Lib.itoa_length_le (st : Int) (by omega) (by omega)
  go_enter Tryd.func34, Tryd.ntmps34
  go_wp2_with (go_at_call 59; refine hil.mono ?_; rintro e w2 ⟨rfl, g2⟩; have X2 : Tx B W1 w2 v l := ⟨X1.own.kept g2 (Classical.em _), X1.below.grown g2 hB1 (by simp), X1.kept.grown g2 (by simp)⟩; have hB2 : B ≤ w2.heap.size := Nat.le_trans hB1 X2.below.size; have B2 := X2.bo B1 (by decide); have d0 := B2.cell 0 (v := .int .u8 (st : Nat)) rfl; refine Hid.out ?_)
  refine Lib.hid ?_
  go_wp2_with (at_builtin; refine wpList_append_own_string _ rfl _ _ 44 9 rfl B 5 i8 under8S underSt HI8.out.1 HI8.out.2.1 HI8.out.2.2.1 HI8.out.2.2.2 _ _ _ rfl X2.own ⟨#[61, 32]⟩ rfl (by show l.length + 2 ≤ maxLen; unfold maxLen; omega) (by show l.length + 2 ≤ _; omega) hB2 ?_; intro v3 w3 own3 g3 hn3; rw [sC] at own3; have X3 : Tx B W1 w3 v3 (l ++ [61, 32]) := X2.str hB2 own3 g3; have B3 := X3.bo B1 (by decide); have f0 := B3.cell 0 (v := .int .u8 (st : Nat)) rfl; have hB3 : B ≤ w3.heap.size := Nat.le_trans hB1 X3.below.size; clear own3 g3 hn3; refine Hid.out ?_)
  refine Lib.hid ?_
  have hl3 : (l ++ [61, 32]).length = l.length + 2 := by simp
  go_wp2_with (go_at_call 33; refine (Tryd.strconv_AppendInt_10 B _ (st : Int) (by omega) (by omega) _ _ w3 X3.own hB3 (by omega) (hT1.on X3.below)).mono ?_; rintro e w4 ⟨v4, rfl, own', hb', hk'⟩; have X4 : Tx B W1 w4 v4 (l ++ [61, 32] ++ itoa (st : Int)) := X3.num own' hb' hk'; clear own' hb' hk'; refine Hid.out ?_)
  refine Lib.hid ?_
  have hB4 : B ≤ w4.heap.size := Nat.le_trans hB1 X4.below.size
  have hl4 : (l ++ [61, 32] ++ itoa (st : Int)).length = l.length + 2 + (itoa (st : Int)).length := by simp; omega
  have B4 := X4.bo B1 (by decide)
  have f4 := B4.cell 1 (v := .slice kp 0 kc) rfl
  go_wp2
  refine wp_loop_rounds 1 ?_
  rw [rounds_succ]
  go_wp2_with (at_builtin; refine wpList_append_own _ rfl _ _ 44 rfl B 5 i8 (.int .u8 0) 1 1 under8S HI8.out.1 HI8.out.2.1 HI8.out.2.2.1 HI8.out.2.2.2 rfl (by decide) _ _ _ rfl (X4.own.alloc _) ⟨w4.heap.size, 0, none⟩ 1 1 [.int .u8 10] rfl rfl (new1 _ _ _) (by intro u hu; simp at hu; subst hu; rfl) (by unfold maxLen; omega) (by omega) (by simp; omega) ?_; intro v5 w5 own' g' hn'; have X5 : Tx B W1 w5 v5 (l ++ [61, 32] ++ itoa (st : Int) ++ [10]) := X4.app (m := [10]) hB4 own' g'; clear own' g' hn'; refine Hid.out ?_)
  refine Lib.hid ?_
  go_wp2
  go_ret
  refine ⟨v5, rfl, ?_⟩
  have e : l ++ ([61, 32] ++ itoa (st : Int) ++ [10]) = l ++ [61, 32] ++ itoa (st : Int) ++ [10] := by simp
  first | exact ⟨by rw [e]; exact X5.own, X0.below.trans X5.below, X0.kept.trans X5.kept⟩ | (have e2 : l ++ 61 :: 32 :: (itoa (st : Int) ++ [10]) = l ++ [61, 32] ++ itoa (st : Int) ++ [10] := by simp
                                                                                             exact ⟨by rw [e2]; exact X5.own, X0.below.trans X5.below, X0.kept.trans X5.kept⟩)

set_option maxHeartbeats 600000 in
theorem kidsLine (B : Nat) (kp : Option Addr) (kn kc : Nat) (kf : Nat → Int) (hkf : ∀ k, k < kn → -9223372036854775808 ≤ kf k ∧ kf k ≤ 9223372036854775807) (hkn : 0 < kn) (hkn2 : kn ≤ 65536) (st : Nat) (v : Value) (l : List UInt8) (hl : l.length ≤ 4194304) (w : World) (hB : B ≤ w.heap.size) (hK : In w kp kn kf) (hkp : ∀ a, kp = some a → a.block < B) (hown : w.ownsRow B 5 1 v l.length (byteCells l)) (hT : TabB B w) :
    Calls Tryd.prog 34 #[v, .agg #[.int .u8 (st : Nat), .slice kp kn kc]] w fun e w' => ∃ v', e = .returned v' ∧ Tx B w w' v' (l ++ (kidsTx kf kn ++ [10])) := by
  obtain ⟨i8, HI8⟩ : ∃ i, Hid (Tryd.prog.info? 5 = some i ∧ i.zero = some (.int .u8 0) ∧ i.size = 1 ∧ i.bytes = 1) := by
    obtain ⟨i, h1, h2, h3, h4⟩ := info_parts info8
    exact ⟨i, h1, h2, h3, h4⟩
  obtain ⟨W1, hW1, sz1, g1, B1⟩ := boxn w #[.int .u8 (st : Nat), .slice kp kn kc] 69
  have b0 := B1.cell 0 (v := .int .u8 (st : Nat)) rfl
  have b1 := B1.cell 1 (v := .slice kp kn kc) rfl
  have X0 : Tx B w W1 v l := hW1 ▸ (Tx.refl hown).alloc hB _
  have X1 : Tx B W1 W1 v l := Tx.refl X0.own
  have hT1 := hT.on X0.below
  have hB1 : B ≤ W1.heap.size := Nat.le_trans hB g1.size
  have hil := isLeafA (st : Nat) kp kn kc W1
  rw [show decide (kn = 0) = false by simp; omega] at hil
  have hkt := kidsTx_len kf hkf
  obtain ⟨a, rfl⟩ := hK.some hkn
  have hab := hkp a rfl
  go_enter Tryd.func34, Tryd.ntmps34
  go_wp2_with (go_at_call 59; refine hil.mono ?_; rintro e w2 ⟨rfl, g2⟩; have X2 : Tx B W1 w2 v l := ⟨X1.own.kept g2 (Classical.em _), X1.below.grown g2 hB1 (by simp), X1.kept.grown g2 (by simp)⟩; have hB2 : B ≤ w2.heap.size := Nat.le_trans hB1 X2.below.size; have B2 := X2.bo B1 (by decide); have d1 := B2.cell 1 (v := .slice (some a) kn kc) rfl)
  go_loopw [19, 0] (fun i u wr => ∃ j : Nat, j ≤ kn ∧ i = .int .i64 j ∧ Tx B W1 wr u (l ++ kidsTx kf j)) (fun i _ _ => kn - (RowKit.intOf i).toNat)
  case atStart => exact ⟨0, Nat.zero_le _, rfl, by simpa [kidsTx] using X2⟩
  case round =>
    obtain ⟨j, hj, rfl, Xj⟩ := hrel
    have hBj : B ≤ wr.heap.size := Nat.le_trans hB1 Xj.below.size
    have hlj : (l ++ kidsTx kf j).length ≤ 5800000 := by have := hkt j hj; rw [List.length_append]; omega
    by_cases hlt : j < kn
    · have hlt' : (j : Int) < (kn : Int) := by omega
      have kj : wr.cell? (a.add j) = some (.int .i64 (kf j)) := by
        have h := (X0.below.trans Xj.below).cell (p := a.add j) (by rw [add_block]; exact hab)
        rw [h]; exact hK.at hlt
      obtain ⟨k0, k1⟩ := hkf j hlt
      have HS : Hid (l ++ kidsTx kf (j + 1) = l ++ kidsTx kf j ++ (if j = 0 then [] else [32]) ++ itoa (kf j)) := by unfold Hid; simp [kidsTx]
      obtain ⟨z, hz⟩ : ∃ z, kf j = z := ⟨_, rfl⟩
      rw [hz] at kj k0 k1 HS
      obtain ⟨L, hL⟩ : ∃ L, l ++ kidsTx kf j = L := ⟨_, rfl⟩
      rw [hL] at Xj hlj HS
      clear hz hL
      by_cases hj0 : j = 0
      · subst hj0
        rw [Addr.add_zero'] at kj
        go_wp2_with (go_at_call 33; refine (Tryd.strconv_AppendInt_10 B _ z k0 k1 _ _ wr Xj.own hBj (by omega) (hT1.on Xj.below)).mono ?_; rintro e w4 ⟨v4, rfl, own', hb', hk'⟩; have X4 : Tx B W1 w4 v4 (L ++ itoa z) := Xj.num own' hb' hk'; clear own' hb' hk'; refine Hid.out ?_)
        refine Lib.hid ?_
        go_wp2
        go_roundw
        case rel => exact ⟨1, by omega, by go_num, by rw [HS.out]; simpa using X4⟩
        case measure => simp [RowKit.intOf]; omega
      · have hj1 : (0 : Int) < (j : Int) := by omega
        go_wp2_with (at_builtin; refine wpList_append_own _ rfl _ _ 44 rfl B 5 i8 (.int .u8 0) 1 1 under8S HI8.out.1 HI8.out.2.1 HI8.out.2.2.1 HI8.out.2.2.2 rfl (by decide) _ _ _ rfl (Xj.own.alloc _) ⟨wr.heap.size, 0, none⟩ 1 1 [.int .u8 32] rfl rfl (new1 _ _ _) (by intro u hu; simp at hu; subst hu; rfl) (by unfold maxLen; omega) (by omega) (by simp; omega) ?_; intro v4 w4 own' g' hn'; have X4 : Tx B W1 w4 v4 (L ++ [32]) := Xj.app (m := [32]) hBj own' g'; clear own' g' hn'; refine Hid.out ?_)
        refine Lib.hid ?_
        have hB4 : B ≤ w4.heap.size := Nat.le_trans hB1 X4.below.size
        have hl4 : (L ++ [32]).length = L.length + 1 := by simp
        go_wp2_with (go_at_call 33; refine (Tryd.strconv_AppendInt_10 B _ z k0 k1 _ _ w4 X4.own hB4 (by omega) (hT1.on X4.below)).mono ?_; rintro e w5 ⟨v5, rfl, own', hb', hk'⟩; have X5 : Tx B W1 w5 v5 (L ++ [32] ++ itoa z) := X4.num own' hb' hk'; clear own' hb' hk'; refine Hid.out ?_)
        refine Lib.hid ?_
        go_wp2
        go_roundw
        case rel => exact ⟨j + 1, by omega, by go_num, by rw [HS.out, if_neg hj0]; exact X5⟩
        case measure => simp [RowKit.intOf]; omega
    · have hjn : j = kn := by omega
      subst hjn
      obtain ⟨L, hL⟩ : ∃ L, l ++ kidsTx kf j = L := ⟨_, rfl⟩
      have HL : Hid (l ++ (kidsTx kf j ++ [10]) = L ++ [10]) := by unfold Hid; rw [← hL]; simp
      rw [hL] at Xj hlj
      clear hL
      go_wp2_with (at_builtin; refine wpList_append_own _ rfl _ _ 44 rfl B 5 i8 (.int .u8 0) 1 1 under8S HI8.out.1 HI8.out.2.1 HI8.out.2.2.1 HI8.out.2.2.2 rfl (by decide) _ _ _ rfl (Xj.own.alloc _) ⟨wr.heap.size, 0, none⟩ 1 1 [.int .u8 10] rfl rfl (new1 _ _ _) (by intro u hu; simp at hu; subst hu; rfl) (by unfold maxLen; omega) (by omega) (by simp; omega) ?_; intro v5 w5 own' g' hn'; have X5 : Tx B W1 w5 v5 (L ++ [10]) := Xj.app (m := [10]) hBj own' g'; clear own' g' hn'; refine Hid.out ?_)
      refine Lib.hid ?_
      go_wp2
      go_ret
      exact ⟨v5, rfl, by rw [HL.out]; exact ⟨X5.own, X0.below.trans X5.below, X0.kept.trans X5.kept⟩⟩
end Go.Proofs.YteaionmjbkildabDoor
