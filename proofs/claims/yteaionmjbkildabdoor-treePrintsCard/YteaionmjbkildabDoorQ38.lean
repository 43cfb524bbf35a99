/- kept. -/
import Derived.Test.YteaionmjbkildabDoorQ36
import Derived.Test.YteaionmjbkildabDoorQ37
namespace Go.Proofs.YteaionmjbkildabDoor
open Go.RowKit
set_option linter.unusedVariables false
set_option linter.unusedSimpArgs false
set_option maxRecDepth 100000

/-- The nodes of a tree that was lent. -/
def ltT (t : Nat → TN) (kb kq : Nat → Nat) (j : Nat) : TN := ⟨(t j).st, some ⟨kb j, 0, none⟩, (t j).kn, kq j, (t j).kf⟩
theorem ndV_len (t : Nat → TN) (kb kq : Nat → Nat) : ∀ n, (ndV t kb kq n).length = n * 2
  | 0 => rfl
  | n + 1 => by rw [ndV, List.length_append, ndV_len t kb kq n]; simp; omega
theorem ndV_get (t : Nat → TN) (kb kq : Nat → Nat) {j : Nat} : ∀ {n : Nat}, j < n → (ndV t kb kq n)[j * 2]? = some (.int .u8 ((t j).st : Nat)) ∧ (ndV t kb kq n)[j * 2 + 1]? = some (.slice (some ⟨kb j, 0, none⟩) (t j).kn (kq j))
  | 0, h => absurd h (Nat.not_lt_zero _)
  | n + 1, h => by
    have hl := ndV_len t kb kq n
    by_cases e : j = n
    · subst e
      constructor
      · rw [ndV, List.getElem?_append_right (by omega), hl]; simp
      · rw [ndV, List.getElem?_append_right (by omega), hl, show j * 2 + 1 - j * 2 = 1 by omega]; rfl
    · have := ndV_get t kb kq (j := j) (n := n) (by omega)
      rw [ndV, List.getElem?_append_left (by omega), List.getElem?_append_left (by omega)]
      exact this
theorem Lt.cell {w : World} {B gN cN n : Nat} {t : Nat → TN} {kb kq : Nat → Nat} (h : Lt w B gN cN n t kb kq) {i : Nat} {u : Value} (hu : (ndV t kb kq n ++ [.int .u8 77, .slice none 0 0] ++ [.int .u8 77, .slice none 0 0])[i]? = some u) : w.cell? ⟨gN, i, none⟩ = some u := by
  have := h.nodes.cells (g := gN) rfl i u hu
  rw [Addr.add_lit, Nat.zero_add] at this
  exact this
theorem Lt.node {w : World} {B gN cN n : Nat} {t : Nat → TN} {kb kq : Nat → Nat} (h : Lt w B gN cN n t kb kq) {j : Nat} (hj : j < n) : w.cell? ⟨gN, j * 2, none⟩ = some (.int .u8 ((t j).st : Nat)) ∧ w.cell? ⟨gN, j * 2 + 1, none⟩ = some (.slice (some ⟨kb j, 0, none⟩) (t j).kn (kq j)) := by
  have hl := ndV_len t kb kq n
  obtain ⟨h0, h1⟩ := ndV_get t kb kq hj
  exact ⟨h.cell (by rw [List.append_assoc, List.getElem?_append_left (by omega)]; exact h0), h.cell (by rw [List.append_assoc, List.getElem?_append_left (by omega)]; exact h1)⟩
theorem Lt.marks {w : World} {B gN cN n : Nat} {t : Nat → TN} {kb kq : Nat → Nat} (h : Lt w B gN cN n t kb kq) : w.cell? ⟨gN, n * 2, none⟩ = some (.int .u8 77) ∧ w.cell? ⟨gN, (n + 1) * 2, none⟩ = some (.int .u8 77) := by
  have hl := ndV_len t kb kq n
  refine ⟨h.cell ?_, h.cell ?_⟩
  · rw [List.append_assoc, List.getElem?_append_right (by omega), hl]; simp
  · rw [List.append_assoc, List.getElem?_append_right (by omega), hl, show (n + 1) * 2 - n * 2 = 2 by omega]; rfl
theorem KR.cell {w : World} {B g q : Nat} {t : TN} (h : KR w B g q t) {i : Nat} {u : Value} (hu : (kidsV t.kf t.kn ++ [.int .i64 (-7), .int .i64 (-8)])[i]? = some u) : w.cell? ⟨g, i, none⟩ = some u := by
  have := World.ownsRow.cells h (g := g) rfl i u hu
  rw [Addr.add_lit, Nat.zero_add] at this
  exact this
theorem KR.kid {w : World} {B g q : Nat} {t : TN} (h : KR w B g q t) {i : Nat} (hi : i < t.kn) : w.cell? ⟨g, i, none⟩ = some (.int .i64 (t.kf i)) := by
  refine h.cell ?_
  rw [List.getElem?_append_left (by rw [kidsV_len]; exact hi)]
  simp [kidsV, hi]
theorem KR.marks {w : World} {B g q : Nat} {t : TN} (h : KR w B g q t) : w.cell? ⟨g, t.kn, none⟩ = some (.int .i64 (-7)) ∧ w.cell? ⟨g, t.kn + 1, none⟩ = some (.int .i64 (-8)) := by
  have hl := kidsV_len t.kf t.kn
  refine ⟨h.cell ?_, h.cell ?_⟩
  · rw [List.getElem?_append_right (by omega), hl]; simp
  · rw [List.getElem?_append_right (by omega), hl, show t.kn + 1 - t.kn = 1 by omega]; rfl
theorem KR.cap {w : World} {B g q : Nat} {t : TN} (h : KR w B g q t) : t.kn + 2 ≤ q := by
  rcases h.2 with ⟨h, _⟩ | ⟨g', cap', cur', h, _, _, h2, _⟩
  · cases h
  · cases h; exact h2
theorem Lt.cap {w : World} {B gN cN n : Nat} {t : Nat → TN} {kb kq : Nat → Nat} (h : Lt w B gN cN n t kb kq) : n + 2 ≤ cN := by
  rcases h.nodes.2 with ⟨h, _⟩ | ⟨g', cap', cur', h, _, _, h2, _⟩
  · cases h
  · cases h; exact h2
theorem KR.in {w : World} {B g q : Nat} {t : TN} (h : KR w B g q t) : In w (some ⟨g, 0, none⟩) t.kn t.kf := fun k hk => ⟨_, rfl, by rw [Addr.add_lit, Nat.zero_add]; exact h.kid hk⟩
theorem Lt.tn {w : World} {B gN cN n : Nat} {t : Nat → TN} {kb kq : Nat → Nat} (h : Lt w B gN cN n t kb kq) : Tn w gN 0 n (ltT t kb kq) := fun j hj => by
  obtain ⟨h0, h1⟩ := h.node hj
  exact ⟨by rw [Nat.zero_add]; exact h0, by rw [Nat.zero_add]; exact h1, (h.kids j hj).in⟩

set_option maxHeartbeats 2000000 in
theorem keptC (S I R : Int) (sp : Option Addr) (q o n c B gN cN : Nat) (kb kq : Nat → Nat) (t : Nat → TN) (hsp : 0 < n → sp = some ⟨q, o, none⟩) (hn : n ≤ 4398046510976) (hkn : ∀ j, j < n → (t j).kn ≤ 17592186043904) (w : World) (hL : Lt w B gN cN n t kb kq) (hT : Tn w q o n t) :
    Calls Tryd.prog 13 #[.agg #[.int .i64 S, .int .i64 I, .slice (some ⟨gN, 0, none⟩) n cN, .int .i64 R], .agg #[.int .i64 S, .int .i64 I, .slice sp n c, .int .i64 R]] w fun e w' => e = .returned (.bool true) ∧ w.grownBy w' none := by
  obtain ⟨W1, hW1, sz1, g1, B1⟩ := boxn w #[.int .i64 S, .int .i64 I, .slice (some ⟨gN, 0, none⟩) n cN, .int .i64 R] 24
  obtain ⟨W2, hW2, sz2, g2, B2⟩ := boxn W1 #[.int .i64 S, .int .i64 I, .slice sp n c, .int .i64 R] 24
  have B12 := B1.kept g2 (by simp)
  have G2 := gb_trans g1 g2
  have a0 := B12.cell 0 (v := .int .i64 S) rfl
  have a1 := B12.cell 1 (v := .int .i64 I) rfl
  have a2 := B12.cell 2 (v := .slice (some ⟨gN, 0, none⟩) n cN) rfl
  have a3 := B12.cell 3 (v := .int .i64 R) rfl
  have b0 := B2.cell 0 (v := .int .i64 S) rfl
  have b1 := B2.cell 1 (v := .int .i64 I) rfl
  have b2 := B2.cell 2 (v := .slice sp n c) rfl
  have b3 := B2.cell 3 (v := .int .i64 R) rfl
  have hal := alikeY S I R n cN c gN 0 q o (some ⟨gN, 0, none⟩) sp (fun _ => rfl) hsp (ltT t kb kq) t hn hkn (fun j hj => ⟨rfl, rfl, fun _ _ => rfl⟩) W2 (hL.tn.kept G2) (hT.kept G2)
  have hcap := hL.cap
  go_enter Tryd.func13, Tryd.ntmps13
  go_wp2_with (first | (go_at_call 37; refine hal.mono ?_; rintro e w3 ⟨rfl, g3⟩; refine Hid.out ?_))
  refine Lib.hid ?_
  clear hal a0 a1 a2 a3 b0 b1 b2 b3
  have G3 := gb_trans G2 g3
  have A3 := B12.kept g3 (by simp)
  have B3 := B2.kept g3 (by simp)
  have a2 := A3.cell 2 (v := .slice (some ⟨gN, 0, none⟩) n cN) rfl
  have b2 := B3.cell 2 (v := .slice sp n c) rfl
  have hL3 := hL.keep G3 (by simp)
  obtain ⟨m0, m1⟩ := hL3.marks
  have hc0 : (n : Int) + 2 ≤ (cN : Int) := by omega
  go_wp2
  clear a2 b2 m0 m1 hc0
  go_loopw [8] (fun i wr => ∃ j : Nat, j ≤ n ∧ i = .int .i64 j ∧ w.grownBy wr none ∧ Bo wr w.heap.size 24 #[.int .i64 S, .int .i64 I, .slice (some ⟨gN, 0, none⟩) n cN, .int .i64 R] ∧ Bo wr W1.heap.size 24 #[.int .i64 S, .int .i64 I, .slice sp n c, .int .i64 R]) (fun i _ => n - (intOf i).toNat)
  case atStart => exact ⟨0, Nat.zero_le _, rfl, by first | exact G3 | exact gb_drewN G3 _, by first | exact A3 | exact A3.drew, by first | exact B3 | exact B3.drew⟩
  case round =>
    obtain ⟨j, hj, rfl, Gj, Aj, Bj⟩ := hrel
    have a2 := Aj.cell 2 (v := .slice (some ⟨gN, 0, none⟩) n cN) rfl
    have b2 := Bj.cell 2 (v := .slice sp n c) rfl
    by_cases hlt : j < n
    · have hlt' : (j : Int) < (n : Int) := by omega
      obtain rfl := hsp (by omega)
      obtain ⟨x0, x1, x2⟩ := (hT.kept Gj) j hlt
      have hLj := hL.keep Gj (by simp)
      obtain ⟨y0, y1⟩ := hLj.node hlt
      have hK := hLj.kids j hlt
      obtain ⟨m0, m1⟩ := hK.marks
      have hq := hK.cap
      have hk := hkn j hlt
      have hc1 : ((t j).kn : Int) + 2 ≤ (kq j : Int) := by omega
      clear hkn
      go_wp2
      go_roundw
      case rel => exact ⟨j + 1, hlt, by go_num, Gj, Aj, Bj⟩
      case measure => simp [intOf]; omega
    · have hjn' : ¬ ((j : Int) < (n : Int)) := by omega
      go_wp2
      go_ret
      exact ⟨rfl, Gj⟩
end Go.Proofs.YteaionmjbkildabDoor
