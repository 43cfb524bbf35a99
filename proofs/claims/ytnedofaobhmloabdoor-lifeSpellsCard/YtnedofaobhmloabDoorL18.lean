/- What most and made of the statements answer. -/
import Derived.Test.YtnedofaobhmloabDoorLp
import Derived.Test.YtnedofaobhmloabDoorL10
namespace Go.Proofs.YtnedofaobhmloabDoor
open Go.RowKit
set_option linter.unusedVariables false
set_option linter.unusedSimpArgs false
set_option maxRecDepth 100000

theorem most1 (w : World) : Calls Tryd.prog 10 #[.int .u8 1] w fun e w' => e = .returned (.int .i64 8) ∧ w' = w := by
  go_enter Tryd.func10, Tryd.ntmps10
  go_wp2
  go_ret
  exact ⟨rfl, rfl⟩
set_option maxHeartbeats 1000000 in
theorem made1 (x b t : Nat) (hx : x % 3 = 0) (hb : b < 65536) (ht : t < 65536) (w : World) : Calls Tryd.prog 6 #[.int .u8 x, .int .u16 b, .int .u16 t] w fun e w' => e = .returned (.agg #[.int .u8 1, .int .u16 ((b &&& 511 : Nat) : Int), .int .u16 ((t &&& 511 : Nat) : Int)]) ∧ w.grownBy w' none := by
  obtain ⟨fs, hfs'⟩ := underLf
  have hfs : Hid (Tryd.prog.underlying 26 = some (.struct fs)) := hfs'
  clear hfs'
  have hr : (x : Int) % 3 = 0 := by omega
  have a1 : bits .and .u16 (b : Int) 511 = ((b &&& 511 : Nat) : Int) := and16 b 511 hb (by decide)
  have a2 : bits .and .u16 (t : Int) 511 = ((t &&& 511 : Nat) : Int) := and16 t 511 ht (by decide)
  generalize b &&& 511 = y1 at a1 ⊢
  generalize t &&& 511 = y2 at a2 ⊢
  obtain ⟨W1, hW1, sz1, g1, B1⟩ := boxn w #[.int .u8 0, .int .u16 0, .int .u16 0] 26
  obtain ⟨W2, hW2, sz2, g2, B2⟩ := boxn W1 #[.int .u8 1, .int .u8 2, .int .u8 3] 5
  have c0 := B2.cell 0 (v := .int .u8 1) rfl
  have c1 := B2.cell 1 (v := .int .u8 2) rfl
  have c2 := B2.cell 2 (v := .int .u8 3) rfl
  have B12 := B1.kept g2 (by simp)
  have G2 := gb_trans g1 g2
  go_enter Tryd.func6, Tryd.ntmps6
  go_wp2_with (first | (go_at_call 10; refine (most1 _).mono ?_; rintro e w3 ⟨rfl, hw3⟩; subst w3) | (refine wpList_st (op := ⟨_, .store 26 _ _, _, _, _, _⟩) rfl 26 _ _ rfl w.heap.size #[.int .u8 1, .int .u16 (y1 : Int), .int .u16 (y2 : Int)] rfl rfl B12 infoLf rfl (by simp [Value.oneCell']) ?_; intro W9 hW9 B9))
  refine ret_c1 (g := w.heap.size) (cs := #[.int .u8 1, .int .u16 (y1 : Int), .int .u16 (y2 : Int)]) rfl hfs.out infoLf rfl B9 rfl ⟨rfl, hW9 ▸ gb_row2 G2 (Nat.le_refl _)⟩
theorem most2 (w : World) : Calls Tryd.prog 10 #[.int .u8 2] w fun e w' => e = .returned (.int .i64 4) ∧ w' = w := by
  go_enter Tryd.func10, Tryd.ntmps10
  go_wp2
  go_ret
  exact ⟨rfl, rfl⟩
set_option maxHeartbeats 1000000 in
theorem made2 (x b t : Nat) (hx : x % 3 = 1) (hb : b < 65536) (ht : t < 65536) (w : World) : Calls Tryd.prog 6 #[.int .u8 x, .int .u16 b, .int .u16 t] w fun e w' => e = .returned (.agg #[.int .u8 2, .int .u16 ((b &&& 31 : Nat) : Int), .int .u16 ((t &&& 31 : Nat) : Int)]) ∧ w.grownBy w' none := by
  obtain ⟨fs, hfs'⟩ := underLf
  have hfs : Hid (Tryd.prog.underlying 26 = some (.struct fs)) := hfs'
  clear hfs'
  have hr : (x : Int) % 3 = 1 := by omega
  have a1 : bits .and .u16 (b : Int) 31 = ((b &&& 31 : Nat) : Int) := and16 b 31 hb (by decide)
  have a2 : bits .and .u16 (t : Int) 31 = ((t &&& 31 : Nat) : Int) := and16 t 31 ht (by decide)
  generalize b &&& 31 = y1 at a1 ⊢
  generalize t &&& 31 = y2 at a2 ⊢
  obtain ⟨W1, hW1, sz1, g1, B1⟩ := boxn w #[.int .u8 0, .int .u16 0, .int .u16 0] 26
  obtain ⟨W2, hW2, sz2, g2, B2⟩ := boxn W1 #[.int .u8 1, .int .u8 2, .int .u8 3] 5
  have c0 := B2.cell 0 (v := .int .u8 1) rfl
  have c1 := B2.cell 1 (v := .int .u8 2) rfl
  have c2 := B2.cell 2 (v := .int .u8 3) rfl
  have B12 := B1.kept g2 (by simp)
  have G2 := gb_trans g1 g2
  go_enter Tryd.func6, Tryd.ntmps6
  go_wp2_with (first | (go_at_call 10; refine (most2 _).mono ?_; rintro e w3 ⟨rfl, hw3⟩; subst w3) | (refine wpList_st (op := ⟨_, .store 26 _ _, _, _, _, _⟩) rfl 26 _ _ rfl w.heap.size #[.int .u8 2, .int .u16 (y1 : Int), .int .u16 (y2 : Int)] rfl rfl B12 infoLf rfl (by simp [Value.oneCell']) ?_; intro W9 hW9 B9))
  refine ret_c1 (g := w.heap.size) (cs := #[.int .u8 2, .int .u16 (y1 : Int), .int .u16 (y2 : Int)]) rfl hfs.out infoLf rfl B9 rfl ⟨rfl, hW9 ▸ gb_row2 G2 (Nat.le_refl _)⟩
theorem most3 (w : World) : Calls Tryd.prog 10 #[.int .u8 3] w fun e w' => e = .returned (.int .i64 6) ∧ w' = w := by
  go_enter Tryd.func10, Tryd.ntmps10
  go_wp2
  go_ret
  exact ⟨rfl, rfl⟩
set_option maxHeartbeats 1000000 in
theorem made3 (x b t : Nat) (hx : x % 3 = 2) (hb : b < 65536) (ht : t < 65536) (w : World) : Calls Tryd.prog 6 #[.int .u8 x, .int .u16 b, .int .u16 t] w fun e w' => e = .returned (.agg #[.int .u8 3, .int .u16 ((b &&& 127 : Nat) : Int), .int .u16 ((t &&& 127 : Nat) : Int)]) ∧ w.grownBy w' none := by
  obtain ⟨fs, hfs'⟩ := underLf
  have hfs : Hid (Tryd.prog.underlying 26 = some (.struct fs)) := hfs'
  clear hfs'
  have hr : (x : Int) % 3 = 2 := by omega
  have a1 : bits .and .u16 (b : Int) 127 = ((b &&& 127 : Nat) : Int) := and16 b 127 hb (by decide)
  have a2 : bits .and .u16 (t : Int) 127 = ((t &&& 127 : Nat) : Int) := and16 t 127 ht (by decide)
  generalize b &&& 127 = y1 at a1 ⊢
  generalize t &&& 127 = y2 at a2 ⊢
  obtain ⟨W1, hW1, sz1, g1, B1⟩ := boxn w #[.int .u8 0, .int .u16 0, .int .u16 0] 26
  obtain ⟨W2, hW2, sz2, g2, B2⟩ := boxn W1 #[.int .u8 1, .int .u8 2, .int .u8 3] 5
  have c0 := B2.cell 0 (v := .int .u8 1) rfl
  have c1 := B2.cell 1 (v := .int .u8 2) rfl
  have c2 := B2.cell 2 (v := .int .u8 3) rfl
  have B12 := B1.kept g2 (by simp)
  have G2 := gb_trans g1 g2
  go_enter Tryd.func6, Tryd.ntmps6
  go_wp2_with (first | (go_at_call 10; refine (most3 _).mono ?_; rintro e w3 ⟨rfl, hw3⟩; subst w3) | (refine wpList_st (op := ⟨_, .store 26 _ _, _, _, _, _⟩) rfl 26 _ _ rfl w.heap.size #[.int .u8 3, .int .u16 (y1 : Int), .int .u16 (y2 : Int)] rfl rfl B12 infoLf rfl (by simp [Value.oneCell']) ?_; intro W9 hW9 B9))
  refine ret_c1 (g := w.heap.size) (cs := #[.int .u8 3, .int .u16 (y1 : Int), .int .u16 (y2 : Int)]) rfl hfs.out infoLf rfl B9 rfl ⟨rfl, hW9 ▸ gb_row2 G2 (Nat.le_refl _)⟩

namespace Lf
/-- A rule that may be, out of any numbers. -/
def mdH (x : Nat) : Nat := x % 3 + 1
def mdB (x b : Nat) : Nat := b &&& (2 ^ (mo (mdH x) + 1) - 1)
theorem mdH_in (x : Nat) : 1 ≤ mdH x ∧ mdH x ≤ 3 := by unfold mdH; omega
theorem mdB_lt (x b : Nat) : mdB x b < 2 ^ (mo (mdH x) + 1) := by
  unfold mdB
  have := Nat.two_pow_pos (mo (mdH x) + 1)
  exact Nat.lt_of_le_of_lt Nat.and_le_right (by omega)
theorem mdB_lt16 (x b : Nat) : mdB x b < 65536 := Nat.lt_of_lt_of_le (mdB_lt x b) (Nat.le_trans (p1024 _) (by decide))
theorem md_ck (x b t : Nat) : ck (mdH x) (mdB x b) (mdB x t) = 0 := ck_of (mdH_in x).1 (mdH_in x).2 (mdB_lt x b) (mdB_lt x t)
end Lf
theorem madeC (x b t : Nat) (hb : b < 65536) (ht : t < 65536) (w : World) : Calls Tryd.prog 6 #[.int .u8 x, .int .u16 b, .int .u16 t] w fun e w' => e = .returned (.agg #[.int .u8 ((Lf.mdH x : Nat) : Int), .int .u16 ((Lf.mdB x b : Nat) : Int), .int .u16 ((Lf.mdB x t : Nat) : Int)]) ∧ w.grownBy w' none := by
  unfold Lf.mdB
  obtain h | h | h : x % 3 = 0 ∨ x % 3 = 1 ∨ x % 3 = 2 := by omega
  · have e : Lf.mdH x = 1 := by unfold Lf.mdH; omega
    rw [e]
    exact made1 x b t h hb ht w
  · have e : Lf.mdH x = 2 := by unfold Lf.mdH; omega
    rw [e]
    exact made2 x b t h hb ht w
  · have e : Lf.mdH x = 3 := by unfold Lf.mdH; omega
    rw [e]
    exact made3 x b t h hb ht w
end Go.Proofs.YtnedofaobhmloabDoor
