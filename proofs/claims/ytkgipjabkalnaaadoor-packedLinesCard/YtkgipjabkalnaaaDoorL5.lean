/- What nextDigit, takeHood, tooGreat and greatest of package life answer. -/
import Derived.Test.YtkgipjabkalnaaaDoorL4
namespace Go.Proofs.YtkgipjabkalnaaaDoor
open Go.RowKit
set_option linter.unusedVariables false
set_option linter.unusedSimpArgs false
set_option maxRecDepth 100000

namespace Lf
/-- The count that a byte tells, -1: none. -/
def dn (c : Nat) : Int := if isD c then ((c - 48 : Nat) : Int) else -1
theorem dn_all : ((List.range 256).all fun c => Lib.indexByte (ByteArray.mk #[48, 49, 50, 51, 52, 53, 54, 55, 56, 57]).data.toList c.toUInt8 == dn c) = true := by decide +kernel
theorem dn_is {c : Nat} (h : c < 256) : Lib.indexByte (ByteArray.mk #[48, 49, 50, 51, 52, 53, 54, 55, 56, 57]).data.toList c.toUInt8 = dn c := by
  have := List.all_eq_true.1 dn_all c (List.mem_range.2 h)
  simpa using this
theorem dn_dec (c : Nat) : decide (0 ≤ dn c) = isD c := by
  unfold dn
  split
  · rename_i h; rw [h]; simp
  · rename_i h; simp at h; rw [h]; rfl
theorem dn_yes {c : Nat} (h : isD c = true) : dn c = ((c - 48 : Nat) : Int) := by unfold dn; rw [if_pos h]
theorem dn_no {c : Nat} (h : isD c = false) : dn c = -1 := by unfold dn; rw [h]; rfl
end Lf

theorem of_below {w w' : World} (h : Below w.heap.size w w') : w.grownBy w' none := ⟨h.os, h.tape, h.output, h.size, fun k hk _ => h.block k hk⟩
theorem size1 (w : World) (hv : Hid (Hv w)) : Calls Tryd.prog 28 #[.int .u8 1] w fun e w' => e = .returned (.tuple #[.int .i64 8, .int .i64 0]) ∧ w.grownBy w' none := sizeYes 1 (by decide) (by decide) w hv
theorem ascii1 : ∀ (j : Nat) b, (ByteArray.mk #[57]).data.toList[j]? = some b → b.toNat < 128 := by
  intro j b hb
  have hm : b ∈ (ByteArray.mk #[57]).data.toList := List.mem_of_getElem? hb
  simp at hm
  rcases hm with rfl <;> decide
theorem size2 (w : World) (hv : Hid (Hv w)) : Calls Tryd.prog 28 #[.int .u8 2] w fun e w' => e = .returned (.tuple #[.int .i64 4, .int .i64 0]) ∧ w.grownBy w' none := sizeYes 2 (by decide) (by decide) w hv
theorem ascii2 : ∀ (j : Nat) b, (ByteArray.mk #[53, 54, 55, 56, 57]).data.toList[j]? = some b → b.toNat < 128 := by
  intro j b hb
  have hm : b ∈ (ByteArray.mk #[53, 54, 55, 56, 57]).data.toList := List.mem_of_getElem? hb
  simp at hm
  rcases hm with rfl | rfl | rfl | rfl | rfl <;> decide
theorem size3 (w : World) (hv : Hid (Hv w)) : Calls Tryd.prog 28 #[.int .u8 3] w fun e w' => e = .returned (.tuple #[.int .i64 6, .int .i64 0]) ∧ w.grownBy w' none := sizeYes 3 (by decide) (by decide) w hv
theorem ascii3 : ∀ (j : Nat) b, (ByteArray.mk #[55, 56, 57]).data.toList[j]? = some b → b.toNat < 128 := by
  intro j b hb
  have hm : b ∈ (ByteArray.mk #[55, 56, 57]).data.toList := List.mem_of_getElem? hb
  simp at hm
  rcases hm with rfl | rfl | rfl <;> decide
namespace Lf
/-- May a rule be? -/
def ck (ho bo st : Nat) : Nat := if 1 ≤ ho ∧ ho ≤ 3 then (if bo < 2 ^ (mo ho + 1) ∧ st < 2 ^ (mo ho + 1) then 0 else 82) else 70
theorem ck_or {h bo st : Nat} (hb : bo < 65536) (hs : st < 65536) (h1 : 1 ≤ h) (h3 : h ≤ 3) : (adn (bo ||| st) (2 ^ (mo h + 1) - 1) = 0) ↔ ck h bo st = 0 := by
  have ho : bo ||| st < 65536 := Nat.or_lt_two_pow (n := 16) hb hs
  rw [adn_up ho, or_up]
  unfold ck
  rw [if_pos ⟨h1, h3⟩]
  split <;> simp_all
theorem ck_hood {h bo st : Nat} (hn : ¬ (1 ≤ h ∧ h ≤ 3)) : ck h bo st = 70 := if_neg hn
theorem ck_count {h bo st : Nat} (h1 : 1 ≤ h) (h3 : h ≤ 3) (hn : ck h bo st ≠ 0) : ck h bo st = 82 := by
  unfold ck at hn ⊢
  rw [if_pos ⟨h1, h3⟩] at hn ⊢
  split at hn
  · exact absurd rfl hn
  · rename_i h; rw [if_neg h]
/-- The greatest count of a rule that may be, else 0. -/
def gm (ho bo st : Nat) : Nat := if ck ho bo st = 0 then mo ho else 0
end Lf

set_option maxHeartbeats 1000000 in
theorem greatest1 (bo st : Nat) (hb : bo < 65536) (hs : st < 65536) (w : World) (hv : Hid (Hv w)) : Calls Tryd.prog 22 #[.agg #[.int .u8 1, .int .u16 bo, .int .u16 st]] w fun e w' => e = .returned (.tuple #[.int .i64 (Lf.gm 1 bo st : Nat), .int .i64 (Lf.ck 1 bo st : Nat)]) ∧ w.grownBy w' none := by
  have hor := or16 bo st hb hs
  have ho : bo ||| st < 65536 := Nat.or_lt_two_pow (n := 16) hb hs
  have han := adn16 (bo ||| st) (2 ^ (8 + 1) - 1) ho (by decide)
  have hck : Hid ((Lf.adn (bo ||| st) (2 ^ (8 + 1) - 1) = 0) ↔ Lf.ck 1 bo st = 0) := Lf.ck_or (h := 1) hb hs (by decide) (by decide)
  have hut : ∀ w, Calls Tryd.prog 29 #[.int .i64 8] w fun e w' => e = .returned (.int .u16 ((2 ^ (8 + 1) - 1 : Nat) : Int)) ∧ w' = w := upToC 8 (by decide)
  obtain ⟨W1, hW1, sz1, g1, B1⟩ := boxn w #[.int .u8 1, .int .u16 bo, .int .u16 st] 24
  have hv1 := hvK hv g1
  have c0 := B1.cell 0 (v := .int .u8 1) rfl
  have c1 := B1.cell 1 (v := .int .u16 bo) rfl
  have c2 := B1.cell 2 (v := .int .u16 st) rfl
  generalize bo ||| st = x at hor ho han hck
  generalize 2 ^ (8 + 1) - 1 = y at han hck hut
  generalize Lf.adn x y = z at han hck
  by_cases hz : z = 0
  · have e1 := hck.out.1 hz
    unfold Lf.gm
    rw [e1]
    simp only [if_true]
    subst hz
    clear hck e1 ho hb hs
    go_enter Tryd.func22, Tryd.ntmps22
    go_wp2_with (first | (go_at_call 28; refine (size1 _ hv1).mono ?_; rintro e w2 ⟨rfl, g2⟩; have k1 := (B1.kept g2 (by simp)).cell 1 (v := .int .u16 bo) rfl; have k2 := (B1.kept g2 (by simp)).cell 2 (v := .int .u16 st) rfl) | (go_at_call 29; refine (hut _).mono ?_; rintro e w3 ⟨rfl, rfl⟩))
    go_ret2
    exact ⟨rfl, gb_trans g1 g2⟩
  · have e1 : ¬ Lf.ck 1 bo st = 0 := fun e => hz (hck.out.2 e)
    have e2 := Lf.ck_count (by decide) (by decide) e1
    unfold Lf.gm
    rw [if_neg e1, e2]
    have hz' : ((z : Int) == 0) = false := by simp; exact hz
    have hz'' : ¬ (z : Int) = 0 := by omega
    clear hck e1 e2 ho hb hs
    go_enter Tryd.func22, Tryd.ntmps22
    go_wp2_with (first | (go_at_call 28; refine (size1 _ hv1).mono ?_; rintro e w2 ⟨rfl, g2⟩; have k1 := (B1.kept g2 (by simp)).cell 1 (v := .int .u16 bo) rfl; have k2 := (B1.kept g2 (by simp)).cell 2 (v := .int .u16 st) rfl) | (go_at_call 29; refine (hut _).mono ?_; rintro e w3 ⟨rfl, rfl⟩))
    go_ret2
    exact ⟨rfl, gb_trans g1 g2⟩

set_option maxHeartbeats 1000000 in
theorem greatest2 (bo st : Nat) (hb : bo < 65536) (hs : st < 65536) (w : World) (hv : Hid (Hv w)) : Calls Tryd.prog 22 #[.agg #[.int .u8 2, .int .u16 bo, .int .u16 st]] w fun e w' => e = .returned (.tuple #[.int .i64 (Lf.gm 2 bo st : Nat), .int .i64 (Lf.ck 2 bo st : Nat)]) ∧ w.grownBy w' none := by
  have hor := or16 bo st hb hs
  have ho : bo ||| st < 65536 := Nat.or_lt_two_pow (n := 16) hb hs
  have han := adn16 (bo ||| st) (2 ^ (4 + 1) - 1) ho (by decide)
  have hck : Hid ((Lf.adn (bo ||| st) (2 ^ (4 + 1) - 1) = 0) ↔ Lf.ck 2 bo st = 0) := Lf.ck_or (h := 2) hb hs (by decide) (by decide)
  have hut : ∀ w, Calls Tryd.prog 29 #[.int .i64 4] w fun e w' => e = .returned (.int .u16 ((2 ^ (4 + 1) - 1 : Nat) : Int)) ∧ w' = w := upToC 4 (by decide)
  obtain ⟨W1, hW1, sz1, g1, B1⟩ := boxn w #[.int .u8 2, .int .u16 bo, .int .u16 st] 24
  have hv1 := hvK hv g1
  have c0 := B1.cell 0 (v := .int .u8 2) rfl
  have c1 := B1.cell 1 (v := .int .u16 bo) rfl
  have c2 := B1.cell 2 (v := .int .u16 st) rfl
  generalize bo ||| st = x at hor ho han hck
  generalize 2 ^ (4 + 1) - 1 = y at han hck hut
  generalize Lf.adn x y = z at han hck
  by_cases hz : z = 0
  · have e1 := hck.out.1 hz
    unfold Lf.gm
    rw [e1]
    simp only [if_true]
    subst hz
    clear hck e1 ho hb hs
    go_enter Tryd.func22, Tryd.ntmps22
    go_wp2_with (first | (go_at_call 28; refine (size2 _ hv1).mono ?_; rintro e w2 ⟨rfl, g2⟩; have k1 := (B1.kept g2 (by simp)).cell 1 (v := .int .u16 bo) rfl; have k2 := (B1.kept g2 (by simp)).cell 2 (v := .int .u16 st) rfl) | (go_at_call 29; refine (hut _).mono ?_; rintro e w3 ⟨rfl, rfl⟩))
    go_ret2
    exact ⟨rfl, gb_trans g1 g2⟩
  · have e1 : ¬ Lf.ck 2 bo st = 0 := fun e => hz (hck.out.2 e)
    have e2 := Lf.ck_count (by decide) (by decide) e1
    unfold Lf.gm
    rw [if_neg e1, e2]
    have hz' : ((z : Int) == 0) = false := by simp; exact hz
    have hz'' : ¬ (z : Int) = 0 := by omega
    clear hck e1 e2 ho hb hs
    go_enter Tryd.func22, Tryd.ntmps22
    go_wp2_with (first | (go_at_call 28; refine (size2 _ hv1).mono ?_; rintro e w2 ⟨rfl, g2⟩; have k1 := (B1.kept g2 (by simp)).cell 1 (v := .int .u16 bo) rfl; have k2 := (B1.kept g2 (by simp)).cell 2 (v := .int .u16 st) rfl) | (go_at_call 29; refine (hut _).mono ?_; rintro e w3 ⟨rfl, rfl⟩))
    go_ret2
    exact ⟨rfl, gb_trans g1 g2⟩

set_option maxHeartbeats 1000000 in
theorem greatest3 (bo st : Nat) (hb : bo < 65536) (hs : st < 65536) (w : World) (hv : Hid (Hv w)) : Calls Tryd.prog 22 #[.agg #[.int .u8 3, .int .u16 bo, .int .u16 st]] w fun e w' => e = .returned (.tuple #[.int .i64 (Lf.gm 3 bo st : Nat), .int .i64 (Lf.ck 3 bo st : Nat)]) ∧ w.grownBy w' none := by
  have hor := or16 bo st hb hs
  have ho : bo ||| st < 65536 := Nat.or_lt_two_pow (n := 16) hb hs
  have han := adn16 (bo ||| st) (2 ^ (6 + 1) - 1) ho (by decide)
  have hck : Hid ((Lf.adn (bo ||| st) (2 ^ (6 + 1) - 1) = 0) ↔ Lf.ck 3 bo st = 0) := Lf.ck_or (h := 3) hb hs (by decide) (by decide)
  have hut : ∀ w, Calls Tryd.prog 29 #[.int .i64 6] w fun e w' => e = .returned (.int .u16 ((2 ^ (6 + 1) - 1 : Nat) : Int)) ∧ w' = w := upToC 6 (by decide)
  obtain ⟨W1, hW1, sz1, g1, B1⟩ := boxn w #[.int .u8 3, .int .u16 bo, .int .u16 st] 24
  have hv1 := hvK hv g1
  have c0 := B1.cell 0 (v := .int .u8 3) rfl
  have c1 := B1.cell 1 (v := .int .u16 bo) rfl
  have c2 := B1.cell 2 (v := .int .u16 st) rfl
  generalize bo ||| st = x at hor ho han hck
  generalize 2 ^ (6 + 1) - 1 = y at han hck hut
  generalize Lf.adn x y = z at han hck
  by_cases hz : z = 0
  · have e1 := hck.out.1 hz
    unfold Lf.gm
    rw [e1]
    simp only [if_true]
    subst hz
    clear hck e1 ho hb hs
    go_enter Tryd.func22, Tryd.ntmps22
    go_wp2_with (first | (go_at_call 28; refine (size3 _ hv1).mono ?_; rintro e w2 ⟨rfl, g2⟩; have k1 := (B1.kept g2 (by simp)).cell 1 (v := .int .u16 bo) rfl; have k2 := (B1.kept g2 (by simp)).cell 2 (v := .int .u16 st) rfl) | (go_at_call 29; refine (hut _).mono ?_; rintro e w3 ⟨rfl, rfl⟩))
    go_ret2
    exact ⟨rfl, gb_trans g1 g2⟩
  · have e1 : ¬ Lf.ck 3 bo st = 0 := fun e => hz (hck.out.2 e)
    have e2 := Lf.ck_count (by decide) (by decide) e1
    unfold Lf.gm
    rw [if_neg e1, e2]
    have hz' : ((z : Int) == 0) = false := by simp; exact hz
    have hz'' : ¬ (z : Int) = 0 := by omega
    clear hck e1 e2 ho hb hs
    go_enter Tryd.func22, Tryd.ntmps22
    go_wp2_with (first | (go_at_call 28; refine (size3 _ hv1).mono ?_; rintro e w2 ⟨rfl, g2⟩; have k1 := (B1.kept g2 (by simp)).cell 1 (v := .int .u16 bo) rfl; have k2 := (B1.kept g2 (by simp)).cell 2 (v := .int .u16 st) rfl) | (go_at_call 29; refine (hut _).mono ?_; rintro e w3 ⟨rfl, rfl⟩))
    go_ret2
    exact ⟨rfl, gb_trans g1 g2⟩

theorem greatestC (ho bo st : Nat) (hh : ho < 256) (hb : bo < 65536) (hs : st < 65536) (w : World) (hv : Hid (Hv w)) : Calls Tryd.prog 22 #[.agg #[.int .u8 ho, .int .u16 bo, .int .u16 st]] w fun e w' => e = .returned (.tuple #[.int .i64 (Lf.gm ho bo st : Nat), .int .i64 (Lf.ck ho bo st : Nat)]) ∧ w.grownBy w' none := by
  by_cases h13 : 1 ≤ ho ∧ ho ≤ 3
  · obtain ⟨h1, h3⟩ := h13
    match ho, h1, h3 with
    | 1, _, _ => exact greatest1 bo st hb hs w hv
    | 2, _, _ => exact greatest2 bo st hb hs w hv
    | 3, _, _ => exact greatest3 bo st hb hs w hv
  · have e2 := Lf.ck_hood (bo := bo) (st := st) h13
    unfold Lf.gm
    rw [e2]
    simp only [show ¬ (70 : Nat) = 0 by decide, if_false]
    obtain ⟨W1, hW1, sz1, g1, B1⟩ := boxn w #[.int .u8 ho, .int .u16 bo, .int .u16 st] 24
    have c0 := B1.cell 0 (v := .int .u8 ho) rfl
    have hz := fun w => sizeNo (ho : Int) (by omega) (by omega) (by omega) w
    clear e2 h13
    go_enter Tryd.func22, Tryd.ntmps22
    go_wp2_with (first | (go_at_call 28; refine (hz _).mono ?_; rintro e w2 ⟨rfl, g2⟩))
    go_ret2
    exact ⟨rfl, gb_trans g1 g2⟩
end Go.Proofs.YtkgipjabkalnaaaDoor
