/- What told, letter, Print, Next, exchanged, Turned and Check of package life answer. -/
import Derived.Test.YtkgipjabkalnaaaDoorL5
import Derived.Handy
namespace Go.Proofs.YtkgipjabkalnaaaDoor
open Go.RowKit
set_option linter.unusedVariables false
set_option linter.unusedSimpArgs false
set_option maxRecDepth 100000

namespace Lf
/-- The digits of the counts below k, rising. -/
def tdl (v : Nat) : Nat → List UInt8
  | 0 => []
  | k + 1 => tdl v k ++ (if v.testBit k then [UInt8.ofNat (k + 48)] else [])
theorem tdl_len (v : Nat) : ∀ k, (tdl v k).length ≤ k
  | 0 => Nat.le_refl _
  | k + 1 => by
    have := tdl_len v k
    unfold tdl
    split <;> simp <;> omega
def td (v : Nat) : ByteArray := ⟨(tdl v 10).toArray⟩
end Lf
theorem bc_app (l : List UInt8) (k : Nat) (h : k < 10) : Lib.byteCells l ++ [.int .u8 ((k + 48 : Nat) : Int)] = Lib.byteCells (l ++ [UInt8.ofNat (k + 48)]) := by
  unfold Lib.byteCells
  rw [List.map_append]
  congr 1
  match k, h with
  | 0, _ => rfl
  | 1, _ => rfl
  | 2, _ => rfl
  | 3, _ => rfl
  | 4, _ => rfl
  | 5, _ => rfl
  | 6, _ => rfl
  | 7, _ => rfl
  | 8, _ => rfl
  | 9, _ => rfl
namespace Lf
def lt (h : Nat) : ByteArray := if h = 2 then ⟨#[86]⟩ else if h = 3 then ⟨#[72]⟩ else ⟨#[]⟩
end Lf
set_option maxHeartbeats 1000000 in
theorem checkC (ho bo st : Nat) (hh : ho < 256) (hb : bo < 65536) (hs : st < 65536) (w : World) (hv : Hid (Hv w)) : Calls Tryd.prog 15 #[.agg #[.int .u8 ho, .int .u16 bo, .int .u16 st]] w fun e w' => e = .returned (.int .i64 (Lf.ck ho bo st : Nat)) ∧ w.grownBy w' none := by
  have hg := fun w hv => greatestC ho bo st hh hb hs w hv
  generalize Lf.ck ho bo st = q at hg ⊢
  generalize Lf.gm ho bo st = g at hg
  obtain ⟨W1, hW1, sz1, g1, B1⟩ := boxn w #[.int .u8 ho, .int .u16 bo, .int .u16 st] 24
  have hv1 := hvK hv g1
  have c0 := B1.cell 0 (v := .int .u8 ho) rfl
  have c1 := B1.cell 1 (v := .int .u16 bo) rfl
  have c2 := B1.cell 2 (v := .int .u16 st) rfl
  go_enter Tryd.func15, Tryd.ntmps15
  go_wp2_with (first | (go_at_call 22; refine (hg _ hv1).mono ?_; rintro e w2 ⟨rfl, g2⟩))
  go_ret
  exact ⟨rfl, gb_trans g1 g2⟩

namespace Lf
def pr (ho bo st : Nat) : ByteArray := if ck ho bo st = 0 then (((⟨#[66]⟩ : ByteArray) ++ td bo) ++ (⟨#[47, 83]⟩ : ByteArray) ++ td st) ++ lt ho else ⟨#[]⟩
end Lf
theorem Lf.td_size (v : Nat) : (Lf.td v).size ≤ 10 := by
  unfold Lf.td
  show (Lf.tdl v 10).toArray.size ≤ 10
  rw [List.size_toArray]
  exact Lf.tdl_len v 10
theorem Lf.lt_size (h : Nat) : (Lf.lt h).size ≤ 1 := by unfold Lf.lt; split; exact Nat.le_refl _; split; exact Nat.le_refl _; exact Nat.zero_le _
end Go.Proofs.YtkgipjabkalnaaaDoor
