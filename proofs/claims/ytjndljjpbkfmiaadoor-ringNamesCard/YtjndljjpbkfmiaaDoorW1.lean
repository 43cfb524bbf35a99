/- What the small calls of package words answer: Half, and the inner ones on words and masks. -/
import Derived.Test.YtjndljjpbkfmiaaDoorMem
import Derived.Deep.QuietTactic
import Derived.BigQuiet
import Derived.BigRegion
import Derived.Deep.RegionWith
import Derived.Test.YtjndljjpbkfmiaaDoorProg
namespace Go.Proofs.YtjndljjpbkfmiaaDoor.Wo
open Go.RowKit
set_option linter.unusedVariables false
set_option maxRecDepth 100000

theorem mixed : Tryd.prog.follows .mixedOrders = true := by kernel_rfl

theorem wordsForC (n : Nat) (h1 : n ≤ 65539) (w : World) :
    Calls Tryd.prog 46 #[.int .i64 n] w fun e w' => e = .returned (.int .i64 (((n + 63) / 64 : Nat) : Int)) ∧ w' = w := by
  go_enter Tryd.func46, Tryd.ntmps46
  go_wp2
  go_ret
  refine ⟨?_, rfl⟩
  show Ending.returned (Value.int _ (((n : Int) + 64 - 1) / 64)) = _
  rw [show ((n : Int) + 64 - 1) / 64 = (((n + 63) / 64 : Nat) : Int) by omega]

theorem placeMaskC (i : Nat) (h1 : i ≤ 100000) (w : World) :
    Calls Tryd.prog 47 #[.int .i64 i] w fun e w' => e = .returned (.int .u64 (Pk.one i)) ∧ w' = w := by
  have hp : Hid (IntKind.u64.wrap (2 ^ (i % 64)) = (Pk.one i : Int)) := by
    have h := Pk.one_lt i
    unfold Hid
    rw [IntKind.wrap_u64]
    have e : (2 : Int) ^ (i % 64) = (Pk.one i : Int) := by unfold Pk.one; simp
    rw [e]
    omega
  go_enter Tryd.func47, Tryd.ntmps47
  go_wp2
  go_ret
  exact ⟨congrArg (fun x => Ending.returned (Value.int .u64 x)) hp.out, rfl⟩

/-- How many bits of the last word are bits of a row of n. -/
def last (n : Nat) : Nat := 64 - ((n + 63) / 64 * 64 - n)

theorem raiseC (N : Int) (i b n cap : Nat) (p : Nat → Bool) (hi : i < 64 * n) (hn : n ≤ 1025) (w : World) (hr : Row w 106 b n p) :
    Calls Tryd.prog 40 #[.agg #[.int .i64 N, .slice (some ⟨b, 0, none⟩) n cap], .int .i64 i] w fun e w' => e = .returned (.tuple #[]) ∧ Row w' 106 b n (fun j => p j || j == i) ∧ w.grownBy w' (some b) := by
  obtain ⟨W1, hW, c0, c1, sz, hg, _⟩ := box2 w (.int .i64 N) (.slice (some ⟨b, 0, none⟩) n cap) 40
  have hr1 := hr.kept hg (by simp)
  have hk := World.rowIs.cell hr1 (i := i / 64) (by omega)
  have hf := World.rowIs.frozen hr1 (i / 64)
  have hb : i / 64 < n := by omega
  have hbi : (i : Int) / 64 < n := by omega
  have ht : ((i : Int) / 64).toNat = i / 64 := by omega
  have hd : IntKind.i64.wrap ((i : Int) / 64) = ((i / 64 : Nat) : Int) := by rw [IntKind.wrap_i64]; omega
  have hi0 : (0 : Int) ≤ (i : Int) / 64 := by omega
  have hor := bits_or_u64_nat (Pk.pack p (i / 64)) (Pk.one i) (Pk.pack_lt _ _) (Pk.one_lt i)
  have R : Row (W1.setCell ⟨b, i / 64, none⟩ (.int .u64 ((Pk.pack p (i / 64) ||| Pk.one i : Nat) : Int))) 106 b n (fun j => p j || j == i) := by
    refine hr1.set ?_ ?_
    · have := Pk.pack_raise p i (i / 64)
      rw [if_pos rfl] at this
      exact this
    · intro j _ hj
      have : j ≠ i := fun e => hj (by rw [e])
      simp [this]
  have G : w.grownBy (W1.setCell ⟨b, i / 64, none⟩ (.int .u64 ((Pk.pack p (i / 64) ||| Pk.one i : Nat) : Int))) (some b) := gb_set (gb_none (World.grownBy.refl _ _) hg) _ _
  clear hr hr1
  go_enter Tryd.func40, Tryd.ntmps40
  go_wp2
  refine region_tail 9 mixed (by kernel_rfl) ?_
  simp only [List.take_succ_cons, List.take_zero, List.drop_succ_cons, List.drop_zero]
  repeat still_step
  still_call (placeMaskC i (by omega) _)
  repeat still_step
  refine wpStill_nil ?_
  go_wp2
  go_end0
  exact ⟨rfl, R, gb_drew G⟩

end Go.Proofs.YtjndljjpbkfmiaaDoor.Wo
