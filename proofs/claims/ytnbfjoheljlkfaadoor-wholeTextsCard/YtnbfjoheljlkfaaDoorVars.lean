/- What the walks need of the listed variables, carried from call to call; Text, Parse and alive beside it. -/
import Derived.Test.YtnbfjoheljlkfaaDoorAlive
import Derived.Test.YtnbfjoheljlkfaaDoorTexts2
import Derived.Lib.SmallJoins
namespace Go.Proofs.YtnbfjoheljlkfaaDoor
open Go.RowKit
set_option linter.unusedVariables false

def Vars (tp : TypeId) (p : Value) (w : World) : Prop := Tab w ∧ w.var? Tryd.prog "strconv.ErrRange" = some #[.iface tp p]
theorem gER : Tryd.prog.globalNamed "strconv.ErrRange" = some 1 := by kernel_rfl
theorem vars_below {tp : TypeId} {p : Value} {w w1 : World} (h : Hid (Vars tp p w)) (hb : Below w.heap.size w w1) : Hid (Vars tp p w1) :=
  ⟨tab_below h.1 hb, Joins.var_stays gER h.2 hb (Nat.le_refl _)⟩
theorem textV (n : Int) (w : World) (tp : TypeId) (p : Value) (h0 : -9223372036854775808 ≤ n) (h1 : n ≤ 9223372036854775807) (hv : Hid (Vars tp p w)) :
    Calls Tryd.prog 8 #[.int .i64 n] w fun e w' => e = .returned (.string ⟨(Lib.itoa n).toArray⟩) ∧ Below w.heap.size w w' ∧ Hid (Vars tp p w') :=
  (textC n w h0 h1 hv.1).mono fun e w' h => ⟨h.1, h.2, vars_below hv h.2⟩
theorem aliveV (w : World) (tp : TypeId) (p : Value) (hv : Hid (Vars tp p w)) :
    Calls Tryd.prog 7 #[] w fun e w' => e = .returned (.bool true) ∧ Below w.heap.size w w' ∧ Hid (Vars tp p w') :=
  (aliveC w hv.1).mono fun e w' h => ⟨h.1, h.2, vars_below hv h.2⟩
theorem parseV (s : ByteArray) (w : World) (hs : s.size ≤ maxLen) (tp : TypeId) (p : Value) (hv : Hid (Vars tp p w)) (v x : Int) (h1 : Hid (Tx.parseV s.data.toList = v)) (h2 : Hid (Tx.parseE s.data.toList = x)) :
    Calls Tryd.prog 5 #[.string s] w fun e w' => e = .returned (.tuple #[.int .i64 v, .int .i64 x]) ∧ Below w.heap.size w w' ∧ Hid (Vars tp p w') := by
  have h := parseC s w hs tp p (fun _ => hv.2)
  rw [h1.out, h2.out] at h
  exact h.mono fun e w' h => ⟨h.1, h.2, vars_below hv h.2⟩
end Go.Proofs.YtnbfjoheljlkfaaDoor
