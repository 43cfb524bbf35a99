/- The statement TopoFirst answers true (its walk). -/
import Derived.Test.YteegbhnfkcbnoabDoorP15
import Derived.Test.YteegbhnfkcbnoabDoorTt
namespace Go.Proofs.YteegbhnfkcbnoabDoor
open Go.RowKit
set_option linter.unusedVariables false
set_option linter.unusedSimpArgs false
set_option maxRecDepth 100000

theorem parseN (s : ByteArray) (w : World) (hs : s.size ≤ maxLen) (tp : TypeId) (p : Value) (hE : Hid (En tp p w)) (er a : Nat) (h1 : Hid (er = (Tp.parseR s).e)) (h2 : Hid (a = (Tp.parseR s).a)) (hn : Hid ((Tp.parseR s).e ≠ 0)) : Calls Tryd.prog 15 #[.string s] w fun e w' => e = .returned (.tuple #[.agg #[.int .u8 0, .int .i64 0, .int .i64 0, .int .u8 0, .int .i64 0], .int .i64 a, .int .i64 er]) ∧ w.grownBy w' none := by
  have hc := parseT s w hs tp p hE
  rw [(parse_no hn.out).2, ← h1.out, ← h2.out] at hc
  exact hc
theorem parseY (s : ByteArray) (w : World) (hs : s.size ≤ maxLen) (tp : TypeId) (p : Value) (hE : Hid (En tp p w)) (K X Y V Z : Int) (h1 : Hid (resV (Tp.parseR s) = #[.int .u8 K, .int .i64 X, .int .i64 Y, .int .u8 V, .int .i64 Z])) (hn : Hid ((Tp.parseR s).e = 0)) : Calls Tryd.prog 15 #[.string s] w fun e w' => e = .returned (.tuple #[.agg #[.int .u8 K, .int .i64 X, .int .i64 Y, .int .u8 V, .int .i64 Z], .int .i64 0, .int .i64 0]) ∧ w.grownBy w' none := by
  have hc := parseT s w hs tp p hE
  rw [h1.out, hn.out, (parse_ok' hn.out).2] at hc
  exact hc


end Go.Proofs.YteegbhnfkcbnoabDoor
