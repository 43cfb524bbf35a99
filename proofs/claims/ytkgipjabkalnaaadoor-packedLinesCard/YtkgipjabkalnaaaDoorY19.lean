/- PackedLines: its walk. -/
import Derived.Test.YtkgipjabkalnaaaDoorY18
namespace Go.Proofs.YtkgipjabkalnaaaDoor
open Go.RowKit
set_option linter.unusedVariables false
theorem lines_top (xa xb xc : Int) (N1 : Int) (n1 c1 : Nat) (sp1 : Option Addr) (f1 : Nat → Nat) (N2 : Int) (n2 c2 : Nat) (sp2 : Option Addr) (f2 : Nat → Nat) (N3 : Int) (n3 c3 : Nat) (sp3 : Option Addr) (f3 : Nat → Nat) (W : World) (ya : 0 ≤ xa ∧ xa ≤ 255) (yb : 0 ≤ xb ∧ xb ≤ 65535) (yc : 0 ≤ xc ∧ xc ≤ 65535) (z1 : n1 ≤ 17592186043904) (b1 : ∀ k, f1 k < 18446744073709551616) (o1 : sp1 = none → n1 = 0 ∧ c1 = 0) (e1 : Wd W sp1 n1 f1) (z2 : n2 ≤ 17592186043904) (b2 : ∀ k, f2 k < 18446744073709551616) (o2 : sp2 = none → n2 = 0 ∧ c2 = 0) (e2 : Wd W sp2 n2 f2) (z3 : n3 ≤ 17592186043904) (b3 : ∀ k, f3 k < 18446744073709551616) (o3 : sp3 = none → n3 = 0 ∧ c3 = 0) (e3 : Wd W sp3 n3 f3) (hv : Hv W) :
    Calls Tryd.prog 3 #[.agg #[.int .u8 xa, .int .u16 xb, .int .u16 xc], .agg #[.int .i64 N1, .slice sp1 n1 c1], .agg #[.int .i64 N2, .slice sp2 n2 c2], .agg #[.int .i64 N3, .slice sp3 n3 c3]] W fun e w' => e = .returned (.bool true) ∧ Below W.heap.size W w' := by
  obtain ⟨ho, rfl⟩ : ∃ ho : Nat, xa = ho := ⟨xa.toNat, by omega⟩
  obtain ⟨bo, rfl⟩ : ∃ bo : Nat, xb = bo := ⟨xb.toNat, by omega⟩
  obtain ⟨st, rfl⟩ : ∃ st : Nat, xc = st := ⟨xc.toNat, by omega⟩
  exact (Pd.lines_walk ho bo st (by omega) (by omega) (by omega) N1 n1 c1 sp1 f1 (fun k _ => b1 k) z1 o1 N2 n2 c2 sp2 f2 (fun k _ => b2 k) z2 o2 N3 n3 c3 sp3 f3 (fun k _ => b3 k) z3 o3 W hv e1 e2 e3).mono fun e w' h => ⟨h.1, gb_below h.2⟩
end Go.Proofs.YtkgipjabkalnaaaDoor
