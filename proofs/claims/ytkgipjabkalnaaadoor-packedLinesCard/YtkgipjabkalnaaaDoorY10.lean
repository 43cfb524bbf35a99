/- Line where it refuses. -/
import Derived.Test.YtkgipjabkalnaaaDoorY8
namespace Go.Proofs.YtkgipjabkalnaaaDoor.Pd
open Go.RowKit
set_option linter.unusedVariables false
set_option linter.unusedSimpArgs false

theorem lineN (ho bo st : Nat) (hh : ho < 256) (hb : bo < 65536) (hs : st < 65536) (Na : Int) (na ca : Nat) (sa : Option Addr) (fa : Nat → Nat) (hfa : ∀ k, k < na → fa k < 18446744073709551616) (hna : na ≤ 9223372036854775807) (Nh : Int) (nh ch : Nat) (sh : Option Addr) (fh : Nat → Nat) (hfh : ∀ k, k < nh → fh k < 18446744073709551616) (hnh : nh ≤ 9223372036854775807) (Nb : Int) (nb cb : Nat) (sb : Option Addr) (fb : Nat → Nat) (hfb : ∀ k, k < nb → fb k < 18446744073709551616) (hnb : nb ≤ 9223372036854775807) (w : World) (hv : Hid (Hv w)) (wa : Wd w sa na fa) (wh : Wd w sh nh fh) (wb : Wd w sb nb fb) (hE : lE (Lf.ck ho bo st) (Wo.validB Na na fa) (Wo.validB Nh nh fh) (Wo.validB Nb nb fb) Na Nh Nb ≠ 0) :
    Calls Tryd.prog 6 #[.agg #[.int .u8 (ho : Nat), .int .u16 (bo : Nat), .int .u16 (st : Nat)], .agg #[.int .i64 Na, .slice sa na ca], .agg #[.int .i64 Nh, .slice sh nh ch], .agg #[.int .i64 Nb, .slice sb nb cb]] w fun e w' => e = .returned (.tuple #[.agg #[.int .i64 0, .slice none 0 0], .int .i64 ((lE (Lf.ck ho bo st) (Wo.validB Na na fa) (Wo.validB Nh nh fh) (Wo.validB Nb nb fb) Na Nh Nb : Nat) : Int)]) ∧ w.grownBy w' none := by
  by_cases hc : Lf.ck ho bo st = 0
  · cases va : Wo.validB Na na fa with
    | false =>
      have e : lE (Lf.ck ho bo st) false (Wo.validB Nh nh fh) (Wo.validB Nb nb fb) Na Nh Nb = 20 := by simp [lE, bad, hc]
      rw [e]; exact bad_v ho bo st hh hb hs Na na ca sa fa hfa hna Nh nh ch sh fh hfh hnh Nb nb cb sb fb hfb hnb w hv wa wh wb hc va
    | true =>
      by_cases N3a : Na < 3
      · have e : lE (Lf.ck ho bo st) true (Wo.validB Nh nh fh) (Wo.validB Nb nb fb) Na Nh Nb = 20 := by simp [lE, bad, hc, N3a]
        rw [e]; exact bad_n ho bo st hh hb hs Na na ca sa fa hfa hna Nh nh ch sh fh hfh hnh Nb nb cb sb fb hfb hnb w hv wa wh wb hc va N3a
      · cases vh : Wo.validB Nh nh fh with
        | false =>
          have e : lE (Lf.ck ho bo st) true false (Wo.validB Nb nb fb) Na Nh Nb = 20 := by simp [lE, bad, hc]
          rw [e]; exact bad_gv ho bo st hh hb hs Na na ca sa fa hfa hna Nh nh ch sh fh hfh hnh Nb nb cb sb fb hfb hnb w hv wa wh wb hc va N3a vh
        | true =>
          by_cases N3h : Nh < 3
          · have e : lE (Lf.ck ho bo st) true true (Wo.validB Nb nb fb) Na Nh Nb = 20 := by simp [lE, bad, hc, N3h]
            rw [e]; exact bad_gn ho bo st hh hb hs Na na ca sa fa hfa hna Nh nh ch sh fh hfh hnh Nb nb cb sb fb hfb hnb w hv wa wh wb hc va N3a vh N3h
          · cases vb : Wo.validB Nb nb fb with
            | false =>
              have e : lE (Lf.ck ho bo st) true true false Na Nh Nb = 20 := by simp [lE, bad, hc]
              rw [e]; exact bad_ggv ho bo st hh hb hs Na na ca sa fa hfa hna Nh nh ch sh fh hfh hnh Nb nb cb sb fb hfb hnb w hv wa wh wb hc va N3a vh N3h vb
            | true =>
              by_cases N3b : Nb < 3
              · have e : lE (Lf.ck ho bo st) true true true Na Nh Nb = 20 := by simp [lE, bad, hc, N3b]
                rw [e]; exact bad_ggn ho bo st hh hb hs Na na ca sa fa hfa hna Nh nh ch sh fh hfh hnh Nb nb cb sb fb hfb hnb w hv wa wh wb hc va N3a vh N3h vb N3b
              · have hbd : (bad true Na || bad true Nh || bad true Nb) = false := by simp [bad, N3a, N3h, N3b]
                by_cases e1 : Na = Nh
                · by_cases e2 : Nb = Nh
                  · exact absurd (by rw [va, vh, vb]; unfold lE; rw [if_neg (by simp [hc]), hbd]; simp [e1, e2]) hE
                  · have e : lE (Lf.ck ho bo st) true true true Na Nh Nb = 21 := by unfold lE; rw [if_neg (by simp [hc]), hbd]; simp [e2]
                    rw [e]; exact un_b ho bo st hh hb hs Na na ca sa fa hfa hna Nh nh ch sh fh hfh hnh Nb nb cb sb fb hfb hnb w hv wa wh wb hc va N3a vh N3h vb N3b (by simp [e1]) (by simp [e2])
                · have e : lE (Lf.ck ho bo st) true true true Na Nh Nb = 21 := by unfold lE; rw [if_neg (by simp [hc]), hbd]; simp [e1]
                  rw [e]; exact un_a ho bo st hh hb hs Na na ca sa fa hfa hna Nh nh ch sh fh hfh hnh Nb nb cb sb fb hfb hnb w hv wa wh wb hc va N3a vh N3h vb N3b (by simp [e1])
  · have e : lE (Lf.ck ho bo st) (Wo.validB Na na fa) (Wo.validB Nh nh fh) (Wo.validB Nb nb fb) Na Nh Nb = 8 := by simp [lE, hc]
    rw [e]; exact line8 ho bo st hh hb hs Na na ca sa fa hfa hna Nh nh ch sh fh hfh hnh Nb nb cb sb fb hfb hnb w hv wa wh wb hc
end Go.Proofs.YtkgipjabkalnaaaDoor.Pd
