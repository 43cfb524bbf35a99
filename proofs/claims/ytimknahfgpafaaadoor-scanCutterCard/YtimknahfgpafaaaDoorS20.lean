/- ScanCutter: the walk. -/
import Derived.Test.YtimknahfgpafaaaDoorS10
import Derived.Test.YtimknahfgpafaaaDoorS19
namespace Go.Proofs.YtimknahfgpafaaaDoor
open Go.RowKit
set_option linter.unusedVariables false
set_option linter.unusedSimpArgs false

/-- The calls can be read from the address on. -/
def OpsIn (w : World) (sp : Option Addr) (n : Nat) (K H X : Nat → Int) : Prop := ∀ k, k < n → ∃ b o, sp = some ⟨b, o, none⟩ ∧ w.cell? ⟨b, o + k * 3, none⟩ = some (.int .i64 (K k)) ∧ w.cell? ⟨b, o + k * 3 + 1, none⟩ = some (.int .i64 (H k)) ∧ w.cell? ⟨b, o + k * 3 + 2, none⟩ = some (.int .u8 (X k))
theorem Gd.cu {a b : Nat} {w w' : World} (h : Gd a b w w') {x i : Nat} {s : ByteArray} (hc : Cu w x s i) (h1 : x ≠ a) (h2 : x ≠ b) : Cu w' x s i := (h.block x hc.lt h1 h2).trans hc
theorem Gd.rc {a b : Nat} {w w' : World} (h : Gd a b w w') {x i : Nat} {s : ByteArray} (hc : Rc w x s i) (h1 : x ≠ a) (h2 : x ≠ b) : Rc w' x s i := (h.block x hc.lt h1 h2).trans hc
theorem Gd.zc {a b : Nat} {w w' : World} (h : Gd a b w w') {x : Nat} (hc : Zc w x) (h1 : x ≠ a) (h2 : x ≠ b) : Zc w' x := (h.block x hc.lt h1 h2).trans hc
theorem Gd.none {a b : Nat} {w v w' : World} (h : w.grownBy v .none) (k : Gd a b v w') (h1 : w.heap.size ≤ a) (h2 : w.heap.size ≤ b) : w.grownBy w' .none :=
  ⟨k.os.trans h.os, k.tape.trans h.tape, k.output.trans h.output, Nat.le_trans h.size k.size, fun i hi hne => (k.block i (Nat.lt_of_lt_of_le hi h.size) (by omega) (by omega)).trans (h.block i hi hne)⟩

set_option maxRecDepth 100000 in
set_option maxHeartbeats 4000000 in
theorem cutter_walk (t u : ByteArray) (n cap : Nat) (sp : Option Addr) (K H X : Nat → Int) (hn : n ≤ 9223372036854775807) (w : World) (ht : t.size ≤ maxLen) (hu : u.size ≤ maxLen) (ho : OpsIn w sp n K H X) (tp : TypeId) (p : Value) (hE : Hid (Er tp p w)) (hG : 4 < w.heap.size) :
    Calls Tryd.prog 5 #[.string t, .string u, .slice sp n cap] w fun e w' => e = .returned (.bool true) ∧ Below w.heap.size w w' := by
  go_enter Tryd.func5, Tryd.ntmps5
  go_wp2_with (first
    | (go_at_call 9; refine (awakeC _ tp p hE hG).mono ?_; rintro e w1 ⟨rfl, g1⟩)
    | (go_at_call_of 14 (Value.string t); refine (newC _ _).mono ?_; rintro e w2 ⟨rfl, h2, g2⟩; have l2 := h2.lt)
    | (go_at_call_of 14 (Value.string u); refine (newC _ _).mono ?_; rintro e w3 ⟨rfl, h3, g3⟩; have l3 := h3.lt)
    | (go_at_call_of 15 (Value.string t); refine (rnewC _ _).mono ?_; rintro e w4 ⟨rfl, h4, g4⟩; have l4 := h4.lt)
    | (go_at_call_of 15 (Value.string u); refine (rnewC _ _).mono ?_; rintro e w5 ⟨rfl, h5, g5⟩; have l5 := h5.lt))
  obtain ⟨W6, hW6, sz6, g6, hB6⟩ := box3 w5 (.bool false) (.string ⟨#[]⟩) (.int .i64 0) 36
  have h6 : Zc W6 w5.heap.size := hB6
  rw [hW6]
  clear hW6 hB6
  have q6 : w5.heap.size < W6.heap.size := by have := sz6.out; omega
  have H1 := (((h2.kept g3 (by simp)).kept g4 (by simp)).kept g5 (by simp)).kept g6 (by simp)
  have H2 := (h4.kept g5 (by simp)).kept g6 (by simp)
  have H3 := ((h3.kept g4 (by simp)).kept g5 (by simp)).kept g6 (by simp)
  have H4 := h5.kept g6 (by simp)
  have G6 := gb_trans g1 (gb_trans g2 (gb_trans g3 (gb_trans g4 (gb_trans g5 g6))))
  have e1 := g1.size
  have e2 := g2.size
  have e3 := g3.size
  have e4 := g4.size
  have e5 := g5.size
  clear h2 h3 h4 h5 g1 g2 g3 g4 g5 g6
  generalize w1.heap.size = b1 at *
  generalize w2.heap.size = b3 at *
  generalize w3.heap.size = b2 at *
  generalize w4.heap.size = b4 at *
  generalize w5.heap.size = b5 at *
  go_loopw [7, 13] (fun vo v wr => ∃ (k i j : Nat), k ≤ n ∧ i ≤ t.size ∧ j ≤ u.size ∧ vo = .bool true ∧ v = .int .i64 k ∧ Cu wr b1 t i ∧ Rc wr b2 t i ∧ Cu wr b3 u j ∧ Rc wr b4 u j ∧ Zc wr b5 ∧ w.grownBy wr none) (fun _ v _ => n - (intOf v).toNat)
  case atStart => exact ⟨0, 0, 0, Nat.zero_le _, Nat.zero_le _, Nat.zero_le _, rfl, rfl, H1, H2, H3, H4, h6, G6⟩
  case round =>
    obtain ⟨k, i, j, hk, hi, hj, rfl, rfl, H1, H2, H3, H4, H5, hg⟩ := hrel
    have hE' : Hid (Er tp p wr) := Er.below hE.out (gb_below hg) hG
    have hG' := Nat.lt_of_lt_of_le hG hg.size
    by_cases hlt : k < n
    · obtain ⟨ba, oa, rfl, x0, x1, x2⟩ := ho k hlt
      have y0 := hg.cell x0 (by simp)
      have y1 := hg.cell x1 (by simp)
      have y2 := hg.cell x2 (by simp)
      have hlt' : (k : Int) < (n : Int) := by omega
      clear x0 x1 x2
      generalize K k = kind at *
      generalize H k = which at *
      generalize X k = x at *
      by_cases q0 : which.tmod 4 = 0
      · have q0' : (which.tmod 4 == 0) = true := by simp; omega
        go_wp2_with (first
          | (go_at_call 16; refine (oneC b1 b2 t i which x wr H1 H2 ht hi tp p hE' hG' kind).mono ?_; rintro e w7 ⟨rfl, i7, hi7, K1, K2, D7⟩; have K3 := D7.cu H3 (by omega) (by omega); have K4 := D7.rc H4 (by omega) (by omega); have K5 := D7.zc H5 (by omega) (by omega); have G7 := Gd.none hg D7 (by omega) (by omega))
          | (go_at_call_of 17 (Value.pointer (some { block := b1, off := 0 })); refine (atC _ _ _ _ K1).mono ?_; rintro e w8 ⟨rfl, hw8⟩; subst w8) | (go_at_call_of 18 (Value.pointer (some { block := b2, off := 0 })); refine (ratC _ _ _ _ K2).mono ?_; rintro e w8 ⟨rfl, hw8⟩; subst w8) | (go_at_call_of 17 (Value.pointer (some { block := b3, off := 0 })); refine (atC _ _ _ _ K3).mono ?_; rintro e w8 ⟨rfl, hw8⟩; subst w8) | (go_at_call_of 18 (Value.pointer (some { block := b4, off := 0 })); refine (ratC _ _ _ _ K4).mono ?_; rintro e w8 ⟨rfl, hw8⟩; subst w8))
        go_roundw
        case rel => exact ⟨k + 1, i7, j, by omega, hi7, hj, rfl, by go_num, K1, K2, K3, K4, K5, G7⟩
        case measure => simp [intOf]; omega
      by_cases q1 : which.tmod 4 = 1
      · have q0' : (which.tmod 4 == 0) = false := by simp; omega
        have q1' : (which.tmod 4 == 1) = true := by simp; omega
        go_wp2_with (first
          | (go_at_call 16; refine (oneC b3 b4 u j which x wr H3 H4 hu hj tp p hE' hG' kind).mono ?_; rintro e w7 ⟨rfl, i7, hi7, K3, K4, D7⟩; have K1 := D7.cu H1 (by omega) (by omega); have K2 := D7.rc H2 (by omega) (by omega); have K5 := D7.zc H5 (by omega) (by omega); have G7 := Gd.none hg D7 (by omega) (by omega))
          | (go_at_call_of 17 (Value.pointer (some { block := b1, off := 0 })); refine (atC _ _ _ _ K1).mono ?_; rintro e w8 ⟨rfl, hw8⟩; subst w8) | (go_at_call_of 18 (Value.pointer (some { block := b2, off := 0 })); refine (ratC _ _ _ _ K2).mono ?_; rintro e w8 ⟨rfl, hw8⟩; subst w8) | (go_at_call_of 17 (Value.pointer (some { block := b3, off := 0 })); refine (atC _ _ _ _ K3).mono ?_; rintro e w8 ⟨rfl, hw8⟩; subst w8) | (go_at_call_of 18 (Value.pointer (some { block := b4, off := 0 })); refine (ratC _ _ _ _ K4).mono ?_; rintro e w8 ⟨rfl, hw8⟩; subst w8))
        go_roundw
        case rel => exact ⟨k + 1, i, i7, by omega, hi, hi7, rfl, by go_num, K1, K2, K3, K4, K5, G7⟩
        case measure => simp [intOf]; omega
      by_cases q2 : which.tmod 4 = 2
      · have q0' : (which.tmod 4 == 0) = false := by simp; omega
        have q1' : (which.tmod 4 == 1) = false := by simp; omega
        have q2' : (which.tmod 4 == 2) = true := by simp; omega
        go_wp2_with (first
          | (go_at_call 16; refine (noneC none which x wr (.inl rfl) kind).mono ?_; rintro e w7 ⟨rfl, D7⟩; have K1 := H1.kept D7 (by simp); have K2 := H2.kept D7 (by simp); have K3 := H3.kept D7 (by simp); have K4 := H4.kept D7 (by simp); have K5 := H5.kept D7 (by simp); have G7 := gb_trans hg D7)
          | (go_at_call_of 17 (Value.pointer (some { block := b1, off := 0 })); refine (atC _ _ _ _ K1).mono ?_; rintro e w8 ⟨rfl, hw8⟩; subst w8) | (go_at_call_of 18 (Value.pointer (some { block := b2, off := 0 })); refine (ratC _ _ _ _ K2).mono ?_; rintro e w8 ⟨rfl, hw8⟩; subst w8) | (go_at_call_of 17 (Value.pointer (some { block := b3, off := 0 })); refine (atC _ _ _ _ K3).mono ?_; rintro e w8 ⟨rfl, hw8⟩; subst w8) | (go_at_call_of 18 (Value.pointer (some { block := b4, off := 0 })); refine (ratC _ _ _ _ K4).mono ?_; rintro e w8 ⟨rfl, hw8⟩; subst w8))
        go_roundw
        case rel => exact ⟨k + 1, i, j, by omega, hi, hj, rfl, by go_num, K1, K2, K3, K4, K5, G7⟩
        case measure => simp [intOf]; omega
      · have q0' : (which.tmod 4 == 0) = false := by simp; omega
        have q1' : (which.tmod 4 == 1) = false := by simp; omega
        have q2' : (which.tmod 4 == 2) = false := by simp; omega
        go_wp2_with (first
          | (go_at_call 16; refine (noneC (some ⟨b5, 0, none⟩) which x wr (.inr ⟨b5, rfl, H5⟩) kind).mono ?_; rintro e w7 ⟨rfl, D7⟩; have K1 := H1.kept D7 (by simp); have K2 := H2.kept D7 (by simp); have K3 := H3.kept D7 (by simp); have K4 := H4.kept D7 (by simp); have K5 := H5.kept D7 (by simp); have G7 := gb_trans hg D7)
          | (go_at_call_of 17 (Value.pointer (some { block := b1, off := 0 })); refine (atC _ _ _ _ K1).mono ?_; rintro e w8 ⟨rfl, hw8⟩; subst w8) | (go_at_call_of 18 (Value.pointer (some { block := b2, off := 0 })); refine (ratC _ _ _ _ K2).mono ?_; rintro e w8 ⟨rfl, hw8⟩; subst w8) | (go_at_call_of 17 (Value.pointer (some { block := b3, off := 0 })); refine (atC _ _ _ _ K3).mono ?_; rintro e w8 ⟨rfl, hw8⟩; subst w8) | (go_at_call_of 18 (Value.pointer (some { block := b4, off := 0 })); refine (ratC _ _ _ _ K4).mono ?_; rintro e w8 ⟨rfl, hw8⟩; subst w8))
        go_roundw
        case rel => exact ⟨k + 1, i, j, by omega, hi, hj, rfl, by go_num, K1, K2, K3, K4, K5, G7⟩
        case measure => simp [intOf]; omega
    · have hlt' : ¬ (k : Int) < (n : Int) := by omega
      go_wp2
      go_ret
      exact ⟨rfl, gb_below hg⟩
end Go.Proofs.YtimknahfgpafaaaDoor
