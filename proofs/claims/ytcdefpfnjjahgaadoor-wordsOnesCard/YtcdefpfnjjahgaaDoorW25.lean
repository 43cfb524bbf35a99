/- What Down of package words answers. -/
import Derived.Test.YtcdefpfnjjahgaaDoorW6
import Derived.Test.YtcdefpfnjjahgaaDoorPack2
import Derived.Deep.RegionHeld2
namespace Go.Proofs.YtcdefpfnjjahgaaDoor
open Go.RowKit
set_option linter.unusedVariables false

/-! ### A place down -/
def hlf (x : Nat) : Nat := x / 2
/-- What the word above hands down. -/
def cdn (p : Nat → Bool) (k : Nat) : Nat := if p (64 * k) then 9223372036854775808 else 0
theorem hlf_lt {x : Nat} (h : x < 18446744073709551616) : hlf x < 18446744073709551616 := by unfold hlf; omega
theorem cdn_lt (p : Nat → Bool) (k : Nat) : cdn p k < 18446744073709551616 := by unfold cdn; split <;> omega
theorem pack_down (p : Nat → Bool) (k : Nat) : hlf (Pk.pack p k) ||| cdn p (k + 1) = Pk.pack (fun j => p (j + 1)) k := by
  apply Nat.eq_of_testBit_eq
  intro j
  have e63 : (9223372036854775808 : Nat) = 2 ^ 63 := by decide
  have h1 : (hlf (Pk.pack p k)).testBit j = (Pk.pack p k).testBit (j + 1) := by unfold hlf; rw [Nat.testBit_succ]
  have h2 : (cdn p (k + 1)).testBit j = (decide (63 = j) && p (64 * (k + 1))) := by
    unfold cdn
    cases hp : p (64 * (k + 1))
    · simp
    · rw [if_pos rfl, e63, Nat.testBit_two_pow]; simp
  rw [Nat.testBit_or, h1, h2, Pk.testBit_pack, Pk.testBit_pack]
  by_cases hj : j < 63
  · have a1 : j + 1 < 64 := by omega
    have a2 : j < 64 := by omega
    have a3 : ¬ 63 = j := by omega
    simp [a1, a2, a3, Nat.add_assoc]
  · by_cases hj3 : 63 = j
    · subst hj3
      simp [show 64 * k + 63 + 1 = 64 * (k + 1) by omega]
    · have a1 : ¬ j + 1 < 64 := by omega
      have a2 : ¬ j < 64 := by omega
      simp [a1, a2, hj3]
theorem low_bit (p : Nat → Bool) (k : Nat) : IntKind.u64.wrap ((Pk.pack p k : Int) * 9223372036854775808) = (cdn p k : Int) := by
  have h := Pk.bit_div (Pk.pack p k) 0
  rw [Pk.testBit_pack, Nat.pow_zero, Nat.div_one] at h
  simp only [Nat.add_zero, show (0 : Nat) < 64 by decide, decide_true, Bool.true_and] at h
  rw [IntKind.wrap_u64]
  unfold cdn
  cases hp : p (64 * k)
  · rw [hp] at h
    simp at h ⊢
    omega
  · rw [hp] at h
    simp at h ⊢
    omega

/-- The row one place down. -/
def downQ (m : Nat) (i : Bool) (p : Nat → Bool) (j : Nat) : Bool := decide (j < m) && (if j = m - 1 then i else p (j + 1))
def downOut (m : Nat) (i : Bool) (p : Nat → Bool) : Bool := if m = 0 then i else p 0

set_option maxHeartbeats 1000000 in
theorem downC (m n cap : Nat) (sp : Option Addr) (p : Nat → Bool) (M : MayBe m n p) (i : Bool) (w : World) (hc : Wd w sp n (Pk.pack p)) :
    Calls Tryd.prog 23 #[.agg #[.int .i64 m, .slice sp n cap], .bool i] w fun e w' => ∃ b, e = .returned (.tuple #[.agg #[.int .i64 m, .slice (some ⟨b, 0, none⟩) n n], .bool (downOut m i p), .int .i64 0]) ∧ Row w' 52 b n (downQ m i p) ∧ w.grownBy w' none ∧ w.heap.size ≤ b := by
  obtain ⟨W1, hW, c0, c1, sz, hg1, hB⟩ := box2 w (.int .i64 m) (.slice sp n cap) 24
  obtain ⟨W2, hW2, d0, d1, sz2, hg2, hD⟩ := box2 W1 (.int .i64 0) (.slice none 0 0) 24
  have hc2 := (hc.kept hg1 (by simp)).kept hg2 (by simp)
  have hB2 := hB.kept hg2 (by simp)
  have e0 := hB2.cell0
  have e1 := hB2.cell1
  have hnl := M.len
  have ml := M.le
  have mw : Hid (n = (m + 63) / 64) := M.words
  have hs1 : Hid (W1.heap.size = w.heap.size + 1) := sz
  by_cases h0 : m = 0
  · have h0' : ((m : Int) == 0) = true := by simp; omega
    have H0 : Hid (m = 0) := h0
    clear h0
    go_enter Tryd.func23, Tryd.ntmps23
    go_wp2_with (first | (go_at_call 28; refine (validP m n cap sp p M W2 hc2).mono ?_; rintro e w3 ⟨rfl, g3⟩; have hB3 := hB2.kept g3 (by simp); have x0 := hB3.cell0; have x1 := hB3.cell1; have hc3 := hc2.kept g3 (by simp)) | (go_at_call 32; refine (copiedC m n cap sp p ml mw.out w3 hc3).mono ?_; rintro e w4 ⟨b, rfl, hr, g4, hlt, hlt2⟩; obtain ⟨W5, hW5, y0, y1, sz5, g5, hU⟩ := box2 w4 (.int .i64 m) (.slice (some ⟨b, 0, none⟩) n n) 24; have g45 := gb_trans g4 g5; have hB5 := hB3.kept g45 (by simp); have z0 := hB5.cell0; have z1 := hB5.cell1; have hD5 := (hD.kept g3 (by simp)).kept g45 (by simp); have v0 := hD5.cell0; have v1 := hD5.cell1; have v2 := hD5.free0; have v3 := hD5.free1))
    have q1 := sz.out
    have q2 := sz2.out
    have q3 := g3.size
    have hne : b ≠ W1.heap.size := by omega
    obtain ⟨fs, hfs⟩ := underR
    refine ret_box3 (g := W1.heap.size) (t := 24) rfl hfs infoR rfl (hD5.set _ _) rfl ?_
    have G : w.grownBy W5 none := gb_trans hg1 (gb_trans hg2 (gb_trans g3 g45))
    refine ⟨b, by unfold downOut; rw [if_pos H0.out]; rfl, ?_, gb_new (gb_new G (by show w.heap.size ≤ W1.heap.size; omega) _) (by show w.heap.size ≤ W1.heap.size; omega) _, by omega⟩
    refine Row.congr (p := p) (World.rowIs.setOther (World.rowIs.setOther (rowIs_kept hr g5 (by simp)) hne _) hne _) fun i hi => ?_
    have := mw.out
    have := H0.out
    omega
  · have h0' : ((m : Int) == 0) = false := by simp; omega
    go_enter Tryd.func23, Tryd.ntmps23
    go_wp2_with (first | (go_at_call 28; refine (validP m n cap sp p M W2 hc2).mono ?_; rintro e w3 ⟨rfl, g3⟩; have hB3 := hB2.kept g3 (by simp); have x0 := hB3.cell0; have x1 := hB3.cell1; have hc3 := hc2.kept g3 (by simp)) | (go_at_call 32; refine (copiedC m n cap sp p ml mw.out w3 hc3).mono ?_; rintro e w4 ⟨b, rfl, hr, g4, hlt, hlt2⟩; obtain ⟨W5, hW5, y0, y1, sz5, g5, hU⟩ := box2 w4 (.int .i64 m) (.slice (some ⟨b, 0, none⟩) n n) 24; have g45 := gb_trans g4 g5; have hB5 := hB3.kept g45 (by simp); have z0 := hB5.cell0; have z1 := hB5.cell1))
    have hc5 := hc3.kept g45 (by simp)
    have hr5 := hr.kept g5 (by simp)
    have hD5 := (hD.kept g3 (by simp)).kept g45 (by simp)
    have q1 : w.heap.size < W1.heap.size := by have := sz.out; omega
    have q2 : W1.heap.size < W2.heap.size := by have := sz2.out; omega
    have q3 := g3.size
    have q4 := hlt2.out
    have q5 := g4.size
    obtain ⟨l, hl⟩ : ∃ l, Hid (m = l + 1) := ⟨m - 1, by unfold Hid; omega⟩
    have hml : (m : Int) - 1 = (l : Int) := by have := hl.out; omega
    have hmw : IntKind.i64.wrap ((m : Int) - 1) = (l : Int) := by rw [hml, IntKind.wrap_i64]; have := hl.out; omega
    have hmx : IntKind.i64.wrap (l : Int) = (l : Int) := by rw [IntKind.wrap_i64]; have := hl.out; omega
    have pn : p (64 * n) = false := M.tail _ (by have := mw.out; omega)
    have PN : Hid (p (64 * n) = false) := pn
    clear pn
    have n0 : 0 < n := by have := mw.out; omega
    go_loopw [8, 9] (fun c i wr => ∃ k : Nat, k ≤ n ∧ ((k = 0 ∧ i = .int .i64 (-1)) ∨ ∃ l, k = l + 1 ∧ i = .int .i64 (l : Nat)) ∧ c = .int .u64 (cdn p k) ∧ Row wr 52 b n (fun j => if 64 * k ≤ j then p (j + 1) else p j) ∧ W5.grownBy wr (some b)) (fun _ i _ => (intOf i + 1).toNat)
    case atStart => exact ⟨n, Nat.le_refl _, .inr ⟨n - 1, by omega, by go_num⟩, by unfold cdn; rw [PN.out]; rfl, hr5.congr fun j hj => by rw [if_neg (by omega)], World.grownBy.refl _ _⟩
    case round =>
      obtain ⟨k, hk, hki, rfl, hrk, hgk⟩ := hrel
      have hUk := hU.kept hgk (by simp; omega)
      have u0 := hUk.cell0
      have u1 := hUk.cell1
      have hBr := hB5.kept hgk (by simp; omega)
      have t0 := hBr.cell0
      have t1 := hBr.cell1
      rcases hki with ⟨hk0, rfl⟩ | ⟨l2, hk2, rfl⟩
      · have HK0 : Hid (k = 0) := hk0
        clear hk0
        have hrn : Row wr 52 b n (fun j => p (j + 1)) := hrk.congr fun j hj => by rw [if_pos (by have := HK0.out; omega)]
        have hDr := hD5.kept hgk (by simp; omega)
        have hwb : w.heap.size ≤ b := by omega
        have hG5 : w.grownBy W5 none := gb_trans hg1 (gb_trans hg2 (gb_trans g3 g45))
        have hGr : w.grownBy wr none := gb_past hG5 hgk hwb
        have hbD : b ≠ W1.heap.size := by omega
        have h64 : 0 < 64 * n := by omega
        have hcw : Wd wr sp n (Pk.pack p) := hc5.kept hgk (fun a ha => by
          subst ha
          have := cell_lt (hc.at (k := 0) (by omega))
          have hb0 : (a.add 0).block = a.block := rfl
          rw [hb0] at this
          simp; omega)
        have tP : Hid (∀ j, m ≤ j → p j = false) := M.tail
        have FIN : ∀ (W w8 : World) (q : Nat → Bool), Row W 52 b n q → (∀ j, j < 64 * n → q j = downQ m i p j) → w.grownBy W none → W.grownBy w8 none →
            ∃ b', Ending.returned (.tuple #[.agg #[.int .i64 m, .slice (some ⟨b, 0, none⟩) n n], .bool (p 0), .int .i64 0]) = .returned (.tuple #[.agg #[.int .i64 m, .slice (some ⟨b', 0, none⟩) n n], .bool (downOut m i p), .int .i64 0]) ∧
              Row ((w8.setCell ⟨W1.heap.size, 0, none⟩ (.int .i64 m)).setCell ⟨W1.heap.size, 1, none⟩ (.slice (some ⟨b, 0, none⟩) n n)) 52 b' n (downQ m i p) ∧
              w.grownBy ((w8.setCell ⟨W1.heap.size, 0, none⟩ (.int .i64 m)).setCell ⟨W1.heap.size, 1, none⟩ (.slice (some ⟨b, 0, none⟩) n n)) none ∧ w.heap.size ≤ b' := by
          intro W w8 q hq he hW hw8
          refine ⟨b, ?_, ?_, gb_new (gb_new (gb_trans hW hw8) (Nat.le_of_lt q1) _) (Nat.le_of_lt q1) _, hwb⟩
          · unfold downOut
            rw [if_neg h0]
          · exact Row.congr (World.rowIs.setOther (World.rowIs.setOther (Row.kept hq hw8 (by simp)) hbD _) hbD _) he
        have n1 : w4.heap.size ≠ W1.heap.size := by omega
        have n2 : w.heap.size ≠ W1.heap.size := by omega
        cases i with
        | false =>
          have FN := fun w8 hw8 => FIN wr w8 _ hrn (fun j hj => by
            unfold downQ
            by_cases hjm : j < m
            · by_cases hj1 : j = m - 1
              · have := tP.out (j + 1) (by omega)
                simp [hj1] at this ⊢
                rw [show m - 1 + 1 = m by omega] at this
                rw [show m - 1 + 1 = m by omega, this]
              · simp [hjm, hj1]
            · have := tP.out (j + 1) (by omega)
              simp [hjm, this]) hGr hw8
          clear FIN
          have hWc : Wd wr.drew sp n (Pk.pack p) := hcw
          go_wp2
          go_region_held2 (fun w' => w'.cell? ⟨w4.heap.size, 0, none⟩ = some (.int .i64 m) ∧ w'.cell? ⟨w4.heap.size, 1, none⟩ = some (.slice (some ⟨b, 0, none⟩) n n) ∧ w'.cell? ⟨w.heap.size, 0, none⟩ = some (.int .i64 m) ∧ w'.cell? ⟨w.heap.size, 1, none⟩ = some (.slice sp n cap)) (first | go_keep | exact ⟨far2 (by assumption) (by assumption), far2 (by assumption) (by assumption), far2 (by assumption) (by assumption), far2 (by assumption) (by assumption)⟩) (first | (go_at_call 36; refine (hasC m 0 n cap sp p h64 hnl wr.drew hWc).mono ?_; rintro e w8 ⟨rfl, g8⟩; have g8' : wr.grownBy w8 none := ⟨g8.os, g8.tape, g8.output, g8.size, g8.block⟩; have hU8 := hUk.kept g8' (by simp); have r0 := hU8.cell0; have r1 := hU8.cell1; have hB8 := hBr.kept g8' (by simp); have r6 := hB8.cell0; have r7 := hB8.cell1; have hD8 := hDr.kept g8' (by simp); have r2 := hD8.cell0; have r3 := hD8.cell1; have r4 := hD8.free0; have r5 := hD8.free1))
          go_wp2
          obtain ⟨fs, hfs⟩ := underR
          refine ret_box3 (g := W1.heap.size) (t := 24) rfl hfs infoR rfl (hD8.set _ _) rfl ?_
          exact FN w8 g8'
        | true =>
          have hl64 : l < 64 * n := by have := hl.out; have := mw.out; omega
          go_wp2_with (first | (go_at_call 34; refine (raiseC m l b n n _ hl64 hnl wr hrn).mono ?_; rintro e W ⟨rfl, hr6, g6⟩; have hU7 := hUk.kept g6 (by simp; omega); have s0 := hU7.cell0; have s1 := hU7.cell1; have hB7 := hBr.kept g6 (by simp; omega); have t2 := hB7.cell0; have t3 := hB7.cell1; have hD7 := hDr.kept g6 (by simp; omega); have hcW := hcw.kept g6 (by intro a ha; subst ha; have := cell_lt (hc.at (k := 0) n0); have hb0 : (a.add 0).block = a.block := rfl; rw [hb0] at this; simp; omega)))
          have hWc : Wd W.drew sp n (Pk.pack p) := hcW
          have hGW : w.grownBy W none := gb_past hGr g6 hwb
          have FN := fun w8 hw8 => FIN W w8 _ hr6 (fun j hj => by
            have := hl.out
            unfold downQ
            by_cases hjl : j = l
            · have e1 : j < m := by omega
              have e2 : j = m - 1 := by omega
              simp [hjl]
              exact ⟨by omega, .inl (by omega)⟩
            · have e1 : (j == l) = false := by simp [hjl]
              have e2 : ¬ j = m - 1 := by omega
              by_cases hjm : j < m
              · simp [e1, e2, hjm]
              · have := tP.out (j + 1) (by omega)
                simp [e1, hjm, this]) hGW hw8
          clear FIN
          go_region_held2 (fun w' => w'.cell? ⟨w4.heap.size, 0, none⟩ = some (.int .i64 m) ∧ w'.cell? ⟨w4.heap.size, 1, none⟩ = some (.slice (some ⟨b, 0, none⟩) n n) ∧ w'.cell? ⟨w.heap.size, 0, none⟩ = some (.int .i64 m) ∧ w'.cell? ⟨w.heap.size, 1, none⟩ = some (.slice sp n cap)) (first | go_keep | exact ⟨far2 (by assumption) (by assumption), far2 (by assumption) (by assumption), far2 (by assumption) (by assumption), far2 (by assumption) (by assumption)⟩) (first | (go_at_call 36; refine (hasC m 0 n cap sp p h64 hnl W.drew hWc).mono ?_; rintro e w8 ⟨rfl, g8⟩; have g8' : W.grownBy w8 none := ⟨g8.os, g8.tape, g8.output, g8.size, g8.block⟩; have hU8 := hU7.kept g8' (by simp); have r0 := hU8.cell0; have r1 := hU8.cell1; have hB8 := hB7.kept g8' (by simp); have r6 := hB8.cell0; have r7 := hB8.cell1; have hD8 := hD7.kept g8' (by simp); have r2 := hD8.cell0; have r3 := hD8.cell1; have r4 := hD8.free0; have r5 := hD8.free1))
          go_wp2
          obtain ⟨fs, hfs⟩ := underR
          refine ret_box3 (g := W1.heap.size) (t := 24) rfl hfs infoR rfl (hD8.set _ _) rfl ?_
          exact FN w8 g8'
      · subst hk2
        have hlt' : l2 < n := by omega
        obtain ⟨a, rfl⟩ := hc.some (by omega)
        have hca := hgk.cell (hc5.at hlt') (by
          have := cell_lt (hc.at hlt')
          simp; omega)
        have hek : Pk.pack (fun j => if 64 * (l2 + 1) ≤ j then p (j + 1) else p j) l2 = Pk.pack p l2 := Pk.pack_congr fun j hj => by rw [if_neg (by omega)]
        have hkc := World.rowIs.cell hrk hlt'
        have hkf := World.rowIs.frozen hrk l2
        simp only [hek] at hkc
        have hkl : (l2 : Int) < (n : Int) := by omega
        have hk0 : (0 : Int) ≤ (l2 : Int) := by omega
        have hsh : (Pk.pack p l2 : Int) / 2 = (hlf (Pk.pack p l2) : Int) := by unfold hlf; omega
        have htp := low_bit p l2
        have hor := bits_or_u64_nat (hlf (Pk.pack p l2)) (cdn p (l2 + 1)) (hlf_lt (Pk.pack_lt _ _)) (cdn_lt _ _)
        have hab : (a.add l2).block ≠ b := by
          have := cell_lt (hc.at hlt')
          omega
        have hca2 : ∀ x y, ((wr.setCell ⟨b, l2, none⟩ x).setCell ⟨b, l2, none⟩ y).cell? (a.add l2) = some (.int .u64 (Pk.pack p l2)) := fun x y => by
          rw [← hca]
          exact (World.cell?_of_block (Below.heap_setCell _ _ _ _ hab)).trans (World.cell?_of_block (Below.heap_setCell _ _ _ _ hab))
        go_wp2
        go_roundw
        case rel => exact ⟨l2, by omega, by
          cases l2 with
          | zero => exact .inl ⟨rfl, rfl⟩
          | succ l3 => exact .inr ⟨l3, rfl, by go_num⟩, rfl, hrk.set2 _ (by
          rw [pack_down]
          exact Pk.pack_congr fun j hj => by rw [if_pos (by omega)]) (fun i hi hne => by
          by_cases h : 64 * (l2 + 1) ≤ i
          · rw [if_pos h, if_pos (by omega)]
          · rw [if_neg h, if_neg (by omega)]), gb_set (gb_set hgk _ _) _ _⟩
        case measure => simp [intOf] <;> omega

end Go.Proofs.YtcdefpfnjjahgaaDoor
