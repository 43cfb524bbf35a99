/- What Up of package words answers. -/
import Derived.Test.YtcdefpfnjjahgabW4
import Derived.Test.YtcdefpfnjjahgabPack2
import Derived.Deep.RegionHeld2
namespace Go.Proofs.Ytcdefpfnjjahgab
open Go.RowKit
set_option linter.unusedVariables false

theorem Row.set2 {w : World} {t : TypeId} {b n : Nat} {p q : Nat → Bool} {k : Nat} {x : Nat} (h : Row w t b n p) (v0 : Value) (hx : x = Pk.pack q k) (e : ∀ i, i < 64 * n → i / 64 ≠ k → p i = q i) : Row ((w.setCell ⟨b, k, none⟩ v0).setCell ⟨b, k, none⟩ (.int .u64 x)) t b n q :=
  (World.rowIs.set (World.rowIs.set h k v0) k _).congr fun j hj => by
    by_cases hjk : j = k
    · subst hjk; simp [hx]
    · simp only [hjk, if_false]
      rw [Pk.pack_congr (p := p) (q := q) fun i hi => e _ (by omega) (by omega)]

theorem far2 {w : World} {g b o : Nat} {x y v : Value} (h : w.cell? ⟨b, o, none⟩ = some v) (hne : b ≠ g) : ((w.setCell ⟨g, 0, none⟩ x).setCell ⟨g, 1, none⟩ y).cell? ⟨b, o, none⟩ = some v := by
  have e : ((w.setCell ⟨g, 0, none⟩ x).setCell ⟨g, 1, none⟩ y).heap[b]? = w.heap[b]? := (Below.heap_setCell _ _ _ _ hne).trans (Below.heap_setCell _ _ _ _ hne)
  rw [← h]
  exact World.cell?_of_block (w := w) e

/-- The row one place up. -/
def upQ (m : Nat) (i : Bool) (p : Nat → Bool) (j : Nat) : Bool := decide (j < m) && (if j = 0 then i else p (j - 1))
def upOut (m : Nat) (i : Bool) (p : Nat → Bool) : Bool := if m = 0 then i else p (m - 1)


set_option maxHeartbeats 1000000 in
theorem upC (m n cap : Nat) (sp : Option Addr) (p : Nat → Bool) (M : MayBe m n p) (i : Bool) (w : World) (hc : Wd w sp n (Pk.pack p)) :
    Calls Try.prog 28 #[.agg #[.int .i64 m, .slice sp n cap], .bool i] w fun e w' => ∃ b, e = .returned (.tuple #[.agg #[.int .i64 m, .slice (some ⟨b, 0, none⟩) n n], .bool (upOut m i p), .int .i64 0]) ∧ Row w' 22 b n (upQ m i p) ∧ w.grownBy w' none ∧ w.heap.size ≤ b := by
  obtain ⟨W1, hW, c0, c1, sz, hg1, hB⟩ := box2 w (.int .i64 m) (.slice sp n cap) 31
  obtain ⟨W2, hW2, d0, d1, sz2, hg2, hD⟩ := box2 W1 (.int .i64 0) (.slice none 0 0) 31
  have hc2 := (hc.kept hg1 (by simp)).kept hg2 (by simp)
  have hB2 := hB.kept hg2 (by simp)
  have e0 := hB2.cell0
  have e1 := hB2.cell1
  have hnl := M.len
  have ml := M.le
  have mw : Hid (n = (m + 63) / 64) := M.words
  have hs1 : Hid (W1.heap.size = w.heap.size + 1) := sz
  by_cases h0 : m = 0
  · have h0' : ((m : Int) == 0) = true := by simp; omega
    have H0 : Hid (m = 0) := h0
    clear h0
    go_enter Try.func28, Try.ntmps28
    go_wp2_with (first | (go_at_call 41; refine (validP m n cap sp p M W2 hc2).mono ?_; rintro e w3 ⟨rfl, g3⟩; have hB3 := hB2.kept g3 (by simp); have x0 := hB3.cell0; have x1 := hB3.cell1; have hc3 := hc2.kept g3 (by simp)) | (go_at_call 40; refine (copiedC m n cap sp p ml mw.out w3 hc3).mono ?_; rintro e w4 ⟨b, rfl, hr, g4, hlt, hlt2⟩; obtain ⟨W5, hW5, y0, y1, sz5, g5, hU⟩ := box2 w4 (.int .i64 m) (.slice (some ⟨b, 0, none⟩) n n) 31; have g45 := gb_trans g4 g5; have hB5 := hB3.kept g45 (by simp); have z0 := hB5.cell0; have z1 := hB5.cell1; have hD5 := (hD.kept g3 (by simp)).kept g45 (by simp); have v0 := hD5.cell0; have v1 := hD5.cell1; have v2 := hD5.free0; have v3 := hD5.free1))
    have q1 := sz.out
    have q2 := sz2.out
    have q3 := g3.size
    have hne : b ≠ W1.heap.size := by omega
    obtain ⟨fs, hfs⟩ := underR
    refine ret_box3 (g := W1.heap.size) (t := 31) rfl hfs infoR rfl (hD5.set _ _) rfl ?_
    have G : w.grownBy W5 none := gb_trans hg1 (gb_trans hg2 (gb_trans g3 g45))
    refine ⟨b, by unfold upOut; rw [if_pos H0.out]; rfl, ?_, gb_new (gb_new G (by show w.heap.size ≤ W1.heap.size; omega) _) (by show w.heap.size ≤ W1.heap.size; omega) _, by omega⟩
    refine Row.congr (p := p) (World.rowIs.setOther (World.rowIs.setOther (rowIs_kept hr g5 (by simp)) hne _) hne _) fun i hi => ?_
    have := mw.out
    have := H0.out
    omega
  · have h0' : ((m : Int) == 0) = false := by simp; omega
    go_enter Try.func28, Try.ntmps28
    go_wp2_with (first | (go_at_call 41; refine (validP m n cap sp p M W2 hc2).mono ?_; rintro e w3 ⟨rfl, g3⟩; have hB3 := hB2.kept g3 (by simp); have x0 := hB3.cell0; have x1 := hB3.cell1; have hc3 := hc2.kept g3 (by simp)) | (go_at_call 40; refine (copiedC m n cap sp p ml mw.out w3 hc3).mono ?_; rintro e w4 ⟨b, rfl, hr, g4, hlt, hlt2⟩; obtain ⟨W5, hW5, y0, y1, sz5, g5, hU⟩ := box2 w4 (.int .i64 m) (.slice (some ⟨b, 0, none⟩) n n) 31; have g45 := gb_trans g4 g5; have hB5 := hB3.kept g45 (by simp); have z0 := hB5.cell0; have z1 := hB5.cell1))
    have hc5 := hc3.kept g45 (by simp)
    have hr5 := hr.kept g5 (by simp)
    have hD5 := (hD.kept g3 (by simp)).kept g45 (by simp)
    have q1 : w.heap.size < W1.heap.size := by have := sz.out; omega
    have q2 : W1.heap.size < W2.heap.size := by have := sz2.out; omega
    have q3 := g3.size
    have q4 := hlt2.out
    have q5 := g4.size
    obtain ⟨l, hl⟩ : ∃ l, Hid (m = l + 1) := ⟨m - 1, by unfold Hid; omega⟩
    have hml : (m : Int) - 1 = (l : Int) := by have := hl.out; omega
    have hmw : IntKind.i64.wrap ((m : Int) - 1) = (l : Int) := by rw [hml, IntKind.wrap_i64]; have := hl.out; omega
    have hmx : IntKind.i64.wrap (l : Int) = (l : Int) := by rw [IntKind.wrap_i64]; have := hl.out; omega
    go_loopw [8, 25] (fun c i wr => ∃ k : Nat, k ≤ n ∧ i = .int .i64 k ∧ c = .int .u64 (Pk.car p k) ∧ Row wr 22 b n (fun j => if j < 64 * k then Pk.upP p j else p j) ∧ W5.grownBy wr (some b)) (fun _ i _ => n - (intOf i).toNat)
    case atStart => exact ⟨0, Nat.zero_le _, rfl, rfl, hr5.congr fun j hj => by simp, World.grownBy.refl _ _⟩
    case round =>
      obtain ⟨k, hk, rfl, rfl, hrk, hgk⟩ := hrel
      have hUk := hU.kept hgk (by simp; omega)
      have u0 := hUk.cell0
      have u1 := hUk.cell1
      by_cases hlt' : k < n
      · obtain ⟨a, rfl⟩ := hc.some (by omega)
        have hca := hgk.cell (hc5.at hlt') (by
          have := cell_lt (hc.at hlt')
          simp; omega)
        have hek : Pk.pack (fun j => if j < 64 * k then Pk.upP p j else p j) k = Pk.pack p k := Pk.pack_congr fun j hj => by rw [if_neg (by omega)]
        have hkc := World.rowIs.cell hrk hlt'
        have hkf := World.rowIs.frozen hrk k
        simp only [hek] at hkc
        have hkl : (k : Int) < (n : Int) := by omega
        have hsh : IntKind.u64.wrap ((Pk.pack p k : Int) * 2) = (Pk.shl (Pk.pack p k) : Int) := by rw [IntKind.wrap_u64]; unfold Pk.shl; omega
        have htp : (Pk.pack p k : Int) / 9223372036854775808 = (Pk.top (Pk.pack p k) : Int) := by unfold Pk.top; omega
        have hcl := Pk.car_lt p k
        have hor := bits_or_u64_nat (Pk.shl (Pk.pack p k)) (Pk.car p k) (Pk.shl_lt _) (by omega)
        go_wp2
        go_roundw
        case rel => exact ⟨k + 1, by omega, by go_num, rfl, hrk.set2 _ (by
          rw [Pk.pack_up]
          exact Pk.pack_congr fun j hj => by rw [if_pos (by omega)]) (fun i hi hne => by
          by_cases h : i < 64 * k
          · rw [if_pos h, if_pos (by omega)]
          · rw [if_neg h, if_neg (by omega)]), gb_set (gb_set hgk _ _) _ _⟩
        case measure => simp [intOf]; omega
      · have hkn : k = n := by omega
        have hlt'' : ¬ (k : Int) < (n : Int) := by omega
        have hrn : Row wr 22 b n (Pk.upP p) := hrk.congr fun j hj => by rw [if_pos (by omega)]
        have hcr := cutC m b n n (Pk.upP p) ml mw.out wr hrn
        have hDr := hD5.kept hgk (by simp; omega)
        have hBr := hB5.kept hgk (by simp; omega)
        have hcw : Wd wr sp n (Pk.pack p) := hc5.kept hgk (fun a ha => by
          subst ha
          have := cell_lt (hc.at (k := 0) (by have := mw.out; omega))
          have hb0 : (a.add 0).block = a.block := rfl
          rw [hb0] at this
          simp; omega)
        clear hkn
        have hwb : w.heap.size ≤ b := by omega
        have hG5 : w.grownBy W5 none := gb_trans hg1 (gb_trans hg2 (gb_trans g3 g45))
        have hGr : w.grownBy wr none := gb_past hG5 hgk hwb
        have hbD : b ≠ W1.heap.size := by omega
        have FIN : ∀ (W w8 : World) (q : Nat → Bool), Row W 22 b n q → (∀ j, j < 64 * n → q j = upQ m i p j) → w.grownBy W none → W.grownBy w8 none →
            ∃ b', Ending.returned (.tuple #[.agg #[.int .i64 m, .slice (some ⟨b, 0, none⟩) n n], .bool (p l), .int .i64 0]) = .returned (.tuple #[.agg #[.int .i64 m, .slice (some ⟨b', 0, none⟩) n n], .bool (upOut m i p), .int .i64 0]) ∧
              Row ((w8.setCell ⟨W1.heap.size, 0, none⟩ (.int .i64 m)).setCell ⟨W1.heap.size, 1, none⟩ (.slice (some ⟨b, 0, none⟩) n n)) 22 b' n (upQ m i p) ∧
              w.grownBy ((w8.setCell ⟨W1.heap.size, 0, none⟩ (.int .i64 m)).setCell ⟨W1.heap.size, 1, none⟩ (.slice (some ⟨b, 0, none⟩) n n)) none ∧ w.heap.size ≤ b' := by
          intro W w8 q hq he hW hw8
          refine ⟨b, ?_, ?_, gb_new (gb_new (gb_trans hW hw8) (Nat.le_of_lt q1) _) (Nat.le_of_lt q1) _, hwb⟩
          · unfold upOut
            rw [if_neg h0, hl.out, Nat.add_sub_cancel]
          · exact Row.congr (World.rowIs.setOther (World.rowIs.setOther (Row.kept hq hw8 (by simp)) hbD _) hbD _) he
        cases i with
        | false =>
          go_wp2_with (first | (go_at_call 39; refine hcr.mono ?_; rintro e W ⟨rfl, hr6, g6⟩; have hU7 := hUk.kept g6 (by simp; omega); have s0 := hU7.cell0; have s1 := hU7.cell1; have hB7 := hBr.kept g6 (by simp; omega); have t0 := hB7.cell0; have t1 := hB7.cell1; have hD7 := hDr.kept g6 (by simp; omega); have hcW := hcw.kept g6 (by intro a ha; subst ha; have := cell_lt (hc.at (k := 0) (by have := mw.out; omega)); have hb0 : (a.add 0).block = a.block := rfl; rw [hb0] at this; simp; omega)))
          have hWc : Wd W.drew sp n (Pk.pack p) := hcW
          have hGW : w.grownBy W none := gb_past hGr g6 hwb
          have FN := fun w8 hw8 => FIN W w8 _ hr6 (fun j hj => by
            unfold Pk.upP upQ
            by_cases hj0 : j = 0
            · simp [hj0]
            · simp [hj0, Bool.and_comm]) hGW hw8
          clear FIN hcr
          have n1 : w4.heap.size ≠ W1.heap.size := by omega
          have n2 : w.heap.size ≠ W1.heap.size := by omega
          go_region_held2 (fun w' => w'.cell? ⟨w4.heap.size, 0, none⟩ = some (.int .i64 m) ∧ w'.cell? ⟨w4.heap.size, 1, none⟩ = some (.slice (some ⟨b, 0, none⟩) n n) ∧ w'.cell? ⟨w.heap.size, 0, none⟩ = some (.int .i64 m) ∧ w'.cell? ⟨w.heap.size, 1, none⟩ = some (.slice sp n cap)) (first | go_keep | exact ⟨far2 (by assumption) (by assumption), far2 (by assumption) (by assumption), far2 (by assumption) (by assumption), far2 (by assumption) (by assumption)⟩) (first | (go_at_call 43; refine (hasC m l n cap sp p (by have := hl.out; have := mw.out; omega) hnl W.drew hWc).mono ?_; rintro e w8 ⟨rfl, g8⟩; have g8' : W.grownBy w8 none := ⟨g8.os, g8.tape, g8.output, g8.size, g8.block⟩; have hU8 := hU7.kept g8' (by simp); have r0 := hU8.cell0; have r1 := hU8.cell1; have hB8 := hB7.kept g8' (by simp); have r6 := hB8.cell0; have r7 := hB8.cell1; have hD8 := hD7.kept g8' (by simp); have r2 := hD8.cell0; have r3 := hD8.cell1; have r4 := hD8.free0; have r5 := hD8.free1))
          go_wp2
          obtain ⟨fs, hfs⟩ := underR
          refine ret_box3 (g := W1.heap.size) (t := 31) rfl hfs infoR rfl (hD8.set _ _) rfl ?_
          exact FN w8 g8'
        | true =>
          go_wp2_with (first | (go_at_call 39; refine hcr.mono ?_; rintro e w6 ⟨rfl, hr5', g5'⟩; have hU6 := hUk.kept g5' (by simp; omega); have s0' := hU6.cell0; have s1' := hU6.cell1; have h64 : 0 < 64 * n := by have := mw.out; omega) | (go_at_call 42; refine (raiseC m 0 b n n _ h64 hnl w6 hr5').mono ?_; rintro e W ⟨rfl, hr6, g6'⟩; have g6 := gb_trans g5' g6'; have hU7 := hUk.kept g6 (by simp; omega); have s0 := hU7.cell0; have s1 := hU7.cell1; have hB7 := hBr.kept g6 (by simp; omega); have t0 := hB7.cell0; have t1 := hB7.cell1; have hD7 := hDr.kept g6 (by simp; omega); have hcW := hcw.kept g6 (by intro a ha; subst ha; have := cell_lt (hc.at (k := 0) (by have := mw.out; omega)); have hb0 : (a.add 0).block = a.block := rfl; rw [hb0] at this; simp; omega)))
          have hWc : Wd W.drew sp n (Pk.pack p) := hcW
          have hGW : w.grownBy W none := gb_past hGr g6 hwb
          have FN := fun w8 hw8 => FIN W w8 _ hr6 (fun j hj => by
            unfold Pk.upP upQ
            by_cases hj0 : j = 0
            · have : 0 < m := by omega
              simp [hj0, this]
            · have e1 : (j == 0) = false := by simp [hj0]
              simp [hj0, e1, Bool.and_comm]) hGW hw8
          clear FIN hcr
          have n1 : w4.heap.size ≠ W1.heap.size := by omega
          have n2 : w.heap.size ≠ W1.heap.size := by omega
          go_region_held2 (fun w' => w'.cell? ⟨w4.heap.size, 0, none⟩ = some (.int .i64 m) ∧ w'.cell? ⟨w4.heap.size, 1, none⟩ = some (.slice (some ⟨b, 0, none⟩) n n) ∧ w'.cell? ⟨w.heap.size, 0, none⟩ = some (.int .i64 m) ∧ w'.cell? ⟨w.heap.size, 1, none⟩ = some (.slice sp n cap)) (first | go_keep | exact ⟨far2 (by assumption) (by assumption), far2 (by assumption) (by assumption), far2 (by assumption) (by assumption), far2 (by assumption) (by assumption)⟩) (first | (go_at_call 43; refine (hasC m l n cap sp p (by have := hl.out; have := mw.out; omega) hnl W.drew hWc).mono ?_; rintro e w8 ⟨rfl, g8⟩; have g8' : W.grownBy w8 none := ⟨g8.os, g8.tape, g8.output, g8.size, g8.block⟩; have hU8 := hU7.kept g8' (by simp); have r0 := hU8.cell0; have r1 := hU8.cell1; have hB8 := hB7.kept g8' (by simp); have r6 := hB8.cell0; have r7 := hB8.cell1; have hD8 := hD7.kept g8' (by simp); have r2 := hD8.cell0; have r3 := hD8.cell1; have r4 := hD8.free0; have r5 := hD8.free1))
          go_wp2
          obtain ⟨fs, hfs⟩ := underR
          refine ret_box3 (g := W1.heap.size) (t := 31) rfl hfs infoR rfl (hD8.set _ _) rfl ?_
          exact FN w8 g8'

end Go.Proofs.Ytcdefpfnjjahgab
