/- The document's Bits, Set, Get. -/
import Derived.Test.YtcdefpfnjjahgaaW34
import Derived.Test.YtcdefpfnjjahgaaW38
namespace Go.Proofs.Ytcdefpfnjjahgaa
open Go.RowKit
set_option linter.unusedVariables false
set_option linter.unusedSimpArgs false

set_option maxRecDepth 100000 in
set_option maxHeartbeats 4000000 in
theorem refBitsC (m n cap : Nat) (sp : Option Addr) (f : Nat → Nat) (hf : ∀ k, k < n → f k < 18446744073709551616) (hm : m ≤ 65538) (hn : n = (m + 63) / 64) (w : World) (hc : Wd w sp n f) :
    Calls Try.prog 35 #[.agg #[.int .i64 m, .slice sp n cap]] w fun e w' => ∃ b, e = .returned (.slice (some ⟨b, 0, none⟩) m m) ∧ w'.rowIs b 4 m (fun i => .bool (Pk.bitAt f i)) ∧ w.heap.size ≤ b ∧ w.grownBy w' none := by
  obtain ⟨W1, hW, c0, c1, sz, hg, hB⟩ := box2 w (.int .i64 m) (.slice sp n cap) 25
  obtain ⟨mc, hmk, hmc⟩ := madeB m (by omega)
  obtain ⟨W2, hW2⟩ : ∃ W2, W1.alloc (.cells mc 4) = W2 := ⟨_, rfl⟩
  have g2 : W1.grownBy W2 none := by rw [← hW2]; exact World.grownBy_alloc _ _ _
  have hr2 : W2.rowIs W1.heap.size 4 m (fun _ => .bool false) := by rw [← hW2]; exact hmc W1
  have hs : w.heap.size < W1.heap.size := by have := sz.out; omega
  have hB2 := hB.kept g2 (by simp)
  have hnl : n ≤ 1025 := by omega
  have hmn : m ≤ 64 * n := by omega
  have hbit := fun i hi w h => refBitC (m : Int) i n cap sp f hf hi hnl w h
  clear hn hf
  have lr := hr2.lt
  go_enter Try.func35, Try.ntmps35
  go_wp2
  go_loopw [4] (fun v wr => ∃ k : Nat, k ≤ m ∧ v = .int .i64 k ∧ (∃ F, wr.rowIs W1.heap.size 4 m F ∧ Hid (∀ j, j < k → F j = .bool (Pk.bitAt f j))) ∧ W2.grownBy wr (some W1.heap.size)) (fun v _ => m - (intOf v).toNat)
  case atStart => exact ⟨0, Nat.zero_le _, rfl, ⟨_, hr2, fun j hj => absurd hj (Nat.not_lt_zero _)⟩, World.grownBy.refl _ _⟩
  case round =>
    obtain ⟨k, hk, rfl, ⟨F, hR, HF⟩, hgk⟩ := hrel
    have hBk := hB2.kept hgk (fun e => by have := Option.some.inj e; omega)
    have y0 := hBk.cell0
    have y1 := hBk.cell1
    by_cases hlt : k < m
    · have hlt' : (k : Int) < (m : Int) := by omega
      have hwd : Wd wr sp n f := (hc.kept (gb_trans hg g2) (by simp)).kept hgk (fun a e h => by
        have h' := Option.some.inj h
        obtain ⟨a', e1, e2⟩ := hc 0 (by omega)
        rw [e] at e1; cases e1
        have := cell_lt e2
        have e3 : (a.add 0).block = a.block := by obtain ⟨b, o, sp⟩ := a; cases sp <;> rfl
        omega)
      have hb9 := hbit k (by omega) wr hwd
      go_wp2_with (go_at_call 36; refine hb9.mono ?_; rintro e w3 ⟨rfl, g3⟩; have hR3 := rowIs_kept hR g3 (by simp); have u0 := hR3.cell (i := k) hlt; have u1 := hR3.frozen k)
      refine ⟨⟨k + 1, by omega, by go_num, ⟨_, World.rowIs.set hR3 k _, fun j hj => ?_⟩, gb_set (gb_none hgk g3) _ _⟩, ?_⟩
      · by_cases e : j = k
        · rw [if_pos e, e]
        · rw [if_neg e]; exact HF.out j (by omega)
      · simp [intOf]; omega
    · have hlt' : ¬ (k : Int) < (m : Int) := by omega
      go_wp2
      go_ret
      exact ⟨_, rfl, hR.congr fun i hi => HF.out i (by omega), by omega, gb_past (gb_trans hg g2) hgk (by omega)⟩
theorem bd_set {w : World} {b m : Nat} {q : Nat → Bool} (h : w.rowIs b 4 m (fun i => .bool (q i))) (j : Nat) (on : Bool) : Bd (w.setCell ⟨b, j, none⟩ (.bool on)) (some ⟨b, 0, none⟩) m (fun i => if i = j then on else q i) := fun k hk => ⟨_, rfl, by
  rw [add_mid, Nat.zero_add, (World.rowIs.set h j (.bool on)).cell (i := k) hk]
  by_cases e : k = j
  · simp [e]
  · simp [e]⟩
theorem Bx.setFar {w : World} {g b j : Nat} {t : TypeId} {x y : Value} (h : Bx w g t x y) (hne : g ≠ b) (v : Value) : Bx (w.setCell ⟨b, j, none⟩ v) g t x y := (Below.heap_setCell _ _ _ _ hne).trans h
/-- The row with a bit set. -/
def setAns (N : Int) (n : Nat) (f : Nat → Nat) (i : Int) (on : Bool) : Ans := if validB N n f = false then noAns 20 else if i < 0 ∨ N ≤ i then noAns 2 else okAns N.toNat (fun j => decide (j < N.toNat) && (if (j : Int) = i then on else Pk.bitAt f j))
set_option maxRecDepth 100000 in
set_option maxHeartbeats 4000000 in
theorem refSetU (N : Int) (n cap : Nat) (sp : Option Addr) (f : Nat → Nat) (hf : ∀ k, k < n → f k < 18446744073709551616) (hn : n ≤ 9223372036854775807) (i : Int) (on : Bool) (w : World) (hc : Wd w sp n f) :
    Calls Try.prog 16 #[.agg #[.int .i64 N, .slice sp n cap], .int .i64 i, .bool on] w (Made (setAns N n f i on) w) := by
  obtain ⟨W0, hW0, c0, c1, sz0, g0, B0⟩ := box2 w (.int .i64 N) (.slice sp n cap) 25
  obtain ⟨W1, hW1, d0, d1, sz1, g1, B1⟩ := box2 W0 (.int .i64 0) (.slice none 0 0) 25
  have gg := gb_trans g0 g1
  have B01 := B0.kept g1 (by simp)
  have x0 := B01.cell0
  have x1 := B01.cell1
  obtain ⟨fs, hfs⟩ := underR
  have hv := refValidC N n cap sp f hf hn W1 (hc.kept gg (by simp))
  cases hvb : validB N n f with
  | false =>
    rw [hvb] at hv
    unfold setAns
    rw [if_pos hvb]
    clear hvb
    go_enter Try.func16, Try.ntmps16
    go_wp2_with (go_at_call 17; refine hv.mono ?_; rintro e w2 ⟨rfl, g2⟩; have B2 := B1.kept g2 (by simp); have y2 := B2.free0; have y3 := B2.free1; have y0 := B2.cell0; have y1 := B2.cell1)
    refine ret_box2 (g := W0.heap.size) (t := 25) rfl hfs infoR rfl (B2.set _ _) rfl ?_
    exact made_bad 20 (gb_new (gb_new (gb_trans gg g2) g0.size _) g0.size _)
  | true =>
    rw [hvb] at hv
    obtain ⟨m, p, rfl, M, hp⟩ := may_of_validB hf hvb
    by_cases hi0 : i < 0
    · have hd0 : decide (i < 0) = true := by simp; omega
      unfold setAns
      rw [if_neg (by rw [hvb]; simp), if_pos (by omega)]
      clear hvb
      go_enter Try.func16, Try.ntmps16
      go_wp2_with (go_at_call 17; refine hv.mono ?_; rintro e w2 ⟨rfl, g2⟩; have B2 := B1.kept g2 (by simp); have B02 := B01.kept g2 (by simp); have y2 := B2.free0; have y3 := B2.free1; have y0 := B2.cell0; have y1 := B2.cell1; have x2 := B02.cell0; have x3 := B02.cell1)
      refine ret_box2 (g := W0.heap.size) (t := 25) rfl hfs infoR rfl (B2.set _ _) rfl ?_
      exact made_bad 2 (gb_new (gb_new (gb_trans gg g2) g0.size _) g0.size _)
    · have hd0 : decide (i < 0) = false := by simp; omega
      by_cases hi1 : (m : Int) ≤ i
      · have hd1 : decide ((m : Int) ≤ i) = true := by simp; omega
        unfold setAns
        rw [if_neg (by rw [hvb]; simp), if_pos (by omega)]
        clear hvb
        go_enter Try.func16, Try.ntmps16
        go_wp2_with (go_at_call 17; refine hv.mono ?_; rintro e w2 ⟨rfl, g2⟩; have B2 := B1.kept g2 (by simp); have B02 := B01.kept g2 (by simp); have y2 := B2.free0; have y3 := B2.free1; have y0 := B2.cell0; have y1 := B2.cell1; have x2 := B02.cell0; have x3 := B02.cell1)
        refine ret_box2 (g := W0.heap.size) (t := 25) rfl hfs infoR rfl (B2.set _ _) rfl ?_
        exact made_bad 2 (gb_new (gb_new (gb_trans gg g2) g0.size _) g0.size _)
      · obtain ⟨j, rfl⟩ : ∃ j : Nat, i = j := ⟨i.toNat, by omega⟩
        have hd1 : decide ((m : Int) ≤ (j : Int)) = false := by simp; omega
        have hjm : (j : Int) < (m : Int) := by omega
        have hjm' : j < m := by omega
        have hbits := fun w h => refBitsC m n cap sp f hf M.le M.words w h
        have hrow := fun w b h => refRowC m m (some ⟨b, 0, none⟩) (fun q => if q = j then on else Pk.bitAt f q) M.le w h
        have eA : setAns (m : Int) n f (j : Int) on = okAns m (fun q => decide (q < m) && (if q = j then on else Pk.bitAt f q)) := by
          unfold setAns
          rw [if_neg (by rw [hvb]; simp), if_neg (by omega), Int.toNat_natCast]
          congr 1
          funext q
          by_cases e : q = j
          · rw [if_pos (by omega), if_pos e]
          · rw [if_neg (by omega), if_neg e]
        rw [eA]
        obtain ⟨c, hcc⟩ : ∃ c : Nat, Hid (c = (m + 63) / 64) := ⟨_, rfl⟩
        rw [← hcc.out] at hrow
        clear hvb eA
        go_enter Try.func16, Try.ntmps16
        go_wp2_with (first
          | (go_at_call 17; refine hv.mono ?_; rintro e w2 ⟨rfl, g2⟩; have B2 := B1.kept g2 (by simp); have B02 := B01.kept g2 (by simp); have x2 := B02.cell0; have x3 := B02.cell1)
          | (go_at_call 35; refine (hbits w2 ((hc.kept gg (by simp)).kept g2 (by simp))).mono ?_; rintro e w3 ⟨b, rfl, hr3, hb3, g3⟩; have u0 := hr3.cell (i := j) hjm'; have u1 := hr3.frozen j)
          | (go_at_call 31; refine (hrow _ b (bd_set hr3 j on)).mono ?_; rintro e w4 ⟨b4, rfl, hr4, g4, hb4⟩; have B4 := (((B2.kept g3 (by simp)).setFar (j := j) (by have := g2.size; have := B2.lt; omega) (.bool on))).kept g4 (by simp); have y2 := B4.free0; have y3 := B4.free1; have y0 := B4.cell0; have y1 := B4.cell1))
        refine ret_box2 (g := W0.heap.size) (t := 25) rfl hfs infoR rfl (B4.set _ _) rfl ?_
        have s2 := g2.size
        have s3 := g3.size
        have sg := gg.size
        have s1 := B1.lt
        have sw : (w3.setCell ⟨b, j, none⟩ (.bool on)).heap.size = w3.heap.size := by simp [World.setCell]
        have s0 := g0.size
        have hne : b4 ≠ W0.heap.size := by omega
        have G := gb_new (gb_trans gg (gb_trans g2 g3)) (a := ⟨b, j, none⟩) (by show w.heap.size ≤ b; omega) (.bool on)
        have hr5 := World.rowIs.setOther (World.rowIs.setOther hr4 (a := ⟨W0.heap.size, 0, none⟩) hne (.int .i64 m)) (a := ⟨W0.heap.size, 1, none⟩) hne (.slice (some ⟨b4, 0, none⟩) c c)
        have hg5 := gb_new (gb_new (gb_trans G g4) (a := ⟨W0.heap.size, 0, none⟩) s0 (.int .i64 m)) (a := ⟨W0.heap.size, 1, none⟩) s0 (.slice (some ⟨b4, 0, none⟩) c c)
        rw [hcc.out] at hr5 hg5 ⊢
        exact made_ok hr5 hg5 (by omega)
end Go.Proofs.Ytcdefpfnjjahgaa
