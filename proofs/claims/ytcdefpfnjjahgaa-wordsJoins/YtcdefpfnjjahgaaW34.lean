/- New and Of, the program's and the document's, in one form. -/
import Derived.Test.YtcdefpfnjjahgaaW10
import Derived.Test.YtcdefpfnjjahgaaW33
namespace Go.Proofs.Ytcdefpfnjjahgaa
open Go.RowKit
set_option linter.unusedVariables false
set_option linter.unusedSimpArgs false

/-- What a call that makes a row leaves. -/
def Made (a : Ans) (w : World) (e : Ending) (w' : World) : Prop := ∃ sp, e = .returned (.tuple #[.agg #[.int .i64 a.N, .slice sp a.c a.c], .int .i64 a.e]) ∧ Gr w' sp a.c a.f ∧ (∀ x, sp = some x → w.heap.size ≤ x.block) ∧ w.grownBy w' none
theorem gr_row {w : World} {b c : Nat} {p : Nat → Bool} (h : Row w 55 b c p) : Gr w (some ⟨b, 0, none⟩) c (Pk.pack p) := .inr ⟨b, rfl, h⟩
def noAns (e : Int) : Ans := ⟨0, 0, e, fun _ => 0⟩
def okAns (m : Nat) (p : Nat → Bool) : Ans := ⟨(m : Int), (m + 63) / 64, 0, Pk.pack p⟩
theorem made_bad {w w' : World} (e : Int) (hg : w.grownBy w' none) : Made (noAns e) w (.returned (.tuple #[.agg #[.int .i64 0, .slice none 0 0], .int .i64 e])) w' := ⟨none, rfl, .inl ⟨rfl, rfl⟩, (fun x h => by cases h), hg⟩
theorem made_ok {w w' : World} {b m : Nat} {p : Nat → Bool} (hr : Row w' 55 b ((m + 63) / 64) p) (hg : w.grownBy w' none) (hb : w.heap.size ≤ b) : Made (okAns m p) w (.returned (.tuple #[.agg #[.int .i64 m, .slice (some ⟨b, 0, none⟩) ((m + 63) / 64) ((m + 63) / 64)], .int .i64 0])) w' := ⟨some ⟨b, 0, none⟩, rfl, .inr ⟨b, rfl, hr⟩, (fun x h => by cases h; exact hb), hg⟩
def newAns (n : Int) : Ans := if 0 ≤ n ∧ n ≤ 65538 then okAns n.toNat (fun _ => false) else noAns 2
def ofAns (n : Nat) (g : Nat → Bool) : Ans := if n ≤ 65538 then okAns n (fun i => decide (i < n) && g i) else noAns 6
theorem newAns_yes {m : Nat} (h : m ≤ 65538) : newAns (m : Int) = okAns m (fun _ => false) := by unfold newAns; rw [if_pos (by omega), Int.toNat_natCast]
theorem newAns_no {n : Int} (h : ¬ (0 ≤ n ∧ n ≤ 65538)) : newAns n = noAns 2 := if_neg h
theorem ofAns_yes {n : Nat} (g : Nat → Bool) (h : n ≤ 65538) : ofAns n g = okAns n (fun i => decide (i < n) && g i) := if_pos h
theorem ofAns_no {n : Nat} (g : Nat → Bool) (h : ¬ n ≤ 65538) : ofAns n g = noAns 6 := if_neg h
/-- An answer that may be: few words, each a word; Valid says yes. -/
structure Fine (a : Ans) : Prop where
  c : a.c ≤ 1025
  lt : ∀ k, k < a.c → a.f k < 18446744073709551616
  ok : validB a.N a.c a.f = true
theorem fine_no (e : Int) : Fine (noAns e) := ⟨Nat.zero_le _, fun k hk => absurd hk (Nat.not_lt_zero _), by show validB 0 0 _ = true; simp [validB]⟩
theorem fine_ok {m : Nat} {p : Nat → Bool} (h : m ≤ 65538) (hp : ∀ i, m ≤ i → p i = false) : Fine (okAns m p) := ⟨by show (m + 63) / 64 ≤ 1025; omega, fun k _ => Pk.pack_lt _ _, validB_may (m := m) (n := (m + 63) / 64) (p := p) ⟨h, rfl, hp⟩⟩
theorem fine_new (n : Int) : Fine (newAns n) := by
  by_cases h : 0 ≤ n ∧ n ≤ 65538
  · obtain ⟨m, rfl⟩ : ∃ m : Nat, n = m := ⟨n.toNat, by omega⟩
    rw [newAns_yes (by omega)]
    exact fine_ok (by omega) (fun _ _ => rfl)
  · rw [newAns_no h]; exact fine_no _
theorem fine_of (n : Nat) (g : Nat → Bool) : Fine (ofAns n g) := by
  by_cases h : n ≤ 65538
  · rw [ofAns_yes g h]
    exact fine_ok h (fun i hi => by rw [decide_eq_false (by omega)]; rfl)
  · rw [ofAns_no g h]; exact fine_no _
theorem newU (n : Int) (w : World) : Calls Try.prog 8 #[.int .i64 n] w (Made (newAns n) w) := by
  by_cases h : 0 ≤ n ∧ n ≤ 65538
  · obtain ⟨m, rfl⟩ : ∃ m : Nat, n = m := ⟨n.toNat, by omega⟩
    rw [newAns_yes (by omega)]
    refine (newC m (by omega) w).mono ?_
    rintro e w' ⟨b, rfl, hr, hg, hb⟩
    exact made_ok hr hg hb
  · rw [newAns_no h]
    refine (newBad n (by omega) w).mono ?_
    rintro e w' ⟨rfl, hg⟩
    exact made_bad 2 hg
theorem ofU (n cap : Nat) (sp : Option Addr) (g : Nat → Bool) (hn : n ≤ 9223372036854775807) (w : World) (hb : Bd w sp n g) : Calls Try.prog 9 #[.slice sp n cap] w (Made (ofAns n g) w) := by
  by_cases h : n ≤ 65538
  · rw [ofAns_yes g h]
    refine (ofC n cap sp g h w hb).mono ?_
    rintro e w' ⟨b, rfl, hr, hg, hb⟩
    exact made_ok hr hg hb
  · rw [ofAns_no g h]
    refine (ofBig n cap sp (by omega) hn w).mono ?_
    rintro e w' ⟨rfl, hg⟩
    exact made_bad 6 hg
theorem infoBq : (Try.prog.info? 4).map (fun i => (i.zero, i.size, i.bytes)) = some (some (.bool false), 1, 1) := by kernel_rfl
theorem underBq : Try.prog.underlying 29 = some (.slice 4) := by kernel_rfl
theorem madeB (n : Nat) (hn : n ≤ 1000000) : ∃ mc : Array Value, (∀ w, (Instr.makeSlice 29 (.int .i64 n) (.int .i64 n)).run Try.prog w = .ok (.slice (some ⟨w.heap.size, 0, none⟩) n n) (w.alloc (.cells mc 4))) ∧ ∀ w : World, (w.alloc (.cells mc 4)).rowIs w.heap.size 4 n (fun _ => .bool false) :=
  ⟨madeCells #[.bool false] n, fun w => run_make_row' (P := Try.prog) 29 4 (.bool false) 1 underBq infoBq rfl .i64 .i64 n (by omega) (by omega) w, fun w => World.rowIs_made w (.bool false) n 4⟩
set_option maxRecDepth 100000 in
set_option maxHeartbeats 400000 in
theorem refNewU (n : Int) (w : World) : Calls Try.prog 10 #[.int .i64 n] w (Made (newAns n) w) := by
  obtain ⟨W1, hW, c0, c1, sz, hg, hB⟩ := box2 w (.int .i64 0) (.slice none 0 0) 25
  have x2 := hB.free0
  have x3 := hB.free1
  obtain ⟨fs, hfs⟩ := underR
  by_cases h : 0 ≤ n ∧ n ≤ 65538
  · obtain ⟨m, rfl⟩ : ∃ m : Nat, n = m := ⟨n.toNat, by omega⟩
    have g0 : decide ((m : Int) < 0) = false := by simp
    have g1 : decide ((65538 : Int) < (m : Int)) = false := by simp; omega
    obtain ⟨mc, hmk, hmc⟩ := madeB m (by omega)
    obtain ⟨W2, hW2⟩ : ∃ W2, W1.alloc (.cells mc 4) = W2 := ⟨_, rfl⟩
    have g2 : W1.grownBy W2 none := by rw [← hW2]; exact World.grownBy_alloc _ _ _
    have hr2 : W2.rowIs W1.heap.size 4 m (fun _ => .bool false) := by rw [← hW2]; exact hmc W1
    have hbd : Bd W2 (some ⟨W1.heap.size, 0, none⟩) m (fun _ => false) := fun k hk => ⟨_, rfl, by rw [add_mid, Nat.zero_add]; exact hr2.cell hk⟩
    have hrow := refRowC m m (some ⟨W1.heap.size, 0, none⟩) (fun _ => false) (by omega) W2 hbd
    have hs : w.heap.size < W1.heap.size := by have := sz.out; omega
    have hz2 := g2.size
    rw [newAns_yes (by omega)]
    obtain ⟨c, hc⟩ : ∃ c : Nat, Hid (c = (m + 63) / 64) := ⟨_, rfl⟩
    rw [← hc.out] at hrow
    go_enter Try.func10, Try.ntmps10
    go_wp2_with (go_at_call 31; refine hrow.mono ?_; rintro e w3 ⟨b, rfl, hr3, g3, hb3⟩; have hB3 := (hB.kept g2 (by simp)).kept g3 (by simp); have u2 := hB3.free0; have u3 := hB3.free1; have u0 := hB3.cell0; have u1 := hB3.cell1)
    refine ret_box2 (g := w.heap.size) (t := 25) rfl hfs infoR rfl (hB3.set _ _) rfl ?_
    have hne : b ≠ w.heap.size := by omega
    have hr4 := World.rowIs.setOther (World.rowIs.setOther hr3 (a := ⟨w.heap.size, 0, none⟩) hne (.int .i64 m)) (a := ⟨w.heap.size, 1, none⟩) hne (.slice (some ⟨b, 0, none⟩) c c)
    have hg4 := gb_new (gb_new (gb_trans hg (gb_trans g2 g3)) (a := ⟨w.heap.size, 0, none⟩) (Nat.le_refl _) (.int .i64 m)) (a := ⟨w.heap.size, 1, none⟩) (Nat.le_refl _) (.slice (some ⟨b, 0, none⟩) c c)
    rw [hc.out] at hr4 hg4 ⊢
    exact made_ok (Row.congr (p := fun i => decide (i < m) && false) hr4 fun i hi => by simp) hg4 (by omega)
  · rw [newAns_no h]
    by_cases h0 : n < 0
    · go_enter Try.func10, Try.ntmps10
      go_wp2
      refine ret_box2 (g := w.heap.size) (t := 25) rfl hfs infoR rfl (hB.set _ _) rfl ?_
      exact made_bad 2 (gb_new (gb_new hg (Nat.le_refl _) _) (Nat.le_refl _) _)
    · have h1 : 65538 < n := by omega
      have g0 : decide (n < 0) = false := by simp; omega
      go_enter Try.func10, Try.ntmps10
      go_wp2
      refine ret_box2 (g := w.heap.size) (t := 25) rfl hfs infoR rfl (hB.set _ _) rfl ?_
      exact made_bad 2 (gb_new (gb_new hg (Nat.le_refl _) _) (Nat.le_refl _) _)
set_option maxRecDepth 100000 in
set_option maxHeartbeats 400000 in
theorem refOfU (n cap : Nat) (sp : Option Addr) (g : Nat → Bool) (hn : n ≤ 9223372036854775807) (w : World) (hb : Bd w sp n g) : Calls Try.prog 12 #[.slice sp n cap] w (Made (ofAns n g) w) := by
  obtain ⟨W1, hW, c0, c1, sz, hg, hB⟩ := box2 w (.int .i64 0) (.slice none 0 0) 25
  have x2 := hB.free0
  have x3 := hB.free1
  obtain ⟨fs, hfs⟩ := underR
  have hs : w.heap.size < W1.heap.size := by have := sz.out; omega
  by_cases h : n ≤ 65538
  · have g1 : ¬ (65538 : Int) < (n : Int) := by omega
    have hrow := refRowC n cap sp g h W1 (hb.kept hg (by simp))
    rw [ofAns_yes g h]
    obtain ⟨c, hc⟩ : ∃ c : Nat, Hid (c = (n + 63) / 64) := ⟨_, rfl⟩
    rw [← hc.out] at hrow
    go_enter Try.func12, Try.ntmps12
    go_wp2_with (go_at_call 31; refine hrow.mono ?_; rintro e w3 ⟨b, rfl, hr3, g3, hb3⟩; have hB3 := hB.kept g3 (by simp); have u2 := hB3.free0; have u3 := hB3.free1; have u0 := hB3.cell0; have u1 := hB3.cell1)
    refine ret_box2 (g := w.heap.size) (t := 25) rfl hfs infoR rfl (hB3.set _ _) rfl ?_
    have hne : b ≠ w.heap.size := by omega
    have hr4 := World.rowIs.setOther (World.rowIs.setOther hr3 (a := ⟨w.heap.size, 0, none⟩) hne (.int .i64 n)) (a := ⟨w.heap.size, 1, none⟩) hne (.slice (some ⟨b, 0, none⟩) c c)
    have hg4 := gb_new (gb_new (gb_trans hg g3) (a := ⟨w.heap.size, 0, none⟩) (Nat.le_refl _) (.int .i64 n)) (a := ⟨w.heap.size, 1, none⟩) (Nat.le_refl _) (.slice (some ⟨b, 0, none⟩) c c)
    rw [hc.out] at hr4 hg4 ⊢
    exact made_ok hr4 hg4 (by omega)
  · have g1 : (65538 : Int) < (n : Int) := by omega
    rw [ofAns_no g h]
    go_enter Try.func12, Try.ntmps12
    go_wp2
    refine ret_box2 (g := w.heap.size) (t := 25) rfl hfs infoR rfl (hB.set _ _) rfl ?_
    exact made_bad 6 (gb_new (gb_new hg (Nat.le_refl _) _) (Nat.le_refl _) _)
end Go.Proofs.Ytcdefpfnjjahgaa
