/- Up, Down, Turned of package words, of every row. -/
import Derived.Test.YtcdefpfnjjahgaaDoorW47
import Derived.Test.YtcdefpfnjjahgaaDoorW25
import Derived.Test.YtcdefpfnjjahgaaDoorW28
namespace Go.Proofs.YtcdefpfnjjahgaaDoor
open Go.RowKit
set_option linter.unusedVariables false
set_option linter.unusedSimpArgs false

/-- What a call that makes a row and a bit leaves. -/
def MadeB (a : Ans) (o : Bool) (w : World) (e : Ending) (w' : World) : Prop := ∃ sp, e = .returned (.tuple #[.agg #[.int .i64 a.N, .slice sp a.c a.c], .bool o, .int .i64 a.e]) ∧ Gr w' sp a.c a.f ∧ (∀ x, sp = some x → w.heap.size ≤ x.block) ∧ w.grownBy w' none
theorem madeB_bad {w w' : World} (e : Int) (hg : w.grownBy w' none) : MadeB (noAns e) false w (.returned (.tuple #[.agg #[.int .i64 0, .slice none 0 0], .bool false, .int .i64 e])) w' := ⟨none, rfl, .inl ⟨rfl, rfl⟩, (fun x h => by cases h), hg⟩
theorem madeB_ok {w w' : World} {b m : Nat} {p : Nat → Bool} {o : Bool} (hr : Row w' 52 b ((m + 63) / 64) p) (hg : w.grownBy w' none) (hb : w.heap.size ≤ b) : MadeB (okAns m p) o w (.returned (.tuple #[.agg #[.int .i64 m, .slice (some ⟨b, 0, none⟩) ((m + 63) / 64) ((m + 63) / 64)], .bool o, .int .i64 0])) w' := ⟨some ⟨b, 0, none⟩, rfl, .inr ⟨b, rfl, hr⟩, (fun x h => by cases h; exact hb), hg⟩
def upAns (N : Int) (n : Nat) (f : Nat → Nat) (i : Bool) : Ans := if validB N n f = false then noAns 20 else okAns N.toNat (upQ N.toNat i (Pk.bitAt f))
def upO (N : Int) (n : Nat) (f : Nat → Nat) (i : Bool) : Bool := if validB N n f = false then false else upOut N.toNat i (Pk.bitAt f)
def dnAns (N : Int) (n : Nat) (f : Nat → Nat) (i : Bool) : Ans := if validB N n f = false then noAns 20 else okAns N.toNat (downQ N.toNat i (Pk.bitAt f))
def dnO (N : Int) (n : Nat) (f : Nat → Nat) (i : Bool) : Bool := if validB N n f = false then false else downOut N.toNat i (Pk.bitAt f)
def tuAns (N : Int) (n : Nat) (f : Nat → Nat) : Ans := if validB N n f = false then noAns 20 else okAns N.toNat (turnQ N.toNat (Pk.bitAt f))
theorem up_c {N : Int} {n : Nat} {f : Nat → Nat} (hf : ∀ k, k < n → f k < 18446744073709551616) (i : Bool) : (upAns N n f i).c ≤ 1025 := by
  unfold upAns
  cases hv : validB N n f with
  | false => simp [noAns]
  | true =>
    obtain ⟨m, p, rfl, M, _⟩ := may_of_validB hf hv
    rw [if_neg (by simp)]
    exact ok_c (by have := M.le; omega)
theorem dn_c {N : Int} {n : Nat} {f : Nat → Nat} (hf : ∀ k, k < n → f k < 18446744073709551616) (i : Bool) : (dnAns N n f i).c ≤ 1025 := by
  unfold dnAns
  cases hv : validB N n f with
  | false => simp [noAns]
  | true =>
    obtain ⟨m, p, rfl, M, _⟩ := may_of_validB hf hv
    rw [if_neg (by simp)]
    exact ok_c (by have := M.le; omega)
theorem tu_c {N : Int} {n : Nat} {f : Nat → Nat} (hf : ∀ k, k < n → f k < 18446744073709551616) : (tuAns N n f).c ≤ 1025 := by
  unfold tuAns
  cases hv : validB N n f with
  | false => simp [noAns]
  | true =>
    obtain ⟨m, p, rfl, M, _⟩ := may_of_validB hf hv
    rw [if_neg (by simp)]
    exact ok_c (by have := M.le; omega)

set_option maxRecDepth 100000 in
set_option maxHeartbeats 4000000 in
theorem upU (N : Int) (n cap : Nat) (sp : Option Addr) (f : Nat → Nat) (hf : ∀ k, k < n → f k < 18446744073709551616) (hn : n ≤ 9223372036854775807) (i : Bool) (w : World) (hc : Wd w sp n f) :
    Calls Tryd.prog 17 #[.agg #[.int .i64 N, .slice sp n cap], .bool i] w (MadeB (upAns N n f i) (upO N n f i) w) := by
  cases hvb : validB N n f with
  | false =>
    obtain ⟨W0, hW0, c0, c1, sz0, g0, B0⟩ := box2 w (.int .i64 N) (.slice sp n cap) 24
    obtain ⟨W1, hW1, d0, d1, sz1, g1, B1⟩ := box2 W0 (.int .i64 0) (.slice none 0 0) 24
    have gg := gb_trans g0 g1
    have B01 := B0.kept g1 (by simp)
    have x0 := B01.cell0
    have x1 := B01.cell1
    obtain ⟨fs, hfs⟩ := underR
    have hv := validC N n cap sp f hf hn W1 (hc.kept gg (by simp))
    rw [hvb] at hv
    unfold upAns upO
    rw [if_pos hvb, if_pos hvb]
    clear hvb
    go_enter Tryd.func17, Tryd.ntmps17
    go_wp2_with (go_at_call 28; refine hv.mono ?_; rintro e w2 ⟨rfl, g2⟩; have B2 := B1.kept g2 (by simp); have y2 := B2.free0; have y3 := B2.free1; have y0 := B2.cell0; have y1 := B2.cell1)
    refine ret_box3 (g := W0.heap.size) (t := 24) rfl hfs infoR rfl (B2.set _ _) rfl ?_
    exact madeB_bad 20 (gb_new (gb_new (gb_trans gg g2) g0.size _) g0.size _)
  | true =>
    obtain ⟨m, p, rfl, M, hp⟩ := may_of_validB hf hvb
    unfold upAns upO
    rw [if_neg (by rw [hvb]; simp), if_neg (by rw [hvb]; simp), Int.toNat_natCast]
    refine (upC m n cap sp p M i w (hc.congr hp)).mono ?_
    rintro e w' ⟨b, rfl, hr, hg, hb⟩
    have hw := M.words
    have hb0 : ∀ j, j < m → Pk.bitAt f j = p j := fun j hj => bitAt_of hp (by omega)
    have ho : upOut m i p = upOut m i (Pk.bitAt f) := by
      unfold upOut
      by_cases h0 : m = 0
      · rw [if_pos h0, if_pos h0]
      · rw [if_neg h0, if_neg h0, hb0 _ (by omega)]
    have hr' := hr.congr (q := upQ m i (Pk.bitAt f)) (fun j hj => by
      unfold upQ
      by_cases hjm : j < m
      · rw [decide_eq_true hjm]
        by_cases e : j = 0
        · rw [if_pos e, if_pos e]
        · rw [if_neg e, if_neg e, hb0 _ (by omega)]
      · rw [decide_eq_false hjm]; simp)
    clear hr
    rw [ho]
    subst hw
    exact madeB_ok hr' hg hb

set_option maxRecDepth 100000 in
set_option maxHeartbeats 4000000 in
theorem dnU (N : Int) (n cap : Nat) (sp : Option Addr) (f : Nat → Nat) (hf : ∀ k, k < n → f k < 18446744073709551616) (hn : n ≤ 9223372036854775807) (i : Bool) (w : World) (hc : Wd w sp n f) :
    Calls Tryd.prog 23 #[.agg #[.int .i64 N, .slice sp n cap], .bool i] w (MadeB (dnAns N n f i) (dnO N n f i) w) := by
  cases hvb : validB N n f with
  | false =>
    obtain ⟨W0, hW0, c0, c1, sz0, g0, B0⟩ := box2 w (.int .i64 N) (.slice sp n cap) 24
    obtain ⟨W1, hW1, d0, d1, sz1, g1, B1⟩ := box2 W0 (.int .i64 0) (.slice none 0 0) 24
    have gg := gb_trans g0 g1
    have B01 := B0.kept g1 (by simp)
    have x0 := B01.cell0
    have x1 := B01.cell1
    obtain ⟨fs, hfs⟩ := underR
    have hv := validC N n cap sp f hf hn W1 (hc.kept gg (by simp))
    rw [hvb] at hv
    unfold dnAns dnO
    rw [if_pos hvb, if_pos hvb]
    clear hvb
    go_enter Tryd.func23, Tryd.ntmps23
    go_wp2_with (go_at_call 28; refine hv.mono ?_; rintro e w2 ⟨rfl, g2⟩; have B2 := B1.kept g2 (by simp); have y2 := B2.free0; have y3 := B2.free1; have y0 := B2.cell0; have y1 := B2.cell1)
    refine ret_box3 (g := W0.heap.size) (t := 24) rfl hfs infoR rfl (B2.set _ _) rfl ?_
    exact madeB_bad 20 (gb_new (gb_new (gb_trans gg g2) g0.size _) g0.size _)
  | true =>
    obtain ⟨m, p, rfl, M, hp⟩ := may_of_validB hf hvb
    unfold dnAns dnO
    rw [if_neg (by rw [hvb]; simp), if_neg (by rw [hvb]; simp), Int.toNat_natCast]
    refine (downC m n cap sp p M i w (hc.congr hp)).mono ?_
    rintro e w' ⟨b, rfl, hr, hg, hb⟩
    have hw := M.words
    have hb0 : ∀ j, j < m → Pk.bitAt f j = p j := fun j hj => bitAt_of hp (by omega)
    have ho : downOut m i p = downOut m i (Pk.bitAt f) := by
      unfold downOut
      by_cases h0 : m = 0
      · rw [if_pos h0, if_pos h0]
      · rw [if_neg h0, if_neg h0, hb0 _ (by omega)]
    have hr' := hr.congr (q := downQ m i (Pk.bitAt f)) (fun j hj => by
      unfold downQ
      by_cases hjm : j < m
      · rw [decide_eq_true hjm]
        by_cases e : j = m - 1
        · rw [if_pos e, if_pos e]
        · rw [if_neg e, if_neg e, hb0 _ (by omega)]
      · rw [decide_eq_false hjm]; simp)
    clear hr
    rw [ho]
    subst hw
    exact madeB_ok hr' hg hb

set_option maxRecDepth 100000 in
set_option maxHeartbeats 4000000 in
theorem tuBad (N : Int) (n cap : Nat) (sp : Option Addr) (f : Nat → Nat) (hf : ∀ k, k < n → f k < 18446744073709551616) (hn : n ≤ 9223372036854775807) (w : World) (hc : Wd w sp n f) (hvb : validB N n f = false) :
    Calls Tryd.prog 25 #[.agg #[.int .i64 N, .slice sp n cap]] w (Made (noAns 20) w) := by
  obtain ⟨W0, hW0, c0, c1, sz0, g0, B0⟩ := box2 w (.int .i64 N) (.slice sp n cap) 24
  obtain ⟨W1, hW1, d0, d1, sz1, g1, B1⟩ := box2 W0 (.int .i64 0) (.slice none 0 0) 24
  have gg := gb_trans g0 g1
  have B01 := B0.kept g1 (by simp)
  have x0 := B01.cell0
  have x1 := B01.cell1
  obtain ⟨fs, hfs⟩ := underR
  have hv := validC N n cap sp f hf hn W1 (hc.kept gg (by simp))
  rw [hvb] at hv
  clear hvb
  go_enter Tryd.func25, Tryd.ntmps25
  go_wp2_with (go_at_call 28; refine hv.mono ?_; rintro e w2 ⟨rfl, g2⟩; have B2 := B1.kept g2 (by simp); have y2 := B2.free0; have y3 := B2.free1; have y0 := B2.cell0; have y1 := B2.cell1)
  refine ret_box2 (g := W0.heap.size) (t := 24) rfl hfs infoR rfl (B2.set _ _) rfl ?_
  exact made_bad 20 (gb_new (gb_new (gb_trans gg g2) g0.size _) g0.size _)
theorem tuU (N : Int) (n cap : Nat) (sp : Option Addr) (f : Nat → Nat) (hf : ∀ k, k < n → f k < 18446744073709551616) (hn : n ≤ 9223372036854775807) (w : World) (hc : Wd w sp n f) (hT : Tab64 w) :
    Calls Tryd.prog 25 #[.agg #[.int .i64 N, .slice sp n cap]] w (Made (tuAns N n f) w) := by
  cases hvb : validB N n f with
  | false =>
    unfold tuAns
    rw [if_pos hvb]
    exact tuBad N n cap sp f hf hn w hc hvb
  | true =>
    obtain ⟨m, p, rfl, M, hp⟩ := may_of_validB hf hvb
    unfold tuAns
    rw [if_neg (by rw [hvb]; simp), Int.toNat_natCast]
    refine (turnedC m n cap sp p M w (hc.congr hp) hT).mono ?_
    rintro e w' ⟨b, rfl, hr, hg, hb⟩
    have hw := M.words
    have hr' := hr.congr (q := turnQ m (Pk.bitAt f)) (fun j hj => by
      unfold turnQ
      by_cases hjm : j < m
      · rw [decide_eq_true hjm, bitAt_of hp (by omega)]
      · rw [decide_eq_false hjm]; rfl)
    clear hr
    subst hw
    exact made_ok hr' hg hb
end Go.Proofs.YtcdefpfnjjahgaaDoor
