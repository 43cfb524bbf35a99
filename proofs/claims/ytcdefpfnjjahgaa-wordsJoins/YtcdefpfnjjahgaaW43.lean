/- Not, And, Or, Xor of package words, of every row. -/
import Derived.Test.YtcdefpfnjjahgaaW13
import Derived.Test.YtcdefpfnjjahgaaW35
import Derived.Test.YtcdefpfnjjahgaaW41
namespace Go.Proofs.Ytcdefpfnjjahgaa
open Go.RowKit
set_option linter.unusedVariables false
set_option linter.unusedSimpArgs false

def joinAns (op : Bool → Bool → Bool) (N : Int) (n : Nat) (f : Nat → Nat) (N' : Int) (n' : Nat) (f' : Nat → Nat) : Ans :=
  if (validB N n f && validB N' n' f') = false then noAns 20 else if N = N' then okAns N.toNat (fun j => decide (j < N.toNat) && op (Pk.bitAt f j) (Pk.bitAt f' j)) else noAns 21
def notAns (N : Int) (n : Nat) (f : Nat → Nat) : Ans := if validB N n f = false then noAns 20 else okAns N.toNat (fun j => decide (j < N.toNat) && !Pk.bitAt f j)
theorem ok_c {m : Nat} {p : Nat → Bool} (h : m ≤ 65538) : (okAns m p).c ≤ 1025 := by show (m + 63) / 64 ≤ 1025; omega
theorem not_c {N : Int} {n : Nat} {f : Nat → Nat} (hf : ∀ k, k < n → f k < 18446744073709551616) : (notAns N n f).c ≤ 1025 := by
  unfold notAns
  cases hv : validB N n f with
  | false => simp [noAns]
  | true =>
    obtain ⟨m, p, rfl, M, _⟩ := may_of_validB hf hv
    rw [if_neg (by simp)]
    exact ok_c (by have := M.le; omega)
theorem join_c {op : Bool → Bool → Bool} {N N' : Int} {n n' : Nat} {f f' : Nat → Nat} (hf : ∀ k, k < n → f k < 18446744073709551616) : (joinAns op N n f N' n' f').c ≤ 1025 := by
  unfold joinAns
  cases hv : validB N n f with
  | false => simp [noAns]
  | true =>
    obtain ⟨m, p, rfl, M, _⟩ := may_of_validB hf hv
    split
    · exact Nat.zero_le _
    · split
      · exact ok_c (by have := M.le; omega)
      · exact Nat.zero_le _
theorem alike2 (r0 r1 : RD) : alikeZ (fun j => if j = 0 then r0 else r1) 2 = if (r0.valid && r1.valid) = true then (if r1.N = r0.N then 0 else 21) else 20 := by
  unfold alikeZ
  simp [allV, allN]
set_option maxRecDepth 100000 in
set_option maxHeartbeats 4000000 in
theorem notU (N : Int) (n cap : Nat) (sp : Option Addr) (f : Nat → Nat) (hf : ∀ k, k < n → f k < 18446744073709551616) (hn : n ≤ 9223372036854775807) (w : World) (hc : Wd w sp n f) :
    Calls Try.prog 25 #[.agg #[.int .i64 N, .slice sp n cap]] w (Made (notAns N n f) w) := by
  cases hvb : validB N n f with
  | false =>
    obtain ⟨W0, hW0, c0, c1, sz0, g0, B0⟩ := box2 w (.int .i64 N) (.slice sp n cap) 25
    obtain ⟨W1, hW1, d0, d1, sz1, g1, B1⟩ := box2 W0 (.int .i64 0) (.slice none 0 0) 25
    have gg := gb_trans g0 g1
    have B01 := B0.kept g1 (by simp)
    have x0 := B01.cell0
    have x1 := B01.cell1
    obtain ⟨fs, hfs⟩ := underR
    have hv := validC N n cap sp f hf hn W1 (hc.kept gg (by simp))
    rw [hvb] at hv
    unfold notAns
    rw [if_pos hvb]
    clear hvb
    go_enter Try.func25, Try.ntmps25
    go_wp2_with (go_at_call 13; refine hv.mono ?_; rintro e w2 ⟨rfl, g2⟩; have B2 := B1.kept g2 (by simp); have y2 := B2.free0; have y3 := B2.free1; have y0 := B2.cell0; have y1 := B2.cell1)
    refine ret_box2 (g := W0.heap.size) (t := 25) rfl hfs infoR rfl (B2.set _ _) rfl ?_
    exact made_bad 20 (gb_new (gb_new (gb_trans gg g2) g0.size _) g0.size _)
  | true =>
    obtain ⟨m, p, rfl, M, hp⟩ := may_of_validB hf hvb
    unfold notAns
    rw [if_neg (by rw [hvb]; simp), Int.toNat_natCast]
    refine (notC m n cap sp p M w (hc.congr hp)).mono ?_
    rintro e w' ⟨b, rfl, hr, hg, hb⟩
    have hw := M.words
    have hq : ∀ j, j < 64 * n → notQ m p j = (decide (j < m) && !Pk.bitAt f j) := fun j hj => by
      unfold notQ
      rw [bitAt_of hp hj]
    have hr' := hr.congr hq
    clear hq hr
    subst hw
    exact made_ok hr' hg hb

set_option maxRecDepth 100000 in
set_option maxHeartbeats 4000000 in
theorem andBad (N N' : Int) (n n' ca cb : Nat) (sa sb : Option Addr) (f f' : Nat → Nat) (hf : ∀ k, k < n → f k < 18446744073709551616) (hf' : ∀ k, k < n' → f' k < 18446744073709551616) (hn : n ≤ 9223372036854775807) (hn' : n' ≤ 9223372036854775807) (E : Int) (hE : ¬ E = 0) (hz : alikeZ (fun j => if j = 0 then (⟨N, sa, n, ca, f⟩ : RD) else ⟨N', sb, n', cb, f'⟩) 2 = E) (w : World) (ha : Wd w sa n f) (hb : Wd w sb n' f') :
    Calls Try.prog 42 #[.agg #[.int .i64 N, .slice sa n ca], .agg #[.int .i64 N', .slice sb n' cb]] w (Made (noAns E) w) := by
  obtain ⟨W1, hW, c0, c1, sz, hg1, hA⟩ := box2 w (.int .i64 N) (.slice sa n ca) 25
  obtain ⟨W2, hW2, d0, d1, sz2, hg2, hB⟩ := box2 W1 (.int .i64 N') (.slice sb n' cb) 25
  obtain ⟨W3, hW3, e0, e1, sz3, hg3, hD⟩ := box2 W2 (.int .i64 0) (.slice none 0 0) 25
  obtain ⟨W4, hW4, f0, f1, f2, f3, hg4⟩ := box4 W3 (.int .i64 N) (.slice sa n ca) (.int .i64 N') (.slice sb n' cb) 25
  have g3 := gb_trans hg1 (gb_trans hg2 hg3)
  have ha4 := (ha.kept g3 (by simp)).kept hg4 (by simp)
  have hb4 := (hb.kept g3 (by simp)).kept hg4 (by simp)
  have hA3 := hA.kept (gb_trans hg2 hg3) (by simp)
  have hB3 := hB.kept hg3 (by simp)
  have a0 := hA3.cell0
  have a1 := hA3.cell1
  have b0 := hB3.cell0
  have b1 := hB3.cell1
  have hR : Rws W4 W3.heap.size 2 (fun j => if j = 0 then (⟨N, sa, n, ca, f⟩ : RD) else ⟨N', sb, n', cb, f'⟩) := by
    intro j hj
    rcases (show j = 0 ∨ j = 1 by omega) with rfl | rfl
    · exact ⟨f0, f1, ha4, hf, hn⟩
    · exact ⟨f2, f3, hb4, hf', hn'⟩
  have hak := alikeC W3.heap.size 2 2 _ (some ⟨W3.heap.size, 0, none⟩) (fun _ => rfl) (by omega) W4 hR
  rw [hz] at hak
  clear hz hR
  obtain ⟨fs, hfs⟩ := underR
  go_enter Try.func42, Try.ntmps42
  go_wp2_with (first | (go_at_call 47; refine hak.mono ?_; rintro e w5 ⟨rfl, g5⟩; have hD5 := hD.kept (gb_trans hg4 g5) (by simp); have i0 := hD5.cell0; have i1 := hD5.cell1; have i2 := hD5.free0; have i3 := hD5.free1))
  refine ret_box2 (g := W2.heap.size) (t := 25) rfl hfs infoR rfl (hD5.set _ _) rfl ?_
  have q := (gb_trans hg1 hg2).size
  exact made_bad E (gb_new (gb_new (gb_trans g3 (gb_trans hg4 g5)) q _) q _)
set_option maxRecDepth 100000 in
set_option maxHeartbeats 4000000 in
theorem andJU (N N' : Int) (n n' ca cb : Nat) (sa sb : Option Addr) (f f' : Nat → Nat) (hf : ∀ k, k < n → f k < 18446744073709551616) (hf' : ∀ k, k < n' → f' k < 18446744073709551616) (hn : n ≤ 9223372036854775807) (hn' : n' ≤ 9223372036854775807) (w : World) (ha : Wd w sa n f) (hb : Wd w sb n' f') :
    Calls Try.prog 42 #[.agg #[.int .i64 N, .slice sa n ca], .agg #[.int .i64 N', .slice sb n' cb]] w (Made (joinAns (fun a b => a && b) N n f N' n' f') w) := by
  cases hv : (validB N n f && validB N' n' f') with
  | false =>
    unfold joinAns
    rw [if_pos hv]
    refine andBad N N' n n' ca cb sa sb f f' hf hf' hn hn' 20 (by decide) ?_ w ha hb
    rw [alike2, if_neg]
    show ¬ (validB N n f && validB N' n' f') = true
    rw [hv]; decide
  | true =>
    by_cases hN : N = N'
    · subst hN
      obtain ⟨h1, h2⟩ := Bool.and_eq_true_iff.1 hv
      obtain ⟨m, p, rfl, M, hp⟩ := may_of_validB hf h1
      obtain ⟨m', p', e, M', hp'⟩ := may_of_validB hf' h2
      obtain rfl : m = m' := by omega
      obtain rfl : n = n' := by rw [M.words, M'.words]
      unfold joinAns
      rw [if_neg (by rw [hv]; simp), if_pos rfl, Int.toNat_natCast]
      refine (andC m n ca cb sa sb p p' M M' w (ha.congr hp) (hb.congr hp')).mono ?_
      rintro e w' ⟨b, rfl, hr, hg, hbb⟩
      have hw := M.words
      have hr' := hr.congr (q := fun j => decide (j < m) && (fun a b => a && b) (Pk.bitAt f j) (Pk.bitAt f' j)) (fun j hj => by
        dsimp only
        rw [bitAt_of hp hj, bitAt_of hp' hj]
        by_cases hjm : j < m
        · rw [decide_eq_true hjm]; simp
        · rw [decide_eq_false hjm, M.tail j (by omega), M'.tail j (by omega)]; rfl)
      clear hr
      subst hw
      exact made_ok hr' hg hbb
    · unfold joinAns
      rw [if_neg (by rw [hv]; simp), if_neg hN]
      refine andBad N N' n n' ca cb sa sb f f' hf hf' hn hn' 21 (by decide) ?_ w ha hb
      rw [alike2, if_pos (by exact hv), if_neg]
      exact fun e => hN e.symm

set_option maxRecDepth 100000 in
set_option maxHeartbeats 4000000 in
theorem orBad (N N' : Int) (n n' ca cb : Nat) (sa sb : Option Addr) (f f' : Nat → Nat) (hf : ∀ k, k < n → f k < 18446744073709551616) (hf' : ∀ k, k < n' → f' k < 18446744073709551616) (hn : n ≤ 9223372036854775807) (hn' : n' ≤ 9223372036854775807) (E : Int) (hE : ¬ E = 0) (hz : alikeZ (fun j => if j = 0 then (⟨N, sa, n, ca, f⟩ : RD) else ⟨N', sb, n', cb, f'⟩) 2 = E) (w : World) (ha : Wd w sa n f) (hb : Wd w sb n' f') :
    Calls Try.prog 43 #[.agg #[.int .i64 N, .slice sa n ca], .agg #[.int .i64 N', .slice sb n' cb]] w (Made (noAns E) w) := by
  obtain ⟨W1, hW, c0, c1, sz, hg1, hA⟩ := box2 w (.int .i64 N) (.slice sa n ca) 25
  obtain ⟨W2, hW2, d0, d1, sz2, hg2, hB⟩ := box2 W1 (.int .i64 N') (.slice sb n' cb) 25
  obtain ⟨W3, hW3, e0, e1, sz3, hg3, hD⟩ := box2 W2 (.int .i64 0) (.slice none 0 0) 25
  obtain ⟨W4, hW4, f0, f1, f2, f3, hg4⟩ := box4 W3 (.int .i64 N) (.slice sa n ca) (.int .i64 N') (.slice sb n' cb) 25
  have g3 := gb_trans hg1 (gb_trans hg2 hg3)
  have ha4 := (ha.kept g3 (by simp)).kept hg4 (by simp)
  have hb4 := (hb.kept g3 (by simp)).kept hg4 (by simp)
  have hA3 := hA.kept (gb_trans hg2 hg3) (by simp)
  have hB3 := hB.kept hg3 (by simp)
  have a0 := hA3.cell0
  have a1 := hA3.cell1
  have b0 := hB3.cell0
  have b1 := hB3.cell1
  have hR : Rws W4 W3.heap.size 2 (fun j => if j = 0 then (⟨N, sa, n, ca, f⟩ : RD) else ⟨N', sb, n', cb, f'⟩) := by
    intro j hj
    rcases (show j = 0 ∨ j = 1 by omega) with rfl | rfl
    · exact ⟨f0, f1, ha4, hf, hn⟩
    · exact ⟨f2, f3, hb4, hf', hn'⟩
  have hak := alikeC W3.heap.size 2 2 _ (some ⟨W3.heap.size, 0, none⟩) (fun _ => rfl) (by omega) W4 hR
  rw [hz] at hak
  clear hz hR
  obtain ⟨fs, hfs⟩ := underR
  go_enter Try.func43, Try.ntmps43
  go_wp2_with (first | (go_at_call 47; refine hak.mono ?_; rintro e w5 ⟨rfl, g5⟩; have hD5 := hD.kept (gb_trans hg4 g5) (by simp); have i0 := hD5.cell0; have i1 := hD5.cell1; have i2 := hD5.free0; have i3 := hD5.free1))
  refine ret_box2 (g := W2.heap.size) (t := 25) rfl hfs infoR rfl (hD5.set _ _) rfl ?_
  have q := (gb_trans hg1 hg2).size
  exact made_bad E (gb_new (gb_new (gb_trans g3 (gb_trans hg4 g5)) q _) q _)
set_option maxRecDepth 100000 in
set_option maxHeartbeats 4000000 in
theorem orJU (N N' : Int) (n n' ca cb : Nat) (sa sb : Option Addr) (f f' : Nat → Nat) (hf : ∀ k, k < n → f k < 18446744073709551616) (hf' : ∀ k, k < n' → f' k < 18446744073709551616) (hn : n ≤ 9223372036854775807) (hn' : n' ≤ 9223372036854775807) (w : World) (ha : Wd w sa n f) (hb : Wd w sb n' f') :
    Calls Try.prog 43 #[.agg #[.int .i64 N, .slice sa n ca], .agg #[.int .i64 N', .slice sb n' cb]] w (Made (joinAns (fun a b => a || b) N n f N' n' f') w) := by
  cases hv : (validB N n f && validB N' n' f') with
  | false =>
    unfold joinAns
    rw [if_pos hv]
    refine orBad N N' n n' ca cb sa sb f f' hf hf' hn hn' 20 (by decide) ?_ w ha hb
    rw [alike2, if_neg]
    show ¬ (validB N n f && validB N' n' f') = true
    rw [hv]; decide
  | true =>
    by_cases hN : N = N'
    · subst hN
      obtain ⟨h1, h2⟩ := Bool.and_eq_true_iff.1 hv
      obtain ⟨m, p, rfl, M, hp⟩ := may_of_validB hf h1
      obtain ⟨m', p', e, M', hp'⟩ := may_of_validB hf' h2
      obtain rfl : m = m' := by omega
      obtain rfl : n = n' := by rw [M.words, M'.words]
      unfold joinAns
      rw [if_neg (by rw [hv]; simp), if_pos rfl, Int.toNat_natCast]
      refine (orC m n ca cb sa sb p p' M M' w (ha.congr hp) (hb.congr hp')).mono ?_
      rintro e w' ⟨b, rfl, hr, hg, hbb⟩
      have hw := M.words
      have hr' := hr.congr (q := fun j => decide (j < m) && (fun a b => a || b) (Pk.bitAt f j) (Pk.bitAt f' j)) (fun j hj => by
        dsimp only
        rw [bitAt_of hp hj, bitAt_of hp' hj]
        by_cases hjm : j < m
        · rw [decide_eq_true hjm]; simp
        · rw [decide_eq_false hjm, M.tail j (by omega), M'.tail j (by omega)]; rfl)
      clear hr
      subst hw
      exact made_ok hr' hg hbb
    · unfold joinAns
      rw [if_neg (by rw [hv]; simp), if_neg hN]
      refine orBad N N' n n' ca cb sa sb f f' hf hf' hn hn' 21 (by decide) ?_ w ha hb
      rw [alike2, if_pos (by exact hv), if_neg]
      exact fun e => hN e.symm

set_option maxRecDepth 100000 in
set_option maxHeartbeats 4000000 in
theorem xorBad (N N' : Int) (n n' ca cb : Nat) (sa sb : Option Addr) (f f' : Nat → Nat) (hf : ∀ k, k < n → f k < 18446744073709551616) (hf' : ∀ k, k < n' → f' k < 18446744073709551616) (hn : n ≤ 9223372036854775807) (hn' : n' ≤ 9223372036854775807) (E : Int) (hE : ¬ E = 0) (hz : alikeZ (fun j => if j = 0 then (⟨N, sa, n, ca, f⟩ : RD) else ⟨N', sb, n', cb, f'⟩) 2 = E) (w : World) (ha : Wd w sa n f) (hb : Wd w sb n' f') :
    Calls Try.prog 44 #[.agg #[.int .i64 N, .slice sa n ca], .agg #[.int .i64 N', .slice sb n' cb]] w (Made (noAns E) w) := by
  obtain ⟨W1, hW, c0, c1, sz, hg1, hA⟩ := box2 w (.int .i64 N) (.slice sa n ca) 25
  obtain ⟨W2, hW2, d0, d1, sz2, hg2, hB⟩ := box2 W1 (.int .i64 N') (.slice sb n' cb) 25
  obtain ⟨W3, hW3, e0, e1, sz3, hg3, hD⟩ := box2 W2 (.int .i64 0) (.slice none 0 0) 25
  obtain ⟨W4, hW4, f0, f1, f2, f3, hg4⟩ := box4 W3 (.int .i64 N) (.slice sa n ca) (.int .i64 N') (.slice sb n' cb) 25
  have g3 := gb_trans hg1 (gb_trans hg2 hg3)
  have ha4 := (ha.kept g3 (by simp)).kept hg4 (by simp)
  have hb4 := (hb.kept g3 (by simp)).kept hg4 (by simp)
  have hA3 := hA.kept (gb_trans hg2 hg3) (by simp)
  have hB3 := hB.kept hg3 (by simp)
  have a0 := hA3.cell0
  have a1 := hA3.cell1
  have b0 := hB3.cell0
  have b1 := hB3.cell1
  have hR : Rws W4 W3.heap.size 2 (fun j => if j = 0 then (⟨N, sa, n, ca, f⟩ : RD) else ⟨N', sb, n', cb, f'⟩) := by
    intro j hj
    rcases (show j = 0 ∨ j = 1 by omega) with rfl | rfl
    · exact ⟨f0, f1, ha4, hf, hn⟩
    · exact ⟨f2, f3, hb4, hf', hn'⟩
  have hak := alikeC W3.heap.size 2 2 _ (some ⟨W3.heap.size, 0, none⟩) (fun _ => rfl) (by omega) W4 hR
  rw [hz] at hak
  clear hz hR
  obtain ⟨fs, hfs⟩ := underR
  go_enter Try.func44, Try.ntmps44
  go_wp2_with (first | (go_at_call 47; refine hak.mono ?_; rintro e w5 ⟨rfl, g5⟩; have hD5 := hD.kept (gb_trans hg4 g5) (by simp); have i0 := hD5.cell0; have i1 := hD5.cell1; have i2 := hD5.free0; have i3 := hD5.free1))
  refine ret_box2 (g := W2.heap.size) (t := 25) rfl hfs infoR rfl (hD5.set _ _) rfl ?_
  have q := (gb_trans hg1 hg2).size
  exact made_bad E (gb_new (gb_new (gb_trans g3 (gb_trans hg4 g5)) q _) q _)
set_option maxRecDepth 100000 in
set_option maxHeartbeats 4000000 in
theorem xorJU (N N' : Int) (n n' ca cb : Nat) (sa sb : Option Addr) (f f' : Nat → Nat) (hf : ∀ k, k < n → f k < 18446744073709551616) (hf' : ∀ k, k < n' → f' k < 18446744073709551616) (hn : n ≤ 9223372036854775807) (hn' : n' ≤ 9223372036854775807) (w : World) (ha : Wd w sa n f) (hb : Wd w sb n' f') :
    Calls Try.prog 44 #[.agg #[.int .i64 N, .slice sa n ca], .agg #[.int .i64 N', .slice sb n' cb]] w (Made (joinAns (fun a b => Bool.xor a b) N n f N' n' f') w) := by
  cases hv : (validB N n f && validB N' n' f') with
  | false =>
    unfold joinAns
    rw [if_pos hv]
    refine xorBad N N' n n' ca cb sa sb f f' hf hf' hn hn' 20 (by decide) ?_ w ha hb
    rw [alike2, if_neg]
    show ¬ (validB N n f && validB N' n' f') = true
    rw [hv]; decide
  | true =>
    by_cases hN : N = N'
    · subst hN
      obtain ⟨h1, h2⟩ := Bool.and_eq_true_iff.1 hv
      obtain ⟨m, p, rfl, M, hp⟩ := may_of_validB hf h1
      obtain ⟨m', p', e, M', hp'⟩ := may_of_validB hf' h2
      obtain rfl : m = m' := by omega
      obtain rfl : n = n' := by rw [M.words, M'.words]
      unfold joinAns
      rw [if_neg (by rw [hv]; simp), if_pos rfl, Int.toNat_natCast]
      refine (xorC m n ca cb sa sb p p' M M' w (ha.congr hp) (hb.congr hp')).mono ?_
      rintro e w' ⟨b, rfl, hr, hg, hbb⟩
      have hw := M.words
      have hr' := hr.congr (q := fun j => decide (j < m) && (fun a b => Bool.xor a b) (Pk.bitAt f j) (Pk.bitAt f' j)) (fun j hj => by
        dsimp only
        rw [bitAt_of hp hj, bitAt_of hp' hj]
        by_cases hjm : j < m
        · rw [decide_eq_true hjm]; simp
        · rw [decide_eq_false hjm, M.tail j (by omega), M'.tail j (by omega)]; rfl)
      clear hr
      subst hw
      exact made_ok hr' hg hbb
    · unfold joinAns
      rw [if_neg (by rw [hv]; simp), if_neg hN]
      refine xorBad N N' n n' ca cb sa sb f f' hf hf' hn hn' 21 (by decide) ?_ w ha hb
      rw [alike2, if_pos (by exact hv), if_neg]
      exact fun e => hN e.symm
end Go.Proofs.Ytcdefpfnjjahgaa
