/- What the document's form answers: two parts; and of every text. -/
import Derived.Test.YteegbhnfkcbnoaaDoorR6
import Derived.Test.YteegbhnfkcbnoaaDoorTe
namespace Go.Proofs.YteegbhnfkcbnoaaDoor
open Go.RowKit
set_option linter.unusedVariables false
set_option linter.unusedSimpArgs false
set_option maxRecDepth 100000
theorem gb_rowr {a b c : World} {r : Option Nat} (h : a.grownBy b none) (k : b.grownBy c r) (hr : ∀ i, r = some i → a.heap.size ≤ i) : a.grownBy c none :=
  ⟨k.os.trans h.os, k.tape.trans h.tape, k.output.trans h.output, Nat.le_trans h.size k.size, fun i hi hne => (k.block i (Nat.lt_of_lt_of_le hi h.size) (fun e => by have := hr i e.symm; omega)).trans (h.block i hi hne)⟩
theorem own1 {w : World} {g : Nat} {d : Tp.Dp} (h : Bo w g 60 (dpv d)) : w.ownsRow 0 60 6 (.slice (some ⟨g, 0, none⟩) 1 1) 1 (dpl d) :=
  ⟨rfl, .inr ⟨g, 1, dpv d, rfl, Nat.zero_le _, h, Nat.le_refl _, by decide, rfl, rfl⟩⟩
theorem info6p {P : Program} {t : TypeId} {z : Value} {a b : Nat} (h : (P.info? t).map (fun i => (i.zero, i.size, i.bytes)) = some (some z, a, b)) : ∃ i, P.info? t = some i ∧ i.zero = some z ∧ i.size = a ∧ i.bytes = b := by
  obtain ⟨i, h1, h2⟩ := Option.map_eq_some_iff.1 h
  simp only [Prod.mk.injEq] at h2
  exact ⟨i, h1, h2⟩

set_option maxHeartbeats 2000000 in
theorem form_bad2 (s : ByteArray) (K : Nat) (h0 : 0 < s.size) (hk : ∀ w, Calls Tryd.prog 45 #[.int .u8 (Sc.bt s 0 : Nat)] w fun e w' => e = .returned (.int .u8 (K : Nat)) ∧ w' = w) (T : Tp.Tk) (star : Bool) (hstar : ((K : Int) != 5) = star) (hal : ((s.size : Int) == 1) = false ∨ (((s.size : Int) == 1) = true ∧ ¬ (K : Int) ≤ 2)) (ht : ∀ w, Calls Tryd.prog 46 #[.string s, .int .i64 1, .bool star] w fun e w' => e = .returned (.tuple #[.agg (dpv T.p), .int .i64 T.j, .int .i64 T.e]) ∧ w.grownBy w' none) (hK : ((K : Int) == 0) = false) (he : ((T.e : Int) != 0) = false) (h5 : star = true) (hj : T.j < s.size) (hc : ((Sc.bt s T.j : Int) == 44) = true) (U : Tp.Tk) (j1 : Nat) (hj1 : Hid (T.j + 1 = j1)) (hsz : s.size ≤ 1048576) (hu : ∀ w, Calls Tryd.prog 46 #[.string s, .int .i64 j1, .bool true] w fun e w' => e = .returned (.tuple #[.agg (dpv U.p), .int .i64 U.j, .int .i64 U.e]) ∧ w.grownBy w' none) (hue : ((U.e : Int) != 0) = true) (w : World) : Calls Tryd.prog 21 #[.string s] w fun e w' => e = .returned (.tuple #[.int .u8 (K : Nat), .slice none 0 0, .int .i64 U.j, .int .i64 U.e]) ∧ w.grownBy w' none := by
  have hb := Sc.bt_at h0
  have h0' : ((s.size : Int) == 0) = false := beq_eq_false_iff_ne.2 (by omega)
  have h0i : (0 : Int) < (s.size : Int) := by omega
  have hj' : (T.j : Int) < (s.size : Int) := by omega
  have hbj := Sc.bt_at hj
  subst h5
  have hw1 : IntKind.i64.wrap ((T.j : Int) + 1) = (j1 : Int) := by have := hj1.out; rw [IntKind.wrap_i64]; omega
  rcases hal with h1 | ⟨h1, h2⟩
  all_goals
    go_enter Tryd.func21, Tryd.ntmps21
    go_wp2_with (first | (go_at_call 45; refine (hk _).mono ?_; rintro e w' ⟨rfl, hw'⟩; subst w') | (go_at_call 46; (fail_if_success (guard_hyp g1)); refine (ht _).mono ?_; rintro e w1 ⟨rfl, g1⟩; obtain ⟨W2, hW2, sz2, g2, B2⟩ := boxn w1 (dpv T.p) 60; have G2 := gb_trans g1 g2; have b0 := B2.cell 0 (v := .int .i64 T.p.at_) rfl; have b1 := B2.cell 1 (v := .int .i64 T.p.en) rfl; have b2 := B2.cell 2 (v := .int .i64 T.p.st) rfl; have b3 := B2.cell 3 (v := .int .i64 T.p.sg) rfl; have b4 := B2.cell 4 (v := .int .i64 T.p.fr) rfl; have b5 := B2.cell 5 (v := .int .i64 T.p.to) rfl; obtain ⟨W3, hW3, sz3, g3, B3⟩ := boxn W2 (dpv T.p) 60; have G3 := gb_trans G2 g3; have d0 := B3.cell 0 (v := .int .i64 T.p.at_) rfl; have d1 := B3.cell 1 (v := .int .i64 T.p.en) rfl; have d2 := B3.cell 2 (v := .int .i64 T.p.st) rfl; have d3 := B3.cell 3 (v := .int .i64 T.p.sg) rfl; have d4 := B3.cell 4 (v := .int .i64 T.p.fr) rfl; have d5 := B3.cell 5 (v := .int .i64 T.p.to) rfl) | (go_at_call 46; refine (hu _).mono ?_; rintro e w4 ⟨rfl, g4⟩; obtain ⟨W5, hW5, sz5, g5, B5⟩ := boxn w4 (dpv U.p) 60; have G5 := gb_trans (gb_trans G3 g4) g5; have P5 := (B3.kept g4 (by simp)).kept g5 (by simp); have q0 := B5.cell 0 (v := .int .i64 U.p.at_) rfl; have q1 := B5.cell 1 (v := .int .i64 U.p.en) rfl; have q2 := B5.cell 2 (v := .int .i64 U.p.st) rfl; have q3 := B5.cell 3 (v := .int .i64 U.p.sg) rfl; have q4 := B5.cell 4 (v := .int .i64 U.p.fr) rfl; have q5 := B5.cell 5 (v := .int .i64 U.p.to) rfl; have r0 := P5.cell 0 (v := .int .i64 T.p.at_) rfl; have r1 := P5.cell 1 (v := .int .i64 T.p.en) rfl; have r2 := P5.cell 2 (v := .int .i64 T.p.st) rfl; have r3 := P5.cell 3 (v := .int .i64 T.p.sg) rfl; have r4 := P5.cell 4 (v := .int .i64 T.p.fr) rfl; have r5 := P5.cell 5 (v := .int .i64 T.p.to) rfl))
    refine bodyPost_ret (results_tmp4 rfl _ _ _) rfl ?_
    exact ⟨rfl, G5⟩

set_option maxHeartbeats 2000000 in
theorem form_ok2 (s : ByteArray) (K : Nat) (h0 : 0 < s.size) (hk : ∀ w, Calls Tryd.prog 45 #[.int .u8 (Sc.bt s 0 : Nat)] w fun e w' => e = .returned (.int .u8 (K : Nat)) ∧ w' = w) (T : Tp.Tk) (star : Bool) (hstar : ((K : Int) != 5) = star) (hal : ((s.size : Int) == 1) = false ∨ (((s.size : Int) == 1) = true ∧ ¬ (K : Int) ≤ 2)) (ht : ∀ w, Calls Tryd.prog 46 #[.string s, .int .i64 1, .bool star] w fun e w' => e = .returned (.tuple #[.agg (dpv T.p), .int .i64 T.j, .int .i64 T.e]) ∧ w.grownBy w' none) (hK : ((K : Int) == 0) = false) (he : ((T.e : Int) != 0) = false) (h5 : star = true) (hj : T.j < s.size) (hc : ((Sc.bt s T.j : Int) == 44) = true) (U : Tp.Tk) (j1 : Nat) (hj1 : Hid (T.j + 1 = j1)) (hsz : s.size ≤ 1048576) (hu : ∀ w, Calls Tryd.prog 46 #[.string s, .int .i64 j1, .bool true] w fun e w' => e = .returned (.tuple #[.agg (dpv U.p), .int .i64 U.j, .int .i64 U.e]) ∧ w.grownBy w' none) (hue : ((U.e : Int) != 0) = false) (hju : ¬ (U.j : Int) < (s.size : Int)) (w : World) : Calls Tryd.prog 21 #[.string s] w fun e w' => (∃ g c, e = .returned (.tuple #[.int .u8 (K : Nat), .slice (some ⟨g, 0, none⟩) 2 c, .int .i64 0, .int .i64 0]) ∧ Cs w' g (dpl T.p ++ dpl U.p)) ∧ w.grownBy w' none := by
  have hb := Sc.bt_at h0
  have h0' : ((s.size : Int) == 0) = false := beq_eq_false_iff_ne.2 (by omega)
  have h0i : (0 : Int) < (s.size : Int) := by omega
  have hj' : (T.j : Int) < (s.size : Int) := by omega
  have hbj := Sc.bt_at hj
  subst h5
  have hw1 : IntKind.i64.wrap ((T.j : Int) + 1) = (j1 : Int) := by have := hj1.out; rw [IntKind.wrap_i64]; omega
  obtain ⟨i0, hi⟩ := info6p info6z
  have HI : Hid (Tryd.prog.info? 60 = some i0 ∧ i0.zero = some (.agg #[.int .i64 0, .int .i64 0, .int .i64 0, .int .i64 0, .int .i64 0, .int .i64 0]) ∧ i0.size = 6 ∧ i0.bytes = 48) := hi
  clear hi
  rcases hal with h1 | ⟨h1, h2⟩
  all_goals
    go_enter Tryd.func21, Tryd.ntmps21
    go_wp2_with (first | (go_at_call 45; refine (hk _).mono ?_; rintro e w' ⟨rfl, hw'⟩; subst w') | (go_at_call 46; (fail_if_success (guard_hyp g1)); refine (ht _).mono ?_; rintro e w1 ⟨rfl, g1⟩; obtain ⟨W2, hW2, sz2, g2, B2⟩ := boxn w1 (dpv T.p) 60; have G2 := gb_trans g1 g2; have b0 := B2.cell 0 (v := .int .i64 T.p.at_) rfl; have b1 := B2.cell 1 (v := .int .i64 T.p.en) rfl; have b2 := B2.cell 2 (v := .int .i64 T.p.st) rfl; have b3 := B2.cell 3 (v := .int .i64 T.p.sg) rfl; have b4 := B2.cell 4 (v := .int .i64 T.p.fr) rfl; have b5 := B2.cell 5 (v := .int .i64 T.p.to) rfl; obtain ⟨W3, hW3, sz3, g3, B3⟩ := boxn W2 (dpv T.p) 60; have G3 := gb_trans G2 g3; have d0 := B3.cell 0 (v := .int .i64 T.p.at_) rfl; have d1 := B3.cell 1 (v := .int .i64 T.p.en) rfl; have d2 := B3.cell 2 (v := .int .i64 T.p.st) rfl; have d3 := B3.cell 3 (v := .int .i64 T.p.sg) rfl; have d4 := B3.cell 4 (v := .int .i64 T.p.fr) rfl; have d5 := B3.cell 5 (v := .int .i64 T.p.to) rfl) | (go_at_call 46; refine (hu _).mono ?_; rintro e w4 ⟨rfl, g4⟩; obtain ⟨W5, hW5, sz5, g5, B5⟩ := boxn w4 (dpv U.p) 60; have G5 := gb_trans (gb_trans G3 g4) g5; have P5 := (B3.kept g4 (by simp)).kept g5 (by simp); have q0 := B5.cell 0 (v := .int .i64 U.p.at_) rfl; have q1 := B5.cell 1 (v := .int .i64 U.p.en) rfl; have q2 := B5.cell 2 (v := .int .i64 U.p.st) rfl; have q3 := B5.cell 3 (v := .int .i64 U.p.sg) rfl; have q4 := B5.cell 4 (v := .int .i64 U.p.fr) rfl; have q5 := B5.cell 5 (v := .int .i64 U.p.to) rfl; have r0 := P5.cell 0 (v := .int .i64 T.p.at_) rfl; have r1 := P5.cell 1 (v := .int .i64 T.p.en) rfl; have r2 := P5.cell 2 (v := .int .i64 T.p.st) rfl; have r3 := P5.cell 3 (v := .int .i64 T.p.sg) rfl; have r4 := P5.cell 4 (v := .int .i64 T.p.fr) rfl; have r5 := P5.cell 5 (v := .int .i64 T.p.to) rfl) | (at_builtin; refine wpList_append_lies _ rfl _ _ 55 rfl 0 60 i0 (.agg #[.int .i64 0, .int .i64 0, .int .i64 0, .int .i64 0, .int .i64 0, .int .i64 0]) 6 48 under6S HI.out.1 HI.out.2.1 HI.out.2.2.1 HI.out.2.2.2 rfl (by decide) _ _ _ rfl ((own1 P5).alloc _) ⟨W5.heap.size, 0, none⟩ 1 1 (dpl U.p) rfl rfl (new6 _ _ _ _ _ _ _ _) ?_ (by decide) ?_ ?_ ?_ _ rfl ?_; rotate_right; intro g7 c7 w7 hown7 hgrow7 hat7 hlt7))
    · refine bodyPost_ret (results_tmp4 rfl _ _ _) rfl ?_
      exact ⟨⟨_, _, rfl, fun j u hu9 => (hown7.cellAt j (by have := (List.getElem?_eq_some_iff.1 hu9).1; simpa using this)).trans hu9⟩, gb_rowr (r := some W2.heap.size) (gb_trans G5 (World.grownBy_alloc _ _ none)) hgrow7 (fun i hi9 => by cases hi9; exact G2.size)⟩
    · intro u hu9; simp at hu9; rcases hu9 with rfl | rfl | rfl | rfl | rfl | rfl <;> rfl
    · decide
    · decide
    · exact Nat.zero_le _

set_option maxHeartbeats 2000000 in
theorem form_more2 (s : ByteArray) (K : Nat) (h0 : 0 < s.size) (hk : ∀ w, Calls Tryd.prog 45 #[.int .u8 (Sc.bt s 0 : Nat)] w fun e w' => e = .returned (.int .u8 (K : Nat)) ∧ w' = w) (T : Tp.Tk) (star : Bool) (hstar : ((K : Int) != 5) = star) (hal : ((s.size : Int) == 1) = false ∨ (((s.size : Int) == 1) = true ∧ ¬ (K : Int) ≤ 2)) (ht : ∀ w, Calls Tryd.prog 46 #[.string s, .int .i64 1, .bool star] w fun e w' => e = .returned (.tuple #[.agg (dpv T.p), .int .i64 T.j, .int .i64 T.e]) ∧ w.grownBy w' none) (hK : ((K : Int) == 0) = false) (he : ((T.e : Int) != 0) = false) (h5 : star = true) (hj : T.j < s.size) (hc : ((Sc.bt s T.j : Int) == 44) = true) (U : Tp.Tk) (j1 : Nat) (hj1 : Hid (T.j + 1 = j1)) (hsz : s.size ≤ 1048576) (hu : ∀ w, Calls Tryd.prog 46 #[.string s, .int .i64 j1, .bool true] w fun e w' => e = .returned (.tuple #[.agg (dpv U.p), .int .i64 U.j, .int .i64 U.e]) ∧ w.grownBy w' none) (hue : ((U.e : Int) != 0) = false) (hju : (U.j : Int) < (s.size : Int)) (w : World) : Calls Tryd.prog 21 #[.string s] w fun e w' => e = .returned (.tuple #[.int .u8 (K : Nat), .slice none 0 0, .int .i64 U.j, .int .i64 45]) ∧ w.grownBy w' none := by
  have hb := Sc.bt_at h0
  have h0' : ((s.size : Int) == 0) = false := beq_eq_false_iff_ne.2 (by omega)
  have h0i : (0 : Int) < (s.size : Int) := by omega
  have hj' : (T.j : Int) < (s.size : Int) := by omega
  have hbj := Sc.bt_at hj
  subst h5
  have hw1 : IntKind.i64.wrap ((T.j : Int) + 1) = (j1 : Int) := by have := hj1.out; rw [IntKind.wrap_i64]; omega
  obtain ⟨i0, hi⟩ := info6p info6z
  have HI : Hid (Tryd.prog.info? 60 = some i0 ∧ i0.zero = some (.agg #[.int .i64 0, .int .i64 0, .int .i64 0, .int .i64 0, .int .i64 0, .int .i64 0]) ∧ i0.size = 6 ∧ i0.bytes = 48) := hi
  clear hi
  rcases hal with h1 | ⟨h1, h2⟩
  all_goals
    go_enter Tryd.func21, Tryd.ntmps21
    go_wp2_with (first | (go_at_call 45; refine (hk _).mono ?_; rintro e w' ⟨rfl, hw'⟩; subst w') | (go_at_call 46; (fail_if_success (guard_hyp g1)); refine (ht _).mono ?_; rintro e w1 ⟨rfl, g1⟩; obtain ⟨W2, hW2, sz2, g2, B2⟩ := boxn w1 (dpv T.p) 60; have G2 := gb_trans g1 g2; have b0 := B2.cell 0 (v := .int .i64 T.p.at_) rfl; have b1 := B2.cell 1 (v := .int .i64 T.p.en) rfl; have b2 := B2.cell 2 (v := .int .i64 T.p.st) rfl; have b3 := B2.cell 3 (v := .int .i64 T.p.sg) rfl; have b4 := B2.cell 4 (v := .int .i64 T.p.fr) rfl; have b5 := B2.cell 5 (v := .int .i64 T.p.to) rfl; obtain ⟨W3, hW3, sz3, g3, B3⟩ := boxn W2 (dpv T.p) 60; have G3 := gb_trans G2 g3; have d0 := B3.cell 0 (v := .int .i64 T.p.at_) rfl; have d1 := B3.cell 1 (v := .int .i64 T.p.en) rfl; have d2 := B3.cell 2 (v := .int .i64 T.p.st) rfl; have d3 := B3.cell 3 (v := .int .i64 T.p.sg) rfl; have d4 := B3.cell 4 (v := .int .i64 T.p.fr) rfl; have d5 := B3.cell 5 (v := .int .i64 T.p.to) rfl) | (go_at_call 46; refine (hu _).mono ?_; rintro e w4 ⟨rfl, g4⟩; obtain ⟨W5, hW5, sz5, g5, B5⟩ := boxn w4 (dpv U.p) 60; have G5 := gb_trans (gb_trans G3 g4) g5; have P5 := (B3.kept g4 (by simp)).kept g5 (by simp); have q0 := B5.cell 0 (v := .int .i64 U.p.at_) rfl; have q1 := B5.cell 1 (v := .int .i64 U.p.en) rfl; have q2 := B5.cell 2 (v := .int .i64 U.p.st) rfl; have q3 := B5.cell 3 (v := .int .i64 U.p.sg) rfl; have q4 := B5.cell 4 (v := .int .i64 U.p.fr) rfl; have q5 := B5.cell 5 (v := .int .i64 U.p.to) rfl; have r0 := P5.cell 0 (v := .int .i64 T.p.at_) rfl; have r1 := P5.cell 1 (v := .int .i64 T.p.en) rfl; have r2 := P5.cell 2 (v := .int .i64 T.p.st) rfl; have r3 := P5.cell 3 (v := .int .i64 T.p.sg) rfl; have r4 := P5.cell 4 (v := .int .i64 T.p.fr) rfl; have r5 := P5.cell 5 (v := .int .i64 T.p.to) rfl) | (at_builtin; refine wpList_append_lies _ rfl _ _ 55 rfl 0 60 i0 (.agg #[.int .i64 0, .int .i64 0, .int .i64 0, .int .i64 0, .int .i64 0, .int .i64 0]) 6 48 under6S HI.out.1 HI.out.2.1 HI.out.2.2.1 HI.out.2.2.2 rfl (by decide) _ _ _ rfl ((own1 P5).alloc _) ⟨W5.heap.size, 0, none⟩ 1 1 (dpl U.p) rfl rfl (new6 _ _ _ _ _ _ _ _) ?_ (by decide) ?_ ?_ ?_ _ rfl ?_; rotate_right; intro g7 c7 w7 hown7 hgrow7 hat7 hlt7))
    · refine bodyPost_ret (results_tmp4 rfl _ _ _) rfl ?_
      exact ⟨rfl, gb_rowr (r := some W2.heap.size) (gb_trans G5 (World.grownBy_alloc _ _ none)) hgrow7 (fun i hi9 => by cases hi9; exact G2.size)⟩
    · intro u hu9; simp at hu9; rcases hu9 with rfl | rfl | rfl | rfl | rfl | rfl <;> rfl
    · decide
    · decide
    · exact Nat.zero_le _

/-- What form answers: the kind, the list of parts (none, one or two), the place, the error. -/
def FmA (w : World) (f : Tp.Fm) (e : Ending) (w' : World) : Prop :=
  match f with
  | .bad k er a => e = .returned (.tuple #[.int .u8 (k : Nat), .slice none 0 0, .int .i64 (a : Nat), .int .i64 (er : Nat)]) ∧ w.grownBy w' none
  | .none k => e = .returned (.tuple #[.int .u8 (k : Nat), .slice none 0 0, .int .i64 0, .int .i64 0]) ∧ w.grownBy w' none
  | .ok k n p q => (∃ g c, e = .returned (.tuple #[.int .u8 (k : Nat), .slice (some ⟨g, 0, none⟩) n c, .int .i64 0, .int .i64 0]) ∧ Cs w' g (if n = 2 then dpl p ++ dpl q else dpl p)) ∧ w.grownBy w' none
theorem gbr (w : World) : w.grownBy w none := World.grownBy.refl w none
theorem formC (s : ByteArray) (hs : s.size ≤ 1048576) (w : World) : Calls Tryd.prog 21 #[.string s] w (FmA w (Tp.fmR s)) := by
  have hm : s.size ≤ maxLen := by unfold maxLen; omega
  unfold Tp.fmR
  by_cases h0 : 0 < s.size
  · have hk : ∀ w, Calls Tryd.prog 45 #[.int .u8 (Sc.bt s 0 : Nat)] w fun e w' => e = .returned (.int .u8 (Tp.kindR (Sc.bt s 0) : Nat)) ∧ w' = w := rKindC (Sc.bt s 0) (Sc.bt_lt s 0)
    generalize Tp.kindR (Sc.bt s 0) = K at *
    by_cases hK : K = 0
    · rw [if_pos hK]
      refine (form_kind0 s K h0 hk (by simp [hK]) w).mono ?_
      rintro e w' ⟨rfl, rfl⟩
      exact ⟨rfl, gbr _⟩
    rw [if_neg hK]
    have hK' : ((K : Int) == 0) = false := beq_eq_false_iff_ne.2 (by omega)
    unfold Tp.fmK
    by_cases h1 : s.size = 1 ∧ K ≤ 2
    · rw [if_pos h1]
      refine (form_alone s K h0 hk hK' (by omega) (by simp [h1.1]) w).mono ?_
      rintro e w' ⟨rfl, rfl⟩
      exact ⟨rfl, gbr _⟩
    rw [if_neg h1]
    have hal : ((s.size : Int) == 1) = false ∨ (((s.size : Int) == 1) = true ∧ ¬ (K : Int) ≤ 2) := by
      by_cases q : s.size = 1
      · exact .inr ⟨by simp [q], by omega⟩
      · exact .inl (beq_eq_false_iff_ne.2 (by omega))
    have hstar : ((K : Int) != 5) = decide (K ≠ 5) := by
      by_cases q : K = 5
      · subst q; rfl
      · rw [decide_eq_true q]; simp [bne]; omega
    have ht := takesC s 1 (decide (K ≠ 5)) hm (by omega)
    have ok := Tp.tkR_ok (s := s) (i := 1) (b := decide (K ≠ 5)) (by omega) (by omega)
    generalize Tp.tkR s 1 (decide (K ≠ 5)) = T at *
    unfold Tp.fm1
    by_cases he : T.e = 0
    · have he' : ((T.e : Int) != 0) = false := by simp [he]
      rw [if_pos he]
      by_cases h5 : K = 5
      · have hs5 : decide (K ≠ 5) = false := by simp [h5]
        rw [if_neg (by simp [h5])]
        by_cases hj : T.j < s.size
        · rw [if_pos hj]
          exact (form_more1s s K h0 hk T _ hstar hal ht hK' he' hs5 hj w)
        · rw [if_neg hj]
          exact form_ok1s s K h0 hk T _ hstar hal ht hK' he' hs5 (by omega) w
      · have hs5 : decide (K ≠ 5) = true := by simp [h5]
        by_cases hc : Sc.bt s T.j = 44
        · have hj := Tp.bt_in (s := s) (i := T.j) (by omega)
          rw [if_pos ⟨h5, hc⟩]
          have hu := takesC s (T.j + 1) true hm (by omega)
          generalize Tp.tkR s (T.j + 1) true = U at *
          unfold Tp.fm2
          by_cases hue : U.e = 0
          · rw [if_pos hue]
            by_cases hju : U.j < s.size
            · rw [if_pos hju]
              exact form_more2 s K h0 hk T _ hstar hal ht hK' he' hs5 hj (by simp [hc]) U _ rfl hs hu (by simp [hue]) (by omega) w
            · rw [if_neg hju]
              exact form_ok2 s K h0 hk T _ hstar hal ht hK' he' hs5 hj (by simp [hc]) U _ rfl hs hu (by simp [hue]) (by omega) w
          · rw [if_neg hue]
            exact form_bad2 s K h0 hk T _ hstar hal ht hK' he' hs5 hj (by simp [hc]) U _ rfl hs hu (by simp [bne]; omega) w
        · rw [if_neg (by simp [hc])]
          by_cases hj : T.j < s.size
          · rw [if_pos hj]
            exact form_more1n s K h0 hk T _ hstar hal ht hK' he' hs5 hj (beq_eq_false_iff_ne.2 (by omega)) w
          · rw [if_neg hj]
            exact form_ok1n s K h0 hk T _ hstar hal ht hK' he' hs5 (by omega) w
    · rw [if_neg he]
      exact form_bad1 s K h0 hk T _ hstar hal ht hK' (by simp [bne]; omega) w
  · have hz : Sc.bt s 0 = 0 := Sc.bt_off h0
    rw [hz, if_pos (by rfl)]
    refine (form_none0 s (by omega) w).mono ?_
    rintro e w' ⟨rfl, rfl⟩
    exact ⟨rfl, gbr _⟩
end Go.Proofs.YteegbhnfkcbnoaaDoor
