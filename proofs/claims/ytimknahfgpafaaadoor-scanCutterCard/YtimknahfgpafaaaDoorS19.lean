/- One call of both cutters: the same answers. -/
import Derived.Test.YtimknahfgpafaaaDoorS6
import Derived.Test.YtimknahfgpafaaaDoorS18
namespace Go.Proofs.YtimknahfgpafaaaDoor
open Go.RowKit
set_option linter.unusedVariables false
set_option linter.unusedSimpArgs false

/-- What was there is as it was, but for two blocks. -/
structure Gd (a b : Nat) (w w' : World) : Prop where
  os : w'.os = w.os
  tape : w'.tape = w.tape
  output : w'.output = w.output
  size : w.heap.size ≤ w'.heap.size
  block : ∀ k, k < w.heap.size → k ≠ a → k ≠ b → w'.heap[k]? = w.heap[k]?
theorem Gd.of {a b : Nat} {w w' : World} {r : Option Nat} (h : w.grownBy w' r) (hr : ∀ i, r = some i → i = a ∨ i = b) : Gd a b w w' :=
  ⟨h.os, h.tape, h.output, h.size, fun k hk h1 h2 => h.block k hk (fun e => by rcases hr k e.symm with e' | e' <;> omega)⟩
theorem Gd.trans {a b : Nat} {w w' w'' : World} (h : Gd a b w w') (k : Gd a b w' w'') : Gd a b w w'' :=
  ⟨k.os.trans h.os, k.tape.trans h.tape, k.output.trans h.output, Nat.le_trans h.size k.size, fun i hi h1 h2 => (k.block i (Nat.lt_of_lt_of_le hi h.size) h1 h2).trans (h.block i hi h1 h2)⟩
theorem tkI_le {s : ByteArray} {i : Nat} {x : Int} (hi : i ≤ s.size) : tkI s i x ≤ s.size := by
  unfold tkI
  split
  · rename_i h
    unfold tkB at h
    rw [Bool.and_eq_true, decide_eq_true_eq] at h
    omega
  · exact hi
theorem nbI_le {s : ByteArray} {i : Nat} (hi : i ≤ s.size) : nbI s i ≤ s.size := by unfold nbI; split; exact dg_le hi; exact hi
theorem nmI_le {s : ByteArray} {i : Nat} (hi : i ≤ s.size) : nmI s i ≤ s.size := by unfold nmI; split; exact Sc.ov_le _ hi; exact hi
theorem Cu.neR {w : World} {b b' i j : Nat} {s t : ByteArray} (h : Cu w b s i) (h' : Rc w b' t j) : b ≠ b' := by
  rintro rfl
  unfold Cu at h
  rw [show w.heap[b]? = _ from h'] at h
  simp at h

set_option maxRecDepth 100000 in
set_option maxHeartbeats 2000000 in
theorem one1 (b1 b2 : Nat) (s : ByteArray) (i : Nat) (which x : Int) (w : World) (h1 : Cu w b1 s i) (h2 : Rc w b2 s i) (hs : s.size ≤ maxLen) (hi : i ≤ s.size) (tp : TypeId) (p : Value) (hE : Hid (Er tp p w)) (hG : 4 < w.heap.size) :
    Calls Tryd.prog 16 #[.pointer (some ⟨b1, 0, none⟩), .pointer (some ⟨b2, 0, none⟩), .agg #[.int .i64 1, .int .i64 which, .int .u8 x]] w fun e w' => e = .returned (.bool true) ∧ ∃ i', i' ≤ s.size ∧ Cu w' b1 s i' ∧ Rc w' b2 s i' ∧ Gd b1 b2 w w' := by
  obtain ⟨W1, hW, sz, g0, hB⟩ := box3 w (.int .i64 1) (.int .i64 which) (.int .u8 x) 38
  have z0 := hB.c0
  have z2 := hB.c2
  have hne := h1.neR h2
  have h1' := h1.kept g0 (by simp)
  have h2' := h2.kept g0 (by simp)
  have E1 : Hid (Er tp p W1) := Er.below hE.out (gb_below g0) hG
  have G1 := Nat.lt_of_lt_of_le hG g0.size
  have hz0 := h1.lt
  have hz1 := h2.lt
  go_enter Tryd.func16, Tryd.ntmps16
  go_wp2_with (first | (go_at_call 17; refine (atC _ _ _ _ h1').mono ?_; rintro e w' ⟨rfl, hw'⟩; subst w') | (go_at_call 18; refine (ratC _ _ _ _ h2').mono ?_; rintro e w' ⟨rfl, hw'⟩; subst w'))
  go_ret
  exact ⟨by simp, i, hi, h1', h2', Gd.of g0 (by simp)⟩

set_option maxRecDepth 100000 in
set_option maxHeartbeats 2000000 in
theorem one2 (b1 b2 : Nat) (s : ByteArray) (i : Nat) (which x : Int) (w : World) (h1 : Cu w b1 s i) (h2 : Rc w b2 s i) (hs : s.size ≤ maxLen) (hi : i ≤ s.size) (tp : TypeId) (p : Value) (hE : Hid (Er tp p w)) (hG : 4 < w.heap.size) :
    Calls Tryd.prog 16 #[.pointer (some ⟨b1, 0, none⟩), .pointer (some ⟨b2, 0, none⟩), .agg #[.int .i64 2, .int .i64 which, .int .u8 x]] w fun e w' => e = .returned (.bool true) ∧ ∃ i', i' ≤ s.size ∧ Cu w' b1 s i' ∧ Rc w' b2 s i' ∧ Gd b1 b2 w w' := by
  obtain ⟨W1, hW, sz, g0, hB⟩ := box3 w (.int .i64 2) (.int .i64 which) (.int .u8 x) 38
  have z0 := hB.c0
  have z2 := hB.c2
  have hne := h1.neR h2
  have h1' := h1.kept g0 (by simp)
  have h2' := h2.kept g0 (by simp)
  have E1 : Hid (Er tp p W1) := Er.below hE.out (gb_below g0) hG
  have G1 := Nat.lt_of_lt_of_le hG g0.size
  have hz0 := h1.lt
  have hz1 := h2.lt
  go_enter Tryd.func16, Tryd.ntmps16
  go_wp2_with (first | (go_at_call 33; refine (doneC _ _ _ _ h1').mono ?_; rintro e w2 ⟨rfl, k2, rfl⟩) | (go_at_call 34; refine (rdoneC _ _ _ _ h2'.drew).mono ?_; rintro e w3 ⟨rfl, k3, rfl⟩))
  go_ret
  exact ⟨by simp, i, hi, h1', h2', Gd.of (gb_drewN g0 _) (by simp)⟩

set_option maxRecDepth 100000 in
set_option maxHeartbeats 2000000 in
theorem one3 (b1 b2 : Nat) (s : ByteArray) (i : Nat) (which x : Int) (w : World) (h1 : Cu w b1 s i) (h2 : Rc w b2 s i) (hs : s.size ≤ maxLen) (hi : i ≤ s.size) (tp : TypeId) (p : Value) (hE : Hid (Er tp p w)) (hG : 4 < w.heap.size) :
    Calls Tryd.prog 16 #[.pointer (some ⟨b1, 0, none⟩), .pointer (some ⟨b2, 0, none⟩), .agg #[.int .i64 3, .int .i64 which, .int .u8 x]] w fun e w' => e = .returned (.bool true) ∧ ∃ i', i' ≤ s.size ∧ Cu w' b1 s i' ∧ Rc w' b2 s i' ∧ Gd b1 b2 w w' := by
  obtain ⟨W1, hW, sz, g0, hB⟩ := box3 w (.int .i64 3) (.int .i64 which) (.int .u8 x) 38
  have z0 := hB.c0
  have z2 := hB.c2
  have hne := h1.neR h2
  have h1' := h1.kept g0 (by simp)
  have h2' := h2.kept g0 (by simp)
  have E1 : Hid (Er tp p W1) := Er.below hE.out (gb_below g0) hG
  have G1 := Nat.lt_of_lt_of_le hG g0.size
  have hz0 := h1.lt
  have hz1 := h2.lt
  go_enter Tryd.func16, Tryd.ntmps16
  go_wp2_with (first | (go_at_call 35; refine (peekA _ _ _ _ h1' hi).mono ?_; rintro e w2 ⟨rfl, k2, rfl⟩) | (go_at_call 36; refine (rpeekC _ _ _ _ h2'.drew hi).mono ?_; rintro e w3 ⟨rfl, k3, rfl⟩))
  go_ret
  exact ⟨by simp, i, hi, h1', h2', Gd.of (gb_drewN g0 _) (by simp)⟩

set_option maxRecDepth 100000 in
set_option maxHeartbeats 2000000 in
theorem one4 (b1 b2 : Nat) (s : ByteArray) (i : Nat) (which x : Int) (w : World) (h1 : Cu w b1 s i) (h2 : Rc w b2 s i) (hs : s.size ≤ maxLen) (hi : i ≤ s.size) (tp : TypeId) (p : Value) (hE : Hid (Er tp p w)) (hG : 4 < w.heap.size) :
    Calls Tryd.prog 16 #[.pointer (some ⟨b1, 0, none⟩), .pointer (some ⟨b2, 0, none⟩), .agg #[.int .i64 4, .int .i64 which, .int .u8 x]] w fun e w' => e = .returned (.bool true) ∧ ∃ i', i' ≤ s.size ∧ Cu w' b1 s i' ∧ Rc w' b2 s i' ∧ Gd b1 b2 w w' := by
  obtain ⟨W1, hW, sz, g0, hB⟩ := box3 w (.int .i64 4) (.int .i64 which) (.int .u8 x) 38
  have z0 := hB.c0
  have z2 := hB.c2
  have hne := h1.neR h2
  have h1' := h1.kept g0 (by simp)
  have h2' := h2.kept g0 (by simp)
  have E1 : Hid (Er tp p W1) := Er.below hE.out (gb_below g0) hG
  have G1 := Nat.lt_of_lt_of_le hG g0.size
  have hz0 := h1.lt
  have hz1 := h2.lt
  go_enter Tryd.func16, Tryd.ntmps16
  go_wp2_with (first | (go_at_call 37; refine (takeA _ _ _ _ _ h1' hi hs).mono ?_; rintro e w2 ⟨rfl, r1, g2⟩; have z4 := (hB.kept g2 (by simp; omega)).c2; have h3' := h2'.kept g2 (by simp; omega)) | (go_at_call 38; refine (rtakeC _ _ _ _ _ h3' hi hs).mono ?_; rintro e w3 ⟨rfl, r2, g3⟩))
  have gA := Gd.of (a := b1) (b := b2) g0 (by simp)
  have gB := Gd.of (a := b1) (b := b2) g2 (fun i e => by cases e; exact .inl rfl)
  have gC := Gd.of (a := b1) (b := b2) g3 (fun i e => by cases e; exact .inr rfl)
  go_ret
  exact ⟨by simp, _, tkI_le hi, r1.kept g3 (by simp; omega), r2, gA.trans (gB.trans gC)⟩

set_option maxRecDepth 100000 in
set_option maxHeartbeats 2000000 in
theorem one5 (b1 b2 : Nat) (s : ByteArray) (i : Nat) (which x : Int) (w : World) (h1 : Cu w b1 s i) (h2 : Rc w b2 s i) (hs : s.size ≤ maxLen) (hi : i ≤ s.size) (tp : TypeId) (p : Value) (hE : Hid (Er tp p w)) (hG : 4 < w.heap.size) :
    Calls Tryd.prog 16 #[.pointer (some ⟨b1, 0, none⟩), .pointer (some ⟨b2, 0, none⟩), .agg #[.int .i64 5, .int .i64 which, .int .u8 x]] w fun e w' => e = .returned (.bool true) ∧ ∃ i', i' ≤ s.size ∧ Cu w' b1 s i' ∧ Rc w' b2 s i' ∧ Gd b1 b2 w w' := by
  obtain ⟨W1, hW, sz, g0, hB⟩ := box3 w (.int .i64 5) (.int .i64 which) (.int .u8 x) 38
  have z0 := hB.c0
  have z2 := hB.c2
  have hne := h1.neR h2
  have h1' := h1.kept g0 (by simp)
  have h2' := h2.kept g0 (by simp)
  have E1 : Hid (Er tp p W1) := Er.below hE.out (gb_below g0) hG
  have G1 := Nat.lt_of_lt_of_le hG g0.size
  have hz0 := h1.lt
  have hz1 := h2.lt
  go_enter Tryd.func16, Tryd.ntmps16
  go_wp2_with (first | (go_at_call 29; refine (blanksC _ _ _ _ h1' hs hi).mono ?_; rintro e w2 ⟨rfl, r1, g2⟩; have h3' := h2'.kept g2 (by simp; omega)) | (go_at_call 39; refine (rblanksC _ _ _ _ h3' hs hi).mono ?_; rintro e w3 ⟨rfl, r2, g3⟩))
  have gA := Gd.of (a := b1) (b := b2) g0 (by simp)
  have gB := Gd.of (a := b1) (b := b2) g2 (fun i e => by cases e; exact .inl rfl)
  have gC := Gd.of (a := b1) (b := b2) g3 (fun i e => by cases e; exact .inr rfl)
  go_ret
  exact ⟨by simp, _, Sc.ov_le _ hi, r1.kept g3 (by simp; omega), r2, gA.trans (gB.trans gC)⟩

set_option maxRecDepth 100000 in
set_option maxHeartbeats 2000000 in
theorem one6 (b1 b2 : Nat) (s : ByteArray) (i : Nat) (which x : Int) (w : World) (h1 : Cu w b1 s i) (h2 : Rc w b2 s i) (hs : s.size ≤ maxLen) (hi : i ≤ s.size) (tp : TypeId) (p : Value) (hE : Hid (Er tp p w)) (hG : 4 < w.heap.size) :
    Calls Tryd.prog 16 #[.pointer (some ⟨b1, 0, none⟩), .pointer (some ⟨b2, 0, none⟩), .agg #[.int .i64 6, .int .i64 which, .int .u8 x]] w fun e w' => e = .returned (.bool true) ∧ ∃ i', i' ≤ s.size ∧ Cu w' b1 s i' ∧ Rc w' b2 s i' ∧ Gd b1 b2 w w' := by
  obtain ⟨W1, hW, sz, g0, hB⟩ := box3 w (.int .i64 6) (.int .i64 which) (.int .u8 x) 38
  have z0 := hB.c0
  have z2 := hB.c2
  have hne := h1.neR h2
  have h1' := h1.kept g0 (by simp)
  have h2' := h2.kept g0 (by simp)
  have E1 : Hid (Er tp p W1) := Er.below hE.out (gb_below g0) hG
  have G1 := Nat.lt_of_lt_of_le hG g0.size
  have hz0 := h1.lt
  have hz1 := h2.lt
  go_enter Tryd.func16, Tryd.ntmps16
  go_wp2_with (first | (go_at_call 27; refine (numberA _ _ _ _ h1' hs hi tp p E1 G1).mono ?_; rintro e w2 ⟨rfl, r1, g2⟩; have h3' := h2'.kept g2 (by simp; omega)) | (go_at_call 40; refine (rnumC _ _ _ _ h3' hs hi).mono ?_; rintro e w3 ⟨rfl, r2, g3⟩))
  have gA := Gd.of (a := b1) (b := b2) g0 (by simp)
  have gB := Gd.of (a := b1) (b := b2) g2 (fun i e => by cases e; exact .inl rfl)
  have gC := Gd.of (a := b1) (b := b2) g3 (fun i e => by cases e; exact .inr rfl)
  go_ret
  exact ⟨by simp, _, nbI_le hi, r1.kept g3 (by simp; omega), r2, gA.trans (gB.trans gC)⟩

set_option maxRecDepth 100000 in
set_option maxHeartbeats 2000000 in
theorem one7 (b1 b2 : Nat) (s : ByteArray) (i : Nat) (which x : Int) (w : World) (h1 : Cu w b1 s i) (h2 : Rc w b2 s i) (hs : s.size ≤ maxLen) (hi : i ≤ s.size) (tp : TypeId) (p : Value) (hE : Hid (Er tp p w)) (hG : 4 < w.heap.size) :
    Calls Tryd.prog 16 #[.pointer (some ⟨b1, 0, none⟩), .pointer (some ⟨b2, 0, none⟩), .agg #[.int .i64 7, .int .i64 which, .int .u8 x]] w fun e w' => e = .returned (.bool true) ∧ ∃ i', i' ≤ s.size ∧ Cu w' b1 s i' ∧ Rc w' b2 s i' ∧ Gd b1 b2 w w' := by
  obtain ⟨W1, hW, sz, g0, hB⟩ := box3 w (.int .i64 7) (.int .i64 which) (.int .u8 x) 38
  have z0 := hB.c0
  have z2 := hB.c2
  have hne := h1.neR h2
  have h1' := h1.kept g0 (by simp)
  have h2' := h2.kept g0 (by simp)
  have E1 : Hid (Er tp p W1) := Er.below hE.out (gb_below g0) hG
  have G1 := Nat.lt_of_lt_of_le hG g0.size
  have hz0 := h1.lt
  have hz1 := h2.lt
  go_enter Tryd.func16, Tryd.ntmps16
  go_wp2_with (first | (go_at_call 28; refine (nameA _ _ _ _ h1' hs hi).mono ?_; rintro e w2 ⟨rfl, r1, g2⟩; have h3' := h2'.kept g2 (by simp; omega)) | (go_at_call 41; refine (rnameC _ _ _ _ h3' hs hi).mono ?_; rintro e w3 ⟨rfl, r2, g3⟩))
  have gA := Gd.of (a := b1) (b := b2) g0 (by simp)
  have gB := Gd.of (a := b1) (b := b2) g2 (fun i e => by cases e; exact .inl rfl)
  have gC := Gd.of (a := b1) (b := b2) g3 (fun i e => by cases e; exact .inr rfl)
  go_ret
  exact ⟨by simp, _, nmI_le hi, r1.kept g3 (by simp; omega), r2, gA.trans (gB.trans gC)⟩

set_option maxRecDepth 100000 in
set_option maxHeartbeats 2000000 in
theorem oneElse (b1 b2 : Nat) (s : ByteArray) (i : Nat) (which x : Int) (w : World) (h1 : Cu w b1 s i) (h2 : Rc w b2 s i) (hs : s.size ≤ maxLen) (hi : i ≤ s.size) (tp : TypeId) (p : Value) (hE : Hid (Er tp p w)) (hG : 4 < w.heap.size) (kind : Int) (hk : ¬ (1 ≤ kind ∧ kind ≤ 7)) :
    Calls Tryd.prog 16 #[.pointer (some ⟨b1, 0, none⟩), .pointer (some ⟨b2, 0, none⟩), .agg #[.int .i64 kind, .int .i64 which, .int .u8 x]] w fun e w' => e = .returned (.bool true) ∧ ∃ i', i' ≤ s.size ∧ Cu w' b1 s i' ∧ Rc w' b2 s i' ∧ Gd b1 b2 w w' := by
  have n1 : ((kind : Int) == 1) = false := by simp; omega
  have n2 : ((kind : Int) == 2) = false := by simp; omega
  have n3 : ((kind : Int) == 3) = false := by simp; omega
  have n4 : ((kind : Int) == 4) = false := by simp; omega
  have n5 : ((kind : Int) == 5) = false := by simp; omega
  have n6 : ((kind : Int) == 6) = false := by simp; omega
  have n7 : ((kind : Int) == 7) = false := by simp; omega
  obtain ⟨W1, hW, sz, g0, hB⟩ := box3 w (.int .i64 kind) (.int .i64 which) (.int .u8 x) 38
  have z0 := hB.c0
  have z2 := hB.c2
  have hne := h1.neR h2
  have h1' := h1.kept g0 (by simp)
  have h2' := h2.kept g0 (by simp)
  have E1 : Hid (Er tp p W1) := Er.below hE.out (gb_below g0) hG
  have G1 := Nat.lt_of_lt_of_le hG g0.size
  have hz0 := h1.lt
  have hz1 := h2.lt
  go_enter Tryd.func16, Tryd.ntmps16
  clear hk
  go_wp2
  go_ret
  exact ⟨rfl, i, hi, h1', h2', Gd.of g0 (by simp)⟩
theorem oneC (b1 b2 : Nat) (s : ByteArray) (i : Nat) (which x : Int) (w : World) (h1 : Cu w b1 s i) (h2 : Rc w b2 s i) (hs : s.size ≤ maxLen) (hi : i ≤ s.size) (tp : TypeId) (p : Value) (hE : Hid (Er tp p w)) (hG : 4 < w.heap.size) (kind : Int) :
    Calls Tryd.prog 16 #[.pointer (some ⟨b1, 0, none⟩), .pointer (some ⟨b2, 0, none⟩), .agg #[.int .i64 kind, .int .i64 which, .int .u8 x]] w fun e w' => e = .returned (.bool true) ∧ ∃ i', i' ≤ s.size ∧ Cu w' b1 s i' ∧ Rc w' b2 s i' ∧ Gd b1 b2 w w' := by
  by_cases k1 : kind = 1
  · subst k1; exact one1 b1 b2 s i which x w h1 h2 hs hi tp p hE hG
  by_cases k2 : kind = 2
  · subst k2; exact one2 b1 b2 s i which x w h1 h2 hs hi tp p hE hG
  by_cases k3 : kind = 3
  · subst k3; exact one3 b1 b2 s i which x w h1 h2 hs hi tp p hE hG
  by_cases k4 : kind = 4
  · subst k4; exact one4 b1 b2 s i which x w h1 h2 hs hi tp p hE hG
  by_cases k5 : kind = 5
  · subst k5; exact one5 b1 b2 s i which x w h1 h2 hs hi tp p hE hG
  by_cases k6 : kind = 6
  · subst k6; exact one6 b1 b2 s i which x w h1 h2 hs hi tp p hE hG
  by_cases k7 : kind = 7
  · subst k7; exact one7 b1 b2 s i which x w h1 h2 hs hi tp p hE hG
  exact oneElse b1 b2 s i which x w h1 h2 hs hi tp p hE hG kind (by omega)

set_option maxRecDepth 100000 in
set_option maxHeartbeats 2000000 in
theorem none1 (a : Option Addr) (which x : Int) (w : World) (h : Nc w a) : Calls Tryd.prog 16 #[.pointer a, .pointer none, .agg #[.int .i64 1, .int .i64 which, .int .u8 x]] w fun e w' => e = .returned (.bool true) ∧ w.grownBy w' none := by
  obtain ⟨W1, hW, sz, g0, hB⟩ := box3 w (.int .i64 1) (.int .i64 which) (.int .u8 x) 38
  have z0 := hB.c0
  have z2 := hB.c2
  have h' : Nc W1 a := by
    rcases h with rfl | ⟨b, rfl, hz⟩
    · exact .inl rfl
    · exact .inr ⟨b, rfl, hz.kept g0 (by simp)⟩
  go_enter Tryd.func16, Tryd.ntmps16
  go_wp2_with (first | (go_at_call 17; refine (atN a _ h').mono ?_; rintro e w2 ⟨rfl, k2, rfl⟩) | (go_at_call 18; refine (ratN _).mono ?_; rintro e w3 ⟨rfl, hw3⟩; subst w3))
  go_ret
  exact ⟨by simp, gb_drewN g0 _⟩

set_option maxRecDepth 100000 in
set_option maxHeartbeats 2000000 in
theorem none2 (a : Option Addr) (which x : Int) (w : World) (h : Nc w a) : Calls Tryd.prog 16 #[.pointer a, .pointer none, .agg #[.int .i64 2, .int .i64 which, .int .u8 x]] w fun e w' => e = .returned (.bool true) ∧ w.grownBy w' none := by
  obtain ⟨W1, hW, sz, g0, hB⟩ := box3 w (.int .i64 2) (.int .i64 which) (.int .u8 x) 38
  have z0 := hB.c0
  have z2 := hB.c2
  have h' : Nc W1 a := by
    rcases h with rfl | ⟨b, rfl, hz⟩
    · exact .inl rfl
    · exact .inr ⟨b, rfl, hz.kept g0 (by simp)⟩
  go_enter Tryd.func16, Tryd.ntmps16
  go_wp2_with (first | (go_at_call 33; refine (doneN a _ h').mono ?_; rintro e w2 ⟨rfl, k2, rfl⟩) | (go_at_call 34; refine (rdoneN _).mono ?_; rintro e w3 ⟨rfl, k3, rfl⟩))
  go_ret
  exact ⟨by simp, gb_drewN g0 _⟩

set_option maxRecDepth 100000 in
set_option maxHeartbeats 2000000 in
theorem none3 (a : Option Addr) (which x : Int) (w : World) (h : Nc w a) : Calls Tryd.prog 16 #[.pointer a, .pointer none, .agg #[.int .i64 3, .int .i64 which, .int .u8 x]] w fun e w' => e = .returned (.bool true) ∧ w.grownBy w' none := by
  obtain ⟨W1, hW, sz, g0, hB⟩ := box3 w (.int .i64 3) (.int .i64 which) (.int .u8 x) 38
  have z0 := hB.c0
  have z2 := hB.c2
  have h' : Nc W1 a := by
    rcases h with rfl | ⟨b, rfl, hz⟩
    · exact .inl rfl
    · exact .inr ⟨b, rfl, hz.kept g0 (by simp)⟩
  go_enter Tryd.func16, Tryd.ntmps16
  go_wp2_with (first | (go_at_call 35; refine (peekN a _ h').mono ?_; rintro e w2 ⟨rfl, k2, rfl⟩) | (go_at_call 36; refine (rpeekN _).mono ?_; rintro e w3 ⟨rfl, k3, rfl⟩))
  go_ret
  exact ⟨by simp, gb_drewN g0 _⟩

set_option maxRecDepth 100000 in
set_option maxHeartbeats 2000000 in
theorem none4 (a : Option Addr) (which x : Int) (w : World) (h : Nc w a) : Calls Tryd.prog 16 #[.pointer a, .pointer none, .agg #[.int .i64 4, .int .i64 which, .int .u8 x]] w fun e w' => e = .returned (.bool true) ∧ w.grownBy w' none := by
  obtain ⟨W1, hW, sz, g0, hB⟩ := box3 w (.int .i64 4) (.int .i64 which) (.int .u8 x) 38
  have z0 := hB.c0
  have z2 := hB.c2
  have h' : Nc W1 a := by
    rcases h with rfl | ⟨b, rfl, hz⟩
    · exact .inl rfl
    · exact .inr ⟨b, rfl, hz.kept g0 (by simp)⟩
  go_enter Tryd.func16, Tryd.ntmps16
  go_wp2_with (first | (go_at_call 37; refine (takeN a _ h' x).mono ?_; rintro e w2 ⟨rfl, k2, rfl⟩) | (go_at_call 38; refine (rtakeN x _).mono ?_; rintro e w3 ⟨rfl, k3, rfl⟩))
  go_ret
  exact ⟨by simp, gb_drewN g0 _⟩

set_option maxRecDepth 100000 in
set_option maxHeartbeats 2000000 in
theorem none5 (a : Option Addr) (which x : Int) (w : World) (h : Nc w a) : Calls Tryd.prog 16 #[.pointer a, .pointer none, .agg #[.int .i64 5, .int .i64 which, .int .u8 x]] w fun e w' => e = .returned (.bool true) ∧ w.grownBy w' none := by
  obtain ⟨W1, hW, sz, g0, hB⟩ := box3 w (.int .i64 5) (.int .i64 which) (.int .u8 x) 38
  have z0 := hB.c0
  have z2 := hB.c2
  have h' : Nc W1 a := by
    rcases h with rfl | ⟨b, rfl, hz⟩
    · exact .inl rfl
    · exact .inr ⟨b, rfl, hz.kept g0 (by simp)⟩
  go_enter Tryd.func16, Tryd.ntmps16
  go_wp2_with (first | (go_at_call 29; refine (blanksN a _ h').mono ?_; rintro e w2 ⟨rfl, k2, rfl⟩) | (go_at_call 39; refine (rblanksN _).mono ?_; rintro e w3 ⟨rfl, k3, rfl⟩))
  go_ret
  exact ⟨by simp, gb_drewN g0 _⟩

set_option maxRecDepth 100000 in
set_option maxHeartbeats 2000000 in
theorem none6 (a : Option Addr) (which x : Int) (w : World) (h : Nc w a) : Calls Tryd.prog 16 #[.pointer a, .pointer none, .agg #[.int .i64 6, .int .i64 which, .int .u8 x]] w fun e w' => e = .returned (.bool true) ∧ w.grownBy w' none := by
  obtain ⟨W1, hW, sz, g0, hB⟩ := box3 w (.int .i64 6) (.int .i64 which) (.int .u8 x) 38
  have z0 := hB.c0
  have z2 := hB.c2
  have h' : Nc W1 a := by
    rcases h with rfl | ⟨b, rfl, hz⟩
    · exact .inl rfl
    · exact .inr ⟨b, rfl, hz.kept g0 (by simp)⟩
  go_enter Tryd.func16, Tryd.ntmps16
  go_wp2_with (first | (go_at_call 27; refine (numberN a _ h').mono ?_; rintro e w2 ⟨rfl, k2, rfl⟩) | (go_at_call 40; refine (rnumberN _).mono ?_; rintro e w3 ⟨rfl, hw3⟩; subst w3))
  go_ret
  exact ⟨by simp, gb_drewN g0 _⟩

set_option maxRecDepth 100000 in
set_option maxHeartbeats 2000000 in
theorem none7 (a : Option Addr) (which x : Int) (w : World) (h : Nc w a) : Calls Tryd.prog 16 #[.pointer a, .pointer none, .agg #[.int .i64 7, .int .i64 which, .int .u8 x]] w fun e w' => e = .returned (.bool true) ∧ w.grownBy w' none := by
  obtain ⟨W1, hW, sz, g0, hB⟩ := box3 w (.int .i64 7) (.int .i64 which) (.int .u8 x) 38
  have z0 := hB.c0
  have z2 := hB.c2
  have h' : Nc W1 a := by
    rcases h with rfl | ⟨b, rfl, hz⟩
    · exact .inl rfl
    · exact .inr ⟨b, rfl, hz.kept g0 (by simp)⟩
  go_enter Tryd.func16, Tryd.ntmps16
  go_wp2_with (first | (go_at_call 28; refine (nameN a _ h').mono ?_; rintro e w2 ⟨rfl, k2, rfl⟩) | (go_at_call 41; refine (rnameN _).mono ?_; rintro e w3 ⟨rfl, hw3⟩; subst w3))
  go_ret
  exact ⟨by simp, gb_drewN g0 _⟩

set_option maxRecDepth 100000 in
set_option maxHeartbeats 2000000 in
theorem noneElse (a : Option Addr) (which x : Int) (w : World) (h : Nc w a) (kind : Int) (hk : ¬ (1 ≤ kind ∧ kind ≤ 7)) :
    Calls Tryd.prog 16 #[.pointer a, .pointer none, .agg #[.int .i64 kind, .int .i64 which, .int .u8 x]] w fun e w' => e = .returned (.bool true) ∧ w.grownBy w' none := by
  have n1 : ((kind : Int) == 1) = false := by simp; omega
  have n2 : ((kind : Int) == 2) = false := by simp; omega
  have n3 : ((kind : Int) == 3) = false := by simp; omega
  have n4 : ((kind : Int) == 4) = false := by simp; omega
  have n5 : ((kind : Int) == 5) = false := by simp; omega
  have n6 : ((kind : Int) == 6) = false := by simp; omega
  have n7 : ((kind : Int) == 7) = false := by simp; omega
  obtain ⟨W1, hW, sz, g0, hB⟩ := box3 w (.int .i64 kind) (.int .i64 which) (.int .u8 x) 38
  have z0 := hB.c0
  have z2 := hB.c2
  have h' : Nc W1 a := by
    rcases h with rfl | ⟨b, rfl, hz⟩
    · exact .inl rfl
    · exact .inr ⟨b, rfl, hz.kept g0 (by simp)⟩
  go_enter Tryd.func16, Tryd.ntmps16
  clear hk
  go_wp2
  go_ret
  exact ⟨rfl, g0⟩
theorem noneC (a : Option Addr) (which x : Int) (w : World) (h : Nc w a) (kind : Int) :
    Calls Tryd.prog 16 #[.pointer a, .pointer none, .agg #[.int .i64 kind, .int .i64 which, .int .u8 x]] w fun e w' => e = .returned (.bool true) ∧ w.grownBy w' none := by
  by_cases k1 : kind = 1
  · subst k1; exact none1 a which x w h
  by_cases k2 : kind = 2
  · subst k2; exact none2 a which x w h
  by_cases k3 : kind = 3
  · subst k3; exact none3 a which x w h
  by_cases k4 : kind = 4
  · subst k4; exact none4 a which x w h
  by_cases k5 : kind = 5
  · subst k5; exact none5 a which x w h
  by_cases k6 : kind = 6
  · subst k6; exact none6 a which x w h
  by_cases k7 : kind = 7
  · subst k7; exact none7 a which x w h
  exact noneElse a which x w h kind (by omega)
end Go.Proofs.YtimknahfgpafaaaDoor
