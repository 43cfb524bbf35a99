/- What Perm answers. -/
import Derived.Test.YtgflchbmoinonaaDoorH4
namespace Go.Proofs.YtgflchbmoinonaaDoor
open Go.RowKit
open Fl
set_option linter.unusedVariables false
set_option linter.unusedSimpArgs false
set_option maxRecDepth 100000

set_option maxHeartbeats 2000000 in
theorem permY (h : Nat) (h1 : 1 ≤ h) (h3 : h ≤ 3) (k : Nat) (hk8 : k < 8) (hk : ∀ j, j < sn h → (mp h k j).isSome = true) (w : World) (hv : Hid (Hv w)) : Calls Tryd.prog 10 #[.int .u8 h, .int .i64 k] w fun e w' => ∃ g, e = .returned (.tuple #[.slice (some ⟨g, 0, none⟩) (sn h) 8, .bool true, .int .i64 0]) ∧ Bo w' g 58 (toA h k (sn h)) ∧ w.heap.size ≤ g ∧ w.grownBy w' none := by
  have hB := byC h h1 h3 k hk8 (toA h k (sn h)) true (.inl ⟨rfl, hk, rfl⟩)
  clear hk
  have hP := partYes k hk8
  have hf := fun w hv => findYes h h1 h3 w hv
  have h8 : ((sn h : Nat) : Int) ≤ 8 := by have := sn_le h h1 h3; omega
  obtain ⟨fs, hfs'⟩ := underO
  have hfs : Hid (Tryd.prog.underlying 55 = some (.struct fs)) := hfs'
  clear hfs'
  obtain ⟨fi, hfi'⟩ := underI
  have hfi : Hid (Tryd.prog.underlying 43 = some (.struct fi)) := hfi'
  clear hfi'
  go_enter Tryd.func10, Tryd.ntmps10
  go_wp2_with ((fail_if_success (guard_hyp G10)); first | (go_at_call 25; refine (hf _ hv).mono ?_; rintro e w2 ⟨rfl, g2⟩; obtain ⟨W3, hW3, sz3, g3, B3⟩ := boxn w2 #[.int .i64 0, .int .i64 0, .int .i64 0, .int .i64 0, .int .i64 0, .int .i64 0, .int .i64 0, .int .i64 0, .int .i64 0, .int .i64 0, .int .i64 0, .int .i64 0, .int .i64 0, .int .i64 0, .int .i64 0, .int .i64 0, .int .i64 0] 55) | (refine wpList_st (op := ⟨_, .store 55 _ _, _, _, _, _⟩) rfl 55 _ _ rfl w2.heap.size (ho h) rfl rfl B3 (infoH h) rfl (all1 h) ?_; intro W4 hW4 B4; have G4 : w.grownBy W4 none := hW4 ▸ gb_rowset (gb_trans g2 g3) g2.size) | (go_at_call 20; refine (hP _).mono ?_; rintro e w5 ⟨rfl, g5⟩; obtain ⟨W6, hW6, sz6, g6, B6⟩ := boxn w5 #[.complex .f64 0 0, .bool false, .complex .f64 0 0] 43; have O6 := (B4.kept g5 (by simp)).kept g6 (by simp); have G5 := gb_trans G4 g5; have G6 := gb_trans G5 g6) | (refine wpList_st (op := ⟨_, .store 43 _ _, _, _, _, _⟩) rfl 43 _ _ rfl w5.heap.size (mv (pa k) (pb k) (fl4 k) 0 0) rfl rfl B6 infoI rfl (by simp [mv, Value.oneCell']) ?_; intro W7 hW7 B7; have ne7 := Nat.ne_of_gt (B4.kept g5 (by simp)).lt; have O7 : Bo W7 w2.heap.size 55 (ho h) := hW7 ▸ O6.row2 ne7; have G7 : w.grownBy W7 none := hW7 ▸ gb_rowset G6 G5.size; have c16 := O7.cell 16 (v := .int .i64 ((sn h : Nat) : Int)) rfl) | (refine wpList_ld (op := ⟨_, .load 55 _, _, _, _, _⟩) rfl 55 _ rfl w2.heap.size rfl (ho h) O7 hfs.out rfl infoO ?_) | (refine wpList_ld (op := ⟨_, .load 43 _, _, _, _, _⟩) rfl 43 _ rfl w5.heap.size rfl (mv (pa k) (pb k) (fl4 k) 0 0) B7 hfi.out rfl infoI ?_) | (go_at_call 26; refine (hB _).mono ?_; rintro e w8 ⟨rfl, g8⟩; obtain ⟨W9, hW9, sz9, g9, B9⟩ := boxn w8 #[.int .i64 0, .int .i64 0, .int .i64 0, .int .i64 0, .int .i64 0, .int .i64 0, .int .i64 0, .int .i64 0] 58; have O9 := (O7.kept g8 (by simp)).kept g9 (by simp); have G8 := gb_trans G7 g8; have G9 := gb_trans G8 g9) | (refine wpList_st (op := ⟨_, .store 58 _ _, _, _, _, _⟩) rfl 58 _ _ rfl w8.heap.size (toA h k (sn h)) rfl rfl B9 infoA8 rfl (toA_one h k _) ?_; intro W10 hW10 B10; have ne10 := Nat.ne_of_gt (O7.kept g8 (by simp)).lt; have O10 : Bo W10 w2.heap.size 55 (ho h) := hW10 ▸ O9.row2 ne10; have G10 : w.grownBy W10 none := hW10 ▸ gb_rowset G9 G8.size; have d16 := O10.cell 16 (v := .int .i64 ((sn h : Nat) : Int)) rfl))
  go_ret3
  exact ⟨_, rfl, B10, G8.size, G10⟩
set_option maxHeartbeats 2000000 in
theorem permN (h : Nat) (h1 : 1 ≤ h) (h3 : h ≤ 3) (k : Nat) (hk8 : k < 8) (hk : ∃ j, j < sn h ∧ mp h k j = none) (w : World) (hv : Hid (Hv w)) : Calls Tryd.prog 10 #[.int .u8 h, .int .i64 k] w fun e w' => e = .returned (.tuple #[.slice none 0 0, .bool false, .int .i64 0]) ∧ w.grownBy w' none := by
  have hB := byC h h1 h3 k hk8 #[.int .i64 0, .int .i64 0, .int .i64 0, .int .i64 0, .int .i64 0, .int .i64 0, .int .i64 0, .int .i64 0] false (.inr ⟨rfl, hk, rfl⟩)
  clear hk
  have hP := partYes k hk8
  have hf := fun w hv => findYes h h1 h3 w hv
  have h8 : ((sn h : Nat) : Int) ≤ 8 := by have := sn_le h h1 h3; omega
  obtain ⟨fs, hfs'⟩ := underO
  have hfs : Hid (Tryd.prog.underlying 55 = some (.struct fs)) := hfs'
  clear hfs'
  obtain ⟨fi, hfi'⟩ := underI
  have hfi : Hid (Tryd.prog.underlying 43 = some (.struct fi)) := hfi'
  clear hfi'
  go_enter Tryd.func10, Tryd.ntmps10
  go_wp2_with (first | (go_at_call 25; refine (hf _ hv).mono ?_; rintro e w2 ⟨rfl, g2⟩; obtain ⟨W3, hW3, sz3, g3, B3⟩ := boxn w2 #[.int .i64 0, .int .i64 0, .int .i64 0, .int .i64 0, .int .i64 0, .int .i64 0, .int .i64 0, .int .i64 0, .int .i64 0, .int .i64 0, .int .i64 0, .int .i64 0, .int .i64 0, .int .i64 0, .int .i64 0, .int .i64 0, .int .i64 0] 55) | (refine wpList_st (op := ⟨_, .store 55 _ _, _, _, _, _⟩) rfl 55 _ _ rfl w2.heap.size (ho h) rfl rfl B3 (infoH h) rfl (all1 h) ?_; intro W4 hW4 B4; have G4 : w.grownBy W4 none := hW4 ▸ gb_rowset (gb_trans g2 g3) g2.size) | (go_at_call 20; refine (hP _).mono ?_; rintro e w5 ⟨rfl, g5⟩; obtain ⟨W6, hW6, sz6, g6, B6⟩ := boxn w5 #[.complex .f64 0 0, .bool false, .complex .f64 0 0] 43; have O6 := (B4.kept g5 (by simp)).kept g6 (by simp); have G5 := gb_trans G4 g5; have G6 := gb_trans G5 g6) | (refine wpList_st (op := ⟨_, .store 43 _ _, _, _, _, _⟩) rfl 43 _ _ rfl w5.heap.size (mv (pa k) (pb k) (fl4 k) 0 0) rfl rfl B6 infoI rfl (by simp [mv, Value.oneCell']) ?_; intro W7 hW7 B7; have ne7 := Nat.ne_of_gt (B4.kept g5 (by simp)).lt; have O7 : Bo W7 w2.heap.size 55 (ho h) := hW7 ▸ O6.row2 ne7; have G7 : w.grownBy W7 none := hW7 ▸ gb_rowset G6 G5.size; have c16 := O7.cell 16 (v := .int .i64 ((sn h : Nat) : Int)) rfl) | (refine wpList_ld (op := ⟨_, .load 55 _, _, _, _, _⟩) rfl 55 _ rfl w2.heap.size rfl (ho h) O7 hfs.out rfl infoO ?_) | (refine wpList_ld (op := ⟨_, .load 43 _, _, _, _, _⟩) rfl 43 _ rfl w5.heap.size rfl (mv (pa k) (pb k) (fl4 k) 0 0) B7 hfi.out rfl infoI ?_) | (go_at_call 26; refine (hB _).mono ?_; rintro e w8 ⟨rfl, g8⟩; obtain ⟨W9, hW9, sz9, g9, B9⟩ := boxn w8 #[.int .i64 0, .int .i64 0, .int .i64 0, .int .i64 0, .int .i64 0, .int .i64 0, .int .i64 0, .int .i64 0] 58; have O9 := (O7.kept g8 (by simp)).kept g9 (by simp); have G8 := gb_trans G7 g8; have G9 := gb_trans G8 g9) | (refine wpList_st (op := ⟨_, .store 58 _ _, _, _, _, _⟩) rfl 58 _ _ rfl w8.heap.size #[.int .i64 0, .int .i64 0, .int .i64 0, .int .i64 0, .int .i64 0, .int .i64 0, .int .i64 0, .int .i64 0] rfl rfl B9 infoA8 rfl (by simp [Value.oneCell']) ?_; intro W10 hW10 B10; have ne10 := Nat.ne_of_gt (O7.kept g8 (by simp)).lt; have O10 : Bo W10 w2.heap.size 55 (ho h) := hW10 ▸ O9.row2 ne10; have G10 : w.grownBy W10 none := hW10 ▸ gb_rowset G9 G8.size; have d16 := O10.cell 16 (v := .int .i64 ((sn h : Nat) : Int)) rfl))
  go_ret3
  exact ⟨rfl, G10⟩
set_option maxHeartbeats 2000000 in
theorem permP (h : Nat) (h1 : 1 ≤ h) (h3 : h ≤ 3) (n : Int) (hn : n < 0 ∨ 7 < n) (w : World) (hv : Hid (Hv w)) : Calls Tryd.prog 10 #[.int .u8 h, .int .i64 n] w fun e w' => e = .returned (.tuple #[.slice none 0 0, .bool false, .int .i64 71]) ∧ w.grownBy w' none := by
  have hP := partNo n hn
  clear hn
  have hf := fun w hv => findYes h h1 h3 w hv
  have h8 : ((sn h : Nat) : Int) ≤ 8 := by have := sn_le h h1 h3; omega
  obtain ⟨fs, hfs'⟩ := underO
  have hfs : Hid (Tryd.prog.underlying 55 = some (.struct fs)) := hfs'
  clear hfs'
  obtain ⟨fi, hfi'⟩ := underI
  have hfi : Hid (Tryd.prog.underlying 43 = some (.struct fi)) := hfi'
  clear hfi'
  go_enter Tryd.func10, Tryd.ntmps10
  go_wp2_with (first | (go_at_call 25; refine (hf _ hv).mono ?_; rintro e w2 ⟨rfl, g2⟩; obtain ⟨W3, hW3, sz3, g3, B3⟩ := boxn w2 #[.int .i64 0, .int .i64 0, .int .i64 0, .int .i64 0, .int .i64 0, .int .i64 0, .int .i64 0, .int .i64 0, .int .i64 0, .int .i64 0, .int .i64 0, .int .i64 0, .int .i64 0, .int .i64 0, .int .i64 0, .int .i64 0, .int .i64 0] 55) | (refine wpList_st (op := ⟨_, .store 55 _ _, _, _, _, _⟩) rfl 55 _ _ rfl w2.heap.size (ho h) rfl rfl B3 (infoH h) rfl (all1 h) ?_; intro W4 hW4 B4; have G4 : w.grownBy W4 none := hW4 ▸ gb_rowset (gb_trans g2 g3) g2.size) | (go_at_call 20; refine (hP _).mono ?_; rintro e w5 ⟨rfl, g5⟩; obtain ⟨W6, hW6, sz6, g6, B6⟩ := boxn w5 #[.complex .f64 0 0, .bool false, .complex .f64 0 0] 43; have O6 := (B4.kept g5 (by simp)).kept g6 (by simp); have G5 := gb_trans G4 g5; have G6 := gb_trans G5 g6) | (refine wpList_st (op := ⟨_, .store 43 _ _, _, _, _, _⟩) rfl 43 _ _ rfl w5.heap.size (mv 0 0 false 0 0) rfl rfl B6 infoI rfl (by simp [mv, Value.oneCell']) ?_; intro W7 hW7 B7; have ne7 := Nat.ne_of_gt (B4.kept g5 (by simp)).lt; have O7 : Bo W7 w2.heap.size 55 (ho h) := hW7 ▸ O6.row2 ne7; have G7 : w.grownBy W7 none := hW7 ▸ gb_rowset G6 G5.size; have c16 := O7.cell 16 (v := .int .i64 ((sn h : Nat) : Int)) rfl))
  go_ret3
  exact ⟨rfl, G7⟩
set_option maxHeartbeats 2000000 in
theorem permH (h : Int) (h0 : 0 ≤ h) (h1 : h ≤ 255) (hn : h < 1 ∨ 3 < h) (n : Int) (w : World) : Calls Tryd.prog 10 #[.int .u8 h, .int .i64 n] w fun e w' => e = .returned (.tuple #[.slice none 0 0, .bool false, .int .i64 70]) ∧ w.grownBy w' none := by
  have hf := findNo h h0 h1 hn
  clear hn
  go_enter Tryd.func10, Tryd.ntmps10
  go_wp2_with (first | (go_at_call 25; refine (hf _).mono ?_; rintro e w2 ⟨rfl, g2⟩; obtain ⟨W3, hW3, sz3, g3, B3⟩ := boxn w2 #[.int .i64 0, .int .i64 0, .int .i64 0, .int .i64 0, .int .i64 0, .int .i64 0, .int .i64 0, .int .i64 0, .int .i64 0, .int .i64 0, .int .i64 0, .int .i64 0, .int .i64 0, .int .i64 0, .int .i64 0, .int .i64 0, .int .i64 0] 55) | (refine wpList_st (op := ⟨_, .store 55 _ _, _, _, _, _⟩) rfl 55 _ _ rfl w2.heap.size #[.int .i64 0, .int .i64 0, .int .i64 0, .int .i64 0, .int .i64 0, .int .i64 0, .int .i64 0, .int .i64 0, .int .i64 0, .int .i64 0, .int .i64 0, .int .i64 0, .int .i64 0, .int .i64 0, .int .i64 0, .int .i64 0, .int .i64 0] rfl rfl B3 infoO rfl (by simp [Value.oneCell']) ?_; intro W4 hW4 B4; have c16 := B4.cell 16 (v := .int .i64 0) rfl; have G4 : w.grownBy W4 none := hW4 ▸ gb_rowset (gb_trans g2 g3) g2.size))
  go_ret3
  exact ⟨rfl, G4⟩
end Go.Proofs.YtgflchbmoinonaaDoor
