/- RingArounds. -/
import Derived.Test.YtjndljjpbkfmiaaGreatDoorK22
import Derived.Test.YtjndljjpbkfmiaaGreatDoorK10
import Derived.Test.YtjndljjpbkfmiaaGreatDoorK4u
namespace Go.Proofs.YtjndljjpbkfmiaaGreatDoor
open Go.RowKit
set_option linter.unusedVariables false
set_option linter.unusedSimpArgs false
set_option maxRecDepth 100000

theorem new2 (w : World) (v v' : Value) : ∀ (l : Nat) (q : Value), [v, v'][l]? = some q → (w.alloc (.cells #[v, v'] 5)).cell? ((⟨w.heap.size, 0, none⟩ : Addr).add l) = some q := fun l q h => by
  match l, h with
  | 0, h =>
    cases h
    exact (Bo.new w 5 #[v, v']).cell 0 rfl
  | 1, h =>
    cases h
    exact (Bo.new w 5 #[v, v']).cell 1 rfl
theorem own_two {w : World} {base n : Nat} {v : Value} {xs : List Value} (h : w.ownsRow base 5 1 v (n + 2) xs) : ∃ g cap, v = .slice (some ⟨g, 0, none⟩) (n + 2) cap := by
  rcases h.2 with ⟨_, h0⟩ | ⟨g, cap, _, h1, _⟩
  · omega
  · exact ⟨g, cap, h1⟩
/-- The cells with two marks behind them. -/
def twoF (f : Nat → Nat) (n k : Nat) : Nat := if k < n then f k else if k = n then 201 else 202
theorem two_bys (f : Nat → Nat) (n : Nat) : bysV f n ++ [.int .u8 201, .int .u8 202] = bysV (twoF f n) (n + 2) := by
  rw [show n + 2 = n + 1 + 1 from rfl, bysV_succ, bysV_succ, List.append_assoc]
  have e : bysV f n = bysV (twoF f n) n := by
    unfold bysV
    refine List.map_congr_left fun i hi => ?_
    unfold twoF
    rw [if_pos (List.mem_range.1 hi)]
  have e1 : twoF f n n = 201 := by unfold twoF; rw [if_neg (by omega), if_pos rfl]
  have e2 : twoF f n (n + 1) = 202 := by unfold twoF; rw [if_neg (by omega), if_neg (by omega)]
  rw [e, e1, e2]; rfl
theorem two_at1 {w : World} {cb n : Nat} {f : Nat → Nat} (h : By w (some ⟨cb, 0, none⟩) (n + 2) (twoF f n)) : w.cell? ⟨cb, n, none⟩ = some (.int .u8 201) := by
  have := h.at (k := n) (by omega)
  rw [add_mid, Nat.zero_add, show twoF f n n = 201 by unfold twoF; rw [if_neg (by omega), if_pos rfl]] at this
  exact this
theorem two_at2 {w : World} {cb n : Nat} {f : Nat → Nat} (h : By w (some ⟨cb, 0, none⟩) (n + 2) (twoF f n)) : w.cell? ⟨cb, n + 1, none⟩ = some (.int .u8 202) := by
  have := h.at (k := n + 1) (by omega)
  rw [add_mid, Nat.zero_add, show twoF f n (n + 1) = 202 by unfold twoF; rw [if_neg (by omega), if_neg (by omega)]] at this
  exact this
theorem own_cut {w : World} {base cb cap n : Nat} {f : Nat → Nat} (h : w.ownsRow base 5 1 (.slice (some ⟨cb, 0, none⟩) (n + 2) cap) (n + 2) (bysV (twoF f n) (n + 2))) : w.ownsRow base 5 1 (.slice (some ⟨cb, 0, none⟩) n cap) n (bysV f n) := by
  rcases own_rows h with ⟨e, _⟩ | ⟨d, cp, G, e, h1, h2, h3, h4, h5⟩
  · cases e
  · cases e
    refine row_own h1 (by omega) h3 h4 (fun k hk => ?_)
    rw [h5 k (by omega), show twoF f n k = f k from if_pos hk]
/-- Two frames that hold the same. -/
theorem sameF (x y : Int) (n c c2 : Nat) (sp sp2 : Option Addr) (f : Nat → Nat) (h256 : ∀ k, f k < 256) (w : World) (h1 : By w sp n f) (h2 : By w sp2 n f) : Calls Tryz.prog 12 #[.agg #[.int .i64 x, .int .i64 y, .slice sp n c], .agg #[.int .i64 x, .int .i64 y, .slice sp2 n c2]] w fun e w' => e = .returned (.bool true) ∧ w.grownBy w' none := by
  obtain ⟨W1, hW1, sz1, g1, B1⟩ := boxn w #[.int .i64 x, .int .i64 y, .slice sp n c] 33
  obtain ⟨W2, hW2, sz2, g2, B2⟩ := boxn W1 #[.int .i64 x, .int .i64 y, .slice sp2 n c2] 33
  have A2 := B1.kept g2 (by simp)
  have G2 := gb_trans g1 g2
  have a0 := A2.cell 0 (v := .int .i64 x) rfl
  have a1 := A2.cell 1 (v := .int .i64 y) rfl
  have a2 := A2.cell 2 (v := .slice sp n c) rfl
  have k0 := B2.cell 0 (v := .int .i64 x) rfl
  have k1 := B2.cell 1 (v := .int .i64 y) rfl
  have k2 := B2.cell 2 (v := .slice sp2 n c2) rfl
  have q1 := by_str c (h1.kept G2 (by simp)) h256
  have q2 := by_str c2 (h2.kept G2 (by simp)) h256
  go_enter Tryz.func12, Tryz.ntmps12
  go_wp2
  go_ret
  exact ⟨rfl, G2⟩
set_option maxHeartbeats 2000000 in
theorem arounds_walk (x y : Int) (sp : Option Addr) (n c : Nat) (f : Nat → Nat) (h : Nat) (u v : Int) (hn : n ≤ 140737488351232) (hnil : sp = none → n = 0 ∧ c = 0) (h256 : ∀ k, f k < 256) (h255 : h ≤ 255) (w : World) (hb : By w sp n f) (hT : Tab w) :
    Calls Tryz.prog 5 #[.agg #[.int .i64 x, .int .i64 y, .slice sp n c], .int .u8 (h : Nat), .int .i64 u, .int .i64 v] w fun e w' => e = .returned (.bool true) ∧ Below w.heap.size w w' := by
  obtain ⟨i8, HI8⟩ : ∃ i, Hid (Tryz.prog.info? 5 = some i ∧ i.zero = some (.int .u8 0) ∧ i.size = 1 ∧ i.bytes = 1) := by
    obtain ⟨i, h1, h2, h3, h4⟩ := info_parts info8
    exact ⟨i, h1, h2, h3, h4⟩
  obtain ⟨m, F, E, hm, hF, hpr, hdo⟩ := aroundAll x y u v h h255 n f h256
  obtain ⟨W1, hW1, sz1, g1, B1⟩ := boxn w #[.int .i64 x, .int .i64 y, .slice sp n c] 33
  have b1_0 := B1.cell 0 (v := .int .i64 x) rfl
  have b1_1 := B1.cell 1 (v := .int .i64 y) rfl
  have b1_2 := B1.cell 2 (v := .slice sp n c) rfl
  go_enter Tryz.func5, Tryz.ntmps5
  go_wp2_with (first | (go_at_call 7; refine (aliveC _ (hT.kept g1)).mono ?_; rintro e V1 ⟨rfl, g2⟩; have B2 := B1.kept g2 (by simp); have b2_0 := B2.cell 0 (v := .int .i64 x) rfl; have b2_1 := B2.cell 1 (v := .int .i64 y) rfl; have b2_2 := B2.cell 2 (v := .slice sp n c) rfl; have G2 := gb_trans g1 g2; have hb2 := hb.kept G2 (by simp)) | ((fail_if_success (guard_hyp own1)); at_builtin; refine app_by V1 rfl _ _ rfl rfl sp n c f rfl hb2 hnil hn ?_; intro v1 V2 own1 g3; have B3 := B2.kept g3 (by simp); have b3_0 := B3.cell 0 (v := .int .i64 x) rfl; have b3_1 := B3.cell 1 (v := .int .i64 y) rfl; have b3_2 := B3.cell 2 (v := .slice sp n c) rfl; obtain ⟨X2, hX2⟩ : ∃ X2, V2.alloc (.cells #[.int .u8 201, .int .u8 202] 5) = X2 := ⟨_, rfl⟩; have gX2 : V2.grownBy X2 none := (by rw [← hX2]; exact World.grownBy_alloc _ _ _); have nX : ∀ l u, [Value.int .u8 201, .int .u8 202][l]? = some u → X2.cell? ((⟨V2.heap.size, 0, none⟩ : Addr).add l) = some u := (by rw [← hX2]; exact new2 V2 _ _); have own2 := own1.kept gX2 (Classical.em _); have sX : V1.heap.size ≤ X2.heap.size := Nat.le_trans g3.size gX2.size; have B4 := B3.kept gX2 (by simp); have lB := B2.lt) | (guard_hyp own1; at_builtin; refine wpList_append_own_at _ rfl _ _ 24 rfl V1.heap.size 5 i8 (.int .u8 0) 1 1 under8S HI8.out.1 HI8.out.2.1 HI8.out.2.2.1 HI8.out.2.2.2 rfl (by decide) _ _ _ rfl own2 ⟨V2.heap.size, 0, none⟩ 2 2 [.int .u8 201, .int .u8 202] rfl rfl nX (by intro q hq; simp at hq; rcases hq with rfl | rfl <;> rfl) (by unfold maxLen; omega) (by omega) sX ?_; intro v2 V4 own4 g5 hnil4 hat4; obtain ⟨cb, cap, rfl⟩ := own_two own4; have B5 := B4.kept g5 (fun e => Nat.not_le_of_lt lB (own2.lt w.heap.size e.symm).1); have b5_0 := B5.cell 0 (v := .int .i64 x) rfl; have b5_1 := B5.cell 1 (v := .int .i64 y) rfl; have b5_2 := B5.cell 2 (v := .slice sp n c) rfl))
  rw [two_bys] at own4
  obtain ⟨hc4, hrow4⟩ : n + 2 ≤ cap ∧ By V4 (some ⟨cb, 0, none⟩) (n + 2) (twoF f n) := by
    obtain ⟨p, c', e, h1, _, h2⟩ := own_by own4
    cases e
    exact ⟨h2, h1⟩
  have lcb := own4.lt cb rfl
  have hby4 : By V4 (some ⟨cb, 0, none⟩) n f := fun k hk => by
    have := hrow4 k (by omega)
    rwa [show twoF f n k = f k from if_pos hk] at this
  have hz0 : (0 : Int) ≤ (n : Int) := by omega
  have hz1 : (n : Int) ≤ (cap : Int) := by omega
  have g4 : V2.grownBy V4 v1.ownBlock := by
    refine ⟨g5.os.trans gX2.os, g5.tape.trans gX2.tape, g5.output.trans gX2.output, Nat.le_trans gX2.size g5.size, fun i hi hne => (g5.block i (Nat.lt_of_lt_of_le hi gX2.size) hne).trans (gX2.block i hi (by simp))⟩
  have G4 : w.grownBy V4 none := gb_beyond (gb_trans G2 g3) g4 (fun i e => by have := (own1.lt i e).1; have := G2.size; omega)
  obtain ⟨V5, hV5, sz5, g6, B6⟩ := boxn V4 #[.int .i64 x, .int .i64 y, .slice (some ⟨cb, 0, none⟩) n cap] 33
  have X5 := B5.kept g6 (by simp)
  have x5_0 := X5.cell 0 (v := .int .i64 x) rfl
  have x5_1 := X5.cell 1 (v := .int .i64 y) rfl
  have x5_2 := X5.cell 2 (v := .slice sp n c) rfl
  go_region_held2 (fun w' => w'.cell? ⟨w.heap.size, 0, none⟩ = some (.int .i64 x) ∧ w'.cell? ⟨w.heap.size, 1, none⟩ = some (.int .i64 y) ∧ w'.cell? ⟨w.heap.size, 2, none⟩ = some (.slice sp n c)) (go_keep) (fail)
  obtain ⟨V6, hV6⟩ : ∃ V6, V5.drew = V6 := ⟨_, rfl⟩
  rw [hV6]
  have g46 : V4.grownBy V6 none := hV6 ▸ gb_drew g6
  have G6 := gb_trans G4 g46
  have X6 : Bo V6 w.heap.size 33 #[.int .i64 x, .int .i64 y, .slice sp n c] := B5.kept g46 (by simp)
  have O6 : Bo V6 V4.heap.size 33 #[.int .i64 x, .int .i64 y, .slice (some ⟨cb, 0, none⟩) n cap] := hV6 ▸ B6.dr
  have hb6 := hb.kept G6 (by simp)
  have hc6 := hby4.kept g46 (by simp)
  have hr6 := hrow4.kept g46 (by simp)
  have T6 := hT.kept G6
  have own6 := own4.kept g46 (Classical.em _)
  have x6_0 := X6.cell 0 (v := .int .i64 x) rfl
  have x6_1 := X6.cell 1 (v := .int .i64 y) rfl
  have x6_2 := X6.cell 2 (v := .slice sp n c) rfl
  have o6_0 := O6.cell 0 (v := .int .i64 x) rfl
  have o6_1 := O6.cell 1 (v := .int .i64 y) rfl
  have o6_2 := O6.cell 2 (v := .slice (some ⟨cb, 0, none⟩) n cap) rfl
  clear hV5 hV6
  go_wp2_with (first | (go_at_call 22; refine (hdo sp c V6 hb6).mono ?_; rintro e V7 ⟨rw, rfl, ownw, g7⟩; obtain ⟨pw, cw, rfl, byw, blw, _⟩ := own_by ownw; have O7 := O6.kept g7 (by simp); have o7_0 := O7.cell 0 (v := .int .i64 x) rfl; have o7_1 := O7.cell 1 (v := .int .i64 y) rfl; have o7_2 := O7.cell 2 (v := .slice (some ⟨cb, 0, none⟩) n cap) rfl) | ((fail_if_success (guard_hyp g8)); go_at_call 23; refine (checkF x y (some ⟨cb, 0, none⟩) n cap V7).mono ?_; rintro e V8 ⟨rfl, g8⟩; have g78 := gb_trans g7 g8; have O8 := O7.kept g8 (by simp); have o8_0 := O8.cell 0 (v := .int .i64 x) rfl; have o8_1 := O8.cell 1 (v := .int .i64 y) rfl; have o8_2 := O8.cell 2 (v := .slice (some ⟨cb, 0, none⟩) n cap) rfl; have T8' := T6.kept g78; have hc8 := hc6.kept g78 (by simp)) | ((fail_if_success (guard_hyp g9)); go_at_call 24; refine (hpr (some ⟨cb, 0, none⟩) cap V8 hc8 T8').mono ?_; rintro e V9 ⟨ra, rfl, owna, g9⟩; obtain ⟨pa, ca, rfl, bya, bla, _⟩ := own_by owna; have O9 := O8.kept g9 (by simp); have o9_0 := O9.cell 0 (v := .int .i64 x) rfl; have o9_1 := O9.cell 1 (v := .int .i64 y) rfl; have o9_2 := O9.cell 2 (v := .slice (some ⟨cb, 0, none⟩) n cap) rfl; have T9 := T8'.kept g9; have hc9 := hc8.kept g9 (by simp)) | (guard_hyp g9; go_at_call 24; refine (hpr (some ⟨cb, 0, none⟩) cap V9 hc9 T9).mono ?_; rintro e V10 ⟨rb, rfl, ownb, g10⟩; obtain ⟨pb, cb', rfl, byb, blb, _⟩ := own_by ownb; have O10 := O9.kept g10 (by simp); have o10_0 := O10.cell 0 (v := .int .i64 x) rfl; have o10_1 := O10.cell 1 (v := .int .i64 y) rfl; have o10_2 := O10.cell 2 (v := .slice (some ⟨cb, 0, none⟩) n cap) rfl; have g610 := gb_trans g78 (gb_trans g9 g10); have X10 := X6.kept g610 (by simp); have x10_0 := X10.cell 0 (v := .int .i64 x) rfl; have x10_1 := X10.cell 1 (v := .int .i64 y) rfl; have x10_2 := X10.cell 2 (v := .slice sp n c) rfl; have hb10 := hb6.kept g610 (by simp); have hc10 := hc9.kept g10 (by simp)) | (go_at_call 12; refine (sameF x y n cap c (some ⟨cb, 0, none⟩) sp f h256 V10 hc10 hb10).mono ?_; rintro e V11 ⟨rfl, g11⟩; have O11 := O10.kept g11 (by simp); have X11 := X10.kept g11 (by simp); have o11_0 := O11.cell 0 (v := .int .i64 x) rfl; have o11_1 := O11.cell 1 (v := .int .i64 y) rfl; have o11_2 := O11.cell 2 (v := .slice (some ⟨cb, 0, none⟩) n cap) rfl; have x11_0 := X11.cell 0 (v := .int .i64 x) rfl; have x11_1 := X11.cell 1 (v := .int .i64 y) rfl; have x11_2 := X11.cell 2 (v := .slice sp n c) rfl; have hr11 := hr6.kept (gb_trans g610 g11) (by simp); have q201 : V11.cell? ⟨cb, n, none⟩ = some (.int .u8 201) := two_at1 hr11; have q202 : V11.cell? ⟨cb, n + 1, none⟩ = some (.int .u8 202) := two_at2 hr11) | (guard_hyp g11; go_at_call 25; refine (refCheckF x y sp n c V11).mono ?_; rintro e V12 ⟨rfl, g12⟩; have g1012 := gb_trans g11 g12; have bb12 := byb.kept g1012 (by simp); have ba12 := bya.kept (gb_trans g10 g1012) (by simp); have bw12 := byw.kept (gb_trans g8 (gb_trans g9 (gb_trans g10 g1012))) (by simp); have sa := by_str ca ba12 hF; have sb := by_str cb' bb12 hF; have sw := by_str cw bw12 hF; have owna12 := owna.kept (gb_trans g10 g1012) (Classical.em _); have O12 := O11.kept g12 (by simp); have own12 := own6.kept (gb_trans g610 g1012) (Classical.em _)) | ((fail_if_success (guard_hyp owna13)); go_at_call 14; refine (fullC V8.heap.size m 251 F _ (by omega) V12 owna12).mono ?_; rintro e V13 ⟨rfl, owna13, g13⟩; have z8 : V6.heap.size ≤ V8.heap.size := g78.size; have z6 : V4.heap.size < V6.heap.size := O6.lt; have z13 : V8.heap.size ≤ V13.heap.size := Nat.le_trans g9.size (Nat.le_trans g10.size (Nat.le_trans g1012.size g13.size)); have nea : ∀ i, i < V8.heap.size → some i ≠ (Value.slice pa m ca).ownBlock := (fun i hi e => Nat.not_le_of_lt hi (owna.lt i e.symm).1); have ltc : cb < V8.heap.size := Nat.lt_of_lt_of_le lcb.2 (Nat.le_trans (Nat.le_of_lt z6) z8); have O13 := O12.kept g13 (nea _ (Nat.lt_of_lt_of_le z6 z8)); have own13 := own12.kept g13 (.inr (fun e => nea cb ltc e))) | (go_at_call 15; refine (longC V8.heap.size m 251 _ (by omega) V13 z13 owna13).mono ?_; rintro e V14 ⟨rc, rfl, ownc, g14⟩; obtain ⟨pc, cc, rfl, byc, blc, _⟩ := own_by ownc; have O14 := O13.kept g14 (nea _ (Nat.lt_of_lt_of_le z6 z8)); have o14_0 := O14.cell 0 (v := .int .i64 x) rfl; have o14_1 := O14.cell 1 (v := .int .i64 y) rfl; have o14_2 := O14.cell 2 (v := .slice (some ⟨cb, 0, none⟩) n cap) rfl; have own14 := own13.kept g14 (.inr (fun e => nea cb ltc e))) | (guard_hyp owna13; go_at_call 14; refine (fullC V1.heap.size n 252 f (.slice (some ⟨cb, 0, none⟩) n cap) hn V14 (own_cut own14)).mono ?_; rintro e V15 ⟨rfl, _, g15⟩; have neb : ∀ a, pb = some a → some a.block ≠ (Value.slice pa m ca).ownBlock := (fun a e e2 => Nat.not_le_of_lt (owna.lt a.block e2.symm).2 (ownb.lt a.block (blb a e)).1); have new : ∀ a, pw = some a → some a.block ≠ (Value.slice pa m ca).ownBlock := (fun a e => nea _ (Nat.lt_of_lt_of_le (ownw.lt a.block (blw a e)).2 g8.size)); have cbb : ∀ a, pb = some a → some a.block ≠ (Value.slice (some ⟨cb, 0, none⟩) n cap).ownBlock := (fun a e e2 => by cases e2; exact Nat.not_le_of_lt (Nat.lt_of_lt_of_le ltc g9.size) (ownb.lt _ (blb a e)).1); have cbw : ∀ a, pw = some a → some a.block ≠ (Value.slice (some ⟨cb, 0, none⟩) n cap).ownBlock := (fun a e e2 => by cases e2; exact Nat.not_le_of_lt (Nat.lt_trans lcb.2 z6) (ownw.lt _ (blw a e)).1); have cbc : ∀ a, pc = some a → some a.block ≠ (Value.slice (some ⟨cb, 0, none⟩) n cap).ownBlock := (fun a e e2 => by cases e2; exact Nat.not_le_of_lt ltc (ownc.lt _ (blc a e)).1); have bb15 := ((bb12.kept g13 neb).kept g14 neb).kept g15 cbb; have bw15 := ((bw12.kept g13 new).kept g14 new).kept g15 cbw; have bc15 := byc.kept g15 cbc; have tb := by_str cb' bb15 hF; have tw := by_str cw bw15 hF) | (go_at_call 16; refine (onlyC pc (m + 40) cc 251 (by omega) V15 bc15).mono ?_; rintro e V16 ⟨rfl, g16⟩))
  go_ret
  have G12 := gb_trans G6 (gb_trans g610 g1012)
  have G13 := gb_beyond G12 g13 (fun i e => by have := (owna.lt i e).1; have := G6.size; omega)
  have G14 := gb_beyond G13 g14 (fun i e => by have := (owna.lt i e).1; have := G6.size; omega)
  have G15 := gb_beyond G14 g15 (fun i e => (Option.some.inj (show some cb = some i from e)) ▸ Nat.le_trans G2.size lcb.1)
  exact ⟨rfl, gb_below (gb_trans G15 g16)⟩
end Go.Proofs.YtjndljjpbkfmiaaGreatDoor
