/- state, lives, the closures of Write and Halves: what they answer. -/
import Derived.Test.YtjacoifhjfipaaaLk
import Derived.Test.YtjacoifhjfipaaaSi
namespace Go.Proofs.Ytjacoifhjfipaaa
open Go.RowKit Ln
set_option linter.unusedVariables false
set_option linter.unusedSimpArgs false
set_option maxRecDepth 100000

theorem wr2 {X : Int} {i : Nat} (h : farB X = false) (hi : i ≤ 131072) : wrap64 (X + (i : Int)) = X + (i : Int) := by
  unfold farB at h
  rw [decide_eq_false_iff_not] at h
  unfold wrap64; omega
theorem ptOk2 {X Y : Int} {i j : Nat} (h : farB X = false) (h2 : farB Y = false) (hi : i ≤ 131072) (hj : j ≤ 131072) : PtOk (X + (i : Int), Y + (j : Int)) := by
  unfold farB at h h2
  rw [decide_eq_false_iff_not] at h h2
  exact ⟨⟨by show _ ≤ X + (i : Int); omega, by show X + (i : Int) ≤ _; omega⟩, ⟨by show _ ≤ Y + (j : Int); omega, by show Y + (j : Int) ≤ _; omega⟩⟩
set_option maxHeartbeats 2000000 in
theorem stateC (X Y V H : Int) (b : Nat) (l : List Cx) (hX : farB X = false) (hY : farB Y = false) (i j : Nat) (hi : i ≤ 131072) (hj : j ≤ 131072) (w : World) (h : Mp w b l) : Calls Try.prog 32 #[.agg #[.int .i64 X, .int .i64 Y, .int .i64 V, .int .i64 H, .map (some b)], .int .i64 (i : Nat), .int .i64 (j : Nat)] w fun e w' => e = .returned (.int .u8 (stA l (X + (i : Int)) (Y + (j : Int)) : Nat)) ∧ w.grownBy w' none := by
  obtain ⟨V1, hV1, sV1, g1, B1⟩ := boxn w #[.int .i64 X, .int .i64 Y, .int .i64 V, .int .i64 H, .map (some b)] 56
  have a0 := B1.cell 0 (v := .int .i64 X) rfl; have a1 := B1.cell 1 (v := .int .i64 Y) rfl; have a2 := B1.cell 2 (v := .int .i64 V) rfl; have a3 := B1.cell 3 (v := .int .i64 H) rfl; have a4 := B1.cell 4 (v := .map (some b)) rfl
  have w1 := wr2 hX hi
  have w2 := wr2 hY hj
  have KY : keyOf Try.prog 76 (.agg #[.int .i64 (X + (i : Int)), .int .i64 (Y + (j : Int))]) = some (pk (X + (i : Int), Y + (j : Int))) := (ptOk2 hX hY hi hj).key
  obtain ⟨D, own1, hD⟩ := h.kept g1 (by simp)
  have HD : Hid (D.atKey (pk (X + (i : Int), Y + (j : Int))) z8 = .lit (.int .u8 (stA l (X + (i : Int)) (Y + (j : Int)) : Nat))) := (hD _ (ptOk2 hX hY hi hj)).2
  clear hD hX hY
  obtain ⟨n, hn⟩ : ∃ n, stA l (X + (i : Int)) (Y + (j : Int)) = n := ⟨_, rfl⟩
  rw [hn] at HD ⊢
  clear hn
  go_enter Try.func32, Try.ntmps32
  go_wp2_with (first | (at_lookup; refine wpList_lookup_own_int _ rfl _ _ 54 rfl 76 5 .u8 lawK underM underU (zeroU _) _ _ D rfl own1 _ _ rfl KY ?_; intro c9 hat hwc; have e9 := hat.symm.trans HD.out; obtain rfl : c9 = (n : Int) := (by injection e9 with e9; injection e9 with _ e9); clear hat hwc e9) | go_in)
  go_ret
  exact ⟨rfl, g1⟩
set_option maxHeartbeats 2000000 in
theorem livesC (X Y V H : Int) (b : Nat) (l : List Cx) (hX : farB X = false) (hY : farB Y = false) (i j : Nat) (hi : i ≤ 131072) (hj : j ≤ 131072) (w : World) (h : Mp w b l) : Calls Try.prog 35 #[.agg #[.int .i64 X, .int .i64 Y, .int .i64 V, .int .i64 H, .map (some b)], .int .i64 (i : Nat), .int .i64 (j : Nat)] w fun e w' => e = .returned (.bool (decide ((j : Int) < H) && decide (stA l (X + (i : Int)) (Y + (j : Int)) ≠ 0))) ∧ w.grownBy w' none := by
  obtain ⟨V1, hV1, sV1, g1, B1⟩ := boxn w #[.int .i64 X, .int .i64 Y, .int .i64 V, .int .i64 H, .map (some b)] 56
  have a0 := B1.cell 0 (v := .int .i64 X) rfl; have a1 := B1.cell 1 (v := .int .i64 Y) rfl; have a2 := B1.cell 2 (v := .int .i64 V) rfl; have a3 := B1.cell 3 (v := .int .i64 H) rfl; have a4 := B1.cell 4 (v := .map (some b)) rfl
  have hs := stateC X Y V H b l hX hY i j hi hj V1 (h.kept g1 (by simp))
  obtain ⟨n, hn⟩ : ∃ n, stA l (X + (i : Int)) (Y + (j : Int)) = n := ⟨_, rfl⟩
  rw [hn] at hs ⊢
  clear hn
  by_cases hjH : (j : Int) < H
  · by_cases h0 : n = 0
    · have n0 : ((n : Int) != 0) = false := by simp; omega
      have e : (decide ((j : Int) < H) && decide (n ≠ 0)) = false := by rw [decide_eq_false (show ¬ n ≠ 0 by omega), Bool.and_false]
      rw [e]
      clear h0 e
      go_enter Try.func35, Try.ntmps35
      go_wp2_with (first | (go_at_call 32; refine hs.mono ?_; rintro e w8 ⟨rfl, g8⟩) | go_in)
      go_ret
      exact ⟨rfl, gb_trans g1 g8⟩
    · have n0 : ((n : Int) != 0) = true := by simp; omega
      have e : (decide ((j : Int) < H) && decide (n ≠ 0)) = true := by rw [decide_eq_true hjH, decide_eq_true h0]; rfl
      rw [e]
      clear h0 e
      go_enter Try.func35, Try.ntmps35
      go_wp2_with (first | (go_at_call 32; refine hs.mono ?_; rintro e w8 ⟨rfl, g8⟩) | go_in)
      go_ret
      exact ⟨rfl, gb_trans g1 g8⟩
  · have e : (decide ((j : Int) < H) && decide (n ≠ 0)) = false := by rw [decide_eq_false hjH, Bool.false_and]
    rw [e]
    clear e
    go_enter Try.func35, Try.ntmps35
    go_wp2
    go_ret
    exact ⟨rfl, g1⟩
/-- The view's box, that the closures hold. -/
abbrev VB (w : World) (g : Nat) (X Y V H : Int) (b : Nat) : Prop := Bo w g 56 #[.int .i64 X, .int .i64 Y, .int .i64 V, .int .i64 H, .map (some b)]
set_option maxHeartbeats 2000000 in
theorem write1C (X Y V H : Int) (b g : Nat) (l : List Cx) (h8 : ∀ c ∈ l, c.2.2 < 256) (hX : farB X = false) (hY : farB Y = false) (j i : Nat) (hi : i ≤ 131072) (hj : j ≤ 131072) (w : World) (h : Mp w b l) (hB : VB w g X Y V H b) : Calls Try.prog 31 #[.int .i64 (j : Nat), .int .i64 (i : Nat), .pointer (some ⟨g, 0, none⟩)] w fun e w' => e = .returned (.int .i32 (sgn (stA l (X + (i : Int)) (Y + (j : Int))))) ∧ w.grownBy w' none := by
  have a0 := hB.cell 0 (v := .int .i64 X) rfl; have a1 := hB.cell 1 (v := .int .i64 Y) rfl; have a2 := hB.cell 2 (v := .int .i64 V) rfl; have a3 := hB.cell 3 (v := .int .i64 H) rfl; have a4 := hB.cell 4 (v := .map (some b)) rfl
  have hs := stateC X Y V H b l hX hY i j hi hj w h
  have hlt := stA_lt h8 (X + (i : Int)) (Y + (j : Int))
  obtain ⟨n, hn⟩ : ∃ n, stA l (X + (i : Int)) (Y + (j : Int)) = n := ⟨_, rfl⟩
  rw [hn] at hs hlt ⊢
  clear hn
  go_enter Try.func31, Try.ntmps31
  go_wp2_with (first | (go_at_call 32; refine hs.mono ?_; rintro e w8 ⟨rfl, g8⟩) | (go_at_call 15; refine (signC n hlt _).mono ?_; rintro e w9 ⟨rfl, hw9⟩; subst w9) | go_in)
  go_ret
  exact ⟨rfl, g8⟩
set_option maxHeartbeats 2000000 in
theorem halves1C (X Y V H : Int) (b g : Nat) (l : List Cx) (hX : farB X = false) (hY : farB Y = false) (j i : Nat) (hi : i ≤ 131072) (hj : j ≤ 65535) (w : World) (h : Mp w b l) (hB : VB w g X Y V H b) : Calls Try.prog 33 #[.int .i64 (j : Nat), .int .i64 (i : Nat), .pointer (some ⟨g, 0, none⟩)] w fun e w' => e = .returned (.int .i32 (hfR (decide ((2 * j : Nat) < H) && decide (stA l (X + (i : Int)) (Y + ((2 * j : Nat) : Int)) ≠ 0)) (decide ((2 * j + 1 : Nat) < H) && decide (stA l (X + (i : Int)) (Y + ((2 * j + 1 : Nat) : Int)) ≠ 0)))) ∧ w.grownBy w' none := by
  have a0 := hB.cell 0 (v := .int .i64 X) rfl; have a1 := hB.cell 1 (v := .int .i64 Y) rfl; have a2 := hB.cell 2 (v := .int .i64 V) rfl; have a3 := hB.cell 3 (v := .int .i64 H) rfl; have a4 := hB.cell 4 (v := .map (some b)) rfl
  have hs1 := fun W g1 => livesC X Y V H b l hX hY i (2 * j) hi (by omega) W (h.kept (r := none) g1 (by simp))
  have hs2 := fun W g1 => livesC X Y V H b l hX hY i (2 * j + 1) hi (by omega) W (h.kept (r := none) g1 (by simp))
  obtain ⟨p, hp⟩ : ∃ p, (decide (((2 * j : Nat) : Int) < H) && decide (stA l (X + (i : Int)) (Y + ((2 * j : Nat) : Int)) ≠ 0)) = p := ⟨_, rfl⟩
  obtain ⟨q, hq⟩ : ∃ q, (decide (((2 * j + 1 : Nat) : Int) < H) && decide (stA l (X + (i : Int)) (Y + ((2 * j + 1 : Nat) : Int)) ≠ 0)) = q := ⟨_, rfl⟩
  simp only [hp] at hs1 ⊢
  simp only [hq] at hs2 ⊢
  clear hp hq
  obtain ⟨m, hm⟩ : ∃ m, 2 * j = m := ⟨_, rfl⟩
  rw [hm] at hs1 hs2
  have hw1 : IntKind.i64.wrap (2 * (j : Int)) = ((m : Nat) : Int) := by rw [IntKind.wrap_i64]; omega
  have hw2 : IntKind.i64.wrap ((m : Int) + 1) = ((m + 1 : Nat) : Int) := by rw [IntKind.wrap_i64]; omega
  clear hm
  go_enter Try.func33, Try.ntmps33
  go_wp2
  go_region_held2 (fun w' => w'.cell? ⟨g, 0, none⟩ = some (.int .i64 X) ∧ w'.cell? ⟨g, 1, none⟩ = some (.int .i64 Y) ∧ w'.cell? ⟨g, 2, none⟩ = some (.int .i64 V) ∧ w'.cell? ⟨g, 3, none⟩ = some (.int .i64 H) ∧ w'.cell? ⟨g, 4, none⟩ = some (.map (some b))) (go_keep) (first | (go_at_call 35; (fail_if_success (guard_hyp mk)); refine (hs1 _ (gb_drew (World.grownBy.refl _ _))).mono ?_; rintro e w8 ⟨rfl, g8'⟩; have g8 := gb_trans (gb_drew (World.grownBy.refl w none)) g8'; have mk : True := trivial; have b0 := (hB.kept g8 (by simp)).cell 0 (v := .int .i64 X) rfl; have b1 := (hB.kept g8 (by simp)).cell 1 (v := .int .i64 Y) rfl; have b2 := (hB.kept g8 (by simp)).cell 2 (v := .int .i64 V) rfl; have b3 := (hB.kept g8 (by simp)).cell 3 (v := .int .i64 H) rfl; have b4 := (hB.kept g8 (by simp)).cell 4 (v := .map (some b)) rfl; clear a0 a1 a2 a3 a4) | (go_at_call 35; guard_hyp mk; refine (hs2 _ g8).mono ?_; rintro e w9 ⟨rfl, g9⟩; have c0 := ((hB.kept g8 (by simp)).kept g9 (by simp)).cell 0 (v := .int .i64 X) rfl; have c1 := ((hB.kept g8 (by simp)).kept g9 (by simp)).cell 1 (v := .int .i64 Y) rfl; have c2 := ((hB.kept g8 (by simp)).kept g9 (by simp)).cell 2 (v := .int .i64 V) rfl; have c3 := ((hB.kept g8 (by simp)).kept g9 (by simp)).cell 3 (v := .int .i64 H) rfl; have c4 := ((hB.kept g8 (by simp)).kept g9 (by simp)).cell 4 (v := .map (some b)) rfl; clear b0 b1 b2 b3 b4) | (go_at_call 34; refine (halfC _ _ _).mono ?_; rintro e w9' ⟨rfl, hw9⟩; subst w9'))
  go_wp2
  go_ret
  exact ⟨rfl, gb_trans g8 g9⟩
end Go.Proofs.Ytjacoifhjfipaaa
