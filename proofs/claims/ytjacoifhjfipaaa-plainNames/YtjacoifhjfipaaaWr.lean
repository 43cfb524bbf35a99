/- Write and Halves: what they answer. -/
import Derived.Test.YtjacoifhjfipaaaDw
namespace Go.Proofs.Ytjacoifhjfipaaa
open Go.RowKit Ln
set_option linter.unusedVariables false
set_option linter.unusedSimpArgs false
set_option maxRecDepth 100000

theorem lkE_zero {l : List Cx} {X Y V H : Int} (h : lkE l X Y V H = 0) : sideB V = true ∧ sideB H = true ∧ farB X = false ∧ farB Y = false := by
  unfold lkE at h
  split at h
  · cases h
  · split at h
    · cases h
    · split at h
      · cases h
      · rename_i h3
        split at h
        · cases h
        · rename_i h4
          simp only [Bool.or_eq_true, Bool.not_eq_true', not_or] at h3 h4
          exact ⟨by simpa using h3.1, by simpa using h3.2, by simpa using h4.1, by simpa using h4.2⟩
theorem side_nat {n : Int} (h : sideB n = true) : ∃ m : Nat, n = (m : Int) ∧ m ≤ 65536 := by
  unfold sideB at h
  rw [decide_eq_true_iff] at h
  exact ⟨n.toNat, by omega, by omega⟩
/-- What Write answers. -/
def wrF (l : List Cx) (X Y : Int) (j i : Nat) : Int := sgn (stA l (X + (i : Int)) (Y + (j : Int)))
def wrE (l : List Cx) (X Y V H : Int) : Int := if lkE l X Y V H = 0 then dwE H.toNat V.toNat (wrF l X Y) else lkE l X Y V H
def wrS (l : List Cx) (X Y V H : Int) : ByteArray := if lkE l X Y V H = 0 then dwS H.toNat V.toNat (wrF l X Y) else ⟨#[]⟩
/-- What Halves answers. -/
def hvF (l : List Cx) (X Y H : Int) (j i : Nat) : Int := hfR (decide (((2 * j : Nat) : Int) < H) && decide (stA l (X + (i : Int)) (Y + ((2 * j : Nat) : Int)) ≠ 0)) (decide (((2 * j + 1 : Nat) : Int) < H) && decide (stA l (X + (i : Int)) (Y + ((2 * j + 1 : Nat) : Int)) ≠ 0))
def hvE (l : List Cx) (X Y V H : Int) : Int := if lkE l X Y V H = 0 then dwE ((H.toNat + 1) / 2) V.toNat (hvF l X Y H) else lkE l X Y V H
def hvS (l : List Cx) (X Y V H : Int) : ByteArray := if lkE l X Y V H = 0 then dwS ((H.toNat + 1) / 2) V.toNat (hvF l X Y H) else ⟨#[]⟩
set_option maxHeartbeats 4000000 in
theorem writeC (sp : Option Addr) (cap : Nat) (l : List Cx) (hl : l.length < 1099511627776) (hok : ∀ c ∈ l, CxOk c) (X Y V H : Int) (w : World) (h : Ce w sp l) : Calls Try.prog 11 #[.slice sp l.length cap, .agg #[.int .i64 X, .int .i64 Y, .int .i64 V, .int .i64 H]] w fun e w' => e = .returned (.tuple #[.string (wrS l X Y V H), .int .i64 (wrE l X Y V H)]) ∧ w.grownBy w' none := by
  have h8 : ∀ c ∈ l, c.2.2 < 256 := fun c hc => (hok c hc).2
  obtain ⟨V1, hV1, sV1, g1, B1⟩ := boxn w #[.int .i64 X, .int .i64 Y, .int .i64 V, .int .i64 H] 31
  have r0 := B1.cell 0 (v := .int .i64 X) rfl
  have r1 := B1.cell 1 (v := .int .i64 Y) rfl
  have r2 := B1.cell 2 (v := .int .i64 V) rfl
  have r3 := B1.cell 3 (v := .int .i64 H) rfl
  have hlk := fun W (g : w.grownBy W none) => lookC sp cap l hl hok X Y V H W (h.kept g (by simp))
  have HL : Hid (∀ W, w.grownBy W none → Calls Try.prog 29 #[.slice sp l.length cap, .agg #[.int .i64 X, .int .i64 Y, .int .i64 V, .int .i64 H]] W (LkP W l X Y V H)) := hlk
  clear hlk
  by_cases h0 : lkE l X Y V H = 0
  · obtain ⟨hV, hH, hX, hY⟩ := lkE_zero h0
    have HE : Hid (lkE l X Y V H = 0) := h0
    have h2 := side_nat hV
    have h3 := side_nat hH
    obtain ⟨n, rfl, hn⟩ := h2
    obtain ⟨m, rfl, hm⟩ := h3
    have e1 : Hid (wrE l X Y n m = dwE m n (fun j i => sgn (stA l (X + (i : Int)) (Y + (j : Int))))) := by unfold Hid wrE; rw [if_pos h0]; rfl
    have e2 : Hid (wrS l X Y n m = dwS m n (fun j i => sgn (stA l (X + (i : Int)) (Y + (j : Int))))) := by unfold Hid wrS; rw [if_pos h0]; rfl
    clear h0 hV hH
    have hdr : ∀ (V3 b : Nat) (W : World), Mp W b l → VB W V3 X Y n m b → Calls Try.prog 30 #[.int .i64 (m : Nat), .int .i64 (n : Nat), .func (.func 31) #[] #[.pointer (some ⟨V3, 0, none⟩)]] W fun e w' => e = .returned (.tuple #[.string (wrS l X Y n m), .int .i64 (wrE l X Y n m)]) ∧ W.grownBy w' none := fun V3 b W hM hB => by
      rw [e1.out, e2.out]
      exact drawW m n (by omega) hn V3 _ W (fun j i W hj hi h3 => write1C X Y n m b V3 l h8 hX hY j i (by omega) (by omega) W (hM.kept h3 (by simp)) (hB.kept h3 (by simp)))
    obtain ⟨ES, hES⟩ : ∃ ES, wrS l X Y n m = ES := ⟨_, rfl⟩
    obtain ⟨EE, hEE⟩ : ∃ EE, wrE l X Y n m = EE := ⟨_, rfl⟩
    rw [hES, hEE]
    simp only [hES, hEE] at hdr
    clear hES hEE e1 e2
    have HD : Hid (∀ (V3 b : Nat) (W : World), Mp W b l → VB W V3 X Y n m b → Calls Try.prog 30 #[.int .i64 (m : Nat), .int .i64 (n : Nat), .func (.func 31) #[] #[.pointer (some ⟨V3, 0, none⟩)]] W fun e w' => e = .returned (.tuple #[.string ES, .int .i64 EE]) ∧ W.grownBy w' none) := hdr
    clear hdr
    go_enter Try.func11, Try.ntmps11
    go_wp2_with (first | (go_at_call 29; refine (HL.out _ (by first | exact g1 | exact gb_alloc g1 _)).mono ?_; rintro e w3 hlv0; unfold LkP at hlv0; obtain ⟨gl, hlv⟩ := hlv0; rw [HE.out, if_pos rfl] at hlv; obtain ⟨b, rfl, hmp, hb⟩ := hlv; obtain ⟨V5, hV5, sV5, g5, B5⟩ := boxn w3 #[.int .i64 X, .int .i64 Y, .int .i64 n, .int .i64 m, .map (some b)] 56; have gl5 := gb_trans gl g5; have q0 := (B1.kept gl5 (by simp)).cell 0 (v := .int .i64 X) rfl; have q1 := (B1.kept gl5 (by simp)).cell 1 (v := .int .i64 Y) rfl; have q2 := (B1.kept gl5 (by simp)).cell 2 (v := .int .i64 n) rfl; have q3 := (B1.kept gl5 (by simp)).cell 3 (v := .int .i64 m) rfl; clear r0 r1 r2 r3) | (go_at_call 30; refine (HD.out _ _ _ (hmp.kept g5 (by simp)) B5).mono ?_; rintro e w6 ⟨rfl, g6⟩) | go_in)
    first | go_ret2 | go_ret
    exact ⟨rfl, gb_trans (gb_trans g1 gl5) g6⟩
  · have e1 : wrE l X Y V H = lkE l X Y V H := by unfold wrE; rw [if_neg h0]
    have e2 : wrS l X Y V H = ⟨#[]⟩ := by unfold wrS; rw [if_neg h0]
    rw [e1, e2]
    obtain ⟨E, hE⟩ : ∃ E, lkE l X Y V H = E := ⟨_, rfl⟩
    have HE : Hid (lkE l X Y V H = E) := hE
    rw [hE] at h0 ⊢
    have hne : (E != 0) = true := by simpa using h0
    have HN : Hid (¬ E = 0) := h0
    clear e1 e2 hE h0
    go_enter Try.func11, Try.ntmps11
    go_wp2_with (first | (go_at_call 29; refine (HL.out _ (by first | exact g1 | exact gb_alloc g1 _)).mono ?_; rintro e w3 hlv0; unfold LkP at hlv0; obtain ⟨gl, hlv⟩ := hlv0; rw [HE.out, if_neg HN.out] at hlv; obtain rfl := hlv) | go_in)
    go_ret2
    exact ⟨rfl, gb_alloc (gb_trans g1 gl) _⟩
set_option maxHeartbeats 4000000 in
theorem halvesC (sp : Option Addr) (cap : Nat) (l : List Cx) (hl : l.length < 1099511627776) (hok : ∀ c ∈ l, CxOk c) (X Y V H : Int) (w : World) (h : Ce w sp l) : Calls Try.prog 12 #[.slice sp l.length cap, .agg #[.int .i64 X, .int .i64 Y, .int .i64 V, .int .i64 H]] w fun e w' => e = .returned (.tuple #[.string (hvS l X Y V H), .int .i64 (hvE l X Y V H)]) ∧ w.grownBy w' none := by
  have h8 : ∀ c ∈ l, c.2.2 < 256 := fun c hc => (hok c hc).2
  obtain ⟨V1, hV1, sV1, g1, B1⟩ := boxn w #[.int .i64 X, .int .i64 Y, .int .i64 V, .int .i64 H] 31
  have r0 := B1.cell 0 (v := .int .i64 X) rfl
  have r1 := B1.cell 1 (v := .int .i64 Y) rfl
  have r2 := B1.cell 2 (v := .int .i64 V) rfl
  have r3 := B1.cell 3 (v := .int .i64 H) rfl
  have hlk := fun W (g : w.grownBy W none) => lookC sp cap l hl hok X Y V H W (h.kept g (by simp))
  have HL : Hid (∀ W, w.grownBy W none → Calls Try.prog 29 #[.slice sp l.length cap, .agg #[.int .i64 X, .int .i64 Y, .int .i64 V, .int .i64 H]] W (LkP W l X Y V H)) := hlk
  clear hlk
  by_cases h0 : lkE l X Y V H = 0
  · obtain ⟨hV, hH, hX, hY⟩ := lkE_zero h0
    have HE : Hid (lkE l X Y V H = 0) := h0
    have h2 := side_nat hV
    have h3 := side_nat hH
    obtain ⟨n, rfl, hn⟩ := h2
    obtain ⟨m, rfl, hm⟩ := h3
    have e1 : Hid (hvE l X Y n m = dwE ((m + 1) / 2) n (fun j i => hfR (decide (((2 * j : Nat) : Int) < (m : Int)) && decide (stA l (X + (i : Int)) (Y + ((2 * j : Nat) : Int)) ≠ 0)) (decide (((2 * j + 1 : Nat) : Int) < (m : Int)) && decide (stA l (X + (i : Int)) (Y + ((2 * j + 1 : Nat) : Int)) ≠ 0)))) := by unfold Hid hvE; rw [if_pos h0]; rfl
    have e2 : Hid (hvS l X Y n m = dwS ((m + 1) / 2) n (fun j i => hfR (decide (((2 * j : Nat) : Int) < (m : Int)) && decide (stA l (X + (i : Int)) (Y + ((2 * j : Nat) : Int)) ≠ 0)) (decide (((2 * j + 1 : Nat) : Int) < (m : Int)) && decide (stA l (X + (i : Int)) (Y + ((2 * j + 1 : Nat) : Int)) ≠ 0)))) := by unfold Hid hvS; rw [if_pos h0]; rfl
    clear h0 hV hH
    have hw1 : IntKind.i64.wrap ((m : Int) + 1) = ((m + 1 : Nat) : Int) := by rw [IntKind.wrap_i64]; omega
    have hw2 : ((m + 1 : Nat) : Int).tdiv 2 = (((m + 1) / 2 : Nat) : Int) := by rw [Int.tdiv_eq_ediv_of_nonneg (by omega)]; omega
    have hdr : ∀ (V3 b : Nat) (W : World), Mp W b l → VB W V3 X Y n m b → Calls Try.prog 30 #[.int .i64 (((m + 1) / 2) : Nat), .int .i64 (n : Nat), .func (.func 33) #[] #[.pointer (some ⟨V3, 0, none⟩)]] W fun e w' => e = .returned (.tuple #[.string (hvS l X Y n m), .int .i64 (hvE l X Y n m)]) ∧ W.grownBy w' none := fun V3 b W hM hB => by
      rw [e1.out, e2.out]
      exact drawH ((m + 1) / 2) n (by omega) hn V3 _ W (fun j i W hj hi h3 => halves1C X Y n m b V3 l hX hY j i (by omega) (by omega) W (hM.kept h3 (by simp)) (hB.kept h3 (by simp)))
    obtain ⟨ES, hES⟩ : ∃ ES, hvS l X Y n m = ES := ⟨_, rfl⟩
    obtain ⟨EE, hEE⟩ : ∃ EE, hvE l X Y n m = EE := ⟨_, rfl⟩
    rw [hES, hEE]
    simp only [hES, hEE] at hdr
    clear hES hEE e1 e2
    have HD : Hid (∀ (V3 b : Nat) (W : World), Mp W b l → VB W V3 X Y n m b → Calls Try.prog 30 #[.int .i64 (((m + 1) / 2) : Nat), .int .i64 (n : Nat), .func (.func 33) #[] #[.pointer (some ⟨V3, 0, none⟩)]] W fun e w' => e = .returned (.tuple #[.string ES, .int .i64 EE]) ∧ W.grownBy w' none) := hdr
    clear hdr
    go_enter Try.func12, Try.ntmps12
    go_wp2_with (first | (go_at_call 29; refine (HL.out _ (by first | exact g1 | exact gb_alloc g1 _)).mono ?_; rintro e w3 hlv0; unfold LkP at hlv0; obtain ⟨gl, hlv⟩ := hlv0; rw [HE.out, if_pos rfl] at hlv; obtain ⟨b, rfl, hmp, hb⟩ := hlv; obtain ⟨V5, hV5, sV5, g5, B5⟩ := boxn w3 #[.int .i64 X, .int .i64 Y, .int .i64 n, .int .i64 m, .map (some b)] 56; have gl5 := gb_trans gl g5; have q0 := (B1.kept gl5 (by simp)).cell 0 (v := .int .i64 X) rfl; have q1 := (B1.kept gl5 (by simp)).cell 1 (v := .int .i64 Y) rfl; have q2 := (B1.kept gl5 (by simp)).cell 2 (v := .int .i64 n) rfl; have q3 := (B1.kept gl5 (by simp)).cell 3 (v := .int .i64 m) rfl; clear r0 r1 r2 r3) | (go_at_call 30; refine (HD.out _ _ _ (hmp.kept g5 (by simp)) B5).mono ?_; rintro e w6 ⟨rfl, g6⟩) | go_in)
    first | go_ret2 | go_ret
    exact ⟨rfl, gb_trans (gb_trans g1 gl5) g6⟩
  · have e1 : hvE l X Y V H = lkE l X Y V H := by unfold hvE; rw [if_neg h0]
    have e2 : hvS l X Y V H = ⟨#[]⟩ := by unfold hvS; rw [if_neg h0]
    rw [e1, e2]
    obtain ⟨E, hE⟩ : ∃ E, lkE l X Y V H = E := ⟨_, rfl⟩
    have HE : Hid (lkE l X Y V H = E) := hE
    rw [hE] at h0 ⊢
    have hne : (E != 0) = true := by simpa using h0
    have HN : Hid (¬ E = 0) := h0
    clear e1 e2 hE h0
    go_enter Try.func12, Try.ntmps12
    go_wp2_with (first | (go_at_call 29; refine (HL.out _ (by first | exact g1 | exact gb_alloc g1 _)).mono ?_; rintro e w3 hlv0; unfold LkP at hlv0; obtain ⟨gl, hlv⟩ := hlv0; rw [HE.out, if_neg HN.out] at hlv; obtain rfl := hlv) | go_in)
    go_ret2
    exact ⟨rfl, gb_alloc (gb_trans g1 gl) _⟩
end Go.Proofs.Ytjacoifhjfipaaa
