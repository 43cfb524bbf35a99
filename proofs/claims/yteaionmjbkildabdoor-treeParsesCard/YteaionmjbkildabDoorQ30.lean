/- Check of every tree. -/
import Derived.Test.YteaionmjbkildabDoorQ29
import Derived.Test.YteaionmjbkildabDoorQ21
namespace Go.Proofs.YteaionmjbkildabDoor
open Go.RowKit
set_option linter.unusedVariables false
set_option linter.unusedSimpArgs false
set_option maxRecDepth 100000

/-- The levels of the first nodes. -/
def lvl (t : Nat → TN) : Nat → List Nat
  | 0 => []
  | j + 1 => lvl t j ++ [if (t j).kn = 0 then 0 else (lvl t j).getD ((t j).kf 0).toNat 0 + 1]
theorem lvl_len (t : Nat → TN) : ∀ j, (lvl t j).length = j
  | 0 => rfl
  | j + 1 => by simp [lvl, lvl_len t j]
theorem lvl_get (t : Nat → TN) {i : Nat} : ∀ {j : Nat}, i < j → (lvl t j).getD i 0 = (lvl t (i + 1)).getD i 0
  | 0, h => absurd h (Nat.not_lt_zero _)
  | j + 1, h => by
    by_cases e : i = j
    · subst e; rfl
    · have hlt : i < (lvl t j).length := by rw [lvl_len]; omega
      rw [← lvl_get t (i := i) (j := j) (by omega)]
      simp [lvl, List.getD, List.getElem?_append_left hlt]
theorem lvl_le (t : Nat → TN) : ∀ j i, (lvl t j).getD i 0 ≤ j
  | 0, i => by simp [lvl]
  | j + 1, i => by
    by_cases hi : i < j
    · rw [lvl_get t (j := j + 1) (by omega), ← lvl_get t hi]
      have := lvl_le t j i
      omega
    · by_cases e : i = j
      · subst e
        have h : (lvl t (i + 1)).getD i 0 = if (t i).kn = 0 then 0 else (lvl t i).getD ((t i).kf 0).toNat 0 + 1 := by
          have hl := lvl_len t i
          simp [lvl, List.getD, List.getElem?_append_right, hl]
        rw [h]
        have := lvl_le t i ((t i).kf 0).toNat
        split <;> omega
      · have : (lvl t (j + 1)).length ≤ i := by rw [lvl_len]; omega
        simp [List.getD, List.getElem?_eq_none this]
/-- The level of a node (of the first 70000). -/
def lw (t : Nat → TN) (j : Nat) : Nat := if j < 70000 then (lvl t (j + 1)).getD j 0 else 0
theorem lw_le (t : Nat → TN) (j : Nat) : lw t j ≤ 100000 := by
  unfold lw
  split
  · have := lvl_le t (j + 1) j
    omega
  · omega
theorem lw_rec (t : Nat → TN) {j : Nat} (hj : j < 70000) : lw t j = if (t j).kn = 0 then 0 else (lvl t j).getD ((t j).kf 0).toNat 0 + 1 := by
  have hl := lvl_len t j
  rw [lw, if_pos hj]
  simp [lvl, List.getD, List.getElem?_append_right, hl]
theorem okN.nok {S : Nat} {t : Nat → TN} {j : Nat} (hj : j < 70000) (hS : 1 ≤ S) (h : okN S (lw t) (t j) j) : Nok S (lw t) (t j) j := by
  rcases h with ⟨h1, h2⟩ | ⟨h0, h1, h2, h3⟩
  · exact .inl ⟨h1, h2, by rw [lw_rec t hj, if_pos h1]⟩
  · refine .inr ⟨h1, h2, h3, ?_⟩
    have h := h3 0 (by omega)
    have hk : ((t j).kf 0).toNat < j := by omega
    rw [lw_rec t hj, if_neg h0, lvl_get t hk]
    rw [show lw t ((t j).kf 0).toNat = (lvl t (((t j).kf 0).toNat + 1)).getD ((t j).kf 0).toNat 0 by rw [lw, if_pos (by omega)]]

theorem checkA (S I R : Int) (sp : Option Addr) (n c : Nat) (hma : maB S I = false) (w : World) : Calls Tryd.prog 20 #[.agg #[.int .i64 S, .int .i64 I, .slice sp n c, .int .i64 R]] w fun e w' => e = .returned (.int .i64 110) ∧ w.grownBy w' none := by
  have hm := mayAskC S I
  rw [hma] at hm
  obtain ⟨W1, hW1, sz1, g1, B1⟩ := boxn w #[.int .i64 S, .int .i64 I, .slice sp n c, .int .i64 R] 24
  have t0 := B1.cell 0 (v := .int .i64 S) rfl
  have t1 := B1.cell 1 (v := .int .i64 I) rfl
  have t2 := B1.cell 2 (v := .slice sp n c) rfl
  have t3 := B1.cell 3 (v := .int .i64 R) rfl

  go_enter Tryd.func20, Tryd.ntmps20
  go_wp2_with (first | (go_at_call 46; refine (hm _).mono ?_; rintro e w' ⟨rfl, hw'⟩; subst w') | go_in)
  go_ret
  exact ⟨rfl, g1⟩

theorem checkB (S I R : Int) (sp : Option Addr) (n c : Nat) (hma : maB S I = true) (hn : 65536 < n) (w : World) : Calls Tryd.prog 20 #[.agg #[.int .i64 S, .int .i64 I, .slice sp n c, .int .i64 R]] w fun e w' => e = .returned (.int .i64 110) ∧ w.grownBy w' none := by
  have hm := mayAskC S I
  rw [hma] at hm
  obtain ⟨W1, hW1, sz1, g1, B1⟩ := boxn w #[.int .i64 S, .int .i64 I, .slice sp n c, .int .i64 R] 24
  have t0 := B1.cell 0 (v := .int .i64 S) rfl
  have t1 := B1.cell 1 (v := .int .i64 I) rfl
  have t2 := B1.cell 2 (v := .slice sp n c) rfl
  have t3 := B1.cell 3 (v := .int .i64 R) rfl
  have y : (65536 : Int) < (n : Int) := by omega
  go_enter Tryd.func20, Tryd.ntmps20
  go_wp2_with (first | (go_at_call 46; refine (hm _).mono ?_; rintro e w' ⟨rfl, hw'⟩; subst w') | go_in)
  go_ret
  exact ⟨rfl, g1⟩

theorem checkR0 (S I R : Int) (sp : Option Addr) (n c : Nat) (hma : maB S I = true) (hn : n ≤ 65536) (hr : R < 0) (w : World) : Calls Tryd.prog 20 #[.agg #[.int .i64 S, .int .i64 I, .slice sp n c, .int .i64 R]] w fun e w' => e = .returned (.int .i64 110) ∧ w.grownBy w' none := by
  have hm := mayAskC S I
  rw [hma] at hm
  obtain ⟨W1, hW1, sz1, g1, B1⟩ := boxn w #[.int .i64 S, .int .i64 I, .slice sp n c, .int .i64 R] 24
  have t0 := B1.cell 0 (v := .int .i64 S) rfl
  have t1 := B1.cell 1 (v := .int .i64 I) rfl
  have t2 := B1.cell 2 (v := .slice sp n c) rfl
  have t3 := B1.cell 3 (v := .int .i64 R) rfl
  have y : ¬ (65536 : Int) < (n : Int) := by omega
  go_enter Tryd.func20, Tryd.ntmps20
  go_wp2_with (first | (go_at_call 46; refine (hm _).mono ?_; rintro e w' ⟨rfl, hw'⟩; subst w') | go_in)
  go_ret
  exact ⟨rfl, g1⟩

theorem checkR1 (S I R : Int) (sp : Option Addr) (n c : Nat) (hma : maB S I = true) (hn : n ≤ 65536) (h0 : 0 ≤ R) (hr : (n : Int) ≤ R) (w : World) : Calls Tryd.prog 20 #[.agg #[.int .i64 S, .int .i64 I, .slice sp n c, .int .i64 R]] w fun e w' => e = .returned (.int .i64 110) ∧ w.grownBy w' none := by
  have hm := mayAskC S I
  rw [hma] at hm
  obtain ⟨W1, hW1, sz1, g1, B1⟩ := boxn w #[.int .i64 S, .int .i64 I, .slice sp n c, .int .i64 R] 24
  have t0 := B1.cell 0 (v := .int .i64 S) rfl
  have t1 := B1.cell 1 (v := .int .i64 I) rfl
  have t2 := B1.cell 2 (v := .slice sp n c) rfl
  have t3 := B1.cell 3 (v := .int .i64 R) rfl
  have y : ¬ (65536 : Int) < (n : Int) := by omega
  have z : ¬ R < 0 := by omega
  go_enter Tryd.func20, Tryd.ntmps20
  go_wp2_with (first | (go_at_call 46; refine (hm _).mono ?_; rintro e w' ⟨rfl, hw'⟩; subst w') | go_in)
  go_ret
  exact ⟨rfl, g1⟩


set_option maxHeartbeats 2000000 in
theorem checkL (S I R q o n c : Nat) (t : Nat → TN) (h1 : 1 ≤ S) (hS : S ≤ 256) (hI : I ≤ 16) (hn : n ≤ 65536) (hR : R < n) (hst : ∀ j, (t j).st < 256) (bad : ¬ ((∀ j, j < n → okN S (lw t) (t j) j) ∧ lw t R = I)) (w : World) (hT : Tn w q o n t) :
    Calls Tryd.prog 20 #[.agg #[.int .i64 (S : Nat), .int .i64 (I : Nat), .slice (some ⟨q, o, none⟩) n c, .int .i64 (R : Nat)]] w fun e w' => e = .returned (.int .i64 110) ∧ w.grownBy w' none := by
  have hm := mayAskC (S : Int) (I : Int)
  rw [show maB (S : Int) (I : Int) = true by unfold maB; simp; omega] at hm
  have hlv := lw_le t
  obtain ⟨i0, HI⟩ : ∃ i, Hid (Tryd.prog.info? 3 = some i ∧ i.zero = some (.int .i64 0) ∧ i.size = 1 ∧ i.bytes = 8) := by
    obtain ⟨i, h1, h2, h3, h4⟩ := info_parts infoI
    exact ⟨i, h1, h2, h3, h4⟩
  obtain ⟨W1, hW1, sz1, g1, B1⟩ := boxn w #[.int .i64 (S : Nat), .int .i64 (I : Nat), .slice (some ⟨q, o, none⟩) n c, .int .i64 (R : Nat)] 24
  have t0 := B1.cell 0 (v := .int .i64 (S : Nat)) rfl
  have t1 := B1.cell 1 (v := .int .i64 (I : Nat)) rfl
  have t2 := B1.cell 2 (v := .slice (some ⟨q, o, none⟩) n c) rfl
  have t3 := B1.cell 3 (v := .int .i64 (R : Nat)) rfl
  have HB : Hid (¬ ((∀ j, j < n → okN S (lw t) (t j) j) ∧ lw t R = I)) := bad
  clear bad
  go_enter Tryd.func20, Tryd.ntmps20
  go_wp2_with (first | (go_at_call 46; refine (hm _).mono ?_; rintro e w' ⟨rfl, hw'⟩; subst w') | (at_make; refine wpList_make_own _ rfl _ _ 63 rfl W1.heap.size 3 i0 (.int .i64 0) 1 underIS HI.out.1 HI.out.2.1 HI.out.2.2.1 .i64 .i64 _ n rfl rfl (by first | rfl | omega) (by rw [HI.out.2.2.2]; omega) (by unfold maxLen; omega) (Nat.le_refl _) ?_; intro w2 own2 g2; have B2 := B1.kept g2 (by simp); have u0 := B2.cell 0 (v := .int .i64 (S : Nat)) rfl; have u1 := B2.cell 1 (v := .int .i64 (I : Nat)) rfl; have u2 := B2.cell 2 (v := .slice (some ⟨q, o, none⟩) n c) rfl; have u3 := B2.cell 3 (v := .int .i64 (R : Nat)) rfl) | go_in)
  go_loopw [38, 4] (fun i v wr => ∃ j : Nat, j ≤ n ∧ i = .int .i64 j ∧ wr.ownsRow W1.heap.size 3 1 v j (lvV (lw t) j) ∧ W1.grownBy wr none ∧ ∀ k, k < j → okN S (lw t) (t k) k) (fun i _ _ => n - (intOf i).toNat)
  case atStart => exact ⟨0, Nat.zero_le _, rfl, own2, g2, fun k hk => absurd hk (Nat.not_lt_zero _)⟩
  case round =>
    obtain ⟨j, hj, rfl, own, hg, hok⟩ := hrel
    have Bj := B1.kept hg (by simp)
    by_cases hlt : j < n
    · have hlt' : (j : Int) < (n : Int) := by omega
      obtain ⟨x0, x1, x2⟩ := (hT.kept (gb_trans g1 hg)) j hlt
      obtain ⟨W3, hW3, sz3, g3, B3⟩ := boxn wr #[.int .u8 ((t j).st : Nat), .slice (t j).kp (t j).kn (t j).kc] 69
      have y0 := B3.cell 0 (v := .int .u8 ((t j).st : Nat)) rfl
      have y1 := B3.cell 1 (v := .slice (t j).kp (t j).kn (t j).kc) rfl
      have z0 := (Bj.kept g3 (by simp)).cell 0 (v := .int .i64 (S : Nat)) rfl
      obtain ⟨sv, cv, rfl, inv⟩ := in_own own
      have own3 := own.kept g3 (Classical.em _)
      by_cases hkj : okN S (lw t) (t j) j
      · have HK : Hid (∀ k, k < j + 1 → okN S (lw t) (t k) k) := fun k hk => by
          by_cases e : k = j
          · subst e; exact hkj
          · exact hok k (by omega)
        have hlo := levelOk S hS h1 (lw t) hlv (t j) (hst j) j (by omega) (hkj.nok (by omega) h1) sv cv W3 (x2.kept g3 (by simp)) (inv.kept g3 (by simp))
        clear hok hkj
        go_wp2_with (first | (go_at_call 47; refine hlo.mono ?_; rintro e w4 ⟨rfl, g4⟩; obtain ⟨V, hV⟩ : ∃ V, w4.alloc (.cells #[.int .i64 (lw t j : Nat)] 3) = V := ⟨_, rfl⟩; have gV : w4.grownBy V none := (by rw [← hV]; exact World.grownBy_alloc _ _ _); have g34 := gb_trans g4 gV; have ownV := own3.kept g34 (Classical.em _); have nV : ∀ l u, [Value.int .i64 (lw t j : Nat)][l]? = some u → V.cell? ((⟨w4.heap.size, 0, none⟩ : Addr).add l) = some u := (by rw [← hV]; exact World.news_of_block (cs := #[.int .i64 (lw t j : Nat)]) (heap_alloc_new w4 _)); have GV := gb_trans hg (gb_trans g3 g34)) | (at_builtin; refine wpList_append_own_at _ rfl _ _ 63 rfl W1.heap.size 3 i0 (.int .i64 0) 1 8 underIS HI.out.1 HI.out.2.1 HI.out.2.2.1 HI.out.2.2.2 rfl (by decide) _ j _ rfl ownV ⟨w4.heap.size, 0, none⟩ 1 1 [.int .i64 (lw t j : Nat)] rfl rfl nV (by intro u hu; simp at hu; subst hu; rfl) (by unfold maxLen; omega) (by omega) GV.size ?_; intro v' w' own' g' hnil' hblk'))
        go_roundw
        case rel => exact ⟨j + 1, by omega, by go_num, by rw [lvV, List.range_succ, List.map_append]; exact own', GV.andThen g' (fun b hb => .inl (ownV.lt b hb).1), HK.out⟩
        case measure => simp [intOf]; omega
      · have hlo := levelBad S hS h1 (lw t) hlv (t j) (hst j) j (by omega) hkj sv cv W3 (x2.kept g3 (by simp)) (inv.kept g3 (by simp))
        clear hok hkj
        go_wp2_with (first | (go_at_call 47; refine hlo.mono ?_; rintro e w4 ⟨rfl, g4⟩))
        go_ret
        exact ⟨rfl, gb_trans g1 (gb_trans hg (gb_trans g3 g4))⟩
    · have hjn : j = n := by omega
      subst hjn
      have z1 := Bj.cell 1 (v := .int .i64 (I : Nat)) rfl
      have z3 := Bj.cell 3 (v := .int .i64 (R : Nat)) rfl
      obtain ⟨sv, cv, rfl, inv⟩ := in_own own
      obtain ⟨b, rfl⟩ := inv.some (by omega)
      have l0 := inv.at hR
      have hne : lw t R ≠ I := fun e => HB.out ⟨hok, e⟩
      clear hok
      obtain ⟨x, hx⟩ : ∃ x, lw t R = x := ⟨_, rfl⟩
      rw [hx] at l0 hne
      have y5 : (R : Int) < (j : Int) := by omega
      have y6 : (0 : Int) ≤ (R : Int) := by omega
      have y9 : ((R : Int)).toNat = R := by omega
      have ya : ((x : Int) != (I : Int)) = true := by simp; omega
      clear hne
      go_wp2
      go_quiet (fail)
      go_wp2
      go_ret
      exact ⟨rfl, gb_drewN (gb_trans g1 hg) _⟩

/-- A tree may be. -/
def CkOk (S I : Int) (n : Nat) (R : Int) (t : Nat → TN) : Prop := maB S I = true ∧ n ≤ 65536 ∧ 0 ≤ R ∧ R < (n : Int) ∧ (∀ j, j < n → okN S.toNat (lw t) (t j) j) ∧ (lw t R.toNat : Int) = I
theorem maB_is {S I : Int} (h : maB S I = true) : (1 ≤ S ∧ S ≤ 256) ∧ 0 ≤ I ∧ I ≤ 16 := by
  unfold maB at h
  simp at h
  omega
theorem CkOk.tok {S I : Int} {n : Nat} {R : Int} {t : Nat → TN} (h : CkOk S I n R t) (hst : ∀ j, (t j).st < 256) : Tok S.toNat I.toNat R.toNat n t (lw t) := by
  obtain ⟨h1, h2, h3, h4, h5, h6⟩ := h
  have hm := maB_is h1
  exact ⟨by omega, by omega, by omega, h2, by omega, lw_le t, hst, fun j hj => (h5 j hj).nok (by omega) (by omega), by omega⟩
open Classical in
theorem checkC (S I R : Int) (sp : Option Addr) (q o n c : Nat) (t : Nat → TN) (hsp : 0 < n → sp = some ⟨q, o, none⟩) (hst : ∀ j, (t j).st < 256) (w : World) (hT : Tn w q o n t) :
    Calls Tryd.prog 20 #[.agg #[.int .i64 S, .int .i64 I, .slice sp n c, .int .i64 R]] w fun e w' => e = .returned (.int .i64 (if CkOk S I n R t then 0 else 110)) ∧ w.grownBy w' none := by
  by_cases h : CkOk S I n R t
  · rw [if_pos h]
    have ht := h.tok hst
    obtain ⟨h1, h2, h3, h4, h5, h6⟩ := h
    have hm := maB_is h1
    obtain rfl := hsp (by omega)
    have := checkK S.toNat I.toNat R.toNat q o n c t (lw t) ht w hT
    rw [Int.toNat_of_nonneg (by omega), Int.toNat_of_nonneg (by omega), Int.toNat_of_nonneg (by omega)] at this
    exact this
  · rw [if_neg h]
    cases hma : maB S I with
    | false => exact checkA S I R sp n c hma w
    | true =>
      have hm := maB_is hma
      by_cases hn : n ≤ 65536
      · by_cases h0 : 0 ≤ R
        · by_cases h1 : R < (n : Int)
          · obtain rfl := hsp (by omega)
            have := checkL S.toNat I.toNat R.toNat q o n c t (by omega) (by omega) (by omega) hn (by omega) hst (fun hh => h ⟨hma, hn, h0, h1, hh.1, by have := hh.2; omega⟩) w hT
            rw [Int.toNat_of_nonneg (by omega), Int.toNat_of_nonneg (by omega), Int.toNat_of_nonneg (by omega)] at this
            exact this
          · exact checkR1 S I R sp n c hma hn h0 (by omega) w
        · exact checkR0 S I R sp n c hma hn (by omega) w
      · exact checkB S I R sp n c hma (by omega) w
end Go.Proofs.YteaionmjbkildabDoor
