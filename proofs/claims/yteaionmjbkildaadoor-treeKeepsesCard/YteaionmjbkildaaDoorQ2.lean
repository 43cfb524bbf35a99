/- Of of no function; what the document says is refused ahead of asking. -/
import Derived.Test.YteaionmjbkildaaDoorQ1
namespace Go.Proofs.YteaionmjbkildaaDoor
open Go.RowKit
set_option linter.unusedVariables false
set_option linter.unusedSimpArgs false
set_option maxRecDepth 100000

theorem underT : ∃ fs, Tryd.prog.underlying 30 = some (.struct fs) := by
  have h : (match Tryd.prog.underlying 30 with | some (.struct _) => true | _ => false) = true := by kernel_rfl
  split at h
  · exact ⟨_, by assumption⟩
  · cases h
theorem eqNil (w : World) : (binOp BinOp.eql 72 Value.nilFunc Value.nilFunc).run Tryd.prog w = .ok (.bool true) w := by
  first | kernel_rfl | rfl | simp [binOp]
theorem infoT : (Tryd.prog.info? 30).map (·.size) = some 4 := by kernel_rfl

set_option maxHeartbeats 400000 in
theorem ofNilA (s n : Int) (h : maB s n = false) (w : World) : Calls Tryd.prog 19 #[.int .i64 s, .int .i64 n, .nilFunc] w fun e w' => e = .returned (.tuple #[.agg #[.int .i64 0, .int .i64 0, .slice none 0 0, .int .i64 0], .int .i64 2]) ∧ w.grownBy w' none := by
  have hm := mayAskC s n
  rw [h] at hm
  clear h
  have hnil := eqNil
  obtain ⟨fs, hfs⟩ := underT
  obtain ⟨W1, hW1, sz1, g1, B1⟩ := boxn w #[.int .i64 0, .int .i64 0, .slice none 0 0, .int .i64 0] 30
  have c0 := B1.cell 0 (v := .int .i64 0) rfl
  have c1 := B1.cell 1 (v := .int .i64 0) rfl
  have c2 := B1.cell 2 (v := .slice none 0 0) rfl
  have c3 := B1.cell 3 (v := .int .i64 0) rfl
  have f0 := B1.frozen 0
  have f1 := B1.frozen 1
  have f2 := B1.frozen 2
  have f3 := B1.frozen 3
  have HF : Hid (Tryd.prog.underlying 30 = some (.struct fs)) := hfs
  clear hfs
  go_enter Tryd.func19, Tryd.ntmps19
  go_wp2_with (first | (go_at_call 34; refine (hm _).mono ?_; rintro e w' ⟨rfl, hw'⟩; subst w'))
  have le : w.heap.size ≤ w.heap.size := Nat.le_refl _
  have B2 := (((B1.set 0 (.int .i64 0)).set 1 (.int .i64 0)).set 2 (.slice none 0 0)).set 3 (.int .i64 0)
  refine ret_c2 (g := w.heap.size) (t := 30) (cs := #[.int .i64 0, .int .i64 0, .slice none 0 0, .int .i64 0]) rfl HF.out infoT rfl (by first | exact B2 | simpa using B2 | exact B1) rfl ⟨rfl, by first | exact gb_new (gb_new (gb_new (gb_new g1 le _) le _) le _) le _ | exact g1⟩

set_option maxHeartbeats 400000 in
theorem ofNilN (s n : Int) (h : maB s n = true) (w : World) : Calls Tryd.prog 19 #[.int .i64 s, .int .i64 n, .nilFunc] w fun e w' => e = .returned (.tuple #[.agg #[.int .i64 0, .int .i64 0, .slice none 0 0, .int .i64 0], .int .i64 1]) ∧ w.grownBy w' none := by
  have hm := mayAskC s n
  rw [h] at hm
  clear h
  have hnil := eqNil
  obtain ⟨fs, hfs⟩ := underT
  obtain ⟨W1, hW1, sz1, g1, B1⟩ := boxn w #[.int .i64 0, .int .i64 0, .slice none 0 0, .int .i64 0] 30
  have c0 := B1.cell 0 (v := .int .i64 0) rfl
  have c1 := B1.cell 1 (v := .int .i64 0) rfl
  have c2 := B1.cell 2 (v := .slice none 0 0) rfl
  have c3 := B1.cell 3 (v := .int .i64 0) rfl
  have f0 := B1.frozen 0
  have f1 := B1.frozen 1
  have f2 := B1.frozen 2
  have f3 := B1.frozen 3
  have HF : Hid (Tryd.prog.underlying 30 = some (.struct fs)) := hfs
  clear hfs
  go_enter Tryd.func19, Tryd.ntmps19
  go_wp2_with (first | (go_at_call 34; refine (hm _).mono ?_; rintro e w' ⟨rfl, hw'⟩; subst w'))
  have le : w.heap.size ≤ w.heap.size := Nat.le_refl _
  have B2 := (((B1.set 0 (.int .i64 0)).set 1 (.int .i64 0)).set 2 (.slice none 0 0)).set 3 (.int .i64 0)
  refine ret_c2 (g := w.heap.size) (t := 30) (cs := #[.int .i64 0, .int .i64 0, .slice none 0 0, .int .i64 0]) rfl HF.out infoT rfl (by first | exact B2 | simpa using B2 | exact B1) rfl ⟨rfl, by first | exact gb_new (gb_new (gb_new (gb_new g1 le _) le _) le _) le _ | exact g1⟩

/-- What is refused ahead of asking. -/
def adE (s n : Int) (b : Bool) : Int := if maB s n then (if b then 1 else if (s.toNat) ^ (n.toNat) ≤ 1048576 then 0 else 4) else 2

theorem ad1 (s n : Int) (b : Bool) (h : s < 1) (w : World) : Calls Tryd.prog 11 #[.int .i64 s, .int .i64 n, .bool b] w fun e w' => e = .returned (.int .i64 2) ∧ w' = w := by
  go_enter Tryd.func11, Tryd.ntmps11
  go_wp2_with (fail)
  go_ret
  exact ⟨rfl, rfl⟩

theorem ad2 (s n : Int) (b : Bool) (h1 : ¬ s < 1) (h : 256 < s) (w : World) : Calls Tryd.prog 11 #[.int .i64 s, .int .i64 n, .bool b] w fun e w' => e = .returned (.int .i64 2) ∧ w' = w := by
  go_enter Tryd.func11, Tryd.ntmps11
  go_wp2_with (fail)
  go_ret
  exact ⟨rfl, rfl⟩

theorem ad3 (s n : Int) (b : Bool) (h1 : ¬ s < 1) (h2 : ¬ 256 < s) (h : n < 0) (w : World) : Calls Tryd.prog 11 #[.int .i64 s, .int .i64 n, .bool b] w fun e w' => e = .returned (.int .i64 2) ∧ w' = w := by
  go_enter Tryd.func11, Tryd.ntmps11
  go_wp2_with (fail)
  go_ret
  exact ⟨rfl, rfl⟩

theorem ad4 (s n : Int) (b : Bool) (h1 : ¬ s < 1) (h2 : ¬ 256 < s) (h3 : ¬ n < 0) (h : 16 < n) (w : World) : Calls Tryd.prog 11 #[.int .i64 s, .int .i64 n, .bool b] w fun e w' => e = .returned (.int .i64 2) ∧ w' = w := by
  go_enter Tryd.func11, Tryd.ntmps11
  go_wp2_with (fail)
  go_ret
  exact ⟨rfl, rfl⟩

theorem ad5 (s n : Int) (h1 : ¬ s < 1) (h2 : ¬ 256 < s) (h3 : ¬ n < 0) (h4 : ¬ 16 < n) (w : World) : Calls Tryd.prog 11 #[.int .i64 s, .int .i64 n, .bool true] w fun e w' => e = .returned (.int .i64 1) ∧ w' = w := by
  go_enter Tryd.func11, Tryd.ntmps11
  go_wp2_with (fail)
  go_ret
  exact ⟨rfl, rfl⟩

theorem ad6 (s n : Int) (h1 : ¬ s < 1) (h2 : ¬ 256 < s) (h3 : ¬ n < 0) (h4 : ¬ 16 < n) (k : Nat) (ha : ∀ w, Calls Tryd.prog 14 #[.int .i64 s, .int .i64 n] w fun e w' => e = .returned (.int .i64 k) ∧ w' = w) (hk : (1048576 : Int) < k) (w : World) : Calls Tryd.prog 11 #[.int .i64 s, .int .i64 n, .bool false] w fun e w' => e = .returned (.int .i64 4) ∧ w' = w := by
  go_enter Tryd.func11, Tryd.ntmps11
  go_wp2_with (go_at_call 14; refine (ha _).mono ?_; rintro e w' ⟨rfl, hw'⟩; subst w')
  go_ret
  exact ⟨rfl, rfl⟩

theorem ad7 (s n : Int) (h1 : ¬ s < 1) (h2 : ¬ 256 < s) (h3 : ¬ n < 0) (h4 : ¬ 16 < n) (k : Nat) (ha : ∀ w, Calls Tryd.prog 14 #[.int .i64 s, .int .i64 n] w fun e w' => e = .returned (.int .i64 k) ∧ w' = w) (hk : ¬ (1048576 : Int) < k) (w : World) : Calls Tryd.prog 11 #[.int .i64 s, .int .i64 n, .bool false] w fun e w' => e = .returned (.int .i64 0) ∧ w' = w := by
  go_enter Tryd.func11, Tryd.ntmps11
  go_wp2_with (go_at_call 14; refine (ha _).mono ?_; rintro e w' ⟨rfl, hw'⟩; subst w')
  go_ret
  exact ⟨rfl, rfl⟩

theorem askedC (s n : Int) (b : Bool) (w : World) : Calls Tryd.prog 11 #[.int .i64 s, .int .i64 n, .bool b] w fun e w' => e = .returned (.int .i64 (adE s n b)) ∧ w' = w := by
  unfold adE
  cases hm : maB s n with
  | false =>
    rw [if_neg (by decide)]
    by_cases h1 : s < 1
    · exact ad1 s n b h1 w
    · by_cases h2 : 256 < s
      · exact ad2 s n b h1 h2 w
      · by_cases h3 : n < 0
        · exact ad3 s n b h1 h2 h3 w
        · by_cases h4 : 16 < n
          · exact ad4 s n b h1 h2 h3 h4 w
          · exfalso
            unfold maB at hm
            rw [decide_eq_true (by omega), decide_eq_true (by omega), decide_eq_true (by omega), decide_eq_true (by omega)] at hm
            cases hm
  | true =>
    rw [if_pos rfl]
    unfold maB at hm
    simp only [Bool.and_eq_true, decide_eq_true_eq] at hm
    cases b with
    | true => exact ad5 s n (by omega) (by omega) (by omega) (by omega) w
    | false =>
      rw [if_neg (by decide)]
      obtain ⟨s', rfl⟩ := Int.eq_ofNat_of_zero_le (show 0 ≤ s by omega)
      obtain ⟨n', rfl⟩ := Int.eq_ofNat_of_zero_le (show 0 ≤ n by omega)
      have ha := asksC s' n' (by omega) (by omega)
      have hp := askN_pow s' (by omega) n' 1 (by decide)
      rw [Nat.one_mul] at hp
      simp only [Int.toNat_natCast]
      by_cases q : s' ^ n' ≤ 1048576
      · rw [if_pos q]
        exact ad7 _ _ (by omega) (by omega) (by omega) (by omega) _ ha (by have := hp.2 q; omega) w
      · rw [if_neg q]
        exact ad6 _ _ (by omega) (by omega) (by omega) (by omega) _ ha (by have := fun z => q (hp.1 z); omega) w
end Go.Proofs.YteaionmjbkildaaDoor
