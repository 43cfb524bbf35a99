/- A store copied. -/
import Derived.Test.YtbiilklihieomaaZ5
namespace Go.Proofs.Ytbiilklihieomaa
open Go.RowKit
set_option linter.unusedVariables false
set_option linter.unusedSimpArgs false
set_option maxRecDepth 100000

theorem bysV_at {w : World} {a : Addr} {n : Nat} {f : Nat → Nat} (h : By w (some a) n f) (j : Nat) (u : Value) (hu : (bysV f n)[j]? = some u) : w.cell? (a.add j) = some u := by
  have hj : j < n := by
    have := (List.getElem?_eq_some_iff.1 hu).1
    rwa [bysV_len] at this
  simp [bysV, hj] at hu
  rw [← hu]
  exact h.at hj
theorem bysV_one (f : Nat → Nat) (n : Nat) (u : Value) (hu : u ∈ bysV f n) : u.oneCell' = true := by
  simp only [bysV, List.mem_map] at hu
  obtain ⟨i, _, rfl⟩ := hu
  rfl
theorem cloneC (a : Addr) (n c : Nat) (f : Nat → Nat) (hn : 0 < n) (hb : n ≤ 140737488351232) (w : World) (h : By w (some a) n f) : Calls Try.prog 121 #[.slice (some a) n c] w fun e w' => ∃ q K, e = .returned (.slice (some ⟨q, 0, none⟩) n K) ∧ w'.ownsRow w.heap.size 5 1 (.slice (some ⟨q, 0, none⟩) n K) n (bysV f n) ∧ w.grownBy w' none := by
  have qT : ∀ (w : World) (a : Option Addr) (n c n' c' : Nat), (binOp .eql 39 (.slice a n c) (.slice none n' c')).run Try.prog w = .ok (.bool a.isNone) w := fun w a n c n' c' => Lib.run_eql_slice_nil w _ _ a n c n' c' Try.underlying39
  obtain ⟨W1, hW1, sz1, g1, B1⟩ := boxn w #[] 5
  obtain ⟨i0, h1, h2, h3, h4⟩ := info_parts info8
  have HI := And.intro h1 (And.intro h2 (And.intro h3 h4))
  have HH : Hid _ := HI
  clear h1 h2 h3 h4 HI
  have own0 : W1.ownsRow w.heap.size 5 1 (.slice (some ⟨w.heap.size, 0, none⟩) 0 0) 0 [] := ⟨rfl, .inr ⟨w.heap.size, 0, #[], rfl, Nat.le_refl _, B1, Nat.le_refl _, by decide, rfl, rfl⟩⟩
  have hb1 := h.kept g1 (by simp)
  go_enter Try.func121, Try.ntmps121
  go_wp2_with (at_builtin; refine wpList_append_own _ rfl _ _ 39 rfl w.heap.size 5 i0 (.int .u8 0) 1 1 under8S HH.out.1 HH.out.2.1 HH.out.2.2.1 HH.out.2.2.2 rfl (by decide) _ 0 [] rfl own0 a n c (bysV f n) rfl (by rw [bysV_len]; omega) (bysV_at hb1) (bysV_one f n) (by unfold maxLen; omega) (by omega) g1.size ?_; intro v' w2 own2 gg2 _)
  go_ret
  rw [Nat.zero_add, List.nil_append] at own2
  rcases own2.2 with ⟨_, e2⟩ | ⟨q, K, cur, e1, e2⟩
  · omega
  · subst e1
    exact ⟨q, K, rfl, own2, gb_past g1 gg2 (Nat.le_refl _)⟩

theorem own_row {w : World} {B q K n : Nat} {g : Nat → Nat} (h : w.ownsRow B 5 1 (.slice (some ⟨q, 0, none⟩) n K) n (bysV g n)) : n ≤ K ∧ ∃ f0, w.rowIs q 5 K f0 ∧ (∀ k, k < n → f0 k = .int .u8 (g k : Nat)) ∧ B ≤ q := by
  rcases h.2 with ⟨e, _⟩ | ⟨q', K', cur, e, h1, h2, h3, h4, h5, h6⟩
  · cases e
  · cases e
    refine ⟨h3, fun k => cur[k]?.getD undef, ⟨cur, h2, by omega, fun i hi => ?_⟩, fun k hk => ?_, h1⟩
    · have : i < cur.size := by omega
      simp [this]
    · have hb : (bysV g n)[k]? = some (.int .u8 (g k : Nat)) := by simp [bysV, hk]
      rw [← h6, List.getElem?_take_of_lt (by omega)] at hb
      have hb' : cur[k]? = some (.int .u8 (g k : Nat)) := by simpa using hb
      simp only [hb', Option.getD_some]
theorem copiedC (s q C R S : Nat) (g : Nat → Nat) (hz : Sz C R S) (w : World) (h : Sb w s q C R S g) : Calls Try.prog 111 #[.pointer (some ⟨s, 0, none⟩)] w fun e w' => ∃ s2 q2, e = .returned (.iface 108 (.pointer (some ⟨s2, 0, none⟩))) ∧ Sb w' s2 q2 C R S g ∧ w.heap.size ≤ s2 ∧ w.heap.size ≤ q2 ∧ w.grownBy w' none := by
  obtain ⟨K, k1, k2, f0, k3, k4⟩ := h.cap
  have c0 := k1.cell 0 (v := .int .i64 (C : Nat)) rfl
  have c1 := k1.cell 1 (v := .int .i64 (R : Nat)) rfl
  have c2 := k1.cell 2 (v := .int .i64 (S : Nat)) rfl
  have c3 := k1.cell 3 (v := .slice (some ⟨q, 0, none⟩) (C * R) K) rfl
  have hall := hz.all
  have hpos : 0 < C * R := Nat.mul_pos hz.c0 hz.r0
  have hby : By w (some ⟨q, 0, none⟩) (C * R) g := fun k hk => ⟨_, rfl, by rw [add_mid, Nat.zero_add]; exact h.sp hk⟩
  have hcl := cloneC ⟨q, 0, none⟩ (C * R) K g hpos (by omega) w.drew hby
  obtain ⟨n, hn⟩ : ∃ n, C * R = n := ⟨_, rfl⟩
  rw [hn] at hcl c3
  have HN : Hid (C * R = n) := hn
  have k1' : Bo w.drew s 120 #[.int .i64 (C : Nat), .int .i64 (R : Nat), .int .i64 (S : Nat), .slice (some ⟨q, 0, none⟩) (C * R) K] := k1
  clear hn hby k1 k2 k3 k4 h hall hpos
  go_enter Try.func111, Try.ntmps111
  go_wp2
  go_region_with (first | (go_at_call 121; refine hcl.mono ?_; rintro e w2 ⟨q2, K2, rfl, own2, g2⟩; obtain ⟨o1, f2, o2, o3, o4⟩ := own_row own2; clear own2; have k2' := k1'.kept g2 (by simp); have d0 := k2'.cell 0 (v := .int .i64 (C : Nat)) rfl; have d1 := k2'.cell 1 (v := .int .i64 (R : Nat)) rfl; have d2 := k2'.cell 2 (v := .int .i64 (S : Nat)) rfl))
  all_goals go_wp2
  all_goals go_ret
  all_goals exact ⟨w2.heap.size, q2, rfl, ⟨K2, (HN.out.symm ▸ Bo.new w2 120 #[.int .i64 (C : Nat), .int .i64 (R : Nat), .int .i64 (S : Nat), .slice (some ⟨q2, 0, none⟩) n K2]), HN.out.symm ▸ o1, f2, rowIs_kept o2 (World.grownBy_alloc _ _ none) (by simp), fun k hk => o3 k (HN.out ▸ hk)⟩, g2.size, o4, gb_alloc (gb_trans (gb_drew (World.grownBy.refl _ _)) g2) _⟩
end Go.Proofs.Ytbiilklihieomaa
