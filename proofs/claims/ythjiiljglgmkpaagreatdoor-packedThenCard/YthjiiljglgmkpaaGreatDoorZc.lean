/- New. -/
import Derived.Test.YthjiiljglgmkpaaGreatDoorZb
import Derived.Lib.LazyBuf
import Derived.Lib.SliceRun
namespace Go.Proofs.YthjiiljglgmkpaaGreatDoor
open Go.RowKit
set_option linter.unusedVariables false
set_option linter.unusedSimpArgs false
set_option maxRecDepth 100000

theorem isSideC (n : Int) (w : World) : Calls Tryz.prog 95 #[.int .i64 n] w fun e w' => e = .returned (.bool (decide (1 ≤ n ∧ n ≤ 65536))) ∧ w' = w := by
  by_cases h1 : 1 ≤ n
  · by_cases h2 : n ≤ 65536
    · go_enter Tryz.func95, Tryz.ntmps95
      go_wp2
      go_ret
      exact ⟨by simp [h1, h2], rfl⟩
    · go_enter Tryz.func95, Tryz.ntmps95
      go_wp2
      go_ret
      exact ⟨by simp [h1]; omega, rfl⟩
  · go_enter Tryz.func95, Tryz.ntmps95
    go_wp2
    go_ret
    exact ⟨by simp; intros; omega, rfl⟩
theorem fitsC (C R S : Int) (w : World) : Calls Tryz.prog 96 #[.agg #[.int .i64 C, .int .i64 R, .int .i64 S]] w fun e w' => e = .returned (.bool (S == 2)) ∧ w.grownBy w' none := by
  obtain ⟨W1, hW1, sz1, g1, B1⟩ := boxn w #[.int .i64 C, .int .i64 R, .int .i64 S] 98
  have c2 := B1.cell 2 (v := .int .i64 S) rfl
  go_enter Tryz.func96, Tryz.ntmps96
  go_wp2
  go_ret
  exact ⟨rfl, g1⟩
/-- Why there can't be a field. -/
def ckE (C R S : Int) (p : Bool) : Int :=
  if 1 ≤ C ∧ C ≤ 65536 ∧ 1 ≤ R ∧ R ≤ 65536 ∧ 2 ≤ S ∧ S ≤ 256 then (if p = true ∧ S ≠ 2 then 132 else if 1048576 < C * R then 4 else 0) else 2
theorem checkC (C R S : Int) (p : Bool) (w : World) : Calls Tryz.prog 66 #[.agg #[.int .i64 C, .int .i64 R, .int .i64 S], .bool p] w fun e w' => e = .returned (.int .i64 (ckE C R S p)) ∧ w.grownBy w' none := by
  obtain ⟨W1, hW1, sz1, g1, B1⟩ := boxn w #[.int .i64 C, .int .i64 R, .int .i64 S] 98
  have c0 := B1.cell 0 (v := .int .i64 C) rfl
  have c1 := B1.cell 1 (v := .int .i64 R) rfl
  have c2 := B1.cell 2 (v := .int .i64 S) rfl
  by_cases h1 : 1 ≤ C ∧ C ≤ 65536
  · have s1 := fun w => isSideC C w
    rw [decide_eq_true h1] at s1
    by_cases h2 : 1 ≤ R ∧ R ≤ 65536
    · have s2 := fun w => isSideC R w
      rw [decide_eq_true h2] at s2
      by_cases h3 : S < 2
      · have h3' : ¬ (2 ≤ S) := by omega
        go_enter Tryz.func66, Tryz.ntmps66
        go_wp2_with (first | ((fail_if_success (guard_hyp mk1)); go_at_call 95; refine (s1 W1).mono ?_; rintro e V ⟨rfl, hV⟩; subst V; have mk1 : True := trivial) | (guard_hyp mk1; (fail_if_success (guard_hyp mk2)); go_at_call 95; refine (s2 W1).mono ?_; rintro e V ⟨rfl, hV⟩; subst V; have mk2 : True := trivial))
        go_ret
        exact ⟨by rw [ckE, if_neg (by omega)]; try rfl, g1⟩
      · by_cases h4 : 256 < S
        · have h4' : ¬ (S ≤ 256) := by omega
          go_enter Tryz.func66, Tryz.ntmps66
          go_wp2_with (first | ((fail_if_success (guard_hyp mk1)); go_at_call 95; refine (s1 W1).mono ?_; rintro e V ⟨rfl, hV⟩; subst V; have mk1 : True := trivial) | (guard_hyp mk1; (fail_if_success (guard_hyp mk2)); go_at_call 95; refine (s2 W1).mono ?_; rintro e V ⟨rfl, hV⟩; subst V; have mk2 : True := trivial))
          go_ret
          exact ⟨by rw [ckE, if_neg (by omega)]; try rfl, g1⟩
        · have hin : 1 ≤ C ∧ C ≤ 65536 ∧ 1 ≤ R ∧ R ≤ 65536 ∧ 2 ≤ S ∧ S ≤ 256 := by omega
          have hmul0 : 0 ≤ C * R := Int.mul_nonneg (by omega) (by omega)
          have hmul1 : C * R ≤ 65536 * 65536 := Int.mul_le_mul h1.2 h2.2 (by omega) (by omega)
          have hwr : IntKind.i64.wrap (C * R) = C * R := by rw [IntKind.wrap_i64]; omega
          have hwr2 : wrap64 (C * R) = C * R := by unfold wrap64; omega
          have HE : Hid (ckE C R S p = if p = true ∧ S ≠ 2 then 132 else if 1048576 < C * R then 4 else 0) := by unfold Hid; rw [ckE, if_pos hin]
          clear hin h1 h2 hmul0 hmul1
          cases p with
          | true =>
            have ft := fun w => fitsC C R S w
            by_cases h5 : S = 2
            · subst h5
              rw [show ((2 : Int) == 2) = true from rfl] at ft
              by_cases h6 : 1048576 < C * R
              · go_enter Tryz.func66, Tryz.ntmps66
                go_wp2_with (first | ((fail_if_success (guard_hyp mk1)); go_at_call 95; refine (s1 W1).mono ?_; rintro e V ⟨rfl, hV⟩; subst V; have mk1 : True := trivial) | (guard_hyp mk1; (fail_if_success (guard_hyp mk2)); go_at_call 95; refine (s2 W1).mono ?_; rintro e V ⟨rfl, hV⟩; subst V; have mk2 : True := trivial) | (go_at_call 96; refine (ft W1).mono ?_; rintro e V ⟨rfl, gV⟩; have B1 := B1.kept gV (by simp); have c0 := B1.cell 0 (v := .int .i64 C) rfl; have c1 := B1.cell 1 (v := .int .i64 R) rfl))
                go_ret
                exact ⟨by rw [HE.out, if_neg (by simp), if_pos h6]; try rfl, gb_trans g1 gV⟩
              · have h6' : ¬ (1048576 < C * R) := h6
                go_enter Tryz.func66, Tryz.ntmps66
                go_wp2_with (first | ((fail_if_success (guard_hyp mk1)); go_at_call 95; refine (s1 W1).mono ?_; rintro e V ⟨rfl, hV⟩; subst V; have mk1 : True := trivial) | (guard_hyp mk1; (fail_if_success (guard_hyp mk2)); go_at_call 95; refine (s2 W1).mono ?_; rintro e V ⟨rfl, hV⟩; subst V; have mk2 : True := trivial) | (go_at_call 96; refine (ft W1).mono ?_; rintro e V ⟨rfl, gV⟩; have B1 := B1.kept gV (by simp); have c0 := B1.cell 0 (v := .int .i64 C) rfl; have c1 := B1.cell 1 (v := .int .i64 R) rfl))
                go_ret
                exact ⟨by rw [HE.out, if_neg (by simp), if_neg (by omega)]; try rfl, gb_trans g1 gV⟩
            · have h5' : (S == 2) = false := by simp [h5]
              rw [h5'] at ft
              clear h5'
              go_enter Tryz.func66, Tryz.ntmps66
              go_wp2_with (first | ((fail_if_success (guard_hyp mk1)); go_at_call 95; refine (s1 W1).mono ?_; rintro e V ⟨rfl, hV⟩; subst V; have mk1 : True := trivial) | (guard_hyp mk1; (fail_if_success (guard_hyp mk2)); go_at_call 95; refine (s2 W1).mono ?_; rintro e V ⟨rfl, hV⟩; subst V; have mk2 : True := trivial) | (go_at_call 96; refine (ft W1).mono ?_; rintro e V ⟨rfl, gV⟩; have B1 := B1.kept gV (by simp); have c0 := B1.cell 0 (v := .int .i64 C) rfl; have c1 := B1.cell 1 (v := .int .i64 R) rfl))
              go_ret
              exact ⟨by rw [HE.out, if_pos (by simp [h5])]; try rfl, gb_trans g1 gV⟩
          | false =>
            by_cases h6 : 1048576 < C * R
            · go_enter Tryz.func66, Tryz.ntmps66
              go_wp2_with (first | ((fail_if_success (guard_hyp mk1)); go_at_call 95; refine (s1 W1).mono ?_; rintro e V ⟨rfl, hV⟩; subst V; have mk1 : True := trivial) | (guard_hyp mk1; (fail_if_success (guard_hyp mk2)); go_at_call 95; refine (s2 W1).mono ?_; rintro e V ⟨rfl, hV⟩; subst V; have mk2 : True := trivial))
              go_ret
              exact ⟨by rw [HE.out, if_neg (by simp), if_pos h6]; try rfl, g1⟩
            · go_enter Tryz.func66, Tryz.ntmps66
              go_wp2_with (first | ((fail_if_success (guard_hyp mk1)); go_at_call 95; refine (s1 W1).mono ?_; rintro e V ⟨rfl, hV⟩; subst V; have mk1 : True := trivial) | (guard_hyp mk1; (fail_if_success (guard_hyp mk2)); go_at_call 95; refine (s2 W1).mono ?_; rintro e V ⟨rfl, hV⟩; subst V; have mk2 : True := trivial))
              go_ret
              exact ⟨by rw [HE.out, if_neg (by simp), if_neg (by omega)]; try rfl, g1⟩
    · have s2 := fun w => isSideC R w
      rw [decide_eq_false h2] at s2
      go_enter Tryz.func66, Tryz.ntmps66
      go_wp2_with (first | ((fail_if_success (guard_hyp mk1)); go_at_call 95; refine (s1 W1).mono ?_; rintro e V ⟨rfl, hV⟩; subst V; have mk1 : True := trivial) | (guard_hyp mk1; (fail_if_success (guard_hyp mk2)); go_at_call 95; refine (s2 W1).mono ?_; rintro e V ⟨rfl, hV⟩; subst V; have mk2 : True := trivial))
      go_ret
      exact ⟨by rw [ckE, if_neg (by omega)]; try rfl, g1⟩
  · have s1 := fun w => isSideC C w
    rw [decide_eq_false h1] at s1
    go_enter Tryz.func66, Tryz.ntmps66
    go_wp2_with (first | ((fail_if_success (guard_hyp mk1)); go_at_call 95; refine (s1 W1).mono ?_; rintro e V ⟨rfl, hV⟩; subst V; have mk1 : True := trivial))
    go_ret
    exact ⟨by rw [ckE, if_neg (by omega)]; try rfl, g1⟩
end Go.Proofs.YthjiiljglgmkpaaGreatDoor
namespace Go.Proofs.YthjiiljglgmkpaaGreatDoor
open Go.RowKit
set_option linter.unusedVariables false
set_option linter.unusedSimpArgs false
set_option maxRecDepth 100000

theorem blankBytesC (C R S : Nat) (hz : Sz C R S) (w : World) : Calls Tryz.prog 98 #[.agg #[.int .i64 (C : Nat), .int .i64 (R : Nat), .int .i64 (S : Nat)]] w fun e w' => ∃ s q, e = .returned (.pointer (some ⟨s, 0, none⟩)) ∧ Sb w' s q C R S (fun _ => 0) ∧ w.heap.size ≤ s ∧ w.heap.size ≤ q ∧ w.grownBy w' none := by
  obtain ⟨W1, hW1, sz1, g1, B1⟩ := boxn w #[.int .i64 (C : Nat), .int .i64 (R : Nat), .int .i64 (S : Nat)] 98
  have c0 := B1.cell 0 (v := .int .i64 (C : Nat)) rfl
  have c1 := B1.cell 1 (v := .int .i64 (R : Nat)) rfl
  have c2 := B1.cell 2 (v := .int .i64 (S : Nat)) rfl
  have hall := hz.all
  have w1 : IntKind.i64.wrap ((C : Int) * (R : Int)) = ((C * R : Nat) : Int) := by rw [← Int.natCast_mul, IntKind.wrap_i64]; omega
  obtain ⟨n, hn⟩ : ∃ n, C * R = n := ⟨_, rfl⟩
  rw [hn] at w1 hall
  have HN : Hid (C * R = n) := hn
  clear hn
  have hmk := run_make_row' (P := Tryz.prog) 81 5 (.int .u8 0) 1 under8S info8 rfl .i64 .i64 n (by omega) (by omega)
  obtain ⟨W2, hW2, sz2, g2, B2⟩ := boxn W1 (madeCells #[.int .u8 0] n) 5
  have B12 := B1.kept g2 (by simp)
  have d0 := B12.cell 0 (v := .int .i64 (C : Nat)) rfl
  have d1 := B12.cell 1 (v := .int .i64 (R : Nat)) rfl
  have d2 := B12.cell 2 (v := .int .i64 (S : Nat)) rfl
  go_enter Tryz.func98, Tryz.ntmps98
  go_wp2
  go_region
  go_wp2
  go_ret
  have B3 := Bo.new W2 189 #[.int .i64 (C : Nat), .int .i64 (R : Nat), .int .i64 (S : Nat), .slice (some ⟨W1.heap.size, 0, none⟩) n n]
  refine ⟨W2.heap.size, W1.heap.size, rfl, ⟨n, ?_, ?_, (fun _ => .int .u8 0), ?_, fun _ _ => rfl⟩, Nat.le_trans g1.size g2.size, g1.size, gb_drew (gb_alloc (gb_trans g1 g2) _)⟩
  · rw [HN.out]; exact B3
  · rw [HN.out]; exact Nat.le_refl _
  · have hr := World.rowIs_made W1 (.int .u8 0) n 5
    rw [hW2] at hr
    exact rowIs_kept hr (gb_drew (World.grownBy_alloc _ _ none)) (by simp)

theorem blankC (C R S : Nat) (hz : Sz C R S) (w : World) : Calls Tryz.prog 67 #[.agg #[.int .i64 (C : Nat), .int .i64 (R : Nat), .int .i64 (S : Nat)], .bool false] w fun e w' => ∃ s q, e = .returned (.iface 165 (.pointer (some ⟨s, 0, none⟩))) ∧ Sb w' s q C R S (fun _ => 0) ∧ w.heap.size ≤ s ∧ w.heap.size ≤ q ∧ w.grownBy w' none := by
  obtain ⟨W1, hW1, sz1, g1, B1⟩ := boxn w #[.int .i64 (C : Nat), .int .i64 (R : Nat), .int .i64 (S : Nat)] 98
  have c0 := B1.cell 0 (v := .int .i64 (C : Nat)) rfl
  have c1 := B1.cell 1 (v := .int .i64 (R : Nat)) rfl
  have c2 := B1.cell 2 (v := .int .i64 (S : Nat)) rfl
  go_enter Tryz.func67, Tryz.ntmps67
  go_wp2_with (go_at_call 98; refine (blankBytesC C R S hz W1).mono ?_; rintro e V ⟨s, q, rfl, hS, l1, l2, gV⟩)
  go_ret
  exact ⟨s, q, rfl, hS, Nat.le_trans g1.size l1, Nat.le_trans g1.size l2, gb_trans g1 gV⟩

theorem newY (C R S : Nat) (hz : Sz C R S) (w : World) : Calls Tryz.prog 33 #[.int .i64 (C : Nat), .int .i64 (R : Nat), .int .i64 (S : Nat), .bool false] w fun e w' => ∃ b s q, e = .returned (.tuple #[.pointer (some ⟨b, 0, none⟩), .int .i64 0]) ∧ Fb w' b s q C R S (fun _ => 0) ∧ w.heap.size ≤ b ∧ w.heap.size ≤ s ∧ w.heap.size ≤ q ∧ w.grownBy w' none := by
  have he : ckE C R S false = 0 := by
    obtain ⟨h1, h2, h3, h4, h5, h6, h7⟩ := hz
    rw [ckE, if_pos (by omega), if_neg (by simp), if_neg (by rw [← Int.natCast_mul]; omega)]
  have hck := fun w => checkC C R S false w
  rw [he] at hck
  go_enter Tryz.func33, Tryz.ntmps33
  go_wp2_with (first | (go_at_call 66; refine (hck (w.alloc (.cells #[.int .i64 (C : Nat), .int .i64 (R : Nat), .int .i64 (S : Nat)] 98))).mono ?_; rintro e V ⟨rfl, gV⟩; have BV := (Bo.new w 98 #[.int .i64 (C : Nat), .int .i64 (R : Nat), .int .i64 (S : Nat)]).kept gV (by simp); have c0 := BV.cell 0 (v := .int .i64 (C : Nat)) rfl; have c1 := BV.cell 1 (v := .int .i64 (R : Nat)) rfl; have c2 := BV.cell 2 (v := .int .i64 (S : Nat)) rfl) | (go_at_call 67; refine (blankC C R S hz V).mono ?_; rintro e V2 ⟨s, q, rfl, hS, l1, l2, gV2⟩))
  go_ret2
  have g0 : w.grownBy V2 none := gb_trans (gb_trans (World.grownBy_alloc _ _ none) gV) gV2
  have g9 : V2.grownBy (V2.alloc (.cells #[.iface 165 (.pointer (some ⟨s, 0, none⟩))] 57)) none := World.grownBy_alloc _ _ none
  have lV : w.heap.size ≤ V.heap.size := (gb_trans (World.grownBy_alloc w _ none) gV).size
  exact ⟨V2.heap.size, s, q, rfl, ⟨Bo.new V2 _ _, hS.kept g9⟩, g0.size, Nat.le_trans lV l1, Nat.le_trans lV l2, gb_trans g0 g9⟩

theorem newN (C R S E : Int) (p : Bool) (he : ckE C R S p = E) (hE : E ≠ 0) (w : World) : Calls Tryz.prog 33 #[.int .i64 C, .int .i64 R, .int .i64 S, .bool p] w fun e w' => e = .returned (.tuple #[.pointer none, .int .i64 E]) ∧ w.grownBy w' none := by
  have hck := fun w => checkC C R S p w
  rw [he] at hck
  have hE' : (E != 0) = true := by simp [hE]
  clear he
  go_enter Tryz.func33, Tryz.ntmps33
  go_wp2_with (first | (go_at_call 66; refine (hck _).mono ?_; rintro e V ⟨rfl, gV⟩))
  go_ret2
  exact ⟨rfl, gb_trans (World.grownBy_alloc _ _ none) gV⟩
end Go.Proofs.YthjiiljglgmkpaaGreatDoor
namespace Go.Proofs.YthjiiljglgmkpaaGreatDoor
open Go.RowKit
set_option linter.unusedVariables false
set_option linter.unusedSimpArgs false
set_option maxRecDepth 100000

theorem Fb.apart {w : World} {b s q C R S : Nat} {g : Nat → Nat} (h : Fb w b s q C R S g) : b ≠ q := by
  rintro rfl
  obtain ⟨K, _, _, f0, ⟨c, hc, _⟩, _⟩ := h.st.cap
  have := h.fld
  unfold Bo at this
  rw [this] at hc
  simp at hc
theorem fGetY (b s q C R S : Nat) (g : Nat → Nat) (hz : Sz C R S) (x y : Nat) (hx : x < C) (hy : y < R) (w : World) (h : Fb w b s q C R S g) : Calls Tryz.prog 16 #[.pointer (some ⟨b, 0, none⟩), .int .i64 (x : Nat), .int .i64 (y : Nat)] w fun e w' => e = .returned (.tuple #[.int .u8 (g (y * C + x) : Nat), .int .i64 0]) ∧ w.grownBy w' none := by
  have h0 := h.cell
  have hm := m_hasPlace h.st
  have hd : decide (0 ≤ (x : Int) ∧ (x : Int) < (C : Int) ∧ 0 ≤ (y : Int) ∧ (y : Int) < (R : Int)) = true := decide_eq_true (by omega)
  have hpl := fun w => hasPlaceC C R S x y w
  rw [hd] at hpl
  have hgt := fun w => m_get s w
  go_enter Tryz.func16, Tryz.ntmps16
  go_wp2_with (first | (go_at_call 46; refine (lacksN b s q C R S g w h).mono ?_; rintro e V ⟨rfl, hV⟩; subst V) | (go_at_call 173; refine (hpl w).mono ?_; rintro e V ⟨rfl, gV⟩; have hV := h.kept gV; have v0 := hV.cell) | (go_at_call 193; refine (getC s q C R S g hz x y hx hy V hV.st).mono ?_; rintro e V2 ⟨rfl, m, hm2⟩))
  go_ret2
  exact ⟨rfl, gb_drewN gV m⟩

theorem fGetN (b s q C R S : Nat) (g : Nat → Nat) (hz : Sz C R S) (x y : Int) (hn : ¬ (0 ≤ x ∧ x < C ∧ 0 ≤ y ∧ y < R)) (w : World) (h : Fb w b s q C R S g) : Calls Tryz.prog 16 #[.pointer (some ⟨b, 0, none⟩), .int .i64 x, .int .i64 y] w fun e w' => e = .returned (.tuple #[.int .u8 0, .int .i64 130]) ∧ w.grownBy w' none := by
  have h0 := h.cell
  have hm := m_hasPlace h.st
  have hpl := fun w => hasPlaceC C R S x y w
  rw [decide_eq_false hn] at hpl
  go_enter Tryz.func16, Tryz.ntmps16
  go_wp2_with (first | (go_at_call 46; refine (lacksN b s q C R S g w h).mono ?_; rintro e V ⟨rfl, hV⟩; subst V) | (go_at_call 173; refine (hpl w).mono ?_; rintro e V ⟨rfl, gV⟩))
  go_ret2
  exact ⟨rfl, gV⟩

theorem fSetY (b s q C R S : Nat) (g : Nat → Nat) (hz : Sz C R S) (x y u : Nat) (hx : x < C) (hy : y < R) (hu : u < S) (w : World) (h : Fb w b s q C R S g) : Calls Tryz.prog 17 #[.pointer (some ⟨b, 0, none⟩), .int .i64 (x : Nat), .int .i64 (y : Nat), .int .u8 (u : Nat)] w fun e w' => e = .returned (.int .i64 0) ∧ Fb w' b s q C R S (fun k => if k = y * C + x then u else g k) ∧ w.grownBy w' (some q) := by
  have h0 := h.cell
  have hm := m_hasPlace h.st
  have hd : decide (0 ≤ (x : Int) ∧ (x : Int) < (C : Int) ∧ 0 ≤ (y : Int) ∧ (y : Int) < (R : Int)) = true := decide_eq_true (by omega)
  have hpl := fun w => hasPlaceC C R S x y w
  rw [hd] at hpl
  have hd2 : decide ((u : Int) < (S : Int)) = true := decide_eq_true (by omega)
  have hst := fun w => hasStateC C R S u (by have := hz.s1; omega) w
  rw [hd2] at hst
  have hgt := fun w => m_set s w
  go_enter Tryz.func17, Tryz.ntmps17
  go_wp2_with (first | (go_at_call 46; refine (lacksN b s q C R S g w h).mono ?_; rintro e V ⟨rfl, hV⟩; subst V) | (go_at_call 173; refine (hpl w).mono ?_; rintro e V ⟨rfl, gV⟩; have hV := h.kept gV; have v0 := hV.cell; have hm1 := m_hasState hV.st) | (go_at_call 175; refine (hst V).mono ?_; rintro e V2 ⟨rfl, gV2⟩; have hV2 := hV.kept gV2; have v20 := hV2.cell) | (go_at_call 198; refine (setC s q C R S g hz x y u hx hy V2 hV2.st).mono ?_; rintro e V3 ⟨rfl, hS3, g3⟩))
  go_ret
  refine ⟨rfl, ⟨hV2.fld.kept g3 (fun e => ?_), hS3⟩, gb_trans (gb_none (World.grownBy.refl _ _) (gb_trans gV gV2)) g3⟩
  cases e
  exact hV2.apart rfl

theorem fSetN (b s q C R S : Nat) (g : Nat → Nat) (hz : Sz C R S) (x y u : Int) (hn : ¬ (0 ≤ x ∧ x < C ∧ 0 ≤ y ∧ y < R)) (w : World) (h : Fb w b s q C R S g) : Calls Tryz.prog 17 #[.pointer (some ⟨b, 0, none⟩), .int .i64 x, .int .i64 y, .int .u8 u] w fun e w' => e = .returned (.int .i64 130) ∧ w.grownBy w' none := by
  have h0 := h.cell
  have hm := m_hasPlace h.st
  have hpl := fun w => hasPlaceC C R S x y w
  rw [decide_eq_false hn] at hpl
  go_enter Tryz.func17, Tryz.ntmps17
  go_wp2_with (first | (go_at_call 46; refine (lacksN b s q C R S g w h).mono ?_; rintro e V ⟨rfl, hV⟩; subst V) | (go_at_call 173; refine (hpl w).mono ?_; rintro e V ⟨rfl, gV⟩))
  go_ret
  exact ⟨rfl, gV⟩

theorem fSetS (b s q C R S : Nat) (g : Nat → Nat) (hz : Sz C R S) (x y u : Nat) (hx : x < C) (hy : y < R) (hu8 : u < 256) (hu : ¬ u < S) (w : World) (h : Fb w b s q C R S g) : Calls Tryz.prog 17 #[.pointer (some ⟨b, 0, none⟩), .int .i64 (x : Nat), .int .i64 (y : Nat), .int .u8 (u : Nat)] w fun e w' => e = .returned (.int .i64 7) ∧ w.grownBy w' none := by
  have h0 := h.cell
  have hm := m_hasPlace h.st
  have hd : decide (0 ≤ (x : Int) ∧ (x : Int) < (C : Int) ∧ 0 ≤ (y : Int) ∧ (y : Int) < (R : Int)) = true := decide_eq_true (by omega)
  have hpl := fun w => hasPlaceC C R S x y w
  rw [hd] at hpl
  have hd2 : decide ((u : Int) < (S : Int)) = false := decide_eq_false (by omega)
  have hst := fun w => hasStateC C R S u hu8 w
  rw [hd2] at hst
  go_enter Tryz.func17, Tryz.ntmps17
  go_wp2_with (first | (go_at_call 46; refine (lacksN b s q C R S g w h).mono ?_; rintro e V ⟨rfl, hV⟩; subst V) | (go_at_call 173; refine (hpl w).mono ?_; rintro e V ⟨rfl, gV⟩; have hV := h.kept gV; have v0 := hV.cell; have hm1 := m_hasState hV.st) | (go_at_call 175; refine (hst V).mono ?_; rintro e V2 ⟨rfl, gV2⟩))
  go_ret
  exact ⟨rfl, gb_trans gV gV2⟩

/-- How many cells of the first k rows live. -/
def popN (g : Nat → Nat) (C : Nat) : Nat → Nat
  | 0 => 0
  | k + 1 => popN g C k + cnt (fun x => g (k * C + x)) C
theorem popN_le (g : Nat → Nat) (C : Nat) : ∀ k, popN g C k ≤ k * C
  | 0 => Nat.zero_le _
  | k + 1 => by
    have h1 := popN_le g C k
    have h2 := cnt_le (fun x => g (k * C + x)) C
    rw [popN, Nat.add_mul, Nat.one_mul]
    omega

theorem fPop (b s q C R S : Nat) (g : Nat → Nat) (hz : Sz C R S) (w : World) (h : Fb w b s q C R S g) : Calls Tryz.prog 36 #[.pointer (some ⟨b, 0, none⟩)] w fun e w' => e = .returned (.int .i64 (popN g C R : Nat)) ∧ w.grownBy w' none := by
  have hct := fun w => m_count s w
  go_enter Tryz.func36, Tryz.ntmps36
  go_wp2_with (go_at_call 43; refine (fH b s q C R S g w h).mono ?_; rintro e V ⟨rfl, gV⟩)
  go_loopw [3, 7] (fun n i wr => ∃ k : Nat, k ≤ R ∧ i = .int .i64 k ∧ n = .int .i64 (popN g C k : Nat) ∧ w.grownBy wr none) (fun _ i _ => R - (intOf i).toNat)
  case atStart => exact ⟨0, Nat.zero_le _, rfl, rfl, gV⟩
  case round =>
    obtain ⟨k, hk, rfl, rfl, Gk⟩ := hrel
    by_cases hlt : k < R
    · have hlt' : (k : Int) < (R : Int) := by omega
      have hr1 := hz.r1
      have hFk := h.kept Gk
      have v0 := hFk.cell
      have hp1 := popN_le g C k
      have hle := row_le (C := C) hlt
      have hall := hz.all
      have hcl := cnt_le (fun x => g (k * C + x)) C
      have hnx : Hid (popN g C (k + 1) = popN g C k + cnt (fun x => g (k * C + x)) C) := rfl
      have hcc := countC s q C R S g hz k hlt wr hFk.st
      obtain ⟨c, hc⟩ : ∃ c, cnt (fun x => g (k * C + x)) C = c := ⟨_, rfl⟩
      obtain ⟨d, hd⟩ : ∃ d, popN g C k = d := ⟨_, rfl⟩
      rw [hc] at hcc hcl hnx
      rw [hd] at hnx hp1 ⊢
      clear hc hd
      go_wp2_with (go_at_call 192; refine hcc.mono ?_; rintro e V2 ⟨rfl, m, hm2⟩)
      go_roundw
      case rel => exact ⟨k + 1, hlt, by go_num, by rw [hnx.out]; go_num, gb_drewN Gk m⟩
      case measure => simp [intOf]; omega
    · have hkn : ¬ ((k : Int) < (R : Int)) := by omega
      have hkc : k = R := by omega
      subst hkc
      go_wp2
      go_ret
      exact ⟨rfl, Gk⟩
end Go.Proofs.YthjiiljglgmkpaaGreatDoor
namespace Go.Proofs.YthjiiljglgmkpaaGreatDoor
open Go.RowKit
set_option linter.unusedVariables false
set_option linter.unusedSimpArgs false
set_option maxRecDepth 100000

theorem By.some {w : World} {sp : Option Addr} {n : Nat} {f : Nat → Nat} (h : By w sp n f) (hn : 0 < n) : ∃ a, sp = Option.some a := by
  obtain ⟨a, ha, _⟩ := h 0 hn
  exact ⟨a, ha⟩
theorem checkLineL (C R S n c : Nat) (sp : Option Addr) (hn : n ≠ C) (w : World) : Calls Tryz.prog 172 #[.agg #[.int .i64 (C : Nat), .int .i64 (R : Nat), .int .i64 (S : Nat)], .slice sp n c] w fun e w' => e = .returned (.int .i64 131) ∧ w.grownBy w' none := by
  obtain ⟨W1, hW1, sz1, g1, B1⟩ := boxn w #[.int .i64 (C : Nat), .int .i64 (R : Nat), .int .i64 (S : Nat)] 98
  have c0 := B1.cell 0 (v := .int .i64 (C : Nat)) rfl
  have hne : ((n : Int) != (C : Int)) = true := by simp; omega
  go_enter Tryz.func172, Tryz.ntmps172
  go_wp2
  go_ret
  exact ⟨rfl, g1⟩
theorem checkLineG (C R S c : Nat) (hC : C ≤ 65536) (sp : Option Addr) (f : Nat → Nat) (h256 : ∀ k, f k < 256) (E : Int) (hE : (∀ k, k < C → f k < S) ∧ E = 0 ∨ (∃ k, k < C ∧ ¬ f k < S) ∧ E = 7) (w : World) (hb : By w sp C f) : Calls Tryz.prog 172 #[.agg #[.int .i64 (C : Nat), .int .i64 (R : Nat), .int .i64 (S : Nat)], .slice sp C c] w fun e w' => e = .returned (.int .i64 E) ∧ w.grownBy w' none := by
  obtain ⟨W1, hW1, sz1, g1, B1⟩ := boxn w #[.int .i64 (C : Nat), .int .i64 (R : Nat), .int .i64 (S : Nat)] 98
  have c0 := B1.cell 0 (v := .int .i64 (C : Nat)) rfl
  have hne : ((C : Int) != (C : Int)) = false := by simp
  have HE : Hid ((∀ k, k < C → f k < S) ∧ E = 0 ∨ (∃ k, k < C ∧ ¬ f k < S) ∧ E = 7) := hE
  clear hE
  go_enter Tryz.func172, Tryz.ntmps172
  go_wp2
  go_loopw [14] (fun i wr => ∃ k : Nat, k ≤ C ∧ i = .int .i64 k ∧ (∀ j, j < k → f j < S) ∧ w.grownBy wr none ∧ Bo wr w.heap.size 98 #[.int .i64 (C : Nat), .int .i64 (R : Nat), .int .i64 (S : Nat)]) (fun i _ => C - (intOf i).toNat)
  case atStart => exact ⟨0, Nat.zero_le _, rfl, fun j hj => absurd hj (Nat.not_lt_zero _), g1, B1⟩
  case round =>
    obtain ⟨k, hk, rfl, hall, Gk, Bk⟩ := hrel
    by_cases hlt : k < C
    · have hlt' : (k : Int) < (C : Int) := by omega
      obtain ⟨a, rfl⟩ := hb.some (by omega)
      have ck := (hb.kept Gk (by simp)).at hlt
      have d0 := Bk.cell 0 (v := .int .i64 (C : Nat)) rfl
      have d1 := Bk.cell 1 (v := .int .i64 (R : Nat)) rfl
      have d2 := Bk.cell 2 (v := .int .i64 (S : Nat)) rfl
      have hst := hasStateC C R S (f k) (h256 k) wr
      by_cases hu : f k < S
      · have hall' : Hid (∀ j, j < k + 1 → f j < S) := fun j hj => by
          by_cases e : j = k
          · rw [e]; exact hu
          · exact hall j (by omega)
        rw [decide_eq_true (show ((f k : Nat) : Int) < (S : Int) by omega)] at hst
        generalize f k = u at ck hst
        go_wp2_with (go_at_call 175; refine hst.mono ?_; rintro e V ⟨rfl, gV⟩)
        go_roundw
        case rel => exact ⟨k + 1, hlt, by go_num, hall'.out, gb_trans Gk gV, Bk.kept gV (by simp)⟩
        case measure => simp [intOf]; omega
      · have hE7 : E = 7 := by
          rcases HE.out with ⟨h1, _⟩ | ⟨_, h2⟩
          · exact absurd (h1 k hlt) hu
          · exact h2
        subst hE7
        rw [decide_eq_false (show ¬ ((f k : Nat) : Int) < (S : Int) by omega)] at hst
        generalize f k = u at ck hst
        go_wp2_with (go_at_call 175; refine hst.mono ?_; rintro e V ⟨rfl, gV⟩)
        go_ret
        exact ⟨rfl, gb_trans Gk gV⟩
    · have hkn : ¬ ((k : Int) < (C : Int)) := by omega
      have hkc : k = C := by omega
      subst hkc
      have hE0 : E = 0 := by
        rcases HE.out with ⟨_, h1⟩ | ⟨⟨k, h2, h3⟩, _⟩
        · exact h1
        · exact absurd (hall k h2) h3
      subst hE0
      go_wp2
      go_ret
      exact ⟨rfl, Gk⟩
theorem layC (s q C R S : Nat) (g : Nat → Nat) (hz : Sz C R S) (y : Nat) (hy : y < R) (sp : Option Addr) (c : Nat) (f : Nat → Nat) (w : World) (h : Sb w s q C R S g) (hb : By w sp C f) : Calls Tryz.prog 194 #[.pointer (some ⟨s, 0, none⟩), .int .i64 (y : Nat), .slice sp C c] w fun e w' => e = .returned (.tuple #[]) ∧ Sb w' s q C R S (fun j => if y * C ≤ j ∧ j < y * C + C then f (j - y * C) else g j) ∧ w.grownBy w' (some q) := by
  have hl := row_le (C := C) hy
  obtain ⟨a, rfl⟩ := hb.some hz.c0
  obtain ⟨K, k1, k2, f0, k3, k4⟩ := h.cap
  have hcp := fun cp m => run_copy_vals (P := Tryz.prog) (w.drewN m) 81 81 3 5 under8S (by kernel_rfl) a C (y * C) K cp c 5 q f0 (fun x => .int .u8 (f x : Nat)) (fun _ _ => rfl) k3 (Nat.le_trans hl k2) hz.c0 (fun j hj => hb.at hj)
  go_enter Tryz.func194, Tryz.ntmps194
  go_wp2_with (go_at_call 202; refine (rowC s q C R S g hz y hy w h).mono ?_; rintro e V ⟨cp, rfl, m, rfl⟩; obtain ⟨w2, e2, r2, g2⟩ := hcp cp m)
  go_end0
  have g0 := gb_trans (gb_drewN (World.grownBy.refl _ _) m) g2
  refine ⟨rfl, ⟨K, k1.kept g0 (fun e => by cases e; exact h.apart rfl), k2, _, r2, fun j hj => ?_⟩, g0⟩
  by_cases hc : y * C ≤ j ∧ j < y * C + C
  · simp only [if_pos hc]
  · simp only [if_neg hc]; exact k4 j hj
theorem fLayY (b : Nat) (s q C R S : Nat) (g : Nat → Nat) (hz : Sz C R S) (y : Nat) (hy : y < R) (sp : Option Addr) (c : Nat) (f : Nat → Nat) (h256 : ∀ k, f k < 256) (hS : ∀ k, k < C → f k < S) (w : World) (h : Fb w b s q C R S g) (hb : By w sp C f) : Calls Tryz.prog 34 #[.pointer (some ⟨b, 0, none⟩), .int .i64 (y : Nat), .slice sp C c] w fun e w' => e = .returned (.int .i64 0) ∧ Fb w' b s q C R S (fun j => if y * C ≤ j ∧ j < y * C + C then f (j - y * C) else g j) ∧ w.grownBy w' (some q) := by
  have h0 := h.cell
  have hm := m_hasRow h.st
  have hd : decide (0 ≤ (y : Int) ∧ (y : Int) < (R : Int)) = true := decide_eq_true (by omega)
  have hpl := fun w => hasRowC C R S y w
  rw [hd] at hpl
  have hly := fun w => m_lay s w
  have hck := fun V hV => checkLineG C R S c hz.c1 sp f h256 0 (.inl ⟨hS, rfl⟩) V hV
  clear h256 hS
  go_enter Tryz.func34, Tryz.ntmps34
  go_wp2_with (first | (go_at_call 46; refine (lacksN b s q C R S g w h).mono ?_; rintro e V ⟨rfl, hV⟩; subst V) | (go_at_call 174; refine (hpl w).mono ?_; rintro e V ⟨rfl, gV⟩; have hV := h.kept gV; have v0 := hV.cell; have hm1 := m_checkLine hV.st) | (go_at_call 172; refine (hck V (hb.kept gV (by simp))).mono ?_; rintro e V2 ⟨rfl, gV2⟩; have hV2 := hV.kept gV2; have v20 := hV2.cell) | (go_at_call 194; refine (layC s q C R S g hz y hy sp c f V2 hV2.st (hb.kept (gb_trans gV gV2) (by simp))).mono ?_; rintro e V3 ⟨rfl, hS3, g3⟩))
  go_ret
  refine ⟨rfl, ⟨hV2.fld.kept g3 (fun e => ?_), hS3⟩, gb_trans (gb_none (World.grownBy.refl _ _) (gb_trans gV gV2)) g3⟩
  cases e
  exact hV2.apart rfl
theorem fLayL (b : Nat) (s q C R S : Nat) (g : Nat → Nat) (hz : Sz C R S) (y : Nat) (hy : y < R) (sp : Option Addr) (n c : Nat) (hn : n ≠ C) (w : World) (h : Fb w b s q C R S g) : Calls Tryz.prog 34 #[.pointer (some ⟨b, 0, none⟩), .int .i64 (y : Nat), .slice sp n c] w fun e w' => e = .returned (.int .i64 131) ∧ w.grownBy w' none := by
  have h0 := h.cell
  have hm := m_hasRow h.st
  have hd : decide (0 ≤ (y : Int) ∧ (y : Int) < (R : Int)) = true := decide_eq_true (by omega)
  have hpl := fun w => hasRowC C R S y w
  rw [hd] at hpl
  have hly := fun w => m_lay s w
  have hck := fun V => checkLineL C R S n c sp hn V
  go_enter Tryz.func34, Tryz.ntmps34
  go_wp2_with (first | (go_at_call 46; refine (lacksN b s q C R S g w h).mono ?_; rintro e V ⟨rfl, hV⟩; subst V) | (go_at_call 174; refine (hpl w).mono ?_; rintro e V ⟨rfl, gV⟩; have hV := h.kept gV; have v0 := hV.cell; have hm1 := m_checkLine hV.st) | (go_at_call 172; refine (hck V).mono ?_; rintro e V2 ⟨rfl, gV2⟩))
  go_ret
  exact ⟨rfl, gb_trans gV gV2⟩
end Go.Proofs.YthjiiljglgmkpaaGreatDoor
namespace Go.Proofs.YthjiiljglgmkpaaGreatDoor
open Go.RowKit Go.Lib
set_option linter.unusedVariables false
set_option linter.unusedSimpArgs false
set_option maxRecDepth 100000

theorem packedC (s : Nat) (w : World) : Calls Tryz.prog 196 #[.pointer (some ⟨s, 0, none⟩)] w fun e w' => e = .returned (.bool false) ∧ w' = w := by
  go_enter Tryz.func196, Tryz.ntmps196
  go_wp2
  go_ret
  exact ⟨rfl, rfl⟩
theorem fPacked (b s q C R S : Nat) (g : Nat → Nat) (hz : Sz C R S) (w : World) (h : Fb w b s q C R S g) : Calls Tryz.prog 20 #[.pointer (some ⟨b, 0, none⟩)] w fun e w' => e = .returned (.bool false) ∧ w' = w := by
  have h0 := h.cell
  have hm := fun w => m_packed s w
  go_enter Tryz.func20, Tryz.ntmps20
  go_wp2_with (first | (go_at_call 46; refine (lacksN b s q C R S g w h).mono ?_; rintro e V ⟨rfl, hV⟩; subst V) | (go_at_call 196; refine (packedC s w).mono ?_; rintro e V ⟨rfl, hV⟩; subst V))
  go_ret
  exact ⟨rfl, rfl⟩
theorem fClone (b s q C R S : Nat) (g : Nat → Nat) (hz : Sz C R S) (w : World) (h : Fb w b s q C R S g) : Calls Tryz.prog 26 #[.pointer (some ⟨b, 0, none⟩)] w fun e w' => ∃ b2 s2 q2, e = .returned (.pointer (some ⟨b2, 0, none⟩)) ∧ Fb w' b2 s2 q2 C R S g ∧ w.heap.size ≤ b2 ∧ w.heap.size ≤ s2 ∧ w.heap.size ≤ q2 ∧ w.grownBy w' none := by
  have h0 := h.cell
  have hcp := fun w => m_copied s w
  go_enter Tryz.func26, Tryz.ntmps26
  go_wp2_with (first | (go_at_call 46; refine (lacksN b s q C R S g w h).mono ?_; rintro e V ⟨rfl, hV⟩; subst V) | (go_at_call 191; refine (copiedC s q C R S g hz w h.st).mono ?_; rintro e V2 ⟨s2, q2, rfl, hS2, l1, l2, gV2⟩))
  go_ret
  have g9 : V2.grownBy (V2.alloc (.cells #[.iface 165 (.pointer (some ⟨s2, 0, none⟩))] 57)) none := World.grownBy_alloc _ _ none
  exact ⟨V2.heap.size, s2, q2, rfl, ⟨Bo.new V2 _ _, hS2.kept g9⟩, gV2.size, l1, l2, gb_trans gV2 g9⟩
theorem equalT (n : Nat) (hn : n ≤ 65536) (sa sb : Option Addr) (ca cb : Nat) (f f' : Nat → Nat) (w : World) (ha : By w sa n f) (hb : By w sb n f') (r : Bool) (hr : r = decide (∀ k, k < n → f k = f' k)) : Calls Tryz.prog 47 #[.slice sa n ca, .slice sb n cb] w fun e w' => e = .returned (.bool r) ∧ ∃ m, w' = w.drewN m := by
  have hne : ((n : Int) != (n : Int)) = false := by simp
  have HR : Hid (r = decide (∀ k, k < n → f k = f' k)) := hr
  clear hr
  go_enter Tryz.func47, Tryz.ntmps47
  go_wp2
  go_loopw [13] (fun i wr => ∃ k : Nat, k ≤ n ∧ i = .int .i64 k ∧ (∀ j, j < k → f j = f' j) ∧ ∃ m, wr = w.drewN m) (fun i _ => n - (intOf i).toNat)
  case atStart => exact ⟨0, Nat.zero_le _, rfl, fun j hj => absurd hj (Nat.not_lt_zero _), 0, rfl⟩
  case round =>
    obtain ⟨k, hk, rfl, hall, hm⟩ := hrel
    have HM : Hid (∃ m, wr = w.drewN m) := hm
    have ha' : By wr sa n f := by obtain ⟨m, rfl⟩ := hm; exact ha
    have hb' : By wr sb n f' := by obtain ⟨m, rfl⟩ := hm; exact hb
    clear hm
    by_cases hlt : k < n
    · have hlt' : (k : Int) < (n : Int) := by omega
      obtain ⟨a, rfl⟩ := ha.some (by omega)
      obtain ⟨b, rfl⟩ := hb.some (by omega)
      have ak := ha'.at hlt
      have bk := hb'.at hlt
      by_cases he : f k = f' k
      · have hall2 : Hid (∀ j, j < k + 1 → f j = f' j) := fun j hj => by
          by_cases e : j = k
          · rw [e]; exact he
          · exact hall j (by omega)
        rw [← he] at bk
        generalize f k = z at ak bk
        have ya : ((z : Int) != (z : Int)) = false := by simp
        go_wp2
        go_quiet (fail)
        go_wp2
        go_roundw
        case rel => exact ⟨k + 1, hlt, by go_num, hall2.out, by obtain ⟨m, rfl⟩ := HM.out; exact ⟨m + nq, by rw [World.drewN_drewN]⟩⟩
        case measure => simp [intOf]; omega
      · have hr0 : r = false := by rw [HR.out]; exact decide_eq_false (fun h => he (h k hlt))
        subst hr0
        have ya : ((f k : Int) != (f' k : Int)) = true := by simp; omega
        generalize f k = z at ak ya
        generalize f' k = z2 at bk ya
        go_wp2
        go_quiet (fail)
        go_wp2
        go_ret
        exact ⟨rfl, by obtain ⟨m, rfl⟩ := HM.out; exact ⟨m + nq, by rw [World.drewN_drewN]⟩⟩
    · have hkn : ¬ ((k : Int) < (n : Int)) := by omega
      obtain rfl : n = k := by omega
      have hr0 : r = true := by rw [HR.out]; exact decide_eq_true hall
      subst hr0
      go_wp2
      go_ret
      exact ⟨rfl, HM.out⟩
theorem gb_cells (b : Nat) : ∀ (vs : List Value) (o : Nat) (w w' : World), w.grownBy w' (some b) → w.grownBy (w'.setCells b o vs) (some b)
  | [], _, _, _, h => h
  | v :: r, o, w, w', h => gb_cells b r (o + 1) w _ (gb_set h o v)
theorem wipeC (s q C R S : Nat) (g : Nat → Nat) (hz : Sz C R S) (w : World) (h : Sb w s q C R S g) : Calls Tryz.prog 200 #[.pointer (some ⟨s, 0, none⟩)] w fun e w' => e = .returned (.tuple #[]) ∧ Sb w' s q C R S (fun _ => 0) ∧ w.grownBy w' (some q) := by
  obtain ⟨K, k1, k2, f0, k3, k4⟩ := h.cap
  have c3 := k1.cell 3 (v := .slice (some ⟨q, 0, none⟩) (C * R) K) rfl
  have hpos : 0 < C * R := Nat.mul_pos hz.c0 hz.r0
  have hcl := Lib.run_clear_slice (P := Tryz.prog) w 81 5 0 (.int .u8 0) under8S (fun _ => by kernel_rfl) rfl rfl q 0 (C * R) K hpos (fun j hj => by rw [Nat.zero_add, h.sp hj]; rfl) (fun j hj => by rw [Nat.zero_add]; exact h.frz j)
  obtain ⟨W2, hW2⟩ : ∃ W2, w.setCells q 0 (List.replicate (C * R) (.int .u8 0)) = W2 := ⟨_, rfl⟩
  rw [hW2] at hcl
  have g2 : w.grownBy W2 (some q) := hW2 ▸ gb_cells q _ 0 w w (World.grownBy.refl _ _)
  have r2 : W2.rowIs q 5 K (fun j => if 0 ≤ j ∧ j < 0 + (List.replicate (C * R) (Value.int .u8 0)).length then (List.replicate (C * R) (Value.int .u8 0))[j - 0]?.getD default else f0 j) := hW2 ▸ rowIs_setCells (List.replicate (C * R) (Value.int .u8 0)) 0 w f0 k3
  have hap := h.apart
  clear hW2
  go_enter Tryz.func200, Tryz.ntmps200
  go_wp2
  go_end0
  refine ⟨rfl, ⟨K, k1.kept g2 (fun e => by cases e; exact hap rfl), k2, _, r2, fun k hk => ?_⟩, g2⟩
  rw [if_pos (by rw [List.length_replicate]; omega)]
  simp [hk]
theorem fClear (b s q C R S : Nat) (g : Nat → Nat) (hz : Sz C R S) (w : World) (h : Fb w b s q C R S g) : Calls Tryz.prog 18 #[.pointer (some ⟨b, 0, none⟩)] w fun e w' => e = .returned (.int .i64 0) ∧ Fb w' b s q C R S (fun _ => 0) ∧ w.grownBy w' (some q) := by
  have h0 := h.cell
  have hm := fun w => m_wipe s w
  go_enter Tryz.func18, Tryz.ntmps18
  go_wp2_with (first | (go_at_call 46; refine (lacksN b s q C R S g w h).mono ?_; rintro e V ⟨rfl, hV⟩; subst V) | (go_at_call 200; refine (wipeC s q C R S g hz w h.st).mono ?_; rintro e V3 ⟨rfl, hS3, g3⟩))
  go_ret
  exact ⟨rfl, ⟨h.fld.kept g3 (fun e => by cases e; exact h.apart rfl), hS3⟩, g3⟩

end Go.Proofs.YthjiiljglgmkpaaGreatDoor
