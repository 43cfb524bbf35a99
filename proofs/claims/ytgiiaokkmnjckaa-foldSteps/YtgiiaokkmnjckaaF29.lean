/- FoldSteps. -/
import Derived.Test.YtgiiaokkmnjckaaF28
import Derived.Test.YtgiiaokkmnjckaaF27
import Derived.Test.YtgiiaokkmnjckaaF22
namespace Go.Proofs.Ytgiiaokkmnjckaa
open Go.RowKit
open Fl
set_option linter.unusedVariables false
set_option linter.unusedSimpArgs false
set_option maxRecDepth 100000

theorem cx_near {k x y t : Int} (z : Int) {u v : Int} (h : Fo.Gl k x y t) (hx : x ≤ 65536) (h1 : -1099511627776 ≤ u) (h2 : u ≤ 1099511627776) : -1099511627776 ≤ Fo.cx k x y t z u v ∧ Fo.cx k x y t z u v ≤ 1099511627776 := by
  have hw := h.wide
  by_cases h0 : x = 0
  · have hk : k = 2 := by have := h.kind; have := h.ended; omega
    have ht : ¬ t = 1 := fun e => by have := h.torus hk (.inl e); omega
    subst hk h0
    rw [Fo.cx_2 ht]
    have : Fo.wi u 0 = u := by unfold Fo.wi; simp
    rw [this]
    exact ⟨h1, h2⟩
  · have := Fo.cx_bd k (x := x) y t z u v (by omega)
    omega
theorem cy_near {k x y t : Int} (z : Int) {u v : Int} (h : Fo.Gl k x y t) (hy : y ≤ 65536) (h1 : -1099511627776 ≤ v) (h2 : v ≤ 1099511627776) : -1099511627776 ≤ Fo.cy k x y t z u v ∧ Fo.cy k x y t z u v ≤ 1099511627776 := cx_near z h.swap hy h1 h2
theorem off_or {d n : Int} (h : offB d n = true) : d = 0 ∨ (¬ d = 0 ∧ 0 < n ∧ d.tmod n = 0) := by
  unfold offB at h
  by_cases h0 : d = 0
  · exact .inl h0
  · refine .inr ⟨h0, ?_⟩
    simpa [h0] using h
theorem ceE_gl {k x y t z a b : Int} (h : Tp.chk k x y t z = 0) (hg : glB k = true) (ha : -1099511627776 ≤ a ∧ a ≤ 1099511627776) (hb : -1099511627776 ≤ b ∧ b ≤ 1099511627776) : ceE k x y t z a b = 0 := by
  unfold ceE
  rw [if_pos h]
  have e1 : To.frB a = false := by unfold To.frB; simp; omega
  have e2 : To.frB b = false := by unfold To.frB; simp; omega
  rw [e1, e2, hg]
  simp
theorem pt_lt (k t i j : Int) : Fo.pt k t i j < 8 := by
  unfold Fo.pt
  repeat' split
  all_goals decide
theorem tm_bd (n m : Int) (h : 0 ≤ m) : -m ≤ n.tmod (m+1) ∧ n.tmod (m+1) ≤ m := by
  have h1 : (n.tmod (m+1)).natAbs < (m+1).natAbs := by rw [Int.natAbs_tmod]; exact Nat.mod_lt _ (by omega)
  omega
theorem steps_top (k x y t z a b dx dy : Int) (_ : 0 ≤ k ∧ k ≤ 255) (_ : -9223372036854775808 ≤ x ∧ x ≤ 9223372036854775807) (_ : -9223372036854775808 ≤ y ∧ y ≤ 9223372036854775807) (ht : 0 ≤ t ∧ t ≤ 255) (_ : -9223372036854775808 ≤ z ∧ z ≤ 9223372036854775807) (_ : -9223372036854775808 ≤ a ∧ a ≤ 9223372036854775807) (_ : -9223372036854775808 ≤ b ∧ b ≤ 9223372036854775807) (w : World) : Calls Try.prog 8 #[.agg #[.int .u8 k, .int .i64 x, .int .i64 y, .int .u8 t, .int .i64 z], .agg #[.int .i64 a, .int .i64 b], .int .i64 dx, .int .i64 dy] w fun e w' => e = .returned (.bool true) ∧ Below w.heap.size w w' := by
  refine Calls.mono (R := fun e w' => e = .returned (.bool true) ∧ w.grownBy w' none) ?_ (fun e w' h => ⟨h.1, gb_below h.2⟩)
  have hg := gluedLC k x y t z ht.1
  by_cases hG : (decide (Tp.chk k x y t z = 0) && glB k) = true
  · rw [hG] at hg
    have hc : Tp.chk k x y t z = 0 := by simp at hG; exact hG.1
    have hb : glB k = true := by simp at hG; exact hG.2
    have ok := Tp.ok_of hc
    have hkd : k = 2 ∨ k = 3 ∨ k = 4 := by unfold glB at hb; simpa using hb
    have gl := Fo.gl_of ht.1 ok hkd
    have hwd := ok.wide
    have hhg := ok.high
    have n1 := nearLC a 549755813888 (by decide) (by decide)
    have n2 := nearLC b 549755813888 (by decide) (by decide)
    have m1 := nearLC dx 1 (by decide) (by decide)
    have m2 := nearLC dy 1 (by decide) (by decide)
    have b1 : -549755813888 ≤ a.tmod (549755813888 + 1) ∧ a.tmod (549755813888 + 1) ≤ 549755813888 := tm_bd a 549755813888 (by decide)
    have b2 : -549755813888 ≤ b.tmod (549755813888 + 1) ∧ b.tmod (549755813888 + 1) ≤ 549755813888 := tm_bd b 549755813888 (by decide)
    have b3 : -1 ≤ dx.tmod (1 + 1) ∧ dx.tmod (1 + 1) ≤ 1 := tm_bd dx 1 (by decide)
    have b4 : -1 ≤ dy.tmod (1 + 1) ∧ dy.tmod (1 + 1) ≤ 1 := tm_bd dy 1 (by decide)
    generalize a.tmod (549755813888 + 1) = p1 at *
    generalize b.tmod (549755813888 + 1) = p2 at *
    generalize dx.tmod (1 + 1) = d1 at *
    generalize dy.tmod (1 + 1) = d2 at *
    have f1 : -32768 ≤ To.fi x ∧ To.fi x ≤ 0 := by unfold To.fi; omega
    have f2 : -32768 ≤ To.fi y ∧ To.fi y ≤ 0 := by unfold To.fi; omega
    have cP : ceE k x y t z p1 p2 = 0 := ceE_gl hc hb (by omega) (by omega)
    have cQ : ceE k x y t z (p1 + d1) (p2 + d2) = 0 := ceE_gl hc hb (by omega) (by omega)
    have hh := homeE k x y t z ht.1 hc
    have hs := partC k x y t z p1 p2 ht.1
    have hca := cellC k x y t z p1 p2 ht.1
    have hcb := cellC k x y t z (p1 + d1) (p2 + d2) ht.1
    rw [ce_yes cP, cP] at hca
    rw [ce_yes cQ, cQ] at hcb
    unfold paV at hs
    rw [cP, if_pos rfl] at hs
    have t1 := tileLC (p1 - To.fi x) x hwd.1 hwd.2 (by omega) (by omega)
    have t2 := tileLC (p1 + d1 - To.fi x) x hwd.1 hwd.2 (by omega) (by omega)
    have t3 := tileLC (p2 - To.fi y) y hhg.1 hhg.2 (by omega) (by omega)
    have t4 := tileLC (p2 + d2 - To.fi y) y hhg.1 hhg.2 (by omega) (by omega)
    have w1 : IntKind.i64.wrap (p1 + d1) = p1 + d1 := by rw [IntKind.wrap_i64]; omega
    have w2 : IntKind.i64.wrap (p2 + d2) = p2 + d2 := by rw [IntKind.wrap_i64]; omega
    have w3 : IntKind.i64.wrap (p1 - To.fi x) = p1 - To.fi x := by rw [IntKind.wrap_i64]; omega
    have w4 : IntKind.i64.wrap (p1 + d1 - To.fi x) = p1 + d1 - To.fi x := by rw [IntKind.wrap_i64]; omega
    have w5 : IntKind.i64.wrap (p2 - To.fi y) = p2 - To.fi y := by rw [IntKind.wrap_i64]; omega
    have w6 : IntKind.i64.wrap (p2 + d2 - To.fi y) = p2 + d2 - To.fi y := by rw [IntKind.wrap_i64]; omega
    by_cases hI : Nm.divZ (p1 + d1 - To.fi x) x = Nm.divZ (p1 - To.fi x) x
    · by_cases hJ : Nm.divZ (p2 + d2 - To.fi y) y = Nm.divZ (p2 - To.fi y) y
      · rw [hI] at t2
        rw [hJ] at t4
        have sx := steps_x z (u := p1 - To.fi x) (v := p2 - To.fi y) (u2 := p1 + d1 - To.fi x) (v2 := p2 + d2 - To.fi y) gl hwd.1 hJ (To.fi x)
        have sy := steps_y z (u := p1 - To.fi x) (v := p2 - To.fi y) (u2 := p1 + d1 - To.fi x) (v2 := p2 + d2 - To.fi y) gl hhg.1 hI (To.fi y)
        have ex : p1 + d1 - To.fi x - (p1 - To.fi x) = d1 := by omega
        have ey : p2 + d2 - To.fi y - (p2 - To.fi y) = d2 := by omega
        rw [ex, ey] at sx sy
        have lp := l_pt k t (Nm.divZ (p1 - To.fi x) x) (Nm.divZ (p2 - To.fi y) y) d1 d2
        have hK := pt_lt k t (Nm.divZ (p1 - To.fi x) x) (Nm.divZ (p2 - To.fi y) y)
        generalize Fo.pt k t (Nm.divZ (p1 - To.fi x) x) (Nm.divZ (p2 - To.fi y) y) = K at *
        have lb1 : -1 ≤ lx K d1 d2 ∧ lx K d1 d2 ≤ 1 := by rw [lp.1]; split <;> omega
        have lb2 : -1 ≤ ly K d1 d2 ∧ ly K d1 d2 ≤ 1 := by rw [lp.2]; split <;> omega
        have hpt := partYes K hK
        have nb : ∀ n : Int, -1 ≤ n → n ≤ 1 → nearB n = true := fun n h1 h2 => by unfold nearB; simp; omega
        have hat := fun w => atYes (pa K) (pb K) (fl4 K) 0 0 d1 d2 (part_may K hK).1 (nb _ b3.1 b3.2) (nb _ b4.1 b4.2) (lx K d1 d2 + 0) (ly K d1 d2 + 0) rfl rfl (nb _ (by omega) (by omega)) (nb _ (by omega) (by omega)) w
        have q1 := cx_near z (u := p1 - To.fi x) (v := p2 - To.fi y) gl hwd.2 (by omega) (by omega)
        have q2 := cx_near z (u := p1 + d1 - To.fi x) (v := p2 + d2 - To.fi y) gl hwd.2 (by omega) (by omega)
        have q3 := cy_near z (u := p1 - To.fi x) (v := p2 - To.fi y) gl hhg.2 (by omega) (by omega)
        have q4 := cy_near z (u := p1 + d1 - To.fi x) (v := p2 + d2 - To.fi y) gl hhg.2 (by omega) (by omega)
        unfold ceX ceY at hca hcb
        rw [hb] at hca hcb
        simp only [if_true] at hca hcb
        generalize Fo.cx k x y t z (p1 - To.fi x) (p2 - To.fi y) = A1 at *
        generalize Fo.cx k x y t z (p1 + d1 - To.fi x) (p2 + d2 - To.fi y) = A2 at *
        generalize Fo.cy k x y t z (p1 - To.fi x) (p2 - To.fi y) = B1 at *
        generalize Fo.cy k x y t z (p1 + d1 - To.fi x) (p2 + d2 - To.fi y) = B2 at *
        exact stepsC k x y t z a b dx dy p1 p2 d1 d2 _ _ w1 w2 _ _ _ _ K hh hs hca hcb _ _ _ _ _ _ w3 w4 w5 w6 t1 t2 t3 t4 (by simp) (by simp) (pa K) (pb K) (fl4 K) d1 d2 _ _ hpt (A2 + To.fi x - (A1 + To.fi x)) (B2 + To.fi y - (B1 + To.fi y)) _ _ (by rw [IntKind.wrap_i64]; omega) (show IntKind.i64.wrap (A2 + To.fi x - (A1 + To.fi x) - (lx K d1 d2 + 0)) = _ by rw [IntKind.wrap_i64]; omega) (by rw [IntKind.wrap_i64]; omega) (show IntKind.i64.wrap (B2 + To.fi y - (B1 + To.fi y) - (ly K d1 d2 + 0)) = _ by rw [IntKind.wrap_i64]; omega) (off_or sx) (off_or sy) (by rw [IntKind.wrap_i64]; omega) (by rw [IntKind.wrap_i64]; omega) hat hg n1 n2 m1 m2 w
      · rw [hI] at t2
        exact stepsB k x y t z a b dx dy p1 p2 d1 d2 _ _ w1 w2 _ _ _ _ _ hh hs hca hcb _ _ _ _ _ _ _ w3 w4 w5 w6 t1 t2 t3 t4 (by simp) (by simp; exact fun e => hJ e.symm) hg n1 n2 m1 m2 w
    · exact stepsA k x y t z a b dx dy p1 p2 d1 d2 _ _ w1 w2 _ _ _ _ _ hh hs hca hcb _ _ _ _ _ _ _ _ w3 w4 w5 w6 t1 t2 t3 t4 (by simp; exact fun e => hI e.symm) hg n1 n2 m1 m2 w
  · have hG' : (decide (Tp.chk k x y t z = 0) && glB k) = false := by simpa using hG
    rw [hG'] at hg
    exact stepsN k x y t z a b dx dy hg w
end Go.Proofs.Ytgiiaokkmnjckaa
