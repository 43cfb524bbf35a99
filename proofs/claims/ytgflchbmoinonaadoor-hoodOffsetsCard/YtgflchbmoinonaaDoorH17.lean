/- HoodOffsets of a number that is no neighbourhood's; the whole walk. -/
import Derived.Test.YtgflchbmoinonaaDoorH16
namespace Go.Proofs.YtgflchbmoinonaaDoor
open Go.RowKit
open Fl
set_option linter.unusedVariables false
set_option linter.unusedSimpArgs false
set_option maxRecDepth 100000

/-- A list of one's own that was appended to i times. -/
def Co (w : World) (base i : Nat) (vc : Value) (add : Int) : Prop := ∃ xs, w.ownsRow base 37 2 vc i xs ∧ ∀ j : Nat, j < i → xs[j * 2]? = some (.int .i64 (add + (j : Int)))
theorem Co.kept {w w' : World} {base i : Nat} {vc : Value} {add : Int} {r : Option Nat} (h : Co w base i vc add) (hg : w.grownBy w' r) (h2 : vc.ownBlock = none ∨ vc.ownBlock ≠ r) : Co w' base i vc add := by
  obtain ⟨xs, ho, hx⟩ := h
  exact ⟨xs, ho.kept hg h2, hx⟩
theorem Co.lt {w : World} {base i : Nat} {vc : Value} {add : Int} (h : Co w base i vc add) : ∀ q, vc.ownBlock = some q → base ≤ q ∧ q < w.heap.size := by
  obtain ⟨xs, ho, hx⟩ := h
  exact ho.lt
theorem Co.end {w : World} {base : Nat} {vc : Value} {add : Int} (h : Co w base 12 vc add) : ∃ g cap, vc = .slice (some ⟨g, 0, none⟩) 12 cap ∧ ∀ j : Nat, j < 12 → w.cell? ⟨g, j * 2, none⟩ = some (.int .i64 (add + (j : Int))) := by
  obtain ⟨xs, ho, hx⟩ := h
  obtain ⟨g, cap, rfl⟩ : ∃ g cap, vc = .slice (some ⟨g, 0, none⟩) 12 cap := by
    rcases ho.2 with ⟨_, h0⟩ | ⟨g, cap, cur, e, _⟩
    · omega
    · exact ⟨g, cap, e⟩
  exact ⟨g, cap, rfl, fun j hj => (ho.cellAt (j * 2) (by omega)).trans (hx j hj)⟩
theorem wp_co {ops : Array Oper} {rest : List Oper} {o : Oper} {a : Act} {w : World} {Q : Exit → Act → World → Prop} (hgd : o.guard = none) (s x : Operand) (hop : o.op = Op.call { callee := Callee.builtin Builtin.append, args := #[s, x], argTypes := #[32, 32] })
    (base i : Nat) (vc : Value) (add : Int) (h : Co w base i vc add) (hbase : base ≤ w.heap.size) (hi : i ≤ 12) (ad : Nat) (hs : a.eval s = vc) (hx : a.eval x = .slice (some ⟨ad, 0, none⟩) 1 1)
    (X : Int) (hX : X = add + (i : Int)) (hn0 : w.cell? ⟨ad, 0, none⟩ = some (.int .i64 X)) (hn1 : w.cell? ⟨ad, 1, none⟩ = some (.int .i64 0))
    (k : ∀ v' w', Co w' base (i + 1) v' add → w.grownBy w' vc.ownBlock → (v'.ownBlock = vc.ownBlock ∨ v'.ownBlock = some w.heap.size) → wpList Tryd.prog ops Q rest (a.put o.dst v') w') : wpList Tryd.prog ops Q (o :: rest) a w := by
  obtain ⟨ib, hib⟩ := info_parts infoPt
  subst hX
  have hnews : ∀ j u, [Value.int .i64 (add + (i : Int)), .int .i64 0][j]? = some u → w.cell? ((⟨ad, 0, none⟩ : Addr).add j) = some u := fun j u hj => by
    match j, hj with
    | 0, hj => cases hj; exact hn0
    | 1, hj => cases hj; exact hn1
  have hone : ∀ u ∈ [Value.int .i64 (add + (i : Int)), .int .i64 0], u.oneCell' = true := fun u hu => by
    simp only [List.mem_cons, List.not_mem_nil, or_false] at hu
    rcases hu with rfl | rfl <;> rfl
  obtain ⟨xs, hown, hx1⟩ := h
  have hxl := hown.1
  refine wpList_append_own_at w hgd s x 32 hop base 37 ib _ 2 16 underPt hib.1 hib.2.1 hib.2.2.1 hib.2.2.2 rfl (by decide) _ i xs hs hown ⟨ad, 0, none⟩ 1 1 _ hx rfl hnews hone (by unfold maxLen; omega) (by omega) hbase (fun v' w' ho hg hnil hblk => ?_)
  refine k _ _ ⟨_, ho, fun j hj => ?_⟩ hg hblk
  by_cases e : j = i
  · subst e
    rw [List.getElem?_append_right (by omega), hxl, Nat.sub_self]; rfl
  · rw [List.getElem?_append_left (by omega)]
    exact hx1 j (by omega)

set_option maxHeartbeats 800000 in
theorem offNo (h : Int) (h0 : 0 ≤ h) (h1 : h ≤ 255) (hn : h < 1 ∨ 3 < h) (w : World) : Calls Tryd.prog 4 #[.int .u8 h] w fun e w' => e = .returned (.bool true) ∧ w.grownBy w' none := by
  have hRO := fun w => refOffNo h h0 h1 hn w
  have hRS := fun w => refSizeNo h h0 h1 hn w
  have hSZ := fun w => sizeNo h h0 h1 hn w
  have hOF := fun w => offsetsNo h h0 h1 hn w
  clear hn
  go_enter Tryd.func4, Tryd.ntmps4
  go_wp2_with (first | (go_at_call 14; (fail_if_success (guard_hyp g1)); refine (hRO w).mono ?_; rintro e w1 ⟨rfl, g1⟩) | (go_at_call 15; guard_hyp g1; (fail_if_success (guard_hyp g2)); refine (hRS w1).mono ?_; rintro e w2 ⟨rfl, g2⟩; have G2 := gb_trans g1 g2) | (go_at_call 9; guard_hyp g2; (fail_if_success (guard_hyp g3)); refine (hSZ w2).mono ?_; rintro e w3 ⟨rfl, g3⟩; have G3 := gb_trans G2 g3) | (go_at_call 16; guard_hyp g3; (fail_if_success (guard_hyp g4)); refine (hOF w3).mono ?_; rintro e w4 ⟨rfl, g4⟩; have G4 := gb_trans G3 g4) | (go_at_call 16; guard_hyp g4; (fail_if_success (guard_hyp g5)); refine (hOF w4).mono ?_; rintro e w5 ⟨rfl, g5⟩; have G5 := gb_trans G4 g5) | (go_at_call 17; guard_hyp g5; (fail_if_success (guard_hyp g6)); refine (samePN w5).mono ?_; rintro e w6 ⟨rfl, g6⟩; have G6 := gb_trans G5 g6) | (go_at_call 17; guard_hyp g6; (fail_if_success (guard_hyp g7)); refine (samePN w6).mono ?_; rintro e w7 ⟨rfl, g7⟩; have G7 := gb_trans G6 g7))
  refine wp_loop_rounds 1 ?_
  rw [rounds_succ]
  go_wp2
  refine wp_loop_rounds 1 ?_
  rw [rounds_succ]
  go_wp2
  go_loopw [15, 17] (fun c x wr' => ∃ (k : Nat) (vc : Value), k ≤ 12 ∧ vc = c ∧ x = .int .i64 k ∧ Co wr' w.heap.size k vc 90 ∧ w.grownBy wr' none) (fun _ x _ => 12 - (intOf x).toNat)
  case atStart => exact ⟨0, _, by omega, rfl, rfl, ⟨[], World.ownsRow_nil _ _ _ _, fun j hj => absurd hj (Nat.not_lt_zero _)⟩, G7⟩
  case round =>
    obtain ⟨k, vc, hk, rfl, rfl, co, hG⟩ := hrel
    by_cases hlt : k < 12
    · have hlt' : (k : Int) < 12 := by omega
      obtain ⟨V, hV, szV, gV, BV⟩ := boxn wr #[.int .i64 (90 + (k : Int)), .int .i64 0] 37
      have v0 := BV.cell 0 (v := .int .i64 (90 + (k : Int))) rfl
      have v1 := BV.cell 1 (v := .int .i64 0) rfl
      have GV := gb_trans hG gV
      have coV := co.kept gV (Classical.em _)
      have hbV : w.heap.size ≤ V.heap.size := GV.size
      have hwr : IntKind.i64.wrap (90 + (k : Int)) = 90 + (k : Int) := by rw [IntKind.wrap_i64]; omega
      go_wp2_with (at_builtin; refine wp_co rfl _ _ rfl w.heap.size k vc 90 coV hbV hk wr.heap.size rfl rfl (90 + (k : Int)) rfl v0 v1 ?_; intro v' w' co' g' hblk)
      first
        | (refine ⟨⟨k + 1, v', by omega, rfl, by go_num, co', gb_rowH GV g' (fun i e => (coV.lt i e).1)⟩, ?_⟩; simp [intOf]; omega)
        | (go_roundw; (case rel => exact ⟨k + 1, v', by omega, rfl, by go_num, co', gb_rowH GV g' (fun i e => (coV.lt i e).1)⟩); (case measure => (simp [intOf]; omega)))
    · have hlt' : ¬ (k : Int) < 12 := by omega
      obtain rfl : k = 12 := by omega
      generalize vc = VCC at *
      go_wp2
      go_loopw [16, 18] (fun c x wr' => ∃ (k : Nat) (vc : Value), k ≤ 12 ∧ vc = c ∧ x = .int .i64 k ∧ Co wr' w.heap.size k vc 110 ∧ Co wr' w.heap.size 12 VCC 90 ∧ VCC.ownBlock ≠ vc.ownBlock ∧ w.grownBy wr' none) (fun _ x _ => 12 - (intOf x).toNat)
      case atStart => exact ⟨0, _, by omega, rfl, rfl, ⟨[], World.ownsRow_nil _ _ _ _, fun j hj => absurd hj (Nat.not_lt_zero _)⟩, co, (by obtain ⟨g, cap, e, _⟩ := co.end; rw [e]; intro e'; cases e'), hG⟩
      case round =>
        obtain ⟨k, vc, hk, rfl, rfl, co, coC, hne, hG⟩ := hrel
        by_cases hlt : k < 12
        · have hlt' : (k : Int) < 12 := by omega
          obtain ⟨V, hV, szV, gV, BV⟩ := boxn wr #[.int .i64 (110 + (k : Int)), .int .i64 0] 37
          have v0 := BV.cell 0 (v := .int .i64 (110 + (k : Int))) rfl
          have v1 := BV.cell 1 (v := .int .i64 0) rfl
          have GV := gb_trans hG gV
          have coV := co.kept gV (Classical.em _)
          have coCV := coC.kept gV (Classical.em _)
          obtain ⟨gq, Hq⟩ : ∃ gq, Hid (VCC.ownBlock = some gq) := by
            obtain ⟨g, cap, e, _⟩ := coC.end
            exact ⟨g, by rw [e]; rfl⟩
          have lq := (coCV.lt gq Hq.out).2
          have hbV : w.heap.size ≤ V.heap.size := GV.size
          have hwr : IntKind.i64.wrap (110 + (k : Int)) = 110 + (k : Int) := by rw [IntKind.wrap_i64]; omega
          go_wp2_with (at_builtin; refine wp_co rfl _ _ rfl w.heap.size k vc 110 coV hbV hk wr.heap.size rfl rfl (110 + (k : Int)) rfl v0 v1 ?_; intro v' w' co' g' hblk)
          first
            | (refine ⟨⟨k + 1, v', by omega, rfl, by go_num, co', coCV.kept g' (.inr hne), (by
            rcases hblk with e | e
            · rw [e]; exact hne
            · rw [e, Hq.out]; intro e'; injection e'; omega), gb_rowH GV g' (fun i e => (coV.lt i e).1)⟩, ?_⟩; simp [intOf]; omega)
            | (go_roundw; (case rel => exact ⟨k + 1, v', by omega, rfl, by go_num, co', coCV.kept g' (.inr hne), (by
            rcases hblk with e | e
            · rw [e]; exact hne
            · rw [e, Hq.out]; intro e'; injection e'; omega), gb_rowH GV g' (fun i e => (coV.lt i e).1)⟩); (case measure => (simp [intOf]; omega)))
        · have hlt' : ¬ (k : Int) < 12 := by omega
          obtain rfl : k = 12 := by omega
          obtain ⟨gc, cc, ec, Cc2⟩ := coC.end
          obtain ⟨gd, cd, ed, Cd2⟩ := co.end
          subst ec ed
          have G10 := hG
          obtain ⟨W10, hW10⟩ : ∃ W, wr = W := ⟨_, rfl⟩
          rw [hW10] at Cc2 Cd2 G10 ⊢
          clear co coC hG hne
          go_wp2
          refine wp_loop_rounds 1 ?_
          rw [rounds_succ]
          go_wp2
          go_loopw [20] (fun x wr' => ∃ k : Nat, k ≤ 12 ∧ x = .int .i64 k ∧ W10 = wr') (fun x _ => 12 - (intOf x).toNat)
          case atStart => exact ⟨0, Nat.zero_le _, rfl, rfl⟩
          case round =>
            obtain ⟨k, hk, rfl, rfl⟩ := hrel
            by_cases hlt : k < 12
            · have hlt' : (k : Int) < 12 := by omega
              have c1 := Cc2 k hlt
              have c2 := Cd2 k hlt
              have hw0 : IntKind.i64.wrap (0 + (k : Int)) = (k : Int) := by rw [IntKind.wrap_i64]; omega
              have hw1 : IntKind.i64.wrap (90 + (k : Int)) = 90 + (k : Int) := by rw [IntKind.wrap_i64]; omega
              have hw2 : IntKind.i64.wrap (110 + (k : Int)) = 110 + (k : Int) := by rw [IntKind.wrap_i64]; omega
              go_wp2
              first
                | (refine ⟨⟨k + 1, by omega, by go_num, by first | rfl | trivial⟩, ?_⟩; simp [intOf]; omega)
                | (go_roundw; (case rel => exact ⟨k + 1, by omega, by go_num, by first | rfl | trivial⟩); (case measure => (simp [intOf]; omega)))
            · have hlt' : ¬ (k : Int) < 12 := by omega
              clear hlt
              go_wp2_with (first | (go_at_call 16; refine (hOF W10).mono ?_; rintro e w11 ⟨rfl, g11⟩) | (go_at_call 17; refine (samePN w11).mono ?_; rintro e w12 ⟨rfl, g12⟩))
              go_ret
              exact ⟨rfl, gb_trans G10 (gb_trans g11 g12)⟩

theorem off_walk (h : Int) (w : World) (h0 : 0 ≤ h) (h1 : h ≤ 255) (hv : Hv w) : Calls Tryd.prog 4 #[.int .u8 h] w fun e w' => e = .returned (.bool true) ∧ Below w.heap.size w w' := by
  by_cases hh : h < 1 ∨ 3 < h
  · exact (offNo h h0 h1 hh w).mono fun e w' ⟨a, b⟩ => ⟨a, gb_below b⟩
  · obtain ⟨n, rfl⟩ := Int.eq_ofNat_of_zero_le h0
    exact (offYes n (by omega) (by omega) w hv).mono fun e w' ⟨a, b⟩ => ⟨a, gb_below b⟩
end Go.Proofs.YtgflchbmoinonaaDoor
