/- The ring's places one by one: ring.edges. -/
import Derived.Test.YtjndljjpbkfmiaaGreatDoorK1
import Derived.Test.YtjndljjpbkfmiaaGreatDoorZ17
import Derived.Test.YtjndljjpbkfmiaaGreatDoorBo
import Derived.Test.YtjndljjpbkfmiaaGreatDoorProg
namespace Go.Proofs.YtjndljjpbkfmiaaGreatDoor
open Go.RowKit
set_option linter.unusedVariables false
set_option linter.unusedSimpArgs false
set_option maxRecDepth 100000
attribute [local go_sem] Oper.semAt_some

/-- How a place is handed out. -/
def encE (p : Int × Int) : Array Value := #[.agg #[.int .i64 p.1, .int .i64 p.2]]
theorem edgesC (C R : Int) (w : World) : Calls Tryz.prog 69 #[.int .i64 C, .int .i64 R] w fun e w' => e = .returned (.func (.func 92) #[] #[.pointer (some ⟨w.heap.size, 0, none⟩), .pointer (some ⟨w.heap.size + 1, 0, none⟩)]) ∧ w' = (w.alloc (.cells #[.int .i64 C] 3)).alloc (.cells #[.int .i64 R] 3) := by
  go_enter Tryz.func69, Tryz.ntmps69
  go_wp2
  go_ret
  exact ⟨by simp, rfl⟩
theorem Kl.cell {Pr : Nat → Prop} {W W' : World} {b i : Nat} {v : Value} (h : Kl Pr W W') (p : Pr b) (hc : W.cell? ⟨b, i, none⟩ = some v) : W'.cell? ⟨b, i, none⟩ = some v := by
  have := h.low b p (cell_lt hc)
  rw [← hc]
  simp [World.cell?, this]
set_option maxHeartbeats 2000000 in
theorem edges1_seq (n l b1 b2 : Nat) (Pr : Nat → Prop) (C R : Nat) (hC : C ≤ 65536) (hR : R ≤ 65536) (p1 : Pr b1) (p2 : Pr b2) (J Jx : List (Int × Int) → World → Prop) (W : World)
    (hY : ∀ pre x W1 m, J pre W1 → Pre C R (pre ++ [x]) → YieldAt Fence.wide m Tryz.prog l (encE x) W1 fun e W' => ((e = .returned (.bool true) ∧ J (pre ++ [x]) W') ∨ (e = .returned (.bool false) ∧ Jx (pre ++ [x]) W')) ∧ Kh W.heap.size Pr W1 W')
    (hJd : ∀ s A m, J s A → J s (A.drewN m)) (h1 : W.cell? ⟨b1, 0, none⟩ = some (.int .i64 (C : Nat))) (h2 : W.cell? ⟨b2, 0, none⟩ = some (.int .i64 (R : Nat))) (h0 : J [] W) :
    CallsIn Fence.wide n Tryz.prog 92 #[.func (.yield l) #[] #[], .pointer (some ⟨b1, 0, none⟩), .pointer (some ⟨b2, 0, none⟩)] W fun e W' => (∃ v, e = .returned v) ∧
      ((∃ ys, ys = rgL C R ∧ J ys W') ∨ (∃ pre, Pre C R pre ∧ Jx pre W')) := by
  refine (callsIn_wide (n := n)).2 ((callsIn_wide (n := 3)).1 ?_)
  refine callsIn_of_wp Tryz.func92 rfl trivial ?_ rfl
  simp only [Tryz.ntmps92, List.size_toArray, List.length_cons, List.length_nil, Nat.reduceAdd, Nat.reduceSub, Array.replicate_succ, Array.replicate_zero, List.push_toArray, List.append_toArray, List.nil_append, List.cons_append]
  gi_wp2
  gi_loopw [4] (fun i wr => ∃ k : Nat, k ≤ C + 2 ∧ i = .int .i64 ((k : Int) - 1) ∧ J (rgT R k) wr ∧ Kl Pr W wr) (fun i _ => C + 2 - (intOf i + 1).toNat)
  case atStart => exact ⟨0, Nat.zero_le _, rfl, h0, ⟨rfl, rfl, rfl, Nat.le_refl _, fun _ _ _ => rfl⟩⟩
  case round =>
    obtain ⟨k, hk, rfl, hJs, hnx⟩ := hrel
    have c1 := hnx.cell p1 h1
    have c2 := hnx.cell p2 h2
    by_cases hlt : k < C + 2
    · have hi1 : (k : Int) - 1 ≤ (C : Int) := by omega
      obtain ⟨fn, tmps, assign, body, hy1, hR1⟩ := hY (rgT R k) ((k : Int) - 1, -1) wr (3 - 1) hJs (preT1 hlt)
      dsimp only [encE] at hy1
      gi_wp2
      refine hR1.mono ?_
      rintro e W3 ⟨(⟨rfl, hJ3⟩ | ⟨rfl, hJx3⟩), hK3⟩
      all_goals have hk3 := hK3.kl
      · have d2 := (hnx.trans hk3).cell p2 h2
        obtain ⟨fn2, tmps2, assign2, body2, hy2, hR2⟩ := hY _ ((k : Int) - 1, (R : Int)) W3 (3 - 1) hJ3 (preT2 hlt)
        dsimp only [encE] at hy2
        gi_wp2
        refine hR2.mono ?_
        rintro e W4 ⟨(⟨rfl, hJ4⟩ | ⟨rfl, hJx4⟩), hK4⟩
        all_goals have hk4 := hK4.kl
        · gi_wp2
          go_roundw
          case rel => exact ⟨k + 1, hlt, by go_num, by rw [List.append_assoc] at hJ4; exact hJ4, (hnx.trans hk3).trans hk4⟩
          case measure => simp [intOf]; omega
        · gi_wp2
          refine bodyPost_ret (results_none rfl _ _ _) rfl ?_
          exact ⟨⟨_, rfl⟩, .inr ⟨_, preT2 hlt, hJx4⟩⟩
      · gi_wp2
        refine ⟨fun _ h => (by cases h), ?_⟩
        gi_wp2
        refine bodyPost_ret (results_none rfl _ _ _) rfl ?_
        exact ⟨⟨_, rfl⟩, .inr ⟨_, preT1 hlt, hJx3⟩⟩
    · obtain rfl : k = C + 2 := by omega
      have hi1 : ¬ ((C + 2 : Nat) : Int) - 1 ≤ (C : Int) := by omega
      gi_wp2
      gi_loopw [25] (fun i wi => ∃ k : Nat, k ≤ R ∧ i = .int .i64 (k : Nat) ∧ J (rgT R (C + 2) ++ rgS C k) wi ∧ Kl Pr W wi) (fun i _ => R - (intOf i).toNat)
      case atStart => exact ⟨0, Nat.zero_le _, rfl, by simpa [rgS] using hJs, hnx⟩
      case round =>
        obtain ⟨k, hk, rfl, hJs, hnx⟩ := hrel
        have c1 := hnx.cell p1 h1
        have c2 := hnx.cell p2 h2
        by_cases hlt : k < R
        · have hi1 : (k : Int) < (R : Int) := by omega
          obtain ⟨fn, tmps, assign, body, hy1, hR1⟩ := hY _ (-1, (k : Int)) wr (3 - 1) hJs (preS1 hlt)
          dsimp only [encE] at hy1
          gi_wp2
          refine hR1.mono ?_
          rintro e W3 ⟨(⟨rfl, hJ3⟩ | ⟨rfl, hJx3⟩), hK3⟩
          all_goals have hk3 := hK3.kl
          · have d1 := (hnx.trans hk3).cell p1 h1
            obtain ⟨fn2, tmps2, assign2, body2, hy2, hR2⟩ := hY _ ((C : Int), (k : Int)) W3 (3 - 1) hJ3 (preS2 hlt)
            dsimp only [encE] at hy2
            gi_wp2
            refine hR2.mono ?_
            rintro e W4 ⟨(⟨rfl, hJ4⟩ | ⟨rfl, hJx4⟩), hK4⟩
            all_goals have hk4 := hK4.kl
            · gi_wp2
              go_roundw
              case rel => exact ⟨k + 1, hlt, by go_num, by simpa [rgS] using hJ4, (hnx.trans hk3).trans hk4⟩
              case measure => simp [intOf]; omega
            · gi_wp2
              refine bodyPost_ret (results_none rfl _ _ _) rfl ?_
              exact ⟨⟨_, rfl⟩, .inr ⟨_, preS2 hlt, hJx4⟩⟩
          · gi_wp2
            refine ⟨fun _ h => (by cases h), ?_⟩
            gi_wp2
            refine bodyPost_ret (results_none rfl _ _ _) rfl ?_
            exact ⟨⟨_, rfl⟩, .inr ⟨_, preS1 hlt, hJx3⟩⟩
        · obtain rfl : k = R := by omega
          gi_wp2
          go_end0
          exact ⟨⟨_, rfl⟩, .inl ⟨_, rfl, hJs⟩⟩
theorem edges_seq (n b1 b2 : Nat) (Pr : Nat → Prop) (C R : Nat) (hC : C ≤ 65536) (hR : R ≤ 65536) (p1 : Pr b1) (p2 : Pr b2) (w : World) (h1 : Bo w b1 3 #[.int .i64 (C : Nat)]) (h2 : Bo w b2 3 #[.int .i64 (R : Nat)]) :
    SeqI Tryz.prog n 92 #[.pointer (some ⟨b1, 0, none⟩), .pointer (some ⟨b2, 0, none⟩)] encE Pr (fun ys => ys = rgL C R) (Pre C R) w := fun l J Jx W hW gW hJ hJx hY h0 =>
  edges1_seq n l b1 b2 Pr C R hC hR p1 p2 J Jx W hY (fun s A m h => hJ s A _ none h (gb_drewN (World.grownBy.refl _ _) m) (fun r e => by cases e)) ((h1.kept gW (by simp)).cell 0 rfl) ((h2.kept gW (by simp)).cell 0 rfl) h0
end Go.Proofs.YtjndljjpbkfmiaaGreatDoor
