/- The living cells of a row, gone through. -/
import Derived.Test.YtbiilklihieomaaZ5
namespace Go.Proofs.Ytbiilklihieomaa
open Go.RowKit Go.Shelf
set_option linter.unusedVariables false
set_option linter.unusedSimpArgs false
set_option maxRecDepth 100000
attribute [local go_sem] Oper.semAt_some

/-- Those below k at which f is not 0, in their order. -/
def liv (f : Nat → Nat) (k : Nat) : List Nat := (List.range k).filter fun x => f x != 0
theorem liv_no {f : Nat → Nat} {k : Nat} (h : f k = 0) : liv f (k + 1) = liv f k := by
  unfold liv; rw [List.range_succ, List.filter_append]; simp [h]
theorem liv_yes {f : Nat → Nat} {k : Nat} (h : f k ≠ 0) : liv f (k + 1) = liv f k ++ [k] := by
  unfold liv; rw [List.range_succ, List.filter_append]; simp [h]
theorem liv_len (f : Nat → Nat) (k : Nat) : (liv f k).length ≤ k := by
  unfold liv
  have := List.length_filter_le (fun x => f x != 0) (List.range k)
  simpa using this

theorem livingC (s q C R S : Nat) (g : Nat → Nat) (hz : Sz C R S) (y : Nat) (w : World) : Calls Try.prog 115 #[.pointer (some ⟨s, 0, none⟩), .int .i64 (y : Nat)] w fun e w' => e = .returned (.func (.func 123) #[] #[.pointer (some ⟨w.heap.size, 0, none⟩), .pointer (some ⟨w.heap.size + 1, 0, none⟩)]) ∧ w' = (w.alloc (.cells #[.pointer (some ⟨s, 0, none⟩)] 108)).alloc (.cells #[.int .i64 (y : Nat)] 3) := by
  go_enter Try.func115, Try.ntmps115
  go_wp2
  go_ret
  exact ⟨rfl, rfl⟩

theorem Sb.below {w w' : World} {s q C R S n₀ : Nat} {g : Nat → Nat} (h : Sb w s q C R S g) (hb : Below n₀ w w') (h1 : s < n₀) (h2 : q < n₀) : Sb w' s q C R S g := by
  obtain ⟨K, k1, k2, f0, ⟨c, hc, hr⟩, k4⟩ := h.cap
  exact ⟨K, (hb.block s h1).trans k1, k2, f0, ⟨c, (hb.block q h2).trans hc, hr⟩, k4⟩

set_option maxHeartbeats 2000000 in
theorem living1_in (n : Nat) (hn : 1 ≤ n) (l b1 b2 n₀ : Nat) (s q C R S : Nat) (g : Nat → Nat) (hz : Sz C R S) (y : Nat) (hy : y < R) (hs : s < n₀) (hq : q < n₀) (J Jx : List (Fin C) → World → Prop)
    (hY : ∀ pre x W, J pre W → pre.length < C → YieldAt Fence.wide (n - 1) Try.prog l #[.int .i64 (x.val : Int), .int .u8 (g (y * C + x.val) : Nat)] W fun e W' =>
      (e = .returned (.bool true) ∧ J (pre ++ [x]) W' ∧ Below n₀ W W') ∨ (e = .returned (.bool false) ∧ Jx (pre ++ [x]) W'))
    (W : World) (hJd : ∀ m, J [] (W.drewN m)) (h1 : W.cell? ⟨b1, 0, none⟩ = some (.pointer (some ⟨s, 0, none⟩))) (h2 : W.cell? ⟨b2, 0, none⟩ = some (.int .i64 (y : Nat))) (h : Sb W s q C R S g) :
    CallsIn Fence.wide n Try.prog 123 #[.func (.yield l) #[] #[], .pointer (some ⟨b1, 0, none⟩), .pointer (some ⟨b2, 0, none⟩)] W fun e W' => (∃ v, e = .returned v) ∧
      ((∃ ys, ys.map Fin.val = liv (fun x => g (y * C + x)) C ∧ J ys W') ∨ (∃ pre, (∃ k, k ≤ C ∧ pre.map Fin.val = liv (fun x => g (y * C + x)) k) ∧ Jx pre W')) := by
  refine callsIn_of_wp Try.func123 rfl trivial ?_ rfl
  simp only [Try.ntmps123, List.size_toArray, List.length_cons, List.length_nil, Nat.reduceAdd, Nat.reduceSub, Array.replicate_succ, Array.replicate_zero, List.push_toArray, List.append_toArray, List.nil_append, List.cons_append]
  gi_wp2_with (refine ⟨trivial, ?_⟩; gi_at_call 122; refine (callsIn_wide.2 (rowC s q C R S g hz y hy W h)).mono ?_; rintro e V ⟨cp, rfl, m, rfl⟩)
  gi_loopw [10] (fun i wr => ∃ (k : Nat) (pre : List (Fin C)), k ≤ C ∧ i = .int .i64 k ∧ pre.map Fin.val = liv (fun x => g (y * C + x)) k ∧ J pre wr ∧ Below n₀ W wr)
    (fun i _ => C - (intOf i).toNat)
  case atStart => exact ⟨0, [], Nat.zero_le _, rfl, rfl, hJd m, ⟨rfl, rfl, rfl, Nat.le_refl _, fun _ _ => rfl⟩⟩
  case round =>
    obtain ⟨k, pre, hk, rfl, hpre, hJs, hnx⟩ := hrel
    by_cases hlt : k < C
    · have hl := row_le (C := C) hy
      have ck := (h.below hnx hs hq).sp (k := y * C + k) (by omega)
      have hi1 : (k : Int) < (C : Int) := by omega
      have hc1 := hz.c1
      have hlen : pre.length < C := by
        have e : pre.length = (liv (fun x => g (y * C + x)) k).length := by rw [← hpre]; simp
        have := liv_len (fun x => g (y * C + x)) k
        omega
      obtain ⟨fn, tmps, assign, body, hy1, hR⟩ := hY pre ⟨k, hlt⟩ wr hJs hlen
      dsimp only at hy1
      by_cases hu0 : g (y * C + k) = 0
      · have hnext := liv_no (f := fun x => g (y * C + x)) hu0
        have hu : ((g (y * C + k) : Int) != 0) = false := by simp [hu0]
        gi_wp2
        refine ⟨fun _ h => (by cases h), ?_⟩
        gi_wp2
        go_roundw
        case rel => exact ⟨k + 1, pre, hlt, by go_num, by rw [hpre, hnext], hJs, hnx⟩
        case measure => simp [intOf]; omega
      · have hnext := liv_yes (f := fun x => g (y * C + x)) hu0
        have hu : ((g (y * C + k) : Int) != 0) = true := by simp [hu0]
        gi_wp2
        refine hR.mono ?_
        rintro e W3 (⟨rfl, hJ3, hk3⟩ | ⟨rfl, hJx3⟩)
        · gi_wp2
          go_roundw
          case rel => exact ⟨k + 1, pre ++ [⟨k, hlt⟩], hlt, by go_num, by rw [List.map_append, hpre, hnext]; rfl, hJ3, hnx.trans hk3⟩
          case measure => simp [intOf]; omega
        · gi_wp2
          refine bodyPost_ret (results_none rfl _ _ _) rfl ?_
          exact ⟨⟨_, rfl⟩, .inr ⟨_, ⟨k + 1, hlt, by rw [List.map_append, hpre, hnext]; rfl⟩, hJx3⟩⟩
    · obtain rfl : k = C := by omega
      gi_wp2
      go_end0
      exact ⟨⟨_, rfl⟩, .inl ⟨_, hpre, hJs⟩⟩
theorem living_stops (n : Nat) (hn : 1 ≤ n) (b1 b2 n₀ : Nat) (s q C R S : Nat) (g : Nat → Nat) (hz : Sz C R S) (y : Nat) (hy : y < R) (hs : s < n₀) (hq : q < n₀) (w : World) (hn₀ : n₀ ≤ w.heap.size) (h1 : w.cell? ⟨b1, 0, none⟩ = some (.pointer (some ⟨s, 0, none⟩))) (h2 : w.cell? ⟨b2, 0, none⟩ = some (.int .i64 (y : Nat))) (h : Sb w s q C R S g) :
    SeqStopsK Fence.wide n Try.prog 123 #[.pointer (some ⟨b1, 0, none⟩), .pointer (some ⟨b2, 0, none⟩)] (fun x : Fin C => #[Value.int .i64 (x.val : Int), .int .u8 (g (y * C + x.val) : Nat)]) (Below n₀) (fun ys => ys.map Fin.val = liv (fun x => g (y * C + x)) C) (fun pre => ∃ k, k ≤ C ∧ pre.map Fin.val = liv (fun x => g (y * C + x)) k) C w := fun l J Jx W hW hJ _ hY h0 => by
  have hb1 := cell_lt h1
  have hb2 := cell_lt h2
  exact living1_in n hn l b1 b2 n₀ s q C R S g hz y hy hs hq J Jx hY W (fun m => hJ _ _ _ none h0 (gb_drewN (World.grownBy.refl _ _) m) (fun r e => by cases e)) ((hW.cell (p := ⟨b1, 0, none⟩) hb1).trans h1) ((hW.cell (p := ⟨b2, 0, none⟩) hb2).trans h2) (h.below (hW.mono hn₀) hs hq)
end Go.Proofs.Ytbiilklihieomaa
