/- ScanRuns: the walk. -/
import Derived.Test.YtimknahfgpafaaaDoorS10
import Derived.Test.YtimknahfgpafaaaDoorS15
namespace Go.Proofs.YtimknahfgpafaaaDoor
open Go.RowKit
set_option linter.unusedVariables false
set_option linter.unusedSimpArgs false

theorem runsF_len (s : ByteArray) : ∀ (f i : Nat) (l : List Rn), l.length ≤ i → i ≤ s.size → ((runsF f s i l).1.getD []).length ≤ s.size
  | 0, i, l, _, _ => by rw [runsF]; exact Nat.zero_le _
  | f + 1, i, l, h1, h2 => by
    rw [runsF]
    by_cases h0 : s.size ≤ i
    · rw [if_pos h0]; exact Nat.zero_le _
    rw [if_neg h0]
    split
    · exact runsF_len s f _ _ (by omega) (by omega)
    split
    · exact Nat.le_trans h1 h2
    split
    · exact Nat.zero_le _
    split
    · exact Nat.zero_le _
    split
    · exact Nat.zero_le _
    · have := tl_pos s (dg s i)
      have := dg_ge (s := s) (i := i) h2
      exact runsF_len s f _ _ (by rw [List.length_append]; simp only [List.length_cons, List.length_nil]; omega) (by omega)
theorem runsR_len (s : ByteArray) : ((runsR s).1.getD []).length ≤ 1048576 := by
  unfold runsR
  split
  · exact Nat.zero_le _
  · exact Nat.le_trans (runsF_len s _ 0 [] (Nat.zero_le _) (Nat.zero_le _)) (by omega)
/-- What Runs leaves, read. -/
def LeftR (w : World) (R : Option (List Rn) × Nat × Nat) (e : Ending) (w' : World) : Prop :=
  ∃ sp cap, e = .returned (.tuple #[.slice sp (R.1.getD []).length cap, .int .i64 (R.2.1 : Nat), .int .i64 (R.2.2 : Nat)]) ∧ RunsIn w' sp (R.1.getD []) ∧ (∀ a, sp = some a → w.heap.size ≤ a.block ∧ a.block < w'.heap.size) ∧ w'.ownsRow w.heap.size 48 3 (.slice sp (R.1.getD []).length cap) (R.1.getD []).length (rcs (R.1.getD [])) ∧ w.grownBy w' none
theorem Left.read {w w' : World} {R : Option (List Rn) × Nat × Nat} {e : Ending} (h : Left w R e w') : LeftR w R e w' := by
  obtain ⟨v, rfl, ho, hg⟩ := h
  obtain ⟨sp, cap, rfl, hr, hb⟩ := runsIn_of ho
  exact ⟨sp, cap, rfl, hr, fun a e => ⟨(hb a e).2.2, (hb a e).2.1⟩, ho, hg⟩
theorem runsAll (s : ByteArray) (R : Option (List Rn) × Nat × Nat) (hR : Hid (runsR s = R)) (w : World) (tp : TypeId) (p : Value) (hE : Hid (Er tp p w)) (hG : 4 < w.heap.size) : Calls Tryd.prog 20 #[.string s] w (LeftR w R) := by
  have h := hR.out
  unfold runsR at h
  by_cases hs : 1048576 < s.size
  · rw [if_pos hs] at h
    refine (runsLong s w hs).mono ?_
    rintro e w' ⟨rfl, rfl⟩
    exact (Left.none h.symm (World.grownBy.refl _ _)).read
  · rw [if_neg hs] at h
    rw [← h]
    exact (runsShort s w (by omega) tp p hE hG).mono fun e w' h => h.read
theorem rrunsAll (s : ByteArray) (R : Option (List Rn) × Nat × Nat) (hR : Hid (runsR s = R)) (w : World) : Calls Tryd.prog 19 #[.string s] w (LeftR w R) := by
  have h := hR.out
  unfold runsR at h
  by_cases hs : 1048576 < s.size
  · rw [if_pos hs] at h
    refine (rrunsLong s w hs).mono ?_
    rintro e w' ⟨rfl, rfl⟩
    exact (Left.none h.symm (World.grownBy.refl _ _)).read
  · rw [if_neg hs] at h
    rw [← h]
    exact (rrunsShort s w (by omega)).mono fun e w' h => h.read
theorem gb_to {a b c : World} {r r' : Option Nat} (h : a.grownBy b r) (k : b.grownBy c r') (hr : ∀ i, r' = some i → r = some i ∨ a.heap.size ≤ i) : a.grownBy c r :=
  ⟨k.os.trans h.os, k.tape.trans h.tape, k.output.trans h.output, Nat.le_trans h.size k.size, fun i hi hne => (k.block i (Nat.lt_of_lt_of_le hi h.size) (fun e => by
    rcases hr i e.symm with e' | e'
    · exact hne e'.symm
    · omega)).trans (h.block i hi hne)⟩
theorem own_store {w : World} {base e size n g : Nat} {v : Value} {xs : List Value} (h : w.ownsRow base e size v n xs) (hv : v.ownBlock = some g) (j : Nat) (x : Value) : ∃ xs', (w.setCell ⟨g, j, none⟩ x).ownsRow base e size v n xs' := by
  rcases h.2 with ⟨rfl, _⟩ | ⟨b, cap, cur, rfl, h1, h2, h3, h4, h5, h6⟩
  · cases hv
  · cases hv
    refine ⟨(cur.setIfInBounds j x).toList.take (n * size), ?_, .inr ⟨_, cap, cur.setIfInBounds j x, rfl, h1, ?_, h3, h4, by simp [h5], rfl⟩⟩
    · rw [List.length_take, Array.length_toList, Array.size_setIfInBounds, h5]
      exact Nat.min_eq_left (Nat.mul_le_mul_right _ h3)
    · simp [World.setCell, Array.getElem?_modify, h2]
theorem own_store3 {w : World} {base e size n g : Nat} {v : Value} {xs : List Value} (h : w.ownsRow base e size v n xs) (hv : v.ownBlock = some g) (i j k : Nat) (x y z : Value) : ∃ xs', (((w.setCell ⟨g, i, none⟩ x).setCell ⟨g, j, none⟩ y).setCell ⟨g, k, none⟩ z).ownsRow base e size v n xs' := by
  obtain ⟨x1, h1⟩ := own_store h hv i x
  obtain ⟨x2, h2⟩ := own_store h1 hv j y
  exact own_store h2 hv k z
theorem own_free {w : World} {base e size n g k : Nat} {v : Value} {xs : List Value} (h : w.ownsRow base e size v n xs) (hv : v.ownBlock = some g) (hk : k < n * size) : (∃ x, w.cell? ⟨g, k, none⟩ = some x) ∧ w.frozen? ⟨g, k, none⟩ = false := by
  rcases h.2 with ⟨rfl, _⟩ | ⟨b, cap, cur, rfl, h1, h2, h3, h4, h5, h6⟩
  · cases hv
  · cases hv
    have hk2 : k < cur.size := by
      rw [h5]; exact Nat.lt_of_lt_of_le hk (Nat.mul_le_mul_right _ h3)
    exact ⟨⟨cur[k], by simp [World.cell?, h2, Array.getElem?_eq_getElem hk2]⟩, by simp [World.frozen?, h2]⟩

set_option maxRecDepth 100000 in
set_option maxHeartbeats 4000000 in
theorem runs_walk (t u : ByteArray) (w : World) (ht : t.size ≤ maxLen) (hu : u.size ≤ maxLen) (tp : TypeId) (p : Value) (hE : Hid (Er tp p w)) (hG : 4 < w.heap.size) :
    Calls Tryd.prog 6 #[.string t, .string u] w fun e w' => e = .returned (.bool true) ∧ Below w.heap.size w w' := by
  have hL1 := runsR_len t
  have hL2 := runsR_len u
  obtain ⟨R, hR⟩ : ∃ R, Hid (runsR t = R) := ⟨_, rfl⟩
  obtain ⟨S, hS⟩ : ∃ S, Hid (runsR u = S) := ⟨_, rfl⟩
  rw [hR.out] at hL1
  rw [hS.out] at hL2
  obtain ⟨i0, hi⟩ := info_parts infoR3
  have HI : Hid (Tryd.prog.info? 48 = some i0 ∧ i0.zero = some (.agg #[.int .i64 0, .string ⟨#[]⟩, .int .i64 0]) ∧ i0.size = 3 ∧ i0.bytes = 32) := hi
  clear hi
  obtain ⟨O, M, K⟩ := R
  obtain ⟨O', M', K'⟩ := S
  dsimp only at hL1 hL2
  obtain ⟨L, hL⟩ : ∃ L, O.getD [] = L := ⟨_, rfl⟩
  obtain ⟨L', hL'⟩ : ∃ L', O'.getD [] = L' := ⟨_, rfl⟩
  have cA := fun w => rrunsAll t (O, M, K) hR w
  have cB := fun w => rrunsAll u (O', M', K') hS w
  have cC := fun w hE hG => runsAll t (O, M, K) hR w tp p hE hG
  have cD := fun w hE hG => runsAll u (O', M', K') hS w tp p hE hG
  unfold LeftR at cA cB cC cD
  dsimp only at cA cB cC cD
  rw [hL] at cA cC hL1
  rw [hL'] at cB cD hL2
  clear hL hL' hR hS
  go_enter Tryd.func6, Tryd.ntmps6
  go_wp2_with (first
    | (go_at_call 9; refine (awakeC _ tp p hE hG).mono ?_; rintro e w1 ⟨rfl, g1⟩)
    | (go_at_call_of 19 (Value.string t); refine (cA _).mono ?_; rintro e w2 ⟨s2, c2, rfl, r2, b2, o2, g2⟩)
    | (go_at_call_of 19 (Value.string u); refine (cB _).mono ?_; rintro e w3 ⟨s3, c3, rfl, r3, b3, o3, g3⟩; have G3 := gb_trans g1 (gb_trans g2 g3); have E3 : Hid (Er tp p w3) := Er.below hE.out (gb_below G3) hG; have hG3 := Nat.lt_of_lt_of_le hG G3.size)
    | (go_at_call_of 20 (Value.string t); refine (cC _ E3 hG3).mono ?_; rintro e w4 ⟨s4, c4, rfl, r4, b4, o4, g4⟩; have G4 := gb_trans G3 g4; have E4 : Hid (Er tp p w4) := Er.below hE.out (gb_below G4) hG; have hG4 := Nat.lt_of_lt_of_le hG G4.size)
    | (go_at_call_of 20 (Value.string u); refine (cD _ E4 hG4).mono ?_; rintro e w5 ⟨s5, c5, rfl, r5, b5, o5, g5⟩)
    | (go_at_call 21; refine (sameRunsC s4 s2 c4 c2 L hL1 _ (r4.kept g5 (by simp)) ((r2.kept g3 (by simp)).kept (gb_trans g4 g5) (by simp))).mono ?_; rintro e w6 ⟨rfl, g6⟩))
  have o6 := (o4.kept g5 (Classical.em _)).kept g6 (Classical.em _)
  have n3 : ∀ a, s3 = some a → some a.block ≠ (Value.slice s4 L.length c4).ownBlock := fun a e h => by
    cases s4 with
    | none => cases h
    | some d => have h' : a.block = d.block := Option.some.inj h; have := (b3 a e).2; have := (b4 d rfl).1; omega
  have n2 : ∀ a, s2 = some a → some a.block ≠ (Value.slice s4 L.length c4).ownBlock := fun a e h => by
    cases s4 with
    | none => cases h
    | some d => have h' : a.block = d.block := Option.some.inj h; have := (b2 a e).2; have := (b4 d rfl).1; have := g3.size; omega
  have n5 : ∀ a, s5 = some a → some a.block ≠ (Value.slice s4 L.length c4).ownBlock := fun a e h => by
    cases s4 with
    | none => cases h
    | some d => have h' : a.block = d.block := Option.some.inj h; have := (b5 a e).1; have := (b4 d rfl).2; omega
  have nw : ∀ i, (Value.slice s4 L.length c4).ownBlock = some i → w3.heap.size ≤ i := fun i h => by
    cases s4 with
    | none => cases h
    | some d => cases h; exact (b4 d rfl).1
  have r46 := (r4.kept g5 (by simp)).kept g6 (by simp)
  have r56 := r5.kept g6 (by simp)
  have r36 := (r3.kept (gb_trans g4 g5) (by simp)).kept g6 (by simp)
  have r26 := ((r2.kept g3 (by simp)).kept (gb_trans g4 g5) (by simp)).kept g6 (by simp)
  have G6 := gb_trans G4 (gb_trans g5 g6)
  have z3 := G3.size
  have z36 := (gb_trans g4 (gb_trans g5 g6)).size
  clear r2 r3 r5 o5 b2 b3 b5 o2 o3 cA cB cD g1 g2 g3 g4 g5 g6 G4 E4 hG4
  go_loopw [19] (fun v wr => ∃ k : Nat, k ≤ L.length ∧ v = .int .i64 k ∧ (∃ xs, wr.ownsRow w3.heap.size 48 3 (.slice s4 L.length c4) L.length xs) ∧ w6.grownBy wr (Value.slice s4 L.length c4).ownBlock) (fun v _ => L.length - (intOf v).toNat)
  case atStart => exact ⟨0, Nat.zero_le _, rfl, ⟨_, o6⟩, World.grownBy.refl _ _⟩
  case round =>
    obtain ⟨k, hk, rfl, ⟨xs, ho⟩, hg⟩ := hrel
    by_cases hlt : k < L.length
    · obtain ⟨gg, rfl, _⟩ := r46 k hlt
      have hlt' : (k : Int) < (L.length : Int) := by omega
      obtain ⟨⟨y0, f0⟩, f1⟩ := own_free (k := k * 3) ho rfl (by omega)
      obtain ⟨⟨y1, f2⟩, f3⟩ := own_free (k := k * 3 + 1) ho rfl (by omega)
      obtain ⟨⟨y2, f4⟩, f5⟩ := own_free (k := k * 3 + 2) ho rfl (by omega)
      have hst := own_store3 ho rfl (k * 3) (k * 3 + 1) (k * 3 + 2) (.int .i64 (-5)) (.string ⟨#[]⟩) (.int .i64 0)
      go_wp2
      go_roundw
      case rel => exact ⟨k + 1, by omega, by go_num, hst, gb_set (gb_set (gb_set hg _ _) _ _) _ _⟩
      case measure => simp [intOf]; omega
    · have hlt' : ¬ (k : Int) < (L.length : Int) := by omega
      go_wp2
      go_loopw [12, 20] (fun va v wr' => ∃ j : Nat, j ≤ 20 ∧ v = .int .i64 j ∧ (∃ xs, wr'.ownsRow w3.heap.size 48 3 va (L.length + j) xs) ∧ (∀ i, va.ownBlock = some i → (Value.slice s4 L.length c4).ownBlock = some i ∨ w6.heap.size ≤ i) ∧ w6.grownBy wr' (Value.slice s4 L.length c4).ownBlock) (fun _ v _ => 20 - (intOf v).toNat)
      case atStart => exact ⟨0, Nat.zero_le _, rfl, ⟨_, ho⟩, fun i h => .inl h, hg⟩
      case round =>
        obtain ⟨j, hj, rfl, ⟨ys, ho2⟩, hat, hg2⟩ := hrel
        by_cases hlt2 : j < 20
        · have hlt3 : (j : Int) < 20 := by omega
          have hsz2 := hg2.size
          go_wp2_with (at_builtin; refine wpList_append_lies _ rfl _ _ 42 rfl w3.heap.size 48 i0 (.agg #[.int .i64 0, .string ⟨#[]⟩, .int .i64 0]) 3 32 underRunS HI.out.1 HI.out.2.1 HI.out.2.2.1 HI.out.2.2.2 rfl (by decide) _ _ _ rfl (ho2.alloc _) ⟨wr.heap.size, 0, none⟩ 1 1 [.int .i64 (-6), .string ⟨#[]⟩, .int .i64 0] rfl rfl (new3 _ _ _ _ _) ?_ (by decide) ?_ ?_ ?_ _ rfl ?_; rotate_right; intro g7 c7 w7 hown7 hgrow7 hat7 hlt7)
          · have HA := ho2.alloc (.cells #[.int .i64 (-6), .string ⟨#[]⟩, .int .i64 0] 48)
            have ga := World.grownBy_alloc wr (.cells #[.int .i64 (-6), .string ⟨#[]⟩, .int .i64 0] 48) none
            have gn : w6.grownBy (wr.alloc (.cells #[.int .i64 (-6), .string ⟨#[]⟩, .int .i64 0] 48)) (Value.slice s4 L.length c4).ownBlock := gb_none hg2 ga
            have hat' : ∀ i, some g7 = some i → (Value.slice s4 L.length c4).ownBlock = some i ∨ w6.heap.size ≤ i := fun i e => by
              cases e
              rcases hat7 with h | h
              · exact hat _ h
              · refine .inr ?_
                rw [h]
                simp only [World.size_alloc]
                omega
            have G7 := gb_to gn hgrow7 hat
            go_wp2
            go_roundw
            case rel => exact ⟨j + 1, by omega, by go_num, ⟨_, hown7⟩, hat', G7⟩
            case measure => simp [intOf]; omega
          · intro u hu
            simp at hu
            rcases hu with rfl | rfl | rfl <;> rfl
          · unfold maxLen; omega
          · omega
          · simp only [World.size_alloc]; omega
        · have hlt3 : ¬ (j : Int) < 20 := by omega
          obtain rfl : j = 20 := by omega
          have z2 := hg2.size
          have E8 : Hid (Er tp p wr) := Er.below (n := 4 + 1) (Er.below hE.out (gb_below G6) hG) ⟨hg2.os, hg2.tape, hg2.output, hg2.size, fun k hk => hg2.block k (by omega) (fun e => by have := nw k e.symm; omega)⟩ (by omega)
          have hG8 : 4 < wr.heap.size := by omega
          have G8 := gb_row G6 hg2 (fun i e => by have := nw i e; omega)
          have r58 := r56.kept hg2 n5
          have r38 := r36.kept hg2 n3
          have r28 := r26.kept hg2 n2
          go_wp2_with (first
            | (go_at_call 20; refine (cC _ E8 hG8).mono ?_; rintro e w9 ⟨s9, c9, rfl, r9, b9, o9, g9⟩)
            | (go_at_call_of 21 (Value.slice s5 L'.length c5); refine (sameRunsC s5 s3 c5 c3 L' hL2 _ (r58.kept g9 (by simp)) (r38.kept g9 (by simp))).mono ?_; rintro e w10 ⟨rfl, g10⟩)
            | (go_at_call 21; refine (sameRunsC s9 s2 c9 c2 L hL1 _ (r9.kept g10 (by simp)) ((r28.kept g9 (by simp)).kept g10 (by simp))).mono ?_; rintro e w11 ⟨rfl, g11⟩))
          go_ret
          exact ⟨rfl, gb_below (gb_trans G8 (gb_trans g9 (gb_trans g10 g11)))⟩
end Go.Proofs.YtimknahfgpafaaaDoor
