/- ScanFields: the walk. -/
import Derived.Test.YtimknahfgpafaaaDoorS16
import Derived.Test.YtimknahfgpafaaaDoorS24
namespace Go.Proofs.YtimknahfgpafaaaDoor
open Go.RowKit
set_option linter.unusedVariables false
set_option linter.unusedSimpArgs false

theorem pcF_len (s : ByteArray) : ∀ (f i : Nat), (pcF f s i).length ≤ f
  | 0, i => Nat.le_refl _
  | f + 1, i => by
    rw [pcF]
    split
    · have := pcF_len s f (Sc.ov Sc.blankB s (Sc.ov Sc.inkB s i))
      rw [List.length_cons]; omega
    · exact Nat.zero_le _
def LeftS (w : World) (s : ByteArray) (L : List (Nat × Nat)) (e : Ending) (w' : World) : Prop :=
  ∃ sp cap, e = .returned (.slice sp L.length cap) ∧ SpansIn w' sp s L ∧ (∀ a, sp = some a → w.heap.size ≤ a.block ∧ a.block < w'.heap.size) ∧ w'.ownsRow w.heap.size 28 2 (.slice sp L.length cap) L.length (scs s L) ∧ w.grownBy w' none
theorem LeftF.read {w w' : World} {s : ByteArray} {L : List (Nat × Nat)} {e : Ending} (hL : Hid (pcs s = L)) (h : LeftF w s e w') : LeftS w s L e w' := by
  obtain ⟨v, rfl, ho, hg⟩ := h
  rw [hL.out] at ho
  obtain ⟨sp, cap, rfl, hr, hb⟩ := spansIn_of ho
  exact ⟨sp, cap, rfl, hr, fun a e => ⟨(hb a e).2.2, (hb a e).2.1⟩, ho, hg⟩
theorem own_store2 {w : World} {base e size n g : Nat} {v : Value} {xs : List Value} (h : w.ownsRow base e size v n xs) (hv : v.ownBlock = some g) (i j : Nat) (x y : Value) : ∃ xs', ((w.setCell ⟨g, i, none⟩ x).setCell ⟨g, j, none⟩ y).ownsRow base e size v n xs' := by
  obtain ⟨x1, h1⟩ := own_store h hv i x
  exact own_store h1 hv j y

set_option maxRecDepth 100000 in
set_option maxHeartbeats 4000000 in
theorem fields_walk (t u : ByteArray) (w : World) (ht : t.size ≤ 1048576) (hu : u.size ≤ 1048576) (tp : TypeId) (p : Value) (hE : Hid (Er tp p w)) (hG : 4 < w.heap.size) :
    Calls Tryd.prog 4 #[.string t, .string u] w fun e w' => e = .returned (.bool true) ∧ Below w.heap.size w w' := by
  have hL1 : (pcs t).length ≤ 1048577 := Nat.le_trans (pcF_len t _ _) (by omega)
  have hL2 : (pcs u).length ≤ 1048577 := Nat.le_trans (pcF_len u _ _) (by omega)
  obtain ⟨L, hL⟩ : ∃ L, Hid (pcs t = L) := ⟨_, rfl⟩
  obtain ⟨L', hL'⟩ : ∃ L', Hid (pcs u = L') := ⟨_, rfl⟩
  rw [hL.out] at hL1
  rw [hL'.out] at hL2
  obtain ⟨i0, hi⟩ := info_parts infoSp
  have HI : Hid (Tryd.prog.info? 28 = some i0 ∧ i0.zero = some (.agg #[.int .i64 0, .string ⟨#[]⟩]) ∧ i0.size = 2 ∧ i0.bytes = 24) := hi
  clear hi
  have cA := fun w => (rfieldsC t ht w).mono fun e w' h => h.read hL
  have cB := fun w => (rfieldsC u hu w).mono fun e w' h => h.read hL'
  have cC := fun w => (fieldsC t ht w).mono fun e w' h => h.read hL
  have cD := fun w => (fieldsC u hu w).mono fun e w' h => h.read hL'
  clear hL hL'
  go_enter Tryd.func4, Tryd.ntmps4
  go_wp2_with (first
    | (go_at_call 9; refine (awakeC _ tp p hE hG).mono ?_; rintro e w1 ⟨rfl, g1⟩)
    | (go_at_call_of 11 (Value.string t); refine (cA _).mono ?_; rintro e w2 ⟨s2, c2, rfl, r2, b2, o2, g2⟩)
    | (go_at_call_of 12 (Value.string t); refine (cC _).mono ?_; rintro e w4 ⟨s4, c4, rfl, r4, b4, o4, g4⟩)
    | (go_at_call_of 12 (Value.string u); refine (cD _).mono ?_; rintro e w5 ⟨s5, c5, rfl, r5, b5, o5, g5⟩)
    | (go_at_call 13; refine (sameSpansC s4 s2 c4 c2 t L hL1 _ (r4.kept g5 (by simp)) (r2.kept (gb_trans g4 g5) (by simp))).mono ?_; rintro e w6 ⟨rfl, g6⟩))
  have o6 := (o4.kept g5 (Classical.em _)).kept g6 (Classical.em _)
  have n2 : ∀ a, s2 = some a → some a.block ≠ (Value.slice s4 L.length c4).ownBlock := fun a e h => by
    cases s4 with
    | none => cases h
    | some d => have h' : a.block = d.block := Option.some.inj h; have := (b2 a e).2; have := (b4 d rfl).1; omega
  have n5 : ∀ a, s5 = some a → some a.block ≠ (Value.slice s4 L.length c4).ownBlock := fun a e h => by
    cases s4 with
    | none => cases h
    | some d => have h' : a.block = d.block := Option.some.inj h; have := (b5 a e).1; have := (b4 d rfl).2; omega
  have nw : ∀ i, (Value.slice s4 L.length c4).ownBlock = some i → w2.heap.size ≤ i := fun i h => by
    cases s4 with
    | none => cases h
    | some d => cases h; exact (b4 d rfl).1
  have r46 := (r4.kept g5 (by simp)).kept g6 (by simp)
  have r56 := r5.kept g6 (by simp)
  have r26 := (r2.kept (gb_trans g4 g5) (by simp)).kept g6 (by simp)
  have G2 := gb_trans g1 g2
  have G6 := gb_trans G2 (gb_trans g4 (gb_trans g5 g6))
  have z3 := G2.size
  have z36 := (gb_trans g4 (gb_trans g5 g6)).size
  clear r2 r5 o5 b2 b5 o2 cA cD g1 g2 g4 g5 g6
  go_loopw [10] (fun v wr => ∃ k : Nat, k ≤ L.length ∧ v = .int .i64 k ∧ (∃ xs, wr.ownsRow w2.heap.size 28 2 (.slice s4 L.length c4) L.length xs) ∧ w6.grownBy wr (Value.slice s4 L.length c4).ownBlock) (fun v _ => L.length - (intOf v).toNat)
  case atStart => exact ⟨0, Nat.zero_le _, rfl, ⟨_, o6⟩, World.grownBy.refl _ _⟩
  case round =>
    obtain ⟨k, hk, rfl, ⟨xs, ho⟩, hg⟩ := hrel
    by_cases hlt : k < L.length
    · obtain ⟨gg, rfl, _⟩ := r46 k hlt
      have hlt' : (k : Int) < (L.length : Int) := by omega
      obtain ⟨⟨y0, f0⟩, f1⟩ := own_free (k := k * 2) ho rfl (by omega)
      obtain ⟨⟨y1, f2⟩, f3⟩ := own_free (k := k * 2 + 1) ho rfl (by omega)
      have hst := own_store2 ho rfl (k * 2) (k * 2 + 1) (.int .i64 (-5)) (.string ⟨#[]⟩)
      go_wp2
      go_roundw
      case rel => exact ⟨k + 1, by omega, by go_num, hst, gb_set (gb_set hg _ _) _ _⟩
      case measure => simp [intOf]; omega
    · have hlt' : ¬ (k : Int) < (L.length : Int) := by omega
      go_wp2
      go_loopw [7, 11] (fun va v wr' => ∃ j : Nat, j ≤ 20 ∧ v = .int .i64 j ∧ (∃ xs, wr'.ownsRow w2.heap.size 28 2 va (L.length + j) xs) ∧ (∀ i, va.ownBlock = some i → (Value.slice s4 L.length c4).ownBlock = some i ∨ w6.heap.size ≤ i) ∧ w6.grownBy wr' (Value.slice s4 L.length c4).ownBlock) (fun _ v _ => 20 - (intOf v).toNat)
      case atStart => exact ⟨0, Nat.zero_le _, rfl, ⟨_, ho⟩, fun i h => .inl h, hg⟩
      case round =>
        obtain ⟨j, hj, rfl, ⟨ys, ho2⟩, hat, hg2⟩ := hrel
        by_cases hlt2 : j < 20
        · have hlt3 : (j : Int) < 20 := by omega
          have hsz2 := hg2.size
          go_wp2_with (first | (at_builtin; refine wpList_append_lies _ rfl _ _ 24 rfl w2.heap.size 28 i0 (.agg #[.int .i64 0, .string ⟨#[]⟩]) 2 24 underSpS HI.out.1 HI.out.2.1 HI.out.2.2.1 HI.out.2.2.2 rfl (by decide) _ _ _ rfl (ho2.alloc _) ⟨wr.heap.size, 0, none⟩ 1 1 [.int .i64 (-6), .string ⟨#[]⟩] rfl rfl (new2 _ _ _ _) ?_ (by decide) ?_ ?_ ?_ _ rfl ?_; rotate_right; intro g7 c7 w7 hown7 hgrow7 hat7 hlt7) | (fail))
          · have HA := ho2.alloc (.cells #[.int .i64 (-6), .string ⟨#[]⟩] 28)
            have ga := World.grownBy_alloc wr (.cells #[.int .i64 (-6), .string ⟨#[]⟩] 28) none
            have gn : w6.grownBy (wr.alloc (.cells #[.int .i64 (-6), .string ⟨#[]⟩] 28)) (Value.slice s4 L.length c4).ownBlock := gb_none hg2 ga
            have hat' : ∀ i, some g7 = some i → (Value.slice s4 L.length c4).ownBlock = some i ∨ w6.heap.size ≤ i := fun i e => by
              cases e
              rcases hat7 with h | h
              · exact hat _ h
              · refine .inr ?_
                rw [h]
                simp only [World.size_alloc]
                omega
            have G7 := gb_to gn hgrow7 hat
            go_wp2
            go_roundw
            case rel => exact ⟨j + 1, by omega, by go_num, ⟨_, hown7⟩, hat', G7⟩
            case measure => simp [intOf]; omega
          · first
            | exact ⟨rfl, rfl⟩
            | (intro u hu
               simp at hu
               rcases hu with rfl | rfl <;> rfl)
          · unfold maxLen; omega
          · omega
          · first | omega | (simp only [World.size_alloc]; omega)
        · have hlt3 : ¬ (j : Int) < 20 := by omega
          obtain rfl : j = 20 := by omega
          have G8 := gb_row G6 hg2 (fun i e => by have := nw i e; omega)
          have r58 := r56.kept hg2 n5
          have r28 := r26.kept hg2 n2
          go_wp2_with (first
            | (go_at_call 12; refine (cC _).mono ?_; rintro e w9 ⟨s9, c9, rfl, r9, b9, o9, g9⟩)
            | (go_at_call 11; refine (cB _).mono ?_; rintro e w3 ⟨s3, c3, rfl, r3, b3, o3, g3⟩)
            | (go_at_call_of 13 (Value.slice s5 L'.length c5); refine (sameSpansC s5 s3 c5 c3 u L' hL2 _ ((r58.kept g9 (by simp)).kept g3 (by simp)) r3).mono ?_; rintro e w10 ⟨rfl, g10⟩)
            | (go_at_call 13; refine (sameSpansC s9 s2 c9 c2 t L hL1 _ ((r9.kept g3 (by simp)).kept g10 (by simp)) (((r28.kept g9 (by simp)).kept g3 (by simp)).kept g10 (by simp))).mono ?_; rintro e w11 ⟨rfl, g11⟩))
          go_ret
          exact ⟨rfl, gb_below (gb_trans G8 (gb_trans g9 (gb_trans g3 (gb_trans g10 g11))))⟩
end Go.Proofs.YtimknahfgpafaaaDoor
