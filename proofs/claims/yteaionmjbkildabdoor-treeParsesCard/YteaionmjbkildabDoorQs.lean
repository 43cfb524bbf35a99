/- Lists of numbers, nodes and lists of nodes that are alike. -/
import Derived.Test.YteaionmjbkildabDoorQ20
import Derived.Test.YteaionmjbkildabDoorQc
namespace Go.Proofs.YteaionmjbkildabDoor
open Go.RowKit
set_option linter.unusedVariables false
set_option linter.unusedSimpArgs false
set_option maxRecDepth 100000

set_option maxHeartbeats 1000000 in
theorem equalC (sa sb : Option Addr) (n m ca cb : Nat) (hn : n ≤ 4398046510976) (fa fb : Nat → Int) (w : World) (ha : In w sa n fa) (hb : In w sb m fb) (B : Bool) (hB : B = true ↔ n = m ∧ ∀ i, i < n → fa i = fb i) :
    Calls Tryd.prog 66 #[.slice sa n ca, .slice sb m cb] w fun e w' => e = .returned (.bool B) ∧ w.grownBy w' none := by
  by_cases hnm : n = m
  · subst hnm
    have Ha : Hid (In w sa n fa) := ha
    have Hb : Hid (In w sb n fb) := hb
    have HBB : Hid (B = true ↔ ∀ i, i < n → fa i = fb i) := ⟨fun h => (hB.1 h).2, fun h => hB.2 ⟨rfl, h⟩⟩
    clear ha hb hB
    go_enter Tryd.func66, Tryd.ntmps66
    go_wp2
    go_loopw [13] (fun i wr => ∃ j : Nat, j ≤ n ∧ i = .int .i64 (j : Nat) ∧ Hid (w.grownBy wr none) ∧ Hid (∀ k, k < j → fa k = fb k)) (fun i _ => n - (intOf i).toNat)
    case atStart => exact ⟨0, Nat.zero_le _, rfl, World.grownBy.refl _ _, fun k hk => absurd hk (Nat.not_lt_zero _)⟩
    case round =>
      obtain ⟨j, hj, rfl, gj, hk⟩ := hrel
      by_cases hlt : j < n
      · have hlt' : (j : Int) < (n : Int) := by omega
        obtain ⟨pa, rfl⟩ := Ha.out.some (by omega)
        obtain ⟨pb, rfl⟩ := Hb.out.some (by omega)
        have c1 := (Ha.out.kept gj.out (by simp)).at hlt
        have c2 := (Hb.out.kept gj.out (by simp)).at hlt
        by_cases he : fa j = fb j
        · have HE : Hid (fa j = fb j) := he
          obtain ⟨v, hv⟩ : ∃ v, fb j = v := ⟨_, rfl⟩
          rw [he, hv] at c1
          rw [hv] at c2
          clear he hv
          go_wp2
          try go_quiet (fail)
          try go_wp2
          go_roundw
          case rel =>
            refine ⟨j + 1, hlt, by go_num, by first | exact gb_drewN gj.out _ | exact gj.out, fun k hk2 => ?_⟩
            rcases Nat.lt_or_ge k j with h | h
            · exact hk.out k h
            · obtain rfl : k = j := by omega
              exact HE.out
          case measure => simp [intOf]; omega
        · obtain rfl : B = false := by
            cases B with
            | false => rfl
            | true => exact absurd (HBB.out.1 rfl j hlt) he
          have hne : ((fa j) != (fb j)) = true := by simpa using he
          have hne2 : binOp .neq 3 (.int .i64 (fa j)) (.int .i64 (fb j)) = pure (.bool true) := by rw [binOp_neq, hne]
          obtain ⟨u, hu⟩ : ∃ u, fa j = u := ⟨_, rfl⟩
          obtain ⟨v, hv⟩ : ∃ v, fb j = v := ⟨_, rfl⟩
          rw [hu] at c1 hne2 hne
          rw [hv] at c2 hne2 hne
          clear he hu hv hne
          go_wp2
          try go_quiet (fail)
          try go_wp2
          go_ret
          exact ⟨rfl, by first | exact gb_drewN gj.out _ | exact gj.out⟩
      · obtain rfl : j = n := by omega
        have hlt' : ¬ (j : Int) < (j : Int) := by omega
        obtain rfl : B = true := HBB.out.2 hk.out
        go_wp2
        go_ret
        exact ⟨rfl, gj.out⟩
  · obtain rfl : B = false := by
      cases B with
      | false => rfl
      | true => exact absurd (hB.1 rfl).1 hnm
    have hne : ((n : Int) != (m : Int)) = true := by simp; omega
    have hne2 : ¬ n = m := hnm
    clear hB
    go_enter Tryd.func66, Tryd.ntmps66
    go_wp2
    go_ret
    exact ⟨rfl, World.grownBy.refl _ _⟩
/-- Two nodes are alike. -/
def TnE (x y : TN) : Prop := x.st = y.st ∧ x.kn = y.kn ∧ ∀ i, i < x.kn → x.kf i = y.kf i
set_option maxHeartbeats 1000000 in
theorem areAlikeC (x y : TN) (hn : x.kn ≤ 4398046510976) (w : World) (ha : In w x.kp x.kn x.kf) (hb : In w y.kp y.kn y.kf) (B : Bool) (hB : B = true ↔ TnE x y) :
    Calls Tryd.prog 51 #[x.val, y.val] w fun e w' => e = .returned (.bool B) ∧ w.grownBy w' none := by
  obtain ⟨sa, pa, na, ca, fa⟩ := x
  obtain ⟨sb, pb, nb, cb, fb⟩ := y
  unfold TN.val TnE at *
  simp only at ha hb hB hn ⊢
  obtain ⟨W1, hW1, sz1, g1, B1⟩ := boxn w #[.int .u8 (sa : Nat), .slice pa na ca] 69
  obtain ⟨W2, hW2, sz2, g2, B2⟩ := boxn W1 #[.int .u8 (sb : Nat), .slice pb nb cb] 69
  have G2 := gb_trans g1 g2
  have B12 := B1.kept g2 (by simp)
  have c0 := B12.cell 0 (v := .int .u8 (sa : Nat)) rfl
  have c1 := B12.cell 1 (v := .slice pa na ca) rfl
  have d0 := B2.cell 0 (v := .int .u8 (sb : Nat)) rfl
  have d1 := B2.cell 1 (v := .slice pb nb cb) rfl
  have gd : W2.grownBy W2.drew none := gb_drew (World.grownBy.refl W2 none)
  have c0d := gd.cell c0 (by simp)
  have c1d := gd.cell c1 (by simp)
  have d0d := gd.cell d0 (by simp)
  have d1d := gd.cell d1 (by simp)
  have HG2 : Hid (w.grownBy W2 none) := G2
  by_cases hs : sa = sb
  · subst hs
    have hse : ((sa : Int) == (sa : Int)) = true := by simp
    have kE := fun V (gV : W2.grownBy V none) => equalC pa pb na nb ca cb hn fa fb V ((ha.kept G2 (by simp)).kept gV (by simp)) ((hb.kept G2 (by simp)).kept gV (by simp)) B (by rw [hB]; simp)
    have kE2 := kE W2 (World.grownBy.refl _ _)
    clear ha hb hB kE
    go_enter Tryd.func51, Tryd.ntmps51
    go_wp2_with (first | (go_at_call 66; refine kE2.mono ?_; rintro e V ⟨rfl, gV⟩))
    go_ret
    exact ⟨rfl, gb_trans HG2.out gV⟩
  · obtain rfl : B = false := by
      cases B with
      | false => rfl
      | true => exact absurd (hB.1 rfl).1 hs
    have hne : ((sa : Int) == (sb : Int)) = false := by simp; omega
    have hne2 : (sa == sb) = false := by simpa using hs
    clear ha hb hB
    go_enter Tryd.func51, Tryd.ntmps51
    go_wp2
    go_ret
    exact ⟨rfl, HG2.out⟩
set_option maxHeartbeats 1000000 in
theorem nodesC (n m qa oa qb ob ca cb : Nat) (hn : n ≤ 65536) (ta tb : Nat → TN) (hka : ∀ j, j < n → (ta j).kn ≤ 4398046510976) (w : World) (hA : Tn w qa oa n ta) (hBn : Tn w qb ob m tb) (B : Bool) (hB : B = true ↔ n = m ∧ ∀ j, j < n → TnE (ta j) (tb j)) :
    Calls Tryd.prog 50 #[.slice (some ⟨qa, oa, none⟩) n ca, .slice (some ⟨qb, ob, none⟩) m cb, .func (.func 51) #[] #[]] w fun e w' => e = .returned (.bool B) ∧ w.grownBy w' none := by
  by_cases hnm : n = m
  · subst hnm
    have HBB : Hid (B = true ↔ ∀ j, j < n → TnE (ta j) (tb j)) := ⟨fun h => (hB.1 h).2, fun h => hB.2 ⟨rfl, h⟩⟩
    have HA : Hid (Tn w qa oa n ta) := hA
    have HBn : Hid (Tn w qb ob n tb) := hBn
    have HK : Hid (∀ j, j < n → (ta j).kn ≤ 4398046510976) := hka
    clear hA hBn hB hka
    go_enter Tryd.func50, Tryd.ntmps50
    go_wp2
    go_loopw [17] (fun i wr => ∃ j : Nat, j ≤ n ∧ i = .int .i64 (j : Nat) ∧ Hid (w.grownBy wr none) ∧ Hid (∀ k, k < j → TnE (ta k) (tb k))) (fun i _ => n - (intOf i).toNat)
    case atStart => exact ⟨0, Nat.zero_le _, rfl, World.grownBy.refl _ _, fun k hk => absurd hk (Nat.not_lt_zero _)⟩
    case round =>
      obtain ⟨j, hj, rfl, gj, hk⟩ := hrel
      by_cases hlt : j < n
      · have hlt' : (j : Int) < (n : Int) := by omega
        obtain ⟨a0, a1, a2⟩ := (HA.out.kept gj.out) j hlt
        obtain ⟨b0, b1, b2⟩ := (HBn.out.kept gj.out) j hlt
        have hka := HK.out j hlt
        obtain ⟨x, hx⟩ : ∃ x, ta j = x := ⟨_, rfl⟩
        obtain ⟨y, hy⟩ : ∃ y, tb j = y := ⟨_, rfl⟩
        have HX : Hid (ta j = x ∧ tb j = y) := ⟨hx, hy⟩
        rw [hx] at a0 a1 a2 hka
        rw [hy] at b0 b1 b2
        clear hx hy
        obtain ⟨W1, hW1, sz1, g1, B1⟩ := boxn wr #[.int .u8 (x.st : Nat), .slice x.kp x.kn x.kc] 69
        obtain ⟨W2, hW2, sz2, g2, B2⟩ := boxn W1 #[.int .u8 (y.st : Nat), .slice y.kp y.kn y.kc] 69
        have p0 := g1.cell b0 (by simp)
        have p1 := g1.cell b1 (by simp)
        have B12 := B1.kept g2 (by simp)
        have c0 := B12.cell 0 (v := .int .u8 (x.st : Nat)) rfl
        have c1 := B12.cell 1 (v := .slice x.kp x.kn x.kc) rfl
        have d0 := B2.cell 0 (v := .int .u8 (y.st : Nat)) rfl
        have d1 := B2.cell 1 (v := .slice y.kp y.kn y.kc) rfl
        have G2 := gb_trans g1 g2
        have kA := fun B hB => areAlikeC x y hka W2 (a2.kept G2 (by simp)) (b2.kept G2 (by simp)) B hB
        unfold TN.val at kA
        have HG : Hid (w.grownBy W2 none) := gb_trans gj.out G2
        by_cases hE : TnE x y
        · have kT := kA true (by simp [hE])
          have HE : Hid (TnE x y) := hE
          clear kA hE a2 b2
          go_wp2_with (first | (go_at_call 51; refine kT.mono ?_; rintro e V ⟨rfl, gV⟩))
          go_roundw
          case rel =>
            refine ⟨j + 1, hlt, by go_num, gb_trans HG.out gV, fun k hk2 => ?_⟩
            rcases Nat.lt_or_ge k j with h | h
            · exact hk.out k h
            · obtain rfl : k = j := by omega
              rw [HX.out.1, HX.out.2]
              exact HE.out
          case measure => simp [intOf]; omega
        · have kF := kA false (by simp [hE])
          obtain rfl : B = false := by
            cases B with
            | false => rfl
            | true => exact absurd (by have := HBB.out.1 rfl j hlt; rw [HX.out.1, HX.out.2] at this; exact this) hE
          clear kA hE a2 b2
          go_wp2_with (first | (go_at_call 51; refine kF.mono ?_; rintro e V ⟨rfl, gV⟩))
          go_ret
          exact ⟨rfl, gb_trans HG.out gV⟩
      · obtain rfl : j = n := by omega
        have hlt' : ¬ (j : Int) < (j : Int) := by omega
        obtain rfl : B = true := HBB.out.2 hk.out
        go_wp2
        go_ret
        exact ⟨rfl, gj.out⟩
  · obtain rfl : B = false := by
      cases B with
      | false => rfl
      | true => exact absurd (hB.1 rfl).1 hnm
    have hne : ((n : Int) != (m : Int)) = true := by simp; omega
    have hne2 : ¬ n = m := hnm
    clear hB hA hBn hka
    go_enter Tryd.func50, Tryd.ntmps50
    go_wp2
    go_ret
    exact ⟨rfl, World.grownBy.refl _ _⟩
end Go.Proofs.YteaionmjbkildabDoor
