/- What is and list of the document answer. -/
import Derived.Test.YtlkdenanbofliaaGreatDoorL13
namespace Go.Proofs.YtlkdenanbofliaaGreatDoor
open Go.RowKit
set_option linter.unusedVariables false
set_option linter.unusedSimpArgs false
set_option maxRecDepth 100000

theorem isD66 (s : ByteArray) (i : Nat) (w : World) : Calls Tryz.prog 37 #[.string s, .int .i64 i, .int .u8 66] w fun e w' => e = .returned (.bool (Lf.tk (Sc.bt s i) 66)) ∧ w' = w := by
  by_cases hi : i < s.size
  · have hb := Sc.bt_at hi
    have h1 : (i : Int) < (s.size : Int) := by omega
    by_cases e1 : Sc.bt s i = 66
    · have k1 : ((Sc.bt s i : Nat) : Int) = 66 := by omega
      have HT : Hid (Lf.tk (Sc.bt s i) 66 = true) := by unfold Hid; rw [e1]; rfl
      generalize Lf.tk (Sc.bt s i) 66 = q at HT ⊢
      clear e1
      go_enter Tryz.func37, Tryz.ntmps37
      go_wp2
      go_ret
      exact ⟨by rw [HT.out]; rfl, rfl⟩
    · have k1 : ¬ ((Sc.bt s i : Nat) : Int) = 66 := by omega
      by_cases e2 : Sc.bt s i = 98
      · have k2 : ((Sc.bt s i : Nat) : Int) = 98 := by omega
        have HT : Hid (Lf.tk (Sc.bt s i) 66 = true) := by unfold Hid; rw [e2]; rfl
        generalize Lf.tk (Sc.bt s i) 66 = q at HT ⊢
        clear e1 e2
        go_enter Tryz.func37, Tryz.ntmps37
        go_wp2
        go_ret
        exact ⟨by rw [HT.out]; rfl, rfl⟩
      · have k1' : (((Sc.bt s i : Nat) : Int) == 66) = false := by rw [beq_eq_false_iff_ne]; omega
        have k2' : (((Sc.bt s i : Nat) : Int) == 98) = false := by rw [beq_eq_false_iff_ne]; omega
        have HT : Hid (Lf.tk (Sc.bt s i) 66 = false) := by unfold Hid Lf.tk; simp [e1, e2]
        generalize Lf.tk (Sc.bt s i) 66 = q at HT ⊢
        clear e1 e2 k1
        go_enter Tryz.func37, Tryz.ntmps37
        go_wp2
        go_ret
        refine ⟨congrArg (fun x => Ending.returned (Value.bool x)) ?_, rfl⟩
        rw [HT.out]
  · have h1 : ¬ (i : Int) < (s.size : Int) := by omega
    rw [Sc.bt_off hi]
    rw [show Lf.tk 0 66 = false from rfl]
    go_enter Tryz.func37, Tryz.ntmps37
    go_wp2
    go_ret
    exact ⟨rfl, rfl⟩
theorem isD83 (s : ByteArray) (i : Nat) (w : World) : Calls Tryz.prog 37 #[.string s, .int .i64 i, .int .u8 83] w fun e w' => e = .returned (.bool (Lf.tk (Sc.bt s i) 83)) ∧ w' = w := by
  by_cases hi : i < s.size
  · have hb := Sc.bt_at hi
    have h1 : (i : Int) < (s.size : Int) := by omega
    by_cases e1 : Sc.bt s i = 83
    · have k1 : ((Sc.bt s i : Nat) : Int) = 83 := by omega
      have HT : Hid (Lf.tk (Sc.bt s i) 83 = true) := by unfold Hid; rw [e1]; rfl
      generalize Lf.tk (Sc.bt s i) 83 = q at HT ⊢
      clear e1
      go_enter Tryz.func37, Tryz.ntmps37
      go_wp2
      go_ret
      exact ⟨by rw [HT.out]; rfl, rfl⟩
    · have k1 : ¬ ((Sc.bt s i : Nat) : Int) = 83 := by omega
      by_cases e2 : Sc.bt s i = 115
      · have k2 : ((Sc.bt s i : Nat) : Int) = 115 := by omega
        have HT : Hid (Lf.tk (Sc.bt s i) 83 = true) := by unfold Hid; rw [e2]; rfl
        generalize Lf.tk (Sc.bt s i) 83 = q at HT ⊢
        clear e1 e2
        go_enter Tryz.func37, Tryz.ntmps37
        go_wp2
        go_ret
        exact ⟨by rw [HT.out]; rfl, rfl⟩
      · have k1' : (((Sc.bt s i : Nat) : Int) == 83) = false := by rw [beq_eq_false_iff_ne]; omega
        have k2' : (((Sc.bt s i : Nat) : Int) == 115) = false := by rw [beq_eq_false_iff_ne]; omega
        have HT : Hid (Lf.tk (Sc.bt s i) 83 = false) := by unfold Hid Lf.tk; simp [e1, e2]
        generalize Lf.tk (Sc.bt s i) 83 = q at HT ⊢
        clear e1 e2 k1
        go_enter Tryz.func37, Tryz.ntmps37
        go_wp2
        go_ret
        refine ⟨congrArg (fun x => Ending.returned (Value.bool x)) ?_, rfl⟩
        rw [HT.out]
  · have h1 : ¬ (i : Int) < (s.size : Int) := by omega
    rw [Sc.bt_off hi]
    rw [show Lf.tk 0 83 = false from rfl]
    go_enter Tryz.func37, Tryz.ntmps37
    go_wp2
    go_ret
    exact ⟨rfl, rfl⟩
theorem isD86 (s : ByteArray) (i : Nat) (w : World) : Calls Tryz.prog 37 #[.string s, .int .i64 i, .int .u8 86] w fun e w' => e = .returned (.bool (Lf.tk (Sc.bt s i) 86)) ∧ w' = w := by
  by_cases hi : i < s.size
  · have hb := Sc.bt_at hi
    have h1 : (i : Int) < (s.size : Int) := by omega
    by_cases e1 : Sc.bt s i = 86
    · have k1 : ((Sc.bt s i : Nat) : Int) = 86 := by omega
      have HT : Hid (Lf.tk (Sc.bt s i) 86 = true) := by unfold Hid; rw [e1]; rfl
      generalize Lf.tk (Sc.bt s i) 86 = q at HT ⊢
      clear e1
      go_enter Tryz.func37, Tryz.ntmps37
      go_wp2
      go_ret
      exact ⟨by rw [HT.out]; rfl, rfl⟩
    · have k1 : ¬ ((Sc.bt s i : Nat) : Int) = 86 := by omega
      by_cases e2 : Sc.bt s i = 118
      · have k2 : ((Sc.bt s i : Nat) : Int) = 118 := by omega
        have HT : Hid (Lf.tk (Sc.bt s i) 86 = true) := by unfold Hid; rw [e2]; rfl
        generalize Lf.tk (Sc.bt s i) 86 = q at HT ⊢
        clear e1 e2
        go_enter Tryz.func37, Tryz.ntmps37
        go_wp2
        go_ret
        exact ⟨by rw [HT.out]; rfl, rfl⟩
      · have k1' : (((Sc.bt s i : Nat) : Int) == 86) = false := by rw [beq_eq_false_iff_ne]; omega
        have k2' : (((Sc.bt s i : Nat) : Int) == 118) = false := by rw [beq_eq_false_iff_ne]; omega
        have HT : Hid (Lf.tk (Sc.bt s i) 86 = false) := by unfold Hid Lf.tk; simp [e1, e2]
        generalize Lf.tk (Sc.bt s i) 86 = q at HT ⊢
        clear e1 e2 k1
        go_enter Tryz.func37, Tryz.ntmps37
        go_wp2
        go_ret
        refine ⟨congrArg (fun x => Ending.returned (Value.bool x)) ?_, rfl⟩
        rw [HT.out]
  · have h1 : ¬ (i : Int) < (s.size : Int) := by omega
    rw [Sc.bt_off hi]
    rw [show Lf.tk 0 86 = false from rfl]
    go_enter Tryz.func37, Tryz.ntmps37
    go_wp2
    go_ret
    exact ⟨rfl, rfl⟩
theorem isD72 (s : ByteArray) (i : Nat) (w : World) : Calls Tryz.prog 37 #[.string s, .int .i64 i, .int .u8 72] w fun e w' => e = .returned (.bool (Lf.tk (Sc.bt s i) 72)) ∧ w' = w := by
  by_cases hi : i < s.size
  · have hb := Sc.bt_at hi
    have h1 : (i : Int) < (s.size : Int) := by omega
    by_cases e1 : Sc.bt s i = 72
    · have k1 : ((Sc.bt s i : Nat) : Int) = 72 := by omega
      have HT : Hid (Lf.tk (Sc.bt s i) 72 = true) := by unfold Hid; rw [e1]; rfl
      generalize Lf.tk (Sc.bt s i) 72 = q at HT ⊢
      clear e1
      go_enter Tryz.func37, Tryz.ntmps37
      go_wp2
      go_ret
      exact ⟨by rw [HT.out]; rfl, rfl⟩
    · have k1 : ¬ ((Sc.bt s i : Nat) : Int) = 72 := by omega
      by_cases e2 : Sc.bt s i = 104
      · have k2 : ((Sc.bt s i : Nat) : Int) = 104 := by omega
        have HT : Hid (Lf.tk (Sc.bt s i) 72 = true) := by unfold Hid; rw [e2]; rfl
        generalize Lf.tk (Sc.bt s i) 72 = q at HT ⊢
        clear e1 e2
        go_enter Tryz.func37, Tryz.ntmps37
        go_wp2
        go_ret
        exact ⟨by rw [HT.out]; rfl, rfl⟩
      · have k1' : (((Sc.bt s i : Nat) : Int) == 72) = false := by rw [beq_eq_false_iff_ne]; omega
        have k2' : (((Sc.bt s i : Nat) : Int) == 104) = false := by rw [beq_eq_false_iff_ne]; omega
        have HT : Hid (Lf.tk (Sc.bt s i) 72 = false) := by unfold Hid Lf.tk; simp [e1, e2]
        generalize Lf.tk (Sc.bt s i) 72 = q at HT ⊢
        clear e1 e2 k1
        go_enter Tryz.func37, Tryz.ntmps37
        go_wp2
        go_ret
        refine ⟨congrArg (fun x => Ending.returned (Value.bool x)) ?_, rfl⟩
        rw [HT.out]
  · have h1 : ¬ (i : Int) < (s.size : Int) := by omega
    rw [Sc.bt_off hi]
    rw [show Lf.tk 0 72 = false from rfl]
    go_enter Tryz.func37, Tryz.ntmps37
    go_wp2
    go_ret
    exact ⟨rfl, rfl⟩

theorem ret_a3 {P : Program} {fn : Func} {R : Ending → World → Prop} {a : Act} {w : World} {p u v : Tmp} {ty : TypeId} (h : fn.results = #[.cell p ty, .tmp u, .tmp v]) {g : Nat} {t : TypeId} {cs : Array Value} {n : Nat} {el : TypeId}
    (hu : P.underlying ty = some (.array n el)) (hi : (P.info? ty).map (·.size) = some cs.size) (hp : a.tmps.getD p undef = .pointer (some ⟨g, 0, none⟩)) (hg : Bo w g t cs) (hdf : a.defers = []) (hR : R (.returned (.tuple #[.agg cs, a.tmps.getD u undef, a.tmps.getD v undef])) w) :
    bodyPost P fn R .ret a w := by
  refine bodyPost_ret ?_ hdf hR
  have hp' : a.tmps[p]?.getD undef = .pointer (some ⟨g, 0, none⟩) := by simpa using hp
  simp [results, h, hp', asAddr, run_loadVar_row w g t ty cs (0, 0) (.array n el) hg hu rfl hi]
theorem bl_zero' : bl (fun j => Nat.testBit 0 j) = #[.bool false, .bool false, .bool false, .bool false, .bool false, .bool false, .bool false, .bool false, .bool false, .bool false] := by
  rw [← bl_zero]
  exact bl_congr fun j _ => Nat.zero_testBit j
theorem or_fun (u x : Nat) : (fun j => if j = x then true else u.testBit j) = fun j => (u ||| 2 ^ x).testBit j := by
  funext j
  rw [Nat.testBit_or, Lf.one_bit]
  by_cases h : j = x
  · subst h; simp
  · have h2 : ¬ x = j := fun e => h e.symm
    simp [h, h2]
set_option maxHeartbeats 4000000 in
theorem listD (s : ByteArray) (i : Nat) (hs : s.size ≤ 1048576) (hi : i ≤ s.size) (R : Lf.DR) (hR : Hid (Lf.dg s i 0 = R)) (Z : Int) (HZ : Hid ((if R.tw then (R.a : Int) else -1) = Z)) (w : World) : Calls Tryz.prog 38 #[.string s, .int .i64 i] w fun e w' => e = .returned (.tuple #[.agg (bl (fun j => R.v.testBit j)), .int .i64 R.a, .int .i64 Z]) ∧ w.grownBy w' none := by
  obtain ⟨W1, hW1, sz1, g1, B1⟩ := boxn w #[.bool false, .bool false, .bool false, .bool false, .bool false, .bool false, .bool false, .bool false, .bool false, .bool false] 68
  obtain ⟨W2, hW2, sz2, g2, B2⟩ := boxn W1 #[.bool false, .bool false, .bool false, .bool false, .bool false, .bool false, .bool false, .bool false, .bool false, .bool false] 68
  have B12 := B1.kept g2 (by simp)
  have G2 := gb_trans g1 g2
  go_enter Tryz.func38, Tryz.ntmps38
  go_wp2
  have N21 : Hid (W1.heap.size ≠ w.heap.size) := by have := sz1.out; unfold Hid; omega
  have P2 : Bo W2 W1.heap.size 68 (bl (fun j => Nat.testBit 0 j)) := by rw [bl_zero']; exact B2
  go_loopw [1] (fun v wr => ∃ k u : Nat, k ≤ s.size ∧ u < 1024 ∧ v = .int .i64 k ∧ Bo wr w.heap.size 68 #[.bool false, .bool false, .bool false, .bool false, .bool false, .bool false, .bool false, .bool false, .bool false, .bool false] ∧ Bo wr W1.heap.size 68 (bl (fun j => u.testBit j)) ∧ w.grownBy wr none ∧ Hid (Lf.dg s k u = R)) (fun v _ => s.size - (intOf v).toNat)
  case atStart => exact ⟨i, 0, hi, by decide, rfl, B12, P2, G2, hR⟩
  case round =>
    obtain ⟨k, u, hk, hu, rfl, P1, P2, hG, hdg⟩ := hrel
    cases hd : Lf.isD (Sc.bt s k) with
    | true =>
      have hl := Lf.isD_lt hd
      have hl' : (k : Int) < (s.size : Int) := by omega
      obtain ⟨x, hx, hbx⟩ := d_ex hd
      have e48 : Sc.bt s k - 48 = x := by omega
      have hbt := Sc.bt_at hl
      have hx10 : (x : Int) < 10 := by omega
      have hws : IntKind.u8.wrap (((Sc.bt s k : Nat) : Int) - 48) = (x : Int) := by rw [IntKind.wrap_u8]; omega
      have hc5 : (48 : Int) ≤ ((Sc.bt s k : Nat) : Int) := by omega
      have hc6 : ((Sc.bt s k : Nat) : Int) ≤ 57 := by omega
      have c2 := P2.cell x (bl_at _ x hx)
      have f2 := P2.frozen x
      cases ht2 : u.testBit x with
      | true =>
        rw [ht2] at c2
        have HQ : Hid ((⟨true, k, u⟩ : Lf.DR) = R) := by rw [← hdg.out, Lf.dg_tw hd (by rw [e48]; exact ht2)]; rfl
        clear hd hbx e48 ht2
        go_wp2_with (first | (refine wpList_ld (op := ⟨_, .load 68 _, _, _, _, _⟩) rfl 68 _ rfl W1.heap.size rfl (bl (fun j => u.testBit j)) P2 Tryz.underlying68 rfl infoBl ?_) | (refine wpList_st (op := ⟨_, .store 68 _ _, _, _, _, _⟩) rfl 68 _ _ rfl w.heap.size (bl (fun j => u.testBit j)) rfl rfl P1 infoBl rfl (bl_one _) ?_; intro W9 hW9 P9))
        refine ret_a3 (g := w.heap.size) (cs := bl (fun j => u.testBit j)) rfl Tryz.underlying68 infoBl rfl P9 rfl ⟨?_, hW9 ▸ gb_row2 hG (Nat.le_refl _)⟩
        rw [← HZ.out, ← HQ.out]; rfl
      | false =>
        rw [ht2] at c2
        have hgo : Hid (Lf.dg s (k + 1) (u ||| 2 ^ x) = R) := by
          have := (Lf.dg_go hd (by rw [e48]; exact ht2)).symm.trans hdg.out
          rw [e48] at this
          exact this
        have hu2 := Lf.or_lt hu hx
        clear hd hbx e48 ht2 hdg
        obtain ⟨W6, hW6⟩ : ∃ W6, wr.setCell ⟨W1.heap.size, x, none⟩ (.bool true) = W6 := ⟨_, rfl⟩
        have Q1 : Bo W6 w.heap.size 68 #[.bool false, .bool false, .bool false, .bool false, .bool false, .bool false, .bool false, .bool false, .bool false, .bool false] := hW6 ▸ P1.set2 N21.out
        have Q2 : Bo W6 W1.heap.size 68 (bl (fun j => (u ||| 2 ^ x).testBit j)) := by
          have := P2.set x (.bool true)
          rw [hW6, bl_set _ x hx, or_fun u x] at this
          exact this
        have G6 : w.grownBy W6 none := hW6 ▸ gb_new hG g1.size (.bool true)
        go_wp2
        exact ⟨⟨k + 1, u ||| 2 ^ x, by omega, hu2, by simp, Q1, Q2, G6, hgo⟩, by simp [intOf]; omega⟩
    | false =>
      have HQ : Hid ((⟨false, k, u⟩ : Lf.DR) = R) := by rw [← hdg.out, Lf.dg_no hd]; rfl
      by_cases hl : k < s.size
      · have hl' : (k : Int) < (s.size : Int) := by omega
        have hbt := Sc.bt_at hl
        by_cases hlo : 48 ≤ Sc.bt s k
        · have h5 : (48 : Int) ≤ ((Sc.bt s k : Nat) : Int) := by omega
          have h6 : ¬ ((Sc.bt s k : Nat) : Int) ≤ 57 := by unfold Lf.isD at hd; simp at hd; omega
          clear hd hdg hlo
          go_wp2_with (first | (refine wpList_ld (op := ⟨_, .load 68 _, _, _, _, _⟩) rfl 68 _ rfl W1.heap.size rfl (bl (fun j => u.testBit j)) P2 Tryz.underlying68 rfl infoBl ?_) | (refine wpList_st (op := ⟨_, .store 68 _ _, _, _, _, _⟩) rfl 68 _ _ rfl w.heap.size (bl (fun j => u.testBit j)) rfl rfl P1 infoBl rfl (bl_one _) ?_; intro W9 hW9 P9))
          refine ret_a3 (g := w.heap.size) (cs := bl (fun j => u.testBit j)) rfl Tryz.underlying68 infoBl rfl P9 rfl ⟨?_, hW9 ▸ gb_row2 hG (Nat.le_refl _)⟩
          rw [← HZ.out, ← HQ.out]; rfl
        · have h5 : ¬ (48 : Int) ≤ ((Sc.bt s k : Nat) : Int) := by omega
          clear hd hdg hlo
          go_wp2_with (first | (refine wpList_ld (op := ⟨_, .load 68 _, _, _, _, _⟩) rfl 68 _ rfl W1.heap.size rfl (bl (fun j => u.testBit j)) P2 Tryz.underlying68 rfl infoBl ?_) | (refine wpList_st (op := ⟨_, .store 68 _ _, _, _, _, _⟩) rfl 68 _ _ rfl w.heap.size (bl (fun j => u.testBit j)) rfl rfl P1 infoBl rfl (bl_one _) ?_; intro W9 hW9 P9))
          refine ret_a3 (g := w.heap.size) (cs := bl (fun j => u.testBit j)) rfl Tryz.underlying68 infoBl rfl P9 rfl ⟨?_, hW9 ▸ gb_row2 hG (Nat.le_refl _)⟩
          rw [← HZ.out, ← HQ.out]; rfl
      · have hl' : ¬ (k : Int) < (s.size : Int) := by omega
        clear hd hdg
        go_wp2_with (first | (refine wpList_ld (op := ⟨_, .load 68 _, _, _, _, _⟩) rfl 68 _ rfl W1.heap.size rfl (bl (fun j => u.testBit j)) P2 Tryz.underlying68 rfl infoBl ?_) | (refine wpList_st (op := ⟨_, .store 68 _ _, _, _, _, _⟩) rfl 68 _ _ rfl w.heap.size (bl (fun j => u.testBit j)) rfl rfl P1 infoBl rfl (bl_one _) ?_; intro W9 hW9 P9))
        refine ret_a3 (g := w.heap.size) (cs := bl (fun j => u.testBit j)) rfl Tryz.underlying68 infoBl rfl P9 rfl ⟨?_, hW9 ▸ gb_row2 hG (Nat.le_refl _)⟩
        rw [← HZ.out, ← HQ.out]; rfl
end Go.Proofs.YtlkdenanbofliaaGreatDoor
