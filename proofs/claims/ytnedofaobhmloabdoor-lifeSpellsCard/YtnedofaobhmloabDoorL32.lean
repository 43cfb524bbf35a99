/- What shuffled of the statements answers. -/
import Derived.Test.YtnedofaobhmloabDoorLs
import Derived.Test.YtnedofaobhmloabDoorL10
import Derived.Test.YtnedofaobhmloabDoorWb
import Derived.Handy
import Derived.Deep.LoopGhost
import Derived.Laws.IdiomStrings
namespace Go.Proofs.YtnedofaobhmloabDoor
open Go.RowKit
set_option linter.unusedVariables false
set_option linter.unusedSimpArgs false
set_option maxRecDepth 100000

theorem uBSm : Tryd.prog.underlying 42 = some (.slice 5) := by kernel_rfl
theorem u5m : Tryd.prog.underlying 5 = some (.int .u8) := by kernel_rfl
theorem u9m : Tryd.prog.underlying 9 = some .string := by kernel_rfl
theorem gb_rowJ {a b c : World} {r : Option Nat} (h : a.grownBy b none) (k : b.grownBy c r) (hr : ∀ i, r = some i → a.heap.size ≤ i) : a.grownBy c none :=
  ⟨k.os.trans h.os, k.tape.trans h.tape, k.output.trans h.output, Nat.le_trans h.size k.size, fun i hi hne => (k.block i (Nat.lt_of_lt_of_le hi h.size) (fun e => by have := hr i e.symm; omega)).trans (h.block i hi hne)⟩
/-- A word's bit, asked by a shift. -/
theorem shb (v k : Nat) (hk : k < 16) (hv : v < 65536) : bits .and .u16 ((v : Int) / 2 ^ k) 1 = ((if v.testBit k then 1 else 0 : Nat) : Int) := by
  have h1 : ((v : Int) / 2 ^ k) = ((v / 2 ^ k : Nat) : Int) := by simp
  have h2 : v / 2 ^ k < 65536 := Nat.lt_of_le_of_lt (Nat.div_le_self _ _) hv
  have h3 : bits .and .u16 ((v / 2 ^ k : Nat) : Int) 1 = ((v / 2 ^ k &&& 1 : Nat) : Int) := and16 (v / 2 ^ k) 1 h2 (by decide)
  rw [h1, h3, Nat.and_one_is_mod, Nat.testBit_eq_decide_div_mod_eq]
  by_cases h : v / 2 ^ k % 2 = 1
  · simp [h]
  · have : v / 2 ^ k % 2 = 0 := by omega
    simp [this]
theorem tdl_step {v k : Nat} (hk : k < 10) (h : v.testBit k = true) : Lib.byteCells (Lf.tdl v (k + 1)) = Lib.byteCells (Lf.tdl v k) ++ [.int .u8 (48 + (k : Int))] := by
  rw [Lf.tdl, h, if_pos rfl]
  have e : (48 + (k : Int)) = ((k + 48 : Nat) : Int) := by omega
  rw [e]
  exact (bc_app (Lf.tdl v k) k hk).symm
theorem one_bc (l : List UInt8) : ∀ u ∈ Lib.byteCells l, u.oneCell' = true := fun u hu => by
  unfold Lib.byteCells at hu
  obtain ⟨b, _, rfl⟩ := List.mem_map.1 hu
  rfl
set_option maxHeartbeats 4000000 in
theorem shuffledC (v q : Nat) (hv : v < 65536) (hq : q < 18446744073709551616) (w : World) : Calls Tryd.prog 7 #[.int .u16 v, .int .u64 q] w fun e w' => e = .returned (.string ⟨(Lf.shd v q).toArray⟩) ∧ w.grownBy w' none := by
  obtain ⟨i0, hi, hz0, hz1, hz2⟩ := infoU8
  go_enter Tryd.func7, Tryd.ntmps7
  go_wp2
  go_loopw [5, 6] (fun l i wr => ∃ k : Nat, k ≤ 9 ∧ i = .int .i64 k ∧ wr.ownsRow w.heap.size 5 1 l (Lf.tdl v k).length (Lib.byteCells (Lf.tdl v k)) ∧ w.grownBy wr none) (fun _ i _ => 9 - (intOf i).toNat)
  case atStart => exact ⟨0, by omega, rfl, World.ownsRow_nil _ _ _ _, World.grownBy.refl _ _⟩
  case round =>
    obtain ⟨k, hk, rfl, hown, hG⟩ := hrel
    have hln := Lf.tdl_len v k
    obtain ⟨sp, cap, hvf⟩ : ∃ sp cap, u5 = .slice sp (Lf.tdl v k).length cap := by
      rcases hown.2 with ⟨h1, h2⟩ | ⟨g, cap, cur, h1, _⟩
      · exact ⟨none, 0, by rw [h1, h2]⟩
      · exact ⟨_, _, h1⟩
    by_cases hk' : k < 9
    · subst hvf
      have hl' : (k : Int) < 9 := by omega
      have hsh := shb v k (by omega) hv
      have hlen : (Lib.byteCells (Lf.tdl v k)).length = (Lf.tdl v k).length := by unfold Lib.byteCells; rw [List.length_map]
      cases ht : v.testBit k with
      | true =>
        rw [ht] at hsh
        simp only [if_true] at hsh
        have dw : IntKind.u8.wrap (48 + (k : Int)) = 48 + (k : Int) := by rw [IntKind.wrap_u8]; omega
        go_wp2_with (at_builtin; refine wpList_append_own _ rfl _ _ 42 rfl w.heap.size 5 i0 (.int .u8 0) 1 1 tBs hi hz0 hz1 hz2 rfl (by decide) _ _ _ rfl (hown.alloc _) ⟨wr.heap.size, 0, none⟩ 1 1 [.int .u8 (48 + (k : Int))] rfl rfl ?c1 ?c2 ?c3 ?c4 ?c5 ?_)
        try (case c1 => (intro j u hj; match j, hj with | 0, hj => (simp at hj; subst hj; simp [Addr.add])))
        case c2 => first | rfl | (intro u hu; simp at hu; subst hu; rfl)
        case c3 => unfold maxLen; omega
        case c4 => omega
        case c5 => have := hG.size; first | omega | (simp; omega)
        intro v' w2 hown' hgrow _
        have G2 : w.grownBy w2 none := gb_rowJ (gb_alloc hG _) hgrow (fun q hq => (hown.lt q hq).1)
        have hown2 : w2.ownsRow w.heap.size 5 1 v' (Lf.tdl v (k + 1)).length (Lib.byteCells (Lf.tdl v (k + 1))) := by
          rw [tdl_step (by omega) ht, show (Lf.tdl v (k + 1)).length = (Lf.tdl v k).length + 1 by rw [Lf.tdl, ht, if_pos rfl, List.length_append]; rfl]
          exact hown'
        clear hown'
        go_wp2
        exact ⟨⟨k + 1, by omega, by simp, hown2, G2⟩, by simp [intOf]; omega⟩
      | false =>
        rw [ht] at hsh
        simp only [Bool.false_eq_true, if_false] at hsh
        have HT : Hid (Lf.tdl v (k + 1) = Lf.tdl v k) := by unfold Hid; rw [Lf.tdl, ht]; simp
        clear ht
        go_wp2
        exact ⟨⟨k + 1, by omega, by simp, by rw [HT.out]; exact hown, hG⟩, by simp [intOf]; omega⟩
    · obtain rfl : k = 9 := by omega
      subst hvf
      go_wp2
      clear hln
      generalize hL9 : Lf.tdl v 9 = L9 at *
      have HD : Hid ([] ++ Lf.shu q L9 = Lf.shd v q) := by unfold Hid Lf.shd; rw [hL9]; rfl
      have hl9 : L9.length ≤ 9 := by rw [← hL9]; exact Lf.tdl_len v 9
      clear hL9
      go_loopg [1, 5, 7] L9.length (fun gk ov lv sv wr => ∃ (q' : Nat) (l' d : List UInt8), l'.length = gk ∧ q' < 18446744073709551616 ∧ ov = .int .u64 q' ∧ sv = .string ⟨d.toArray⟩ ∧ d.length + gk ≤ 9 ∧ wr.ownsRow w.heap.size 5 1 lv l'.length (Lib.byteCells l') ∧ w.grownBy wr none ∧ Hid (d ++ Lf.shu q' l' = Lf.shd v q))
      case atStart => exact ⟨q, L9, [], rfl, hq, rfl, rfl, by simpa using hl9, hown, hG, HD⟩
      case round =>
        clear hown hG HD hl9
        obtain ⟨q', l', d, rfl, hq', rfl, rfl, hd9, hown, hG, HD⟩ := hrel
        have hlen : (Lib.byteCells l').length = l'.length := by unfold Lib.byteCells; rw [List.length_map]
        by_cases h0 : l'.length = 0
        · have e1 : l' = [] := List.length_eq_zero_iff.1 h0
          subst e1
          have HE : Hid (Lf.shd v q = d) := by have := HD.out; unfold Hid; rw [← this]; show d ++ [] = d; simp
          obtain ⟨sp2, cap2, hvf⟩ : ∃ sp cap, u5 = .slice sp 0 cap := by
            rcases hown.2 with ⟨h1, h2⟩ | ⟨g, cap, cur, h1, _⟩
            · exact ⟨none, 0, h1⟩
            · exact ⟨_, _, h1⟩
          subst hvf
          go_wp2
          go_ret
          exact ⟨by rw [HE.out]; rfl, hG⟩
        · obtain ⟨g, cp, cur, hvf, hgb, hcur, hnc, hcm, hcs, htk⟩ : ∃ g cap cur, u5 = .slice (some ⟨g, 0, none⟩) l'.length cap ∧ w.heap.size ≤ g ∧ wr.heap[g]? = some (.cells cur 5 (0, 0)) ∧ l'.length ≤ cap ∧ cap ≤ maxLen ∧ cur.size = cap * 1 ∧ cur.toList.take (l'.length * 1) = Lib.byteCells l' := by
            rcases hown.2 with ⟨h1, h2⟩ | h
            · exact absurd h2 h0
            · exact h
          subst hvf
          unfold maxLen at hcm
          obtain ⟨k, HK⟩ : ∃ k, Hid (q' % l'.length = k) := ⟨_, rfl⟩
          have hkl : k < l'.length := by rw [← HK.out]; exact Nat.mod_lt _ (by omega)
          have hn0 : 0 < l'.length := Nat.pos_of_ne_zero h0
          have hpos : (0 : Int) < (l'.length : Int) := by omega
          have hw1 : IntKind.u64.wrap (l'.length : Int) = (l'.length : Int) := by rw [IntKind.wrap_u64]; omega
          have hrem : ((q' : Nat) : Int) % (l'.length : Int) = (k : Int) := by rw [← HK.out]; rfl
          have hnz : ¬ (l'.length : Int) = 0 := by omega
          have hwk : IntKind.i64.wrap (k : Int) = (k : Int) := by rw [IntKind.wrap_i64]; omega
          have hk1 : (k : Int) + 1 ≤ (cp : Int) := by omega
          have hk2 : (k : Int) ≤ (cp : Int) := by omega
          have hk3 : (k : Int) < (l'.length : Int) := by omega
          have hk4 : (k : Int) + 1 ≤ (l'.length : Int) := by omega
          have hcl := hown.cells (g := g) rfl
          have hxk : l'[k]? = some (l'.getD k 0) := by rw [List.getD_eq_getElem?_getD, List.getElem?_eq_getElem hkl]; rfl
          have HC : (convert 42 9 (.slice (some ⟨g, k, none⟩) 1 (cp - k))).run Tryd.prog wr = .ok (.string ⟨[l'.getD k 0].toArray⟩) wr := by
            have hc0 : wr.cell? ⟨g, k, none⟩ = some (.int .u8 ((l'.getD k 0).toNat : Int)) := by
              have := hcl k (.int .u8 ((l'.getD k 0).toNat : Int)) (by unfold Lib.byteCells; rw [List.getElem?_map, hxk]; rfl)
              rw [add_mid, Nat.zero_add] at this
              exact this
            exact run_convert_bytes_back (P := Tryd.prog) wr 42 9 5 ⟨g, k, none⟩ (cp - k) [l'.getD k 0] uBSm u5m u9m (fun j hj => by
              have : j = 0 := by simp at hj; omega
              subst this
              rw [add_mid, Nat.add_zero]
              exact hc0)
          have HA : ∀ w : World, (Op.stringOp .add ⟨d.toArray⟩ ⟨[l'.getD k 0].toArray⟩).run Tryd.prog w = .ok (.string ⟨(d ++ [l'.getD k 0]).toArray⟩) w := fun w => by
            rw [run_string_add_sum w _ _ (by show d.toArray.size + 1 ≤ _; rw [List.size_toArray]; omega), ByteArray.mk_append_mk]
          have HS : Hid ((d ++ [l'.getD k 0]) ++ Lf.shu (q' / 3) (l'.take k ++ l'.drop (k + 1)) = Lf.shd v q) := by
            unfold Hid
            rw [← HD.out, List.append_assoc, ← List.eraseIdx_eq_take_drop_succ]
            congr 1
            unfold Lf.shu
            rw [List.length_eraseIdx_of_lt hkl]
            cases hl : l'.length with
            | zero => omega
            | succ m =>
              rw [Nat.add_sub_cancel]
              show [l'.getD k 0] ++ Lf.shf m (q' / 3) (l'.eraseIdx k) = l'.getD (q' % l'.length) 0 :: Lf.shf m (q' / 3) (l'.eraseIdx (q' % l'.length))
              rw [HK.out]
              rfl
          have hT1 : (l'.take k).length = k := by rw [List.length_take]; omega
          have hT2 : (l'.drop (k + 1)).length = l'.length - (k + 1) := List.length_drop
          have hA1 : ∀ j u, (Lib.byteCells (l'.take k))[j]? = some u → wr.cell? ((⟨g, 0, none⟩ : Addr).add j) = some u := fun j u hu => by
            refine hcl j u ?_
            unfold Lib.byteCells at hu ⊢
            rw [List.map_take] at hu
            rw [List.getElem?_take] at hu
            split at hu
            · exact hu
            · cases hu
          have hA2 : ∀ j u, (Lib.byteCells (l'.drop (k + 1)))[j]? = some u → wr.cell? ((⟨g, k + 1, none⟩ : Addr).add j) = some u := fun j u hu => by
            unfold Lib.byteCells at hu
            rw [List.map_drop, List.getElem?_drop] at hu
            have := hcl (k + 1 + j) u hu
            rw [add_mid, Nat.zero_add] at this
            rw [add_mid]
            exact this
          generalize l'.getD k 0 = x at *
          generalize hN : l'.length = n at *
          have HN : Hid (l'.length = n) := hN
          clear hN
          generalize hD1 : (⟨d.toArray⟩ : ByteArray) = DB at HA
          generalize hX1 : (⟨[x].toArray⟩ : ByteArray) = XB at HA HC
          have hT3 : (l'.take k ++ l'.drop (k + 1)).length = n - 1 := by rw [List.length_append, hT1, hT2]; omega
          by_cases hce : k + 1 = cp
          · have hnk : n = k + 1 := by omega
            have hdr : l'.drop (k + 1) = [] := List.length_eq_zero_iff.1 (by rw [hT2]; omega)
            have HNK : Hid (n = k + 1) := hnk
            have hn1 : n - (k + 1) = 0 := by omega
            have HC1 : (convert 42 9 (.slice (some ⟨g, k, none⟩) 1 1)).run Tryd.prog wr = .ok (.string XB) wr := by have := HC; rw [show cp - k = 1 by omega] at this; exact this
            have hce' : cp = k + 1 := by omega
            clear hnk hce
            go_wp2_with (first
            | (at_builtin; (fail_if_success (guard_hyp ow1)); refine wpList_append_own _ rfl _ _ 42 rfl w.heap.size 5 i0 (.int .u8 0) 1 1 tBs hi hz0 hz1 hz2 rfl (by decide) _ _ _ rfl (World.ownsRow_nil wr w.heap.size 5 1) ⟨g, 0, none⟩ k (k + 1) (Lib.byteCells (l'.take k)) rfl (by rw [Nat.mul_one]; unfold Lib.byteCells; rw [List.length_map]; exact hT1) hA1 (one_bc _) (by unfold maxLen; omega) (by omega) hG.size ?_; intro v1 w2 ow1 hgr1 _; have hgr1' : wr.grownBy w2 none := hgr1; have G2 := gb_trans hG hgr1'; have hA3 : ∀ j u, (Lib.byteCells (l'.drop (k + 1)))[j]? = some u → w2.cell? ((⟨g, k + 1, none⟩ : Addr).add j) = some u := fun j u hu => hgr1'.cell (hA2 j u hu) (by simp))
            | (at_builtin; refine wpList_append_own _ rfl _ _ 42 rfl w.heap.size 5 i0 (.int .u8 0) 1 1 tBs hi hz0 hz1 hz2 rfl (by decide) _ _ _ rfl ow1 ⟨g, 0, none⟩ 0 0 [] rfl rfl (fun j u hu => by simp at hu) (fun u hu => by cases hu) (by unfold maxLen; omega) (by omega) G2.size ?_; intro v2 w3 ow2 hgr2 _; have G3 := gb_rowJ G2 hgr2 (fun q hq => (ow1.lt q hq).1)))
            have hfin : w3.ownsRow w.heap.size 5 1 v2 (l'.take k ++ l'.drop (k + 1)).length (Lib.byteCells (l'.take k ++ l'.drop (k + 1))) := by
              have e1 : Lib.byteCells (l'.take k ++ l'.drop (k + 1)) = [] ++ Lib.byteCells (l'.take k) ++ [] := by rw [hdr, List.append_nil]; simp
              rw [e1, show (l'.take k ++ l'.drop (k + 1)).length = 0 + k + 0 by rw [hT3]; have := HNK.out; omega]
              exact ow2
            have hnk := HNK.out
            go_roundg k
            case measure => omega
            case rel => exact ⟨q' / 3, l'.take k ++ l'.drop (k + 1), d ++ [x], by rw [hT3]; omega, by omega, by simp, rfl, by simp; omega, hfin, G3, HS⟩
          · have hce2 : ¬ (cp : Int) = (k : Int) + 1 := by omega
            have hce3 : ¬ cp - (k + 1) = 0 := by omega
            have hce4 : ¬ cp = k + 1 := by omega
            go_wp2_with (first
            | (at_builtin; (fail_if_success (guard_hyp ow1)); refine wpList_append_own _ rfl _ _ 42 rfl w.heap.size 5 i0 (.int .u8 0) 1 1 tBs hi hz0 hz1 hz2 rfl (by decide) _ _ _ rfl (World.ownsRow_nil wr w.heap.size 5 1) ⟨g, 0, none⟩ k cp (Lib.byteCells (l'.take k)) rfl (by rw [Nat.mul_one]; unfold Lib.byteCells; rw [List.length_map]; exact hT1) hA1 (one_bc _) (by unfold maxLen; omega) (by omega) hG.size ?_; intro v1 w2 ow1 hgr1 _; have hgr1' : wr.grownBy w2 none := hgr1; have G2 := gb_trans hG hgr1'; have hA3 : ∀ j u, (Lib.byteCells (l'.drop (k + 1)))[j]? = some u → w2.cell? ((⟨g, k + 1, none⟩ : Addr).add j) = some u := fun j u hu => hgr1'.cell (hA2 j u hu) (by simp))
            | (at_builtin; refine wpList_append_own _ rfl _ _ 42 rfl w.heap.size 5 i0 (.int .u8 0) 1 1 tBs hi hz0 hz1 hz2 rfl (by decide) _ _ _ rfl ow1 ⟨g, k + 1, none⟩ (n - (k + 1)) (cp - (k + 1)) (Lib.byteCells (l'.drop (k + 1))) rfl (by rw [Nat.mul_one]; unfold Lib.byteCells; rw [List.length_map]; exact hT2) hA3 (one_bc _) (by unfold maxLen; omega) (by omega) G2.size ?_; intro v2 w3 ow2 hgr2 _; have G3 := gb_rowJ G2 hgr2 (fun q hq => (ow1.lt q hq).1)))
            have hfin : w3.ownsRow w.heap.size 5 1 v2 (l'.take k ++ l'.drop (k + 1)).length (Lib.byteCells (l'.take k ++ l'.drop (k + 1))) := by
              have e1 : Lib.byteCells (l'.take k ++ l'.drop (k + 1)) = [] ++ Lib.byteCells (l'.take k) ++ Lib.byteCells (l'.drop (k + 1)) := by unfold Lib.byteCells; rw [List.map_append]; rfl
              rw [e1, show (l'.take k ++ l'.drop (k + 1)).length = 0 + k + (n - (k + 1)) by rw [hT3]; omega]
              exact ow2
            go_roundg (n - 1)
            case measure => omega
            case rel => exact ⟨q' / 3, l'.take k ++ l'.drop (k + 1), d ++ [x], hT3, by omega, by simp, rfl, by simp; omega, hfin, G3, HS⟩
end Go.Proofs.YtnedofaobhmloabDoor
