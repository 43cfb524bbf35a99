/- What lists of the document answers. -/
import Derived.Test.YtlkdenanbofliaaGreatDoorG12
import Derived.Test.YtlkdenanbofliaaGreatDoorG2
namespace Go.Proofs.YtlkdenanbofliaaGreatDoor
open Go.RowKit
set_option linter.unusedVariables false
set_option linter.unusedSimpArgs false
set_option maxRecDepth 100000

namespace Gn
/-- The place that the document tells: none where there is no fault. -/
def lat (r : Lf.PR) : Nat := if r.er = 0 then 0 else r.a
/-- How far the document's lists have come: in the first, or in the second. -/
def Ls (s : ByteArray) (kk k u0 u1 : Nat) : Prop := (kk = 0 ∧ u1 = 0 ∧ Lf.dg s k u0 = Lf.dg s 0 0) ∨ (kk = 1 ∧ ∃ a, tl s 0 = ⟨u0, a, 0⟩ ∧ a ≤ s.size ∧ Lf.dg s k u1 = Lf.dg s a 0)
theorem lists_end {s : ByteArray} {kk u0 u1 : Nat} (h : Ls s kk s.size u0 u1) : listsR s = Lf.bad s.size 80 := by
  have hd : Lf.isD (Sc.bt s s.size) = false := by rw [Sc.bt_off (Nat.lt_irrefl _)]; rfl
  have h47 : ¬ Sc.bt s s.size = 47 := by rw [Sc.bt_off (Nat.lt_irrefl _)]; decide
  rcases h with ⟨_, _, h⟩ | ⟨_, a, h1, h2, h⟩
  · have e : tl s 0 = ⟨0, s.size, 80⟩ := by
      unfold tl
      rw [← h, Lf.dg_no hd]
      unfold tl1
      simp [h47]
    unfold listsR
    rw [e]
    unfold lists1
    simp
  · have e : tl s a = ⟨0, s.size, 80⟩ := by
      unfold tl
      rw [← h, Lf.dg_no hd]
      unfold tl1
      simp [h47]
    unfold listsR
    rw [h1]
    unfold lists1
    simp only [if_true]
    rw [e]
    unfold lists2
    simp
end Gn
set_option maxHeartbeats 8000000 in
theorem listsD' (s : ByteArray) (hs : s.size ≤ 1048576) (w : World) : Calls Tryz.prog 21 #[.string s] w fun e w' => e = .returned (.tuple #[.agg #[.int .u8 (Gn.listsR s).ho, .int .u16 (Gn.listsR s).bo, .int .u16 (Gn.listsR s).st], .int .i64 (Gn.lat (Gn.listsR s) : Nat), .int .i64 (Gn.listsR s).er]) ∧ w.grownBy w' none := by
  obtain ⟨fs, hfs'⟩ := underLf
  have hfs : Hid (Tryz.prog.underlying 25 = some (.struct fs)) := hfs'
  clear hfs'
  obtain ⟨W1, hW1, sz1, g1, B1⟩ := boxn w #[.int .u8 0, .int .u16 0, .int .u16 0] 25
  obtain ⟨W2, hW2, sz2, g2, C2⟩ := boxn W1 #[.int .u16 0, .int .u16 0] 73
  have B2 := B1.kept g2 (by simp)
  have G2 := gb_trans g1 g2
  have HM3 : Hid (W1.heap.size ≠ w.heap.size) := by have := sz1.out; unfold Hid; omega
  go_enter Tryz.func21, Tryz.ntmps21
  go_wp2
  go_loopw [6, 7, 8] (fun vk vn vi wr => ∃ kk k u0 u1 : Nat, k ≤ s.size ∧ u0 < 1024 ∧ u1 < 1024 ∧ vk = .int .i64 kk ∧ vn = .int .i64 (Gn.nz s k) ∧ vi = .int .i64 k ∧ Bo wr w.heap.size 25 #[.int .u8 0, .int .u16 0, .int .u16 0] ∧ Bo wr W1.heap.size 73 #[.int .u16 u0, .int .u16 u1] ∧ w.grownBy wr none ∧ Gn.Ls s kk k u0 u1) (fun _ _ vi _ => s.size - (intOf vi).toNat)
  case atStart => exact ⟨0, 0, 0, 0, by omega, by decide, by decide, rfl, rfl, rfl, B2, C2, G2, Or.inl ⟨rfl, rfl, rfl⟩⟩
  case round =>
    obtain ⟨kk, k, u0, u1, hk, hu0, hu1, rfl, rfl, rfl, hB, hC, hG, hls⟩ := hrel
    have c0 := hC.cell 0 (v := .int .u16 u0) rfl
    have c1 := hC.cell 1 (v := .int .u16 u1) rfl
    have f0 := hC.frozen 0
    have f1 := hC.frozen 1
    by_cases hlt : k < s.size
    · have hlt' : (k : Int) < (s.size : Int) := by omega
      have hbt := Sc.bt_at hlt
      have hnzl := Gn.nz_lt s k
      rcases hls with ⟨rfl, hst⟩ | ⟨rfl, a, hst⟩
      · by_cases h47 : Sc.bt s k = 47
        · have hd : Lf.isD (Sc.bt s k) = false := by rw [h47]; rfl
          have e47 : ((Sc.bt s k : Nat) : Int) = 47 := by omega
          have e47' : (((Sc.bt s k : Nat) : Int) == 47) = true := by simp; omega
          have HT : Hid (Gn.tl s 0 = ⟨u0, k + 1, 0⟩) := by
            unfold Hid Gn.tl
            rw [← hst.2, Lf.dg_no hd]
            unfold Gn.tl1
            simp [h47]
          have HN : Hid (Gn.nz s (k + 1) = Gn.nz s k) := by
            unfold Hid
            rw [Gn.nz, if_neg (fun e => by omega)]
          obtain rfl : u1 = 0 := hst.1
          clear hst hd h47
          go_wp2
          first
            | exact ⟨⟨1, k + 1, u0, 0, by omega, hu0, hu1, by first | rfl | simp, by rw [HN.out], by first | rfl | go_num | simp, hB, hC, hG, Or.inr ⟨rfl, k + 1, HT.out, by omega, rfl⟩⟩, by simp [intOf]; omega⟩
            | (go_roundw; (case rel => exact ⟨1, k + 1, u0, 0, by omega, hu0, hu1, by first | rfl | simp, by rw [HN.out], by first | rfl | go_num | simp, hB, hC, hG, Or.inr ⟨rfl, k + 1, HT.out, by omega, rfl⟩⟩); (case measure => (simp [intOf]; omega)))
            | (refine ⟨?ex, ?ms⟩; (case ms => (simp [intOf]; omega)); (case ex => ((repeat apply Exists.intro); refine ⟨?rl, ?eq⟩; (case eq => (repeat' (first | rfl | apply And.intro))); (case rl => exact ⟨1, k + 1, u0, 0, by omega, hu0, hu1, by first | rfl | simp, by rw [HN.out], by first | rfl | go_num | simp, hB, hC, hG, Or.inr ⟨rfl, k + 1, HT.out, by omega, rfl⟩⟩))))
        · have e47 : ¬ ((Sc.bt s k : Nat) : Int) = 47 := by omega
          have e47' : (((Sc.bt s k : Nat) : Int) == 47) = false := by simp; omega
          have hD := fun w => digitD (Sc.bt s k) (Sc.bt_lt s k) w
          cases hd : Lf.isD (Sc.bt s k) with
          | false =>
            rw [hd] at hD
            have HR : Hid (Gn.listsR s = Lf.bad k 80) := by
              have e : Gn.tl s 0 = ⟨0, k, 80⟩ := by
                unfold Gn.tl
                rw [← hst.2, Lf.dg_no hd]
                unfold Gn.tl1
                simp [h47]
              unfold Hid Gn.listsR
              rw [e]
              unfold Gn.lists1
              simp
            clear hst hd h47
            go_wp2_with (first | (go_at_call 41; refine (hD _).mono ?_; rintro e w3 ⟨rfl, hw3⟩; subst w3) | (refine wpList_st (op := ⟨_, .store 25 _ _, _, _, _, _⟩) rfl 25 _ _ rfl w.heap.size #[.int .u8 0, .int .u16 0, .int .u16 0] rfl rfl hB infoLf rfl (by simp [Value.oneCell']) ?_; intro W9 hW9 B9))
            refine ret_c3 (g := w.heap.size) (cs := #[.int .u8 0, .int .u16 0, .int .u16 0]) rfl hfs.out infoLf rfl B9 rfl ⟨?_, hW9 ▸ gb_row2 hG (Nat.le_refl _)⟩
            rw [HR.out]; rfl
          | true =>
            rw [hd] at hD
            obtain ⟨x, hx10, hx⟩ := d_ex hd
            have e48 : Sc.bt s k - 48 = x := by omega
            have w1 : IntKind.u8.wrap (((x + 48 : Nat) : Int) - 48) = (x : Int) := by rw [IntKind.wrap_u8]; omega
            have hp16 := shl16 (n := x) (by omega)
            have ha := and16 u0 (2 ^ x) (by omega) (Lf.p16 (by omega))
            have ho := or16 u0 (2 ^ x) (by omega) (Lf.p16 (by omega))
            have hn1 := @Lf.and_one u0 x
            have hlt2 := Lf.or_lt hu0 hx10
            cases ht : u0.testBit x with
            | true =>
              have HR : Hid (Gn.listsR s = Lf.bad k 81) := by
                have e : Gn.tl s 0 = ⟨0, k, 81⟩ := by
                  unfold Gn.tl
                  rw [← hst.2, Lf.dg_tw hd (by rw [e48]; exact ht)]
                  unfold Gn.tl1
                  simp [h47]
                unfold Hid Gn.listsR
                rw [e]
                unfold Gn.lists1
                simp
              have hz : ¬ ((u0 &&& 2 ^ x : Nat) : Int) = 0 := fun e => by
                have h2 := hn1.1 (by omega)
                rw [ht] at h2; cases h2
              rw [hx] at hD hbt e47 e47'
              clear hst hd h47 ht hn1 hlt2 e48 hx
              generalize u0 &&& 2 ^ x = y at ha hz
              generalize u0 ||| 2 ^ x = z at ho
              generalize 2 ^ x = q at hp16 ha ho
              go_wp2_with (first | (go_at_call 41; refine (hD _).mono ?_; rintro e w3 ⟨rfl, hw3⟩; subst w3) | (refine wpList_st (op := ⟨_, .store 25 _ _, _, _, _, _⟩) rfl 25 _ _ rfl w.heap.size #[.int .u8 0, .int .u16 0, .int .u16 0] rfl rfl hB infoLf rfl (by simp [Value.oneCell']) ?_; intro W9 hW9 B9))
              refine ret_c3 (g := w.heap.size) (cs := #[.int .u8 0, .int .u16 0, .int .u16 0]) rfl hfs.out infoLf rfl B9 rfl ⟨?_, hW9 ▸ gb_row2 hG (Nat.le_refl _)⟩
              rw [HR.out]; rfl
            | false =>
              have HD : Hid (Lf.dg s (k + 1) (u0 ||| 2 ^ x) = Lf.dg s 0 0) := by
                unfold Hid
                rw [← hst.2, Lf.dg_go hd (by rw [e48]; exact ht), e48]
              have hz : ((u0 &&& 2 ^ x : Nat) : Int) = 0 := by rw [hn1.2 ht]; rfl
              rw [hx] at hD hbt e47 e47'
              clear hd h47 ht hn1 e48
              generalize u0 &&& 2 ^ x = y at ha hz
              generalize u0 ||| 2 ^ x = z at ho hlt2 HD
              generalize 2 ^ x = q at hp16 ha ho
              have hu0 := hlt2
              obtain ⟨V6, hV6⟩ : ∃ V, wr.setCell ⟨W1.heap.size, 0, none⟩ (.int .u16 (z : Nat)) = V := ⟨_, rfl⟩
              have B6 : Bo V6 w.heap.size 25 #[.int .u8 0, .int .u16 0, .int .u16 0] := hV6 ▸ hB.set2 HM3.out
              have C6 : Bo V6 W1.heap.size 73 #[.int .u16 (z : Nat), .int .u16 u1] := hV6 ▸ hC.set 0 _
              have G6 : w.grownBy V6 none := hV6 ▸ gb_new hG g1.size (.int .u16 (z : Nat))
              by_cases h9 : x = 9
              · by_cases hneg : Gn.nz s k < 0
                · have b9' : (((x + 48 : Nat) : Int) == 57) = true := by simp; omega
                  have hx9 : Hid (x = 9) := h9
                  clear h9
                  have HN : Hid (Gn.nz s (k + 1) = (k : Int)) := by
                    unfold Hid
                    rw [Gn.nz, if_pos ⟨by have := hx9.out; omega, hneg⟩]
                  generalize Gn.nz s k = nv at hneg HN ⊢
                  clear hx
                  go_wp2_with (first | (go_at_call 41; refine (hD _).mono ?_; rintro e w3 ⟨rfl, hw3⟩; subst w3))
                  all_goals first
                    | (exfalso; have := hx9.out; omega)
                    | (first
                         | exact ⟨⟨0, k + 1, z, u1, by omega, hu0, hu1, by first | rfl | simp, by rw [HN.out], by first | rfl | go_num | simp, B6, C6, G6, Or.inl ⟨rfl, hst.1, HD.out⟩⟩, by simp [intOf]; omega⟩
                         | (go_roundw; (case rel => exact ⟨0, k + 1, z, u1, by omega, hu0, hu1, by first | rfl | simp, by rw [HN.out], by first | rfl | go_num | simp, B6, C6, G6, Or.inl ⟨rfl, hst.1, HD.out⟩⟩); (case measure => (simp [intOf]; omega)))
                         | (refine ⟨?ex, ?ms⟩; (case ms => (simp [intOf]; omega)); (case ex => ((repeat apply Exists.intro); refine ⟨?rl, ?eq⟩; (case eq => (repeat' (first | rfl | apply And.intro))); (case rl => exact ⟨0, k + 1, z, u1, by omega, hu0, hu1, by first | rfl | simp, by rw [HN.out], by first | rfl | go_num | simp, B6, C6, G6, Or.inl ⟨rfl, hst.1, HD.out⟩⟩)))))
                · have b9' : (((x + 48 : Nat) : Int) == 57) = true := by simp; omega
                  have hx9 : Hid (x = 9) := h9
                  clear h9
                  have HN : Hid (Gn.nz s (k + 1) = Gn.nz s k) := by
                    unfold Hid
                    rw [Gn.nz, if_neg (fun e => by omega)]
                  generalize Gn.nz s k = nv at hneg HN ⊢
                  clear hx
                  go_wp2_with (first | (go_at_call 41; refine (hD _).mono ?_; rintro e w3 ⟨rfl, hw3⟩; subst w3))
                  all_goals first
                    | (exfalso; have := hx9.out; omega)
                    | (first
                         | exact ⟨⟨0, k + 1, z, u1, by omega, hu0, hu1, by first | rfl | simp, by rw [HN.out], by first | rfl | go_num | simp, B6, C6, G6, Or.inl ⟨rfl, hst.1, HD.out⟩⟩, by simp [intOf]; omega⟩
                         | (go_roundw; (case rel => exact ⟨0, k + 1, z, u1, by omega, hu0, hu1, by first | rfl | simp, by rw [HN.out], by first | rfl | go_num | simp, B6, C6, G6, Or.inl ⟨rfl, hst.1, HD.out⟩⟩); (case measure => (simp [intOf]; omega)))
                         | (refine ⟨?ex, ?ms⟩; (case ms => (simp [intOf]; omega)); (case ex => ((repeat apply Exists.intro); refine ⟨?rl, ?eq⟩; (case eq => (repeat' (first | rfl | apply And.intro))); (case rl => exact ⟨0, k + 1, z, u1, by omega, hu0, hu1, by first | rfl | simp, by rw [HN.out], by first | rfl | go_num | simp, B6, C6, G6, Or.inl ⟨rfl, hst.1, HD.out⟩⟩)))))
              · have b9 : ¬ ((x + 48 : Nat) : Int) = 57 := by omega
                have b9' : (((x + 48 : Nat) : Int) == 57) = false := by simp; omega
                have HN : Hid (Gn.nz s (k + 1) = Gn.nz s k) := by
                  unfold Hid
                  rw [Gn.nz, if_neg (fun e => by omega)]
                generalize Gn.nz s k = nv at HN ⊢
                clear hx
                go_wp2_with (first | (go_at_call 41; refine (hD _).mono ?_; rintro e w3 ⟨rfl, hw3⟩; subst w3))
                first
                  | exact ⟨⟨0, k + 1, z, u1, by omega, hu0, hu1, by first | rfl | simp, by rw [HN.out], by first | rfl | go_num | simp, B6, C6, G6, Or.inl ⟨rfl, hst.1, HD.out⟩⟩, by simp [intOf]; omega⟩
                  | (go_roundw; (case rel => exact ⟨0, k + 1, z, u1, by omega, hu0, hu1, by first | rfl | simp, by rw [HN.out], by first | rfl | go_num | simp, B6, C6, G6, Or.inl ⟨rfl, hst.1, HD.out⟩⟩); (case measure => (simp [intOf]; omega)))
                  | (refine ⟨?ex, ?ms⟩; (case ms => (simp [intOf]; omega)); (case ex => ((repeat apply Exists.intro); refine ⟨?rl, ?eq⟩; (case eq => (repeat' (first | rfl | apply And.intro))); (case rl => exact ⟨0, k + 1, z, u1, by omega, hu0, hu1, by first | rfl | simp, by rw [HN.out], by first | rfl | go_num | simp, B6, C6, G6, Or.inl ⟨rfl, hst.1, HD.out⟩⟩))))
      · by_cases h47 : Sc.bt s k = 47
        · have hd : Lf.isD (Sc.bt s k) = false := by rw [h47]; rfl
          have e47 : ((Sc.bt s k : Nat) : Int) = 47 := by omega
          have e47' : (((Sc.bt s k : Nat) : Int) == 47) = true := by simp; omega
          have HT : Hid (Gn.tl s a = ⟨u1, k + 1, 0⟩) := by
            unfold Hid Gn.tl
            rw [← hst.2.2, Lf.dg_no hd]
            unfold Gn.tl1
            simp [h47]
          have hnn := Gn.nz_nn (s := s) (e := k) (by omega)
          by_cases h9 : Gn.nn s k < k
          · have HR : Hid (Gn.listsR s = Lf.bad (Gn.nn s k) 82) := by
              unfold Hid Gn.listsR
              rw [hst.1]
              unfold Gn.lists1
              simp only [if_true]
              rw [HT.out]
              unfold Gn.lists2
              simp [h9]
            rw [if_pos h9] at hnn
            rw [hnn]
            clear hst hd h47 HT h9 hnn
            generalize Gn.nn s k = q at HR ⊢
            go_wp2_with (first | (refine wpList_st (op := ⟨_, .store 25 _ _, _, _, _, _⟩) rfl 25 _ _ rfl w.heap.size #[.int .u8 0, .int .u16 0, .int .u16 0] rfl rfl hB infoLf rfl (by simp [Value.oneCell']) ?_; intro W9 hW9 B9))
            refine ret_c3 (g := w.heap.size) (cs := #[.int .u8 0, .int .u16 0, .int .u16 0]) rfl hfs.out infoLf rfl B9 rfl ⟨?_, hW9 ▸ gb_row2 hG (Nat.le_refl _)⟩
            rw [HR.out]; rfl
          · have HR : Hid (Gn.listsR s = ⟨1, u1, u0, k, 0⟩) := by
              unfold Hid Gn.listsR
              rw [hst.1]
              unfold Gn.lists1
              simp only [if_true]
              rw [HT.out]
              unfold Gn.lists2
              simp [h9]
            rw [if_neg h9] at hnn
            rw [hnn]
            clear hst hd h47 HT h9 hnn
            go_wp2_with (first | (refine wpList_st (op := ⟨_, .store 25 _ _, _, _, _, _⟩) rfl 25 _ _ rfl w.heap.size #[.int .u8 1, .int .u16 u1, .int .u16 u0] rfl rfl hB infoLf rfl (by simp [Value.oneCell']) ?_; intro W9 hW9 B9))
            refine ret_c3 (g := w.heap.size) (cs := #[.int .u8 1, .int .u16 u1, .int .u16 u0]) rfl hfs.out infoLf rfl B9 rfl ⟨?_, hW9 ▸ gb_row2 hG (Nat.le_refl _)⟩
            rw [HR.out]; rfl
        · have e47 : ¬ ((Sc.bt s k : Nat) : Int) = 47 := by omega
          have e47' : (((Sc.bt s k : Nat) : Int) == 47) = false := by simp; omega
          have hD := fun w => digitD (Sc.bt s k) (Sc.bt_lt s k) w
          cases hd : Lf.isD (Sc.bt s k) with
          | false =>
            rw [hd] at hD
            have HR : Hid (Gn.listsR s = Lf.bad k 80) := by
              have e : Gn.tl s a = ⟨0, k, 80⟩ := by
                unfold Gn.tl
                rw [← hst.2.2, Lf.dg_no hd]
                unfold Gn.tl1
                simp [h47]
              unfold Hid Gn.listsR
              rw [hst.1]
              unfold Gn.lists1
              simp only [if_true]
              rw [e]
              unfold Gn.lists2
              simp
            clear hst hd h47
            go_wp2_with (first | (go_at_call 41; refine (hD _).mono ?_; rintro e w3 ⟨rfl, hw3⟩; subst w3) | (refine wpList_st (op := ⟨_, .store 25 _ _, _, _, _, _⟩) rfl 25 _ _ rfl w.heap.size #[.int .u8 0, .int .u16 0, .int .u16 0] rfl rfl hB infoLf rfl (by simp [Value.oneCell']) ?_; intro W9 hW9 B9))
            refine ret_c3 (g := w.heap.size) (cs := #[.int .u8 0, .int .u16 0, .int .u16 0]) rfl hfs.out infoLf rfl B9 rfl ⟨?_, hW9 ▸ gb_row2 hG (Nat.le_refl _)⟩
            rw [HR.out]; rfl
          | true =>
            rw [hd] at hD
            obtain ⟨x, hx10, hx⟩ := d_ex hd
            have e48 : Sc.bt s k - 48 = x := by omega
            have w1 : IntKind.u8.wrap (((x + 48 : Nat) : Int) - 48) = (x : Int) := by rw [IntKind.wrap_u8]; omega
            have hp16 := shl16 (n := x) (by omega)
            have ha := and16 u1 (2 ^ x) (by omega) (Lf.p16 (by omega))
            have ho := or16 u1 (2 ^ x) (by omega) (Lf.p16 (by omega))
            have hn1 := @Lf.and_one u1 x
            have hlt2 := Lf.or_lt hu1 hx10
            cases ht : u1.testBit x with
            | true =>
              have HR : Hid (Gn.listsR s = Lf.bad k 81) := by
                have e : Gn.tl s a = ⟨0, k, 81⟩ := by
                  unfold Gn.tl
                  rw [← hst.2.2, Lf.dg_tw hd (by rw [e48]; exact ht)]
                  unfold Gn.tl1
                  simp [h47]
                unfold Hid Gn.listsR
                rw [hst.1]
                unfold Gn.lists1
                simp only [if_true]
                rw [e]
                unfold Gn.lists2
                simp
              have hz : ¬ ((u1 &&& 2 ^ x : Nat) : Int) = 0 := fun e => by
                have h2 := hn1.1 (by omega)
                rw [ht] at h2; cases h2
              rw [hx] at hD hbt e47 e47'
              clear hst hd h47 ht hn1 hlt2 e48 hx
              generalize u1 &&& 2 ^ x = y at ha hz
              generalize u1 ||| 2 ^ x = z at ho
              generalize 2 ^ x = q at hp16 ha ho
              go_wp2_with (first | (go_at_call 41; refine (hD _).mono ?_; rintro e w3 ⟨rfl, hw3⟩; subst w3) | (refine wpList_st (op := ⟨_, .store 25 _ _, _, _, _, _⟩) rfl 25 _ _ rfl w.heap.size #[.int .u8 0, .int .u16 0, .int .u16 0] rfl rfl hB infoLf rfl (by simp [Value.oneCell']) ?_; intro W9 hW9 B9))
              refine ret_c3 (g := w.heap.size) (cs := #[.int .u8 0, .int .u16 0, .int .u16 0]) rfl hfs.out infoLf rfl B9 rfl ⟨?_, hW9 ▸ gb_row2 hG (Nat.le_refl _)⟩
              rw [HR.out]; rfl
            | false =>
              have HD : Hid (Lf.dg s (k + 1) (u1 ||| 2 ^ x) = Lf.dg s a 0) := by
                unfold Hid
                rw [← hst.2.2, Lf.dg_go hd (by rw [e48]; exact ht), e48]
              have hz : ((u1 &&& 2 ^ x : Nat) : Int) = 0 := by rw [hn1.2 ht]; rfl
              rw [hx] at hD hbt e47 e47'
              clear hd h47 ht hn1 e48
              generalize u1 &&& 2 ^ x = y at ha hz
              generalize u1 ||| 2 ^ x = z at ho hlt2 HD
              generalize 2 ^ x = q at hp16 ha ho
              have hu1 := hlt2
              obtain ⟨V6, hV6⟩ : ∃ V, wr.setCell ⟨W1.heap.size, 1, none⟩ (.int .u16 (z : Nat)) = V := ⟨_, rfl⟩
              have B6 : Bo V6 w.heap.size 25 #[.int .u8 0, .int .u16 0, .int .u16 0] := hV6 ▸ hB.set2 HM3.out
              have C6 : Bo V6 W1.heap.size 73 #[.int .u16 u0, .int .u16 (z : Nat)] := hV6 ▸ hC.set 1 _
              have G6 : w.grownBy V6 none := hV6 ▸ gb_new hG g1.size (.int .u16 (z : Nat))
              by_cases h9 : x = 9
              · by_cases hneg : Gn.nz s k < 0
                · have b9' : (((x + 48 : Nat) : Int) == 57) = true := by simp; omega
                  have hx9 : Hid (x = 9) := h9
                  clear h9
                  have HN : Hid (Gn.nz s (k + 1) = (k : Int)) := by
                    unfold Hid
                    rw [Gn.nz, if_pos ⟨by have := hx9.out; omega, hneg⟩]
                  generalize Gn.nz s k = nv at hneg HN ⊢
                  clear hx
                  go_wp2_with (first | (go_at_call 41; refine (hD _).mono ?_; rintro e w3 ⟨rfl, hw3⟩; subst w3))
                  all_goals first
                    | (exfalso; have := hx9.out; omega)
                    | (first
                         | exact ⟨⟨1, k + 1, u0, z, by omega, hu0, hu1, by first | rfl | simp, by rw [HN.out], by first | rfl | go_num | simp, B6, C6, G6, Or.inr ⟨rfl, a, hst.1, hst.2.1, HD.out⟩⟩, by simp [intOf]; omega⟩
                         | (go_roundw; (case rel => exact ⟨1, k + 1, u0, z, by omega, hu0, hu1, by first | rfl | simp, by rw [HN.out], by first | rfl | go_num | simp, B6, C6, G6, Or.inr ⟨rfl, a, hst.1, hst.2.1, HD.out⟩⟩); (case measure => (simp [intOf]; omega)))
                         | (refine ⟨?ex, ?ms⟩; (case ms => (simp [intOf]; omega)); (case ex => ((repeat apply Exists.intro); refine ⟨?rl, ?eq⟩; (case eq => (repeat' (first | rfl | apply And.intro))); (case rl => exact ⟨1, k + 1, u0, z, by omega, hu0, hu1, by first | rfl | simp, by rw [HN.out], by first | rfl | go_num | simp, B6, C6, G6, Or.inr ⟨rfl, a, hst.1, hst.2.1, HD.out⟩⟩)))))
                · have b9' : (((x + 48 : Nat) : Int) == 57) = true := by simp; omega
                  have hx9 : Hid (x = 9) := h9
                  clear h9
                  have HN : Hid (Gn.nz s (k + 1) = Gn.nz s k) := by
                    unfold Hid
                    rw [Gn.nz, if_neg (fun e => by omega)]
                  generalize Gn.nz s k = nv at hneg HN ⊢
                  clear hx
                  go_wp2_with (first | (go_at_call 41; refine (hD _).mono ?_; rintro e w3 ⟨rfl, hw3⟩; subst w3))
                  all_goals first
                    | (exfalso; have := hx9.out; omega)
                    | (first
                         | exact ⟨⟨1, k + 1, u0, z, by omega, hu0, hu1, by first | rfl | simp, by rw [HN.out], by first | rfl | go_num | simp, B6, C6, G6, Or.inr ⟨rfl, a, hst.1, hst.2.1, HD.out⟩⟩, by simp [intOf]; omega⟩
                         | (go_roundw; (case rel => exact ⟨1, k + 1, u0, z, by omega, hu0, hu1, by first | rfl | simp, by rw [HN.out], by first | rfl | go_num | simp, B6, C6, G6, Or.inr ⟨rfl, a, hst.1, hst.2.1, HD.out⟩⟩); (case measure => (simp [intOf]; omega)))
                         | (refine ⟨?ex, ?ms⟩; (case ms => (simp [intOf]; omega)); (case ex => ((repeat apply Exists.intro); refine ⟨?rl, ?eq⟩; (case eq => (repeat' (first | rfl | apply And.intro))); (case rl => exact ⟨1, k + 1, u0, z, by omega, hu0, hu1, by first | rfl | simp, by rw [HN.out], by first | rfl | go_num | simp, B6, C6, G6, Or.inr ⟨rfl, a, hst.1, hst.2.1, HD.out⟩⟩)))))
              · have b9 : ¬ ((x + 48 : Nat) : Int) = 57 := by omega
                have b9' : (((x + 48 : Nat) : Int) == 57) = false := by simp; omega
                have HN : Hid (Gn.nz s (k + 1) = Gn.nz s k) := by
                  unfold Hid
                  rw [Gn.nz, if_neg (fun e => by omega)]
                generalize Gn.nz s k = nv at HN ⊢
                clear hx
                go_wp2_with (first | (go_at_call 41; refine (hD _).mono ?_; rintro e w3 ⟨rfl, hw3⟩; subst w3))
                first
                  | exact ⟨⟨1, k + 1, u0, z, by omega, hu0, hu1, by first | rfl | simp, by rw [HN.out], by first | rfl | go_num | simp, B6, C6, G6, Or.inr ⟨rfl, a, hst.1, hst.2.1, HD.out⟩⟩, by simp [intOf]; omega⟩
                  | (go_roundw; (case rel => exact ⟨1, k + 1, u0, z, by omega, hu0, hu1, by first | rfl | simp, by rw [HN.out], by first | rfl | go_num | simp, B6, C6, G6, Or.inr ⟨rfl, a, hst.1, hst.2.1, HD.out⟩⟩); (case measure => (simp [intOf]; omega)))
                  | (refine ⟨?ex, ?ms⟩; (case ms => (simp [intOf]; omega)); (case ex => ((repeat apply Exists.intro); refine ⟨?rl, ?eq⟩; (case eq => (repeat' (first | rfl | apply And.intro))); (case rl => exact ⟨1, k + 1, u0, z, by omega, hu0, hu1, by first | rfl | simp, by rw [HN.out], by first | rfl | go_num | simp, B6, C6, G6, Or.inr ⟨rfl, a, hst.1, hst.2.1, HD.out⟩⟩))))
    · obtain rfl : k = s.size := by omega
      have HR : Hid (Gn.listsR s = Lf.bad s.size 80) := Gn.lists_end hls
      clear hls hlt
      go_wp2_with (first | (refine wpList_st (op := ⟨_, .store 25 _ _, _, _, _, _⟩) rfl 25 _ _ rfl w.heap.size #[.int .u8 0, .int .u16 0, .int .u16 0] rfl rfl hB infoLf rfl (by simp [Value.oneCell']) ?_; intro W9 hW9 B9))
      refine ret_c3 (g := w.heap.size) (cs := #[.int .u8 0, .int .u16 0, .int .u16 0]) rfl hfs.out infoLf rfl B9 rfl ⟨?_, hW9 ▸ gb_row2 hG (Nat.le_refl _)⟩
      rw [HR.out]; rfl
end Go.Proofs.YtlkdenanbofliaaGreatDoor
