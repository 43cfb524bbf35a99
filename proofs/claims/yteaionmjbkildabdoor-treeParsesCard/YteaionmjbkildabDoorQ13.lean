/- A key's list of kids. -/
import Derived.Lib.Strings
import Derived.Test.YteaionmjbkildabDoorQ12
namespace Go.Proofs.YteaionmjbkildabDoor
open Go.RowKit
set_option linter.unusedVariables false
set_option linter.unusedSimpArgs false
set_option maxRecDepth 100000

theorem empty_no {d : ByteArray} (h : ¬ d.size = 0) : d.toList.isEmpty = false := by
  rw [Lib.toList_data]
  cases hl : d.data.toList with
  | nil => exact absurd (by show d.data.size = 0; rw [← Array.length_toList, hl]; rfl) h
  | cons _ _ => rfl
theorem listN (st : Int) (w : World) : Calls Tryd.prog 68 #[.agg #[.int .u8 st, .string ⟨#[]⟩]] w fun e w' => e = .returned (.slice none 0 0) ∧ w.grownBy w' none := by
  obtain ⟨W1, hW1, sz1, g1, B1⟩ := boxn w #[.int .u8 st, .string ⟨#[]⟩] 116
  have c1 := B1.cell 1 (v := .string ⟨#[]⟩) rfl
  go_enter Tryd.func68, Tryd.ntmps68
  go_wp2
  go_ret
  exact ⟨rfl, g1⟩

theorem ktx_at (ks : List Nat) (j r : Nat) (hj : j < ks.length) (hr : r < 3) : (ktx ks)[3 * j + r]? = (kb (ks.getD j 0))[r]? := by
  induction ks generalizing j with
  | nil => simp at hj
  | cons k t ih =>
    simp only [ktx, List.flatMap_cons]
    cases j with
    | zero => rw [List.getElem?_append_left (by rw [kb_len]; omega)]; simp
    | succ j =>
      rw [List.getElem?_append_right (by rw [kb_len]; omega), kb_len, show 3 * (j + 1) + r - 3 = 3 * j + r by omega]
      have := ih j (by simpa using hj)
      rw [ktx] at this
      rw [this]; simp
theorem ix_byte (T : ByteArray) (i : Nat) (x : UInt8) (h : T.data[i]? = some x) (z : Int) (hz : z = (i : Int)) (w : World) : (Instr.index 9 (.string T) (.int .i64 z)).run Tryd.prog w = .ok (.int .u8 (x.toNat : Nat)) w := by
  obtain ⟨h1, h2⟩ := Array.getElem?_eq_some_iff.1 h
  have hlt : i < T.size := h1
  subst hz
  rw [run_index_string (h := underSt), dif_pos ⟨by omega, by omega⟩]
  have : T[((i : Nat) : Int).toNat]'(by simpa using hlt) = x := h2
  simp only [this]
theorem ktx_ix (ks : List Nat) (hk : ∀ k ∈ ks, k < 16777216) (j : Nat) (hj : j < ks.length) (T : ByteArray) (hT : (⟨(ktx ks).toArray⟩ : ByteArray) = T) : ∃ b0 b1 b2 : Nat,
    (∀ w : World, (Instr.index 9 (.string T) (.int .i64 (3 * (j : Int)))).run Tryd.prog w = .ok (.int .u8 (b0 : Nat)) w) ∧ (∀ w : World, (Instr.index 9 (.string T) (.int .i64 (3 * (j : Int) + 1))).run Tryd.prog w = .ok (.int .u8 (b1 : Nat)) w) ∧ (∀ w : World, (Instr.index 9 (.string T) (.int .i64 (3 * (j : Int) + 2))).run Tryd.prog w = .ok (.int .u8 (b2 : Nat)) w) ∧ Hid ((b0 : Int) * 65536 + (b1 : Int) * 256 + (b2 : Int) = lf ks j) ∧ b0 < 256 ∧ b1 < 256 ∧ b2 < 256 := by
  obtain ⟨k, hkk⟩ : ∃ k, ks.getD j 0 = k := ⟨_, rfl⟩
  have hk3 : k < 16777216 := by
    rw [← hkk, List.getD_eq_getElem?_getD, List.getElem?_eq_getElem hj]
    exact hk _ (List.getElem_mem hj)
  have hat : ∀ r, r < 3 → T.data[3 * j + r]? = (kb k)[r]? := fun r hr => by
    rw [← hT, ← hkk, ← ktx_at ks j r hj hr]
    simp
  refine ⟨(UInt8.ofNat (k / 65536)).toNat, (UInt8.ofNat (k / 256)).toNat, (UInt8.ofNat k).toNat, fun w => ix_byte T (3 * j + 0) _ (by rw [hat 0 (by omega)]; rfl) _ (by omega) w, fun w => ix_byte T (3 * j + 1) _ (by rw [hat 1 (by omega)]; rfl) _ (by omega) w, fun w => ix_byte T (3 * j + 2) _ (by rw [hat 2 (by omega)]; rfl) _ (by omega) w, ?_, ?_, ?_, ?_⟩
  · unfold Hid lf
    rw [hkk]
    simp only [UInt8.toNat_ofNat']
    omega
  all_goals
    simp only [UInt8.toNat_ofNat']
    omega
theorem or64 (a b : Nat) (ha : a < 16777216) (hb : b < 16777216) : bits .or .i64 (a : Int) (b : Int) = ((a ||| b : Nat) : Int) := by
  have o64 : ∀ a : Nat, a < 16777216 → (BitVec.ofInt 64 (a : Int)).toNat = a := fun a h => by rw [BitVec.ofInt_natCast, BitVec.toNat_ofNat]; exact Nat.mod_eq_of_lt (by omega)
  have hx : a ||| b < 2 ^ 24 := Nat.or_lt_two_pow (by omega) (by omega)
  show IntKind.i64.wrap ((BitVec.ofInt 64 (a : Int) ||| BitVec.ofInt 64 (b : Int)).toNat : Int) = _
  rw [BitVec.toNat_or, o64 a ha, o64 b hb, IntKind.wrap_i64]
  omega
theorem three (b0 b1 b2 : Nat) (h0 : b0 < 256) (h1 : b1 < 256) (h2 : b2 < 256) : bits .or .i64 (bits .or .i64 (IntKind.i64.wrap (IntKind.i64.wrap (b0 : Int) * 65536)) (IntKind.i64.wrap (IntKind.i64.wrap (b1 : Int) * 256))) (IntKind.i64.wrap (b2 : Int)) = (b0 : Int) * 65536 + (b1 : Int) * 256 + (b2 : Int) := by
  have e0 : IntKind.i64.wrap (IntKind.i64.wrap (b0 : Int) * 65536) = ((b0 * 65536 : Nat) : Int) := by rw [IntKind.wrap_i64, IntKind.wrap_i64]; omega
  have e1 : IntKind.i64.wrap (IntKind.i64.wrap (b1 : Int) * 256) = ((b1 * 256 : Nat) : Int) := by rw [IntKind.wrap_i64, IntKind.wrap_i64]; omega
  have e2 : IntKind.i64.wrap (b2 : Int) = ((b2 : Nat) : Int) := by rw [IntKind.wrap_i64]; omega
  have k1 : b0 * 65536 ||| b1 * 256 = b0 * 65536 + b1 * 256 := by
    have := Nat.shiftLeft_add_eq_or_of_lt (i := 16) (b := b1 * 256) (by omega) b0
    rw [Nat.shiftLeft_eq] at this
    exact this.symm
  have k2 : (b0 * 65536 + b1 * 256) ||| b2 = b0 * 65536 + b1 * 256 + b2 := by
    have := Nat.shiftLeft_add_eq_or_of_lt (i := 8) (b := b2) (by omega) (b0 * 256 + b1)
    rw [Nat.shiftLeft_eq] at this
    have e : (b0 * 256 + b1) * 2 ^ 8 = b0 * 65536 + b1 * 256 := by omega
    rw [e] at this
    exact this.symm
  rw [e0, e1, e2, or64 _ _ (by omega) (by omega), k1, or64 _ _ (by omega) (by omega), k2]
  omega
set_option maxHeartbeats 1000000 in
theorem listC (st : Int) (ks : List Nat) (hk : ∀ k ∈ ks, k < 16777216) (hn : 0 < ks.length) (hn2 : ks.length ≤ 256) (w : World) :
    Calls Tryd.prog 68 #[.agg #[.int .u8 st, .string ⟨(ktx ks).toArray⟩]] w fun e w' => ∃ g, e = .returned (.slice (some ⟨g, 0, none⟩) ks.length ks.length) ∧ Ri w' g ks.length (lf ks) ∧ w.grownBy w' none ∧ w.heap.size ≤ g ∧ g < w'.heap.size := by
  obtain ⟨n, hln⟩ : ∃ n, ks.length = n := ⟨_, rfl⟩
  have HN : Hid (ks.length = n) := hln
  obtain ⟨T, hT⟩ : ∃ T : ByteArray, ⟨(ktx ks).toArray⟩ = T := ⟨_, rfl⟩
  have HT : Hid (⟨(ktx ks).toArray⟩ = T) := hT
  have hsz : T.size = 3 * n := by rw [← hT, ← hln, ← ktx_len]; rfl
  rw [hT, hln]
  rw [hln] at hn hn2
  clear hT hln
  obtain ⟨W1, hW1, sz1, g1, B1⟩ := boxn w #[.int .u8 st, .string T] 116
  have c1 := B1.cell 1 (v := .string T) rfl
  have hmk := run_make_row' (P := Tryd.prog) 63 3 (.int .i64 0) 8 underIS infoI rfl .i64 .i64 n (by omega) (by omega)
  have hne : T.toList.isEmpty = false := empty_no (by omega)
  have hdv : ((3 * n : Nat) : Int) / 3 = (n : Int) := by omega
  obtain ⟨W2, hW2⟩ : ∃ W2, W1.alloc (.cells (madeCells #[.int .i64 0] n) 3) = W2 := ⟨_, rfl⟩
  have g2 : W1.grownBy W2 none := (by rw [← hW2]; exact World.grownBy_alloc _ _ _)
  have R2 : Ri W2 W1.heap.size n (fun _ => 0) := (by rw [← hW2]; exact World.rowIs_made W1 (.int .i64 0) n 3)
  go_enter Tryd.func68, Tryd.ntmps68
  go_wp2
  go_loopw [16] (fun i wr => ∃ j : Nat, j ≤ n ∧ i = .int .i64 j ∧ Bo wr w.heap.size 116 #[.int .u8 st, .string T] ∧ W2.grownBy wr (some W1.heap.size) ∧ ∃ h : Nat → Int, Ri wr W1.heap.size n h ∧ Hid (∀ k, k < j → h k = lf ks k)) (fun i _ => n - (intOf i).toNat)
  case atStart => exact ⟨0, Nat.zero_le _, rfl, B1.kept g2 (by simp), World.grownBy.refl _ _, _, R2, fun k hk => absurd hk (Nat.not_lt_zero _)⟩
  case round =>
    obtain ⟨j, hj, rfl, Bj, Gj, h, Rj, Hj⟩ := hrel
    by_cases hlt : j < n
    · have hlt' : (j : Int) < (n : Int) := by omega
      have t1 : wr.drew.cell? ⟨w.heap.size, 1, none⟩ = some (.string T) := Bj.dr.cell 1 rfl
      have hw1 : IntKind.i64.wrap (3 * (j : Int)) = 3 * (j : Int) := by rw [IntKind.wrap_i64]; omega
      have hw2 : IntKind.i64.wrap (3 * (j : Int) + 1) = 3 * (j : Int) + 1 := by rw [IntKind.wrap_i64]; omega
      have hw3 : IntKind.i64.wrap (3 * (j : Int) + 2) = 3 * (j : Int) + 2 := by rw [IntKind.wrap_i64]; omega
      obtain ⟨b0, b1, b2, ix0, ix1, ix2, hval, hb0, hb1, hb2⟩ := ktx_ix ks hk j (by have := HN.out; omega) T HT.out
      have Cj0 := World.rowIs.cell Rj.drew (i := j) hlt
      have Cj1 := World.rowIs.frozen Rj.drew j
      go_wp2
      refine region_tail 24 mixedT (by kernel_rfl) ?_
      simp only [List.take_succ_cons, List.take_zero, List.drop_succ_cons, List.drop_zero]
      repeat still_step
      refine wpStill_nil ?_
      obtain ⟨v, hv⟩ : ∃ v, bits .or .i64 (bits .or .i64 (IntKind.i64.wrap (IntKind.i64.wrap (b0 : Int) * 65536)) (IntKind.i64.wrap (IntKind.i64.wrap (b1 : Int) * 256))) (IntKind.i64.wrap (b2 : Int)) = v := ⟨_, rfl⟩
      have HV : Hid (v = lf ks j) := by unfold Hid; rw [← hv, three b0 b1 b2 hb0 hb1 hb2]; exact hval.out
      rw [hv]
      clear hv
      go_wp2
      have gw : wr.grownBy (wr.drew.setCell ⟨W1.heap.size, j, none⟩ (.int .i64 v)) (some W1.heap.size) := gb_set (gb_drew (World.grownBy.refl wr (some W1.heap.size))) j _
      go_roundw
      case rel =>
        refine ⟨j + 1, hlt, by go_num, Bj.kept gw (by have := sz1.out; simp; omega), gb_trans Gj gw, _, (World.rowIs.set (World.rowIs.drew Rj) j (.int .i64 v)).congr (g := fun k => .int .i64 (if k = j then v else h k)) (fun k hk => by by_cases e : k = j <;> simp [e]), ?_⟩
        intro k hk
        by_cases e : k = j
        · simp only [e, if_true]; exact HV.out
        · simp only [if_neg e]
          exact Hj.out k (by omega)
      case measure => simp [intOf]; omega
    · have hjn : j = n := by omega
      subst hjn
      go_wp2
      go_ret
      refine ⟨W1.heap.size, rfl, World.rowIs.congr Rj (fun k hk => by rw [Hj.out k hk]), ?_, g1.size, World.rowIs.lt Rj⟩
      exact gb_past (gb_trans g1 g2) Gj g1.size
end Go.Proofs.YteaionmjbkildabDoor
