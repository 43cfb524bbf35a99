/- The walk of LifeNames. -/
import Derived.Test.YtnedofaobhmloaaDoorL10
import Derived.Deep.OwnRows
import Derived.Laws.IdiomStrings
namespace Go.Proofs.YtnedofaobhmloaaDoor
open Go.RowKit
set_option linter.unusedVariables false
set_option linter.unusedSimpArgs false
set_option maxRecDepth 100000

theorem uBS : Tryd.prog.underlying 23 = some (.slice 5) := by kernel_rfl
theorem u5 : Tryd.prog.underlying 5 = some (.int .u8) := by kernel_rfl
theorem u9 : Tryd.prog.underlying 9 = some .string := by kernel_rfl
theorem infoB1 : (Tryd.prog.info? 5).map (fun i => (i.zero, i.size, i.bytes)) = some (some (.int .u8 0), 1, 1) := by kernel_rfl
def loL (n : Nat) : List UInt8 := 66 :: List.replicate n 0
theorem loL_len (n : Nat) : (loL n).length = n + 1 := by unfold loL; simp
theorem loL_at (n j : Nat) (h : j < (loL n).length) : (loL n)[j] = if j = 0 then 66 else 0 := by
  have h' := loL_len n
  cases j with
  | zero => rfl
  | succ j =>
    have h2 : j < (List.replicate n (0 : UInt8)).length := by rw [List.length_replicate]; omega
    show (List.replicate n (0 : UInt8))[j]'h2 = _
    rw [List.getElem_replicate]
    rfl
theorem conv_lo (n cap : Nat) (W : World) (B k : Nat) (hk : n + 1 ≤ k) (hr : W.rowIs B 5 k (fun j => if j = 0 then .int .u8 66 else .int .u8 0)) : Sem.run Tryd.prog (convert 23 9 (.slice (some ⟨B, 0, none⟩) (n + 1) cap)) W = Result.ok (.string ⟨(loL n).toArray⟩) W := by
  have hl := loL_len n
  have h := run_convert_bytes_back (P := Tryd.prog) W 23 9 5 ⟨B, 0, none⟩ cap (loL n) uBS u5 u9 (fun j hj => by
    rw [add_mid, Nat.zero_add, hr.cell (by rw [hl] at hj; omega), loL_at n j hj]
    by_cases e : j = 0
    · rw [if_pos e, if_pos e]; rfl
    · rw [if_neg e, if_neg e]; rfl)
  rw [hl] at h
  exact h
theorem lo_bt (n j : Nat) (h : j < n + 1) : Sc.bt ⟨(loL n).toArray⟩ j = if j = 0 then 66 else 0 := by
  have hl := loL_len n
  have : (loL n)[j]? = some (if j = 0 then 66 else 0) := by rw [List.getElem?_eq_getElem (by omega), loL_at n j (by omega)]
  rw [Sc.bt_list (s := ⟨(loL n).toArray⟩) (c := if j = 0 then 66 else 0) (by simpa using this)]
  split <;> rfl
theorem lo_size (n : Nat) : (⟨(loL n).toArray⟩ : ByteArray).size = n + 1 := by
  show (loL n).toArray.size = _
  rw [List.size_toArray, loL_len]
theorem lo_parse1 (n : Nat) (h1 : 1 ≤ n) (h : n + 1 ≤ 1048576) : Lf.parseR ⟨(loL n).toArray⟩ = ⟨0, 0, 0, 1, 80⟩ := by
  have b0 := lo_bt n 0 (by omega)
  have b1 := lo_bt n 1 (by omega)
  rw [if_pos rfl] at b0
  rw [if_neg (by decide)] at b1
  unfold Lf.parseR
  rw [if_neg (by rw [lo_size]; omega)]
  unfold Lf.readR
  rw [b0, show Lf.tk 66 66 = true from rfl, if_pos rfl, Lf.dg_no (by rw [b1]; rfl)]
  unfold Lf.read1
  simp only [Bool.false_eq_true, if_false]
  rw [b1, if_neg (by decide)]
  rfl
theorem lo_parse2 (n : Nat) (h : 1048576 < n + 1) : Lf.parseR ⟨(loL n).toArray⟩ = ⟨0, 0, 0, 0, 3⟩ := by
  unfold Lf.parseR
  rw [if_pos (by rw [lo_size]; omega)]
  rfl
set_option maxHeartbeats 2000000 in
theorem names_walk (w : World) (hv0 : Hv w) : Calls Tryd.prog 3 #[] w fun e w' => e = .returned (.bool true) ∧ Below w.heap.size w w' := by
  have hv : Hid (Hv w) := hv0
  clear hv0
  obtain ⟨C, hmk, hrow⟩ : ∃ C : Array Value, (∀ w, Sem.run Tryd.prog (Instr.makeSlice 23 (.int .i64 1048577) (.int .i64 1048577)) w = Result.ok (.slice (some ⟨w.heap.size, 0, none⟩) 1048577 1048577) (w.alloc (.cells C 5))) ∧ (∀ w : World, (w.alloc (.cells C 5)).rowIs w.heap.size 5 1048577 (fun _ => .int .u8 0)) :=
    ⟨madeCells #[.int .u8 0] 1048577, fun w => run_make_row' (P := Tryd.prog) 23 5 (.int .u8 0) 1 uBS infoB1 rfl .i64 .i64 1048577 (by omega) (by omega) w, fun w => World.rowIs_made w (.int .u8 0) 1048577 5⟩
  have p1 := fun w hv => parseC ⟨(loL 1048575).toArray⟩ w hv
  rw [lo_parse1 1048575 (by decide) (by decide)] at p1
  have p2 := fun w hv => parseC ⟨(loL 1048576).toArray⟩ w hv
  rw [lo_parse2 1048576 (by decide)] at p2
  have hc1 : ∀ (W : World) (B : Nat), W.rowIs B 5 1048577 (fun j => if j = 0 then .int .u8 66 else .int .u8 0) → Sem.run Tryd.prog (convert 23 9 (.slice (some ⟨B, 0, none⟩) 1048576 1048577)) W = Result.ok (.string ⟨(loL 1048575).toArray⟩) W := fun W B hr => conv_lo 1048575 1048577 W B 1048577 (by decide) hr
  have hc2 : ∀ (W : World) (B : Nat), W.rowIs B 5 1048577 (fun j => if j = 0 then .int .u8 66 else .int .u8 0) → Sem.run Tryd.prog (convert 23 9 (.slice (some ⟨B, 0, none⟩) 1048577 1048577)) W = Result.ok (.string ⟨(loL 1048576).toArray⟩) W := fun W B hr => conv_lo 1048576 1048577 W B 1048577 (by decide) hr
  generalize hF1 : (⟨(loL 1048575).toArray⟩ : ByteArray) = F1 at *
  generalize hF2 : (⟨(loL 1048576).toArray⟩ : ByteArray) = F2 at *
  clear hF1 hF2
  go_enter Tryd.func3, Tryd.ntmps3
  go_wp2_with (first
    | (go_at_call 9; refine (aliveC _ hv).mono ?_; rintro e w1 ⟨rfl, g1⟩; obtain ⟨X0, hX0⟩ : ∃ X0, w1.alloc (.cells C 5) = X0 := ⟨_, rfl⟩; have r0 : X0.rowIs w1.heap.size 5 1048577 (fun _ => .int .u8 0) := (by rw [← hX0]; exact hrow w1); have g0 : w.grownBy X0 none := (by rw [← hX0]; exact gb_alloc g1 _); have q0 := r0.cell (i := 0) (by decide); have q1 := r0.frozen 0; obtain ⟨X1, hX1⟩ : ∃ X1, X0.setCell ⟨w1.heap.size, 0, none⟩ (.int .u8 66) = X1 := ⟨_, rfl⟩; have r1 : X1.rowIs w1.heap.size 5 1048577 (fun j => if j = 0 then .int .u8 66 else .int .u8 0) := hX1 ▸ (r0.set 0 (.int .u8 66)).congr (fun j hj => rfl); have G1 : w.grownBy X1 none := hX1 ▸ gb_new g0 g1.size (.int .u8 66); have hcv := hc1 X1 _ r1; have hv1 := hvK hv G1)
    | (go_at_call 10; (fail_if_success (guard_hyp g3)); refine (p1 _ hv1).mono ?_; rintro e w3 ⟨rfl, g3⟩; obtain ⟨W4, hW4, sz4, g4, B4⟩ := boxn w3 #[.int .u8 0, .int .u16 0, .int .u16 0] 26; have r3 := rowIs_kept (rowIs_kept r1 g3 (by simp)) g4 (by simp); have G4 := gb_trans (gb_trans G1 g3) g4; have hcv2 := hc2 W4 _ r3; have hv4 := hvK hv G4; have z0 := Bo.same B4 0 (v := .int .u8 0) rfl; have z1 := Bo.same B4 1 (v := .int .u16 0) rfl; have z2 := Bo.same B4 2 (v := .int .u16 0) rfl; have zf0 := B4.frozen 0; have zf1 := B4.frozen 1; have zf2 := B4.frozen 2; have zc0 := B4.cell 0 (v := .int .u8 0) rfl; have zc1 := B4.cell 1 (v := .int .u16 0) rfl; have zc2 := B4.cell 2 (v := .int .u16 0) rfl)
    | (go_at_call 10; refine (p2 _ hv4).mono ?_; rintro e w5 ⟨rfl, g5⟩; obtain ⟨W6, hW6, sz6, g6, B6⟩ := boxn w5 #[.int .u8 0, .int .u16 0, .int .u16 0] 26; have G6 := gb_trans (gb_trans G4 g5) g6; have y0 := Bo.same B6 0 (v := .int .u8 0) rfl; have y1 := Bo.same B6 1 (v := .int .u16 0) rfl; have y2 := Bo.same B6 2 (v := .int .u16 0) rfl; have yf0 := B6.frozen 0; have yf1 := B6.frozen 1; have yf2 := B6.frozen 2; have yc0 := B6.cell 0 (v := .int .u8 0) rfl; have yc1 := B6.cell 1 (v := .int .u16 0) rfl; have yc2 := B6.cell 2 (v := .int .u16 0) rfl))
  go_ret
  exact ⟨rfl, gb_below G6⟩
end Go.Proofs.YtnedofaobhmloaaDoor
