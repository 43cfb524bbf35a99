/- ScanLong: the walk. -/
import Derived.Test.YtimknahfgpafaabDoorS10
import Derived.Deep.OwnRows
import Derived.Laws.IdiomStrings
namespace Go.Proofs.YtimknahfgpafaabDoor
open Go.RowKit
set_option linter.unusedVariables false
set_option linter.unusedSimpArgs false

def longL (M : Nat) : List UInt8 := List.replicate M 32 ++ [33]
def longB (M : Nat) : ByteArray := ⟨(longL M).toArray⟩
theorem longL_len (M : Nat) : (longL M).length = M + 1 := by unfold longL; simp
theorem longB_size (M : Nat) : (longB M).size = M + 1 := by
  show (longL M).toArray.size = M + 1
  rw [List.size_toArray, longL_len]
theorem long_white (M j : Nat) (h : j < M) : Sc.bt (longB M) j = 32 := by
  refine Sc.bt_list (c := 32) ?_
  show (longL M).toArray.toList[j]? = _
  rw [List.toList_toArray]
  unfold longL
  rw [List.getElem?_append_left (by simpa using h), List.getElem?_replicate, if_pos h]
theorem long_end (M : Nat) : Sc.bt (longB M) M = 33 := by
  refine Sc.bt_list (c := 33) ?_
  show (longL M).toArray.toList[M]? = _
  rw [List.toList_toArray]
  unfold longL
  rw [List.getElem?_append_right (by simp)]
  simp
theorem runs_white (s : ByteArray) (l : List Rn) : ∀ (c f i : Nat), i + c ≤ s.size → (∀ j, i ≤ j → j < i + c → Sc.whiteB (Sc.bt s j) = true) → runsF (f + c) s i l = runsF f s (i + c) l
  | 0, f, i, _, _ => rfl
  | c + 1, f, i, h1, h2 => by
    rw [show f + (c + 1) = (f + c) + 1 by omega, runsF, if_neg (by omega), if_pos (h2 i (Nat.le_refl _) (by omega)), runs_white s l c f (i + 1) (by omega) (fun j h3 h4 => h2 j (by omega) (by omega))]
    congr 1; omega
theorem long_runs (M : Nat) : runsF ((longB M).size + 1) (longB M) 0 [] = (some [], M + 1, 0) := by
  have hz := longB_size M
  rw [hz, show M + 1 + 1 = 2 + M by omega, runs_white (longB M) [] M 2 0 (by omega) (fun j _ h => by rw [long_white M j (by omega)]; decide), Nat.zero_add, runsF, if_neg (by omega), long_end, if_neg (by decide), if_pos rfl]
theorem longL_at (M j : Nat) (h : j < (longL M).length) : (longL M)[j] = if j = M then 33 else 32 := by
  have h' := longL_len M
  have key : (longL M)[j]? = some (if j = M then 33 else 32) := by
    by_cases e : j = M
    · rw [if_pos e, e]
      unfold longL
      rw [List.getElem?_append_right (by simp)]
      simp
    · rw [if_neg e]
      unfold longL
      rw [List.getElem?_append_left (by rw [List.length_replicate]; omega), List.getElem?_replicate, if_pos (by omega)]
  rw [List.getElem?_eq_getElem h] at key
  exact Option.some.inj key
theorem conv_long (M : Nat) (W : World) (B : Nat) (hr : W.rowIs B 5 (M + 1) (fun k => if k = M then .int .u8 33 else .int .u8 32)) : Sem.run Tryd.prog (convert 38 9 (.slice (some ⟨B, 0, none⟩) (M + 1) (M + 1))) W = Result.ok (.string (longB M)) W := by
  have hl := longL_len M
  have h := run_convert_bytes_back (P := Tryd.prog) W 38 9 5 ⟨B, 0, none⟩ (M + 1) (longL M) uBS u5 u9 (fun j hj => by
    rw [add_mid, Nat.zero_add, hr.cell (by rw [hl] at hj; exact hj), longL_at M j hj]
    by_cases e : j = M
    · rw [if_pos e, if_pos e]; rfl
    · rw [if_neg e, if_neg e]; rfl)
  rw [hl] at h
  exact h
theorem nil_form {w : World} {base e size : Nat} {v : Value} {xs : List Value} (h : w.ownsRow base e size v 0 xs) : ∃ sp cap, v = .slice sp 0 cap := by
  rcases h.2 with ⟨rfl, _⟩ | ⟨g, cap, cur, rfl, _⟩
  · exact ⟨_, _, rfl⟩
  · exact ⟨_, _, rfl⟩
theorem infoU8 : (Tryd.prog.info? 5).map (fun i => (i.zero, i.size, i.bytes)) = some (some (.int .u8 0), 1, 1) := by kernel_rfl

set_option maxRecDepth 100000 in
set_option maxHeartbeats 4000000 in
theorem long_walk (w : World) (tp : TypeId) (p : Value) (hE : Hid (Er tp p w)) (hG : 6 < w.heap.size) :
    Calls Tryd.prog 4 #[] w fun e w' => e = .returned (.bool true) ∧ Below w.heap.size w w' := by
  obtain ⟨C, hmk, hrow⟩ : ∃ C : Array Value, (∀ w, Sem.run Tryd.prog (Instr.makeSlice 38 (.int .i64 1048576) (.int .i64 1048576)) w = Result.ok (.slice (some ⟨w.heap.size, 0, none⟩) 1048576 1048576) (w.alloc (.cells C 5))) ∧ (∀ w : World, (w.alloc (.cells C 5)).rowIs w.heap.size 5 1048576 (fun _ => .int .u8 0)) :=
    ⟨madeCells #[.int .u8 0] 1048576, fun w => run_make_row' (P := Tryd.prog) 38 5 (.int .u8 0) 1 uBS infoU8 rfl .i64 .i64 1048576 (by omega) (by omega) w, fun w => World.rowIs_made w (.int .u8 0) 1048576 5⟩
  have hF := longB_size 1048575
  have hruns := fun w hE hG => runsShort (longB 1048575) w (by rw [hF]; omega) tp p hE hG
  have hrr := long_runs 1048575
  rw [hrr] at hruns
  have hconv : ∀ (W : World) (B : Nat), W.rowIs B 5 1048576 (fun k => if k = 1048575 then .int .u8 33 else .int .u8 32) → Sem.run Tryd.prog (convert 38 9 (.slice (some ⟨B, 0, none⟩) 1048576 1048576)) W = Result.ok (.string (longB 1048575)) W := fun W B hr => by
    exact conv_long 1048575 W B hr
  clear hrr
  generalize hFF : longB 1048575 = F at *
  clear hFF
  have hF' : Hid (F.size = 1048576) := hF
  clear hF
  go_enter Tryd.func4, Tryd.ntmps4
  go_wp2_with (go_at_call 5; refine (awakeC _ tp p hE hG).mono ?_; rintro e w1 ⟨rfl, g1⟩)
  obtain ⟨X0, hX0⟩ : ∃ X0, w1.alloc (.cells C 5) = X0 := ⟨_, rfl⟩
  have r0 : X0.rowIs w1.heap.size 5 1048576 (fun _ => .int .u8 0) := by rw [← hX0]; exact hrow w1
  have g0 : w.grownBy X0 none := by rw [← hX0]; exact gb_alloc g1 _
  have z1 := g1.size
  rw [hX0]
  clear hX0 hrow hmk
  generalize w1.heap.size = B at *
  go_loopw [3] (fun v wr => ∃ k : Nat, k ≤ 1048576 ∧ v = .int .i64 k ∧ wr.rowIs B 5 1048576 (fun j => if j < k then .int .u8 32 else .int .u8 0) ∧ w.grownBy wr none) (fun v _ => 1048576 - (intOf v).toNat)
  case atStart => exact ⟨0, Nat.zero_le _, rfl, r0.congr (fun i _ => by rw [if_neg (by omega)]), g0⟩
  case round =>
    obtain ⟨k, hk, rfl, hr, hg⟩ := hrel
    by_cases hlt : k < 1048576
    · have hlt' : (k : Int) < 1048576 := by omega
      have c0 := hr.cell hlt
      have c1 := hr.frozen k
      have hst : (wr.setCell ⟨B, k, none⟩ (.int .u8 32)).rowIs B 5 1048576 (fun j => if j < k + 1 then .int .u8 32 else .int .u8 0) := (hr.set k (.int .u8 32)).congr (fun j hj => by
        by_cases e : j = k
        · rw [if_pos e, if_pos (by omega)]
        · rw [if_neg e]
          by_cases e2 : j < k
          · rw [if_pos e2, if_pos (by omega)]
          · rw [if_neg e2, if_neg (by omega)])
      have hgs := gb_new hg (a := ⟨B, k, none⟩) z1 (.int .u8 32)
      go_wp2
      go_roundw
      case rel => exact ⟨k + 1, by omega, by go_num, hst, hgs⟩
      case measure => simp [intOf]; omega
    · have hlt' : ¬ (k : Int) < 1048576 := by omega
      have hk' : k = 1048576 := by omega
      obtain ⟨Y, hY⟩ : ∃ Y, wr.setCell ⟨B, 1048575, none⟩ (.int .u8 33) = Y := ⟨_, rfl⟩
      have c0 := hr.cell (i := 1048575) (by omega)
      have c1 := hr.frozen 1048575
      have rY : Y.rowIs B 5 1048576 (fun k => if k = 1048575 then .int .u8 33 else .int .u8 32) := by
        rw [← hY]
        exact (hr.set 1048575 (.int .u8 33)).congr (fun j hj => by
          by_cases e : j = 1048575
          · rw [if_pos e, if_pos e]
          · rw [if_neg e, if_neg e, if_pos (by omega)])
      have gY : w.grownBy Y none := by rw [← hY]; exact gb_new hg z1 _
      have hcY := hconv Y B rY
      have EY : Hid (Er tp p Y) := Er.below hE.out (gb_below gY) hG
      have hGY := Nat.lt_of_lt_of_le hG gY.size
      have hsz : ¬ 9223372036854775807 < 1 + F.size := by have := hF'.out; omega
      have hbig : 1048576 < (({ data := #[32] } : ByteArray) ++ F).size := by
        rw [ByteArray.size_append, hF'.out]
        show 1048576 < 1 + 1048576
        omega
      have hlong := fun w => runsLong (({ data := #[32] } : ByteArray) ++ F) w hbig
      clear hk' hr hbig
      go_wp2_with (first | (go_at_call_of 9 (Value.string F); refine (hruns _ EY hGY).mono ?_; rintro e w5 ⟨v5, rfl, o5, g5⟩; obtain ⟨sp5, cp5, rfl⟩ := nil_form o5; have hc5 := hconv w5 B (rowIs_kept rY g5 (by simp))) | (go_at_call 9; refine (hlong _).mono ?_; rintro e w6 ⟨rfl, hw6⟩; subst w6))
      go_ret
      exact ⟨rfl, gb_below (gb_trans gY g5)⟩
end Go.Proofs.YtimknahfgpafaabDoor
