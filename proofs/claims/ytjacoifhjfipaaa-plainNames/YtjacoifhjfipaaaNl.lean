/- What PlainNames calls. -/
import Derived.Test.YtjacoifhjfipaaaNd
import Derived.Test.YtjacoifhjfipaaaAl
import Derived.Deep.RegionHeld2
namespace Go.Proofs.Ytjacoifhjfipaaa
open Go.RowKit Ln
set_option linter.unusedVariables false
set_option linter.unusedSimpArgs false
set_option maxRecDepth 100000

theorem under8N : Try.prog.underlying 23 = some (.slice 5) := by kernel_rfl
theorem info8N : (Try.prog.info? 5).map (fun i => (i.zero, i.size, i.bytes)) = some (some (.int .u8 0), 1, 1) := by kernel_rfl
def dtV (k q : Nat) : Value := .int .u8 ((if q < k then 46 else 0 : Nat) : Int)
theorem dtV_step (k q : Nat) : (if q = k then Value.int .u8 46 else dtV k q) = dtV (k + 1) q := by
  unfold dtV
  by_cases h : q = k
  · rw [if_pos h, if_pos (by omega)]; rfl
  · rw [if_neg h]
    by_cases h2 : q < k
    · rw [if_pos h2, if_pos (by omega)]
    · rw [if_neg h2, if_neg (by omega)]
theorem under8u : Try.prog.underlying 5 = some (.int .u8) := by kernel_rfl
theorem understr : Try.prog.underlying 9 = some .string := by kernel_rfl
theorem conv_dots (n cap : Nat) (W : World) (B : Nat) (hn : n ≤ 1048577) (hr : W.rowIs B 5 1048577 (dtV 1048577)) : (convert 23 9 (.slice (some ⟨B, 0, none⟩) n cap)).run Try.prog W = .ok (.string (dots n)) W := by
  have h := run_convert_bytes_back (P := Try.prog) W 23 9 5 ⟨B, 0, none⟩ cap (List.replicate n 46) under8N under8u understr (fun j hj => by
    have hj' : j < n := by simpa using hj
    rw [add_mid, Nat.zero_add, hr.cell (by omega), List.getElem_replicate]
    unfold dtV
    rw [if_pos (by omega)]; rfl)
  rw [List.length_replicate] at h
  have e : (⟨(List.replicate n 46).toArray⟩ : ByteArray) = dots n := by
    apply ByteArray.ext
    apply Array.ext'
    rw [dots_data]
  rw [← e]
  exact h
theorem dots_ex {n : Nat} (hn : n = 1048576) : ∃ D : ByteArray, (rdE D = 0 ∧ rdP D = 0 ∧ rdC D = []) ∧ ∀ (cap : Nat) (W : World) (B : Nat), W.rowIs B 5 1048577 (dtV 1048577) → (convert 23 9 (.slice (some ⟨B, 0, none⟩) n cap)).run Try.prog W = .ok (.string D) W :=
  ⟨dots n, rd_dots (by omega) (by omega), fun cap W B h => conv_dots n cap W B (by omega) h⟩
theorem dots_ex2 {n : Nat} (hn : n = 1048577) : ∃ D : ByteArray, (rdE D = 3 ∧ rdP D = 0 ∧ rdC D = []) ∧ ∀ (cap : Nat) (W : World) (B : Nat), W.rowIs B 5 1048577 (dtV 1048577) → (convert 23 9 (.slice (some ⟨B, 0, none⟩) n cap)).run Try.prog W = .ok (.string D) W := by
  have hs := dots_size n
  refine ⟨dots n, ?_, fun cap W B h => conv_dots n cap W B (by omega) h⟩
  unfold rdE rdP rdC
  rw [if_pos (by omega), if_pos (by omega), if_pos (by omega)]
  exact ⟨rfl, rfl, rfl⟩
theorem wr_ok (n m : Nat) {V H : Int} (hV : V = (n : Int)) (hH : H = (m : Int)) (hn : n ≤ 65536) (hm : m ≤ 65536) (h : m * (n + 1) ≤ 1048576) (w : World) : Calls Try.prog 11 #[.slice none 0 0, .agg #[.int .i64 0, .int .i64 0, .int .i64 V, .int .i64 H]] w fun e w' => ∃ S : ByteArray, e = .returned (.tuple #[.string S, .int .i64 0]) ∧ (S.size : Int) = ((m * (n + 1) : Nat) : Int) ∧ w.grownBy w' none := by
  subst hV hH
  have h2 := wr_nil hn hm
  refine (writeC none 0 [] (by decide) (fun c hc => by cases hc) 0 0 (n : Int) (m : Int) w (fun k hk => by cases hk)).mono ?_
  rintro e w' ⟨rfl, g⟩
  rw [h2.1, if_neg (by omega)]
  exact ⟨_, rfl, by rw [h2.2 (by omega)], g⟩
theorem wr_no (n m : Nat) {V H : Int} (hV : V = (n : Int)) (hH : H = (m : Int)) (hn : n ≤ 65536) (hm : m ≤ 65536) (h : 1048576 < m * (n + 1)) (w : World) : Calls Try.prog 11 #[.slice none 0 0, .agg #[.int .i64 0, .int .i64 0, .int .i64 V, .int .i64 H]] w fun e w' => ∃ S : ByteArray, e = .returned (.tuple #[.string S, .int .i64 3]) ∧ w.grownBy w' none := by
  subst hV hH
  have h2 := wr_nil hn hm
  refine (writeC none 0 [] (by decide) (fun c hc => by cases hc) 0 0 (n : Int) (m : Int) w (fun k hk => by cases hk)).mono ?_
  rintro e w' ⟨rfl, g⟩
  rw [h2.1, if_pos h]
  exact ⟨_, rfl, g⟩
theorem hv_ok (n m : Nat) {V H : Int} (hV : V = (n : Int)) (hH : H = (m : Int)) (hn : n ≤ 65536) (hm : m ≤ 65536) (h : (m + 1) / 2 * (n + 1) ≤ 1048576) (w : World) : Calls Try.prog 12 #[.slice none 0 0, .agg #[.int .i64 0, .int .i64 0, .int .i64 V, .int .i64 H]] w fun e w' => ∃ S : ByteArray, e = .returned (.tuple #[.string S, .int .i64 0]) ∧ (S.size : Int) = (((m + 1) / 2 * (n + 1) : Nat) : Int) ∧ w.grownBy w' none := by
  subst hV hH
  have h2 := hv_nil hn hm
  refine (halvesC none 0 [] (by decide) (fun c hc => by cases hc) 0 0 (n : Int) (m : Int) w (fun k hk => by cases hk)).mono ?_
  rintro e w' ⟨rfl, g⟩
  rw [h2.1, if_neg (by omega)]
  exact ⟨_, rfl, by rw [h2.2 (by omega)], g⟩
theorem hv_no (n m : Nat) {V H : Int} (hV : V = (n : Int)) (hH : H = (m : Int)) (hn : n ≤ 65536) (hm : m ≤ 65536) (h : 1048576 < (m + 1) / 2 * (n + 1)) (w : World) : Calls Try.prog 12 #[.slice none 0 0, .agg #[.int .i64 0, .int .i64 0, .int .i64 V, .int .i64 H]] w fun e w' => ∃ S : ByteArray, e = .returned (.tuple #[.string S, .int .i64 3]) ∧ w.grownBy w' none := by
  subst hV hH
  have h2 := hv_nil hn hm
  refine (halvesC none 0 [] (by decide) (fun c hc => by cases hc) 0 0 (n : Int) (m : Int) w (fun k hk => by cases hk)).mono ?_
  rintro e w' ⟨rfl, g⟩
  rw [h2.1, if_pos h]
  exact ⟨_, rfl, g⟩
theorem wr_side {X V H : Int} (h : sideB V = false) (w : World) : Calls Try.prog 11 #[.slice none 0 0, .agg #[.int .i64 X, .int .i64 0, .int .i64 V, .int .i64 H]] w fun e w' => ∃ S : ByteArray, e = .returned (.tuple #[.string S, .int .i64 231]) ∧ w.grownBy w' none := by
  refine (writeC none 0 [] (by decide) (fun c hc => by cases hc) X 0 V H w (fun k hk => by cases hk)).mono ?_
  rintro e w' ⟨rfl, g⟩
  have h0 : lkE [] X 0 V H = 231 := by unfold lkE; rw [h]; rfl
  unfold wrE
  rw [h0, if_neg (by decide)]
  exact ⟨_, rfl, g⟩
theorem wrap_q1 {k : Nat} (h : k ≤ 4000000) : IntKind.i64.wrap ((k : Int) + 1) = (k : Int) + 1 := by rw [IntKind.wrap_i64]; omega
end Go.Proofs.Ytjacoifhjfipaaa
