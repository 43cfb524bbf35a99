/- What the document's own Text answers at every number. -/
import Derived.Test.YteegbhnfkcbnoaaDoorP14
import Derived.Test.YteegbhnfkcbnoaaDoorNums2
import Derived.Lib.IndexBytes
import Derived.Laws.IdiomStrings
import Derived.Lib.SmallJoins
namespace Go.Proofs.YteegbhnfkcbnoaaDoor
open Go.RowKit
set_option linter.unusedVariables false
set_option maxRecDepth 100000
theorem ret1 {k : IntKind} {a b : Int} (h : a = b) : Ending.returned (.int k a) = .returned (.int k b) := by rw [h]
set_option maxHeartbeats 400000 in
theorem sizeRef (a : Int) (w : World) (h1 : -9223372036854775808 ≤ a) (h2 : a ≤ 9223372036854775807) :
    Calls Tryd.prog 49 #[.int .i64 a] w fun e w' => e = .returned (.int .u64 (Nm.absZ a)) ∧ w' = w := by
  by_cases c : a < 0
  · have b1 : 0 ≤ -(a + 1) := by omega
    have b2 : -(a + 1) ≤ 9223372036854775807 := by omega
    go_enter Tryd.func49, Tryd.ntmps49
    go_wp2
    go_ret
    exact ⟨ret1 (Nm.abs_neg c), rfl⟩
  · have b1 : 0 ≤ a := by omega
    go_enter Tryd.func49, Tryd.ntmps49
    go_wp2
    go_ret
    exact ⟨ret1 (Nm.abs_pos b1), rfl⟩

/-- The digit of a number below ten, as a text. -/
def dstr (a : Int) : ByteArray := ⟨#[UInt8.ofNat (48 + a % 10).toNat]⟩
theorem conv (a : Int) (wr : World) (ha : 0 ≤ a) :
    Sem.run Tryd.prog (convert 64 9 (Value.slice (some ⟨wr.heap.size, 0, none⟩) 1 1)) (wr.alloc (Obj.cells #[Value.int IntKind.u8 (48 + a % 10)] 5)) = .ok (.string (dstr a)) (wr.alloc (Obj.cells #[Value.int IntKind.u8 (48 + a % 10)] 5)) := by
  have hn : ((UInt8.ofNat (48 + a % 10).toNat).toNat : Int) = 48 + a % 10 := by
    rw [UInt8.toNat_ofNat']; omega
  refine run_convert_bytes_back (P := Tryd.prog) _ 64 9 5 ⟨wr.heap.size, 0, none⟩ 1 [UInt8.ofNat (48 + a % 10).toNat] Tryd.underlying64 Tryd.underlying5 Tryd.underlying9 ?_
  intro j hj
  have : j = 0 := by simp at hj; omega
  subst this
  show _ = some (Value.int .u8 ((UInt8.ofNat (48 + a % 10).toNat).toNat : Int))
  rw [hn]
  simp [go_sem]

/-- What the loop keeps: nothing is written yet and all of the number is left; or what is written and what is left make its digits. -/
def TI (u : Nat) (a : Int) (l : List UInt8) : Prop := (l = [] ∧ a = u) ∨ (l ≠ [] ∧ Lib.decDigits u = if a = 0 then l else Lib.decDigits a.toNat ++ l)
theorem ti_step {u : Nat} {a : Int} {l : List UInt8} (ha : 0 ≤ a) (hgo : 0 < a ∨ l = []) (h : TI u a l) : TI u (a / 10) ((dstr a).data.toList ++ l) := by
  have hd : (dstr a).data.toList = [UInt8.ofNat (48 + a.toNat % 10)] := by
    unfold dstr
    simp only [List.cons.injEq, and_true]
    congr 1; omega
  have hdiv : (a / 10).toNat = a.toNat / 10 := by omega
  have step : Lib.decDigits a.toNat = if a / 10 = 0 then [UInt8.ofNat (48 + a.toNat % 10)] else Lib.decDigits (a / 10).toNat ++ [UInt8.ofNat (48 + a.toNat % 10)] := by
    rw [Lib.decDigits]
    by_cases h10 : a.toNat < 10
    · rw [dif_pos h10, if_pos (by omega), show a.toNat % 10 = a.toNat from by omega]
    · rw [dif_neg h10, if_neg (by omega), hdiv]
  rw [hd]
  refine .inr ⟨by simp, ?_⟩
  rcases h with ⟨h1, h2⟩ | ⟨h1, h2⟩
  · subst h1
    rw [List.append_nil, show u = a.toNat from by omega]
    exact step
  · have ha0 : a ≠ 0 := by
      rcases hgo with h | h
      · omega
      · exact absurd h h1
    rw [h2, if_neg ha0, step]
    split
    · rfl
    · rw [List.append_assoc]
theorem ti_end {u : Nat} {l : List UInt8} (h : TI u 0 l) (hl : l ≠ []) : Lib.decDigits u = l := by
  rcases h with ⟨h1, _⟩ | ⟨_, h2⟩
  · exact absurd h1 hl
  · simpa using h2
theorem ti_len {u : Nat} {a : Int} {l : List UInt8} (h : TI u a l) : l.length ≤ (Lib.decDigits u).length := by
  rcases h with ⟨h1, _⟩ | ⟨_, h2⟩
  · subst h1; exact Nat.zero_le _
  · rw [h2]; split
    · exact Nat.le_refl _
    · rw [List.length_append]; omega
theorem dec_len (n : Int) (h0 : -9223372036854775808 ≤ n) (h1 : n ≤ 9223372036854775807) : (Lib.decDigits n.natAbs).length ≤ 21 := by
  have h := Lib.itoa_length_le n h0 h1
  unfold Lib.itoa at h
  split at h
  · rw [List.length_cons] at h; omega
  · rwa [show n.toNat = n.natAbs from by omega] at h
theorem dstr_size (a : Int) : (dstr a).size = 1 := rfl
theorem conv0 (wr : World) :
    Sem.run Tryd.prog (convert 64 9 (Value.slice (some ⟨wr.heap.size, 0, none⟩) 1 1)) (wr.alloc (Obj.cells #[Value.int IntKind.u8 48] 5)) = .ok (.string (dstr 0)) (wr.alloc (Obj.cells #[Value.int IntKind.u8 48] 5)) := conv 0 wr (by decide)
def emp (v : Value) : Nat := match v with | .string t => if t.data.toList = [] then 1 else 0 | _ => 0
theorem retS {a b : ByteArray} (h : a = b) : Ending.returned (.string a) = .returned (.string b) := by rw [h]
theorem fin_minus {n : Int} {d : ByteArray} (hn : n < 0) (h : Lib.decDigits n.natAbs = d.data.toList) : (ByteArray.mk #[45]) ++ d = ⟨(Lib.itoa n).toArray⟩ := by
  apply WideShapes.bytes_inj
  rw [Joins.data_append]
  unfold Lib.itoa
  rw [if_pos hn, h]
  simp
theorem fin_plus {n : Int} {d : ByteArray} (hn : ¬ n < 0) (h : Lib.decDigits n.natAbs = d.data.toList) : d = ⟨(Lib.itoa n).toArray⟩ := by
  apply WideShapes.bytes_inj
  unfold Lib.itoa
  rw [if_neg hn, show n.toNat = n.natAbs from by omega, h]
theorem len_app (a : Int) (d : ByteArray) : (dstr a ++ d).data.toList = (dstr a).data.toList ++ d.data.toList := Joins.data_append _ _

set_option maxHeartbeats 1000000 in
theorem textRef (n : Int) (w : World) (h0 : -9223372036854775808 ≤ n) (h1 : n ≤ 9223372036854775807) :
    Calls Tryd.prog 27 #[.int .i64 n] w fun e w' => e = .returned (.string ⟨(Lib.itoa n).toArray⟩) ∧ Below w.heap.size w w' := by
  have x1 := Nm.absZ_nn n
  have x2 := Nm.absZ_le n h0 h1
  go_enter Tryd.func27, Tryd.ntmps27
  go_wp2_with (go_at_call 49; refine (sizeRef _ _ (by omega) (by omega)).mono ?_; rintro e w' ⟨rfl, rfl⟩)
  go_loopw [3, 4] (fun x t wr => ∃ (a : Int) (d : ByteArray), x = .int .u64 a ∧ t = .string d ∧ 0 ≤ a ∧ a ≤ 9223372036854775808 ∧ Hid (TI n.natAbs a d.data.toList) ∧ Below w'.heap.size w' wr) (fun x t _ => (intOf x).natAbs + emp t)
  case atStart => exact ⟨_, ⟨#[]⟩, rfl, rfl, x1, x2, .inl ⟨rfl, rfl⟩, Below.refl _ _⟩
  case round =>
    obtain ⟨a, d, rfl, rfl, a1, a2, hd, hb⟩ := hrel
    have hsz : d.size ≤ 21 := by
      have hl : d.data.toList.length = d.size := Array.length_toList
      have h2 := ti_len hd.out
      have h3 := dec_len n h0 h1
      omega
    have hds := dstr_size a
    by_cases c1 : 0 < a
    · have hc := conv a wr a1
      have HS : Hid (TI n.natAbs (a / 10) (dstr a ++ d).data.toList) := by
        unfold Hid
        rw [len_app]
        exact ti_step a1 (.inl c1) hd.out
      have HM : Hid (emp (.string (dstr a ++ d)) = 0) := by
        unfold Hid emp
        simp only [len_app]
        simp [dstr]
      go_wp2
      go_roundw
      case rel => exact ⟨_, _, rfl, rfl, by omega, by omega, HS, hb.alloc hb.size _⟩
      case measure =>
        have := HM.out
        simp only [intOf]
        simp [this]
        omega
    · have a0 : a = 0 := by omega
      subst a0
      by_cases c2 : d.data.toList = []
      · have e2 : d.toList.isEmpty = true := by rw [Lib.toList_data, c2]; rfl
        have hc := conv0 wr
        have HS : Hid (TI n.natAbs (0 / 10) (dstr 0 ++ d).data.toList) := by
          unfold Hid
          rw [len_app]
          exact ti_step a1 (.inr c2) hd.out
        have HM : Hid (emp (.string (dstr 0 ++ d)) = 0 ∧ emp (.string d) = 1) := by
          refine ⟨?_, ?_⟩
          · unfold emp
            simp only [len_app]
            simp [dstr]
          · unfold emp
            simp [c2]
        clear c2
        go_wp2
        go_roundw
        case rel => exact ⟨_, _, rfl, rfl, by omega, by omega, HS, hb.alloc hb.size _⟩
        case measure =>
          have := HM.out
          simp [intOf, this.1, this.2]
      · have e2 : d.toList.isEmpty = false := by rw [Lib.toList_data]; simpa using c2
        have HE : Hid (Lib.decDigits n.natAbs = d.data.toList) := ti_end hd.out c2
        clear c2
        by_cases cn : n < 0
        · go_wp2
          go_ret
          exact ⟨retS (fin_minus cn HE.out), hb⟩
        · have HF : Hid (d = ⟨(Lib.itoa n).toArray⟩) := fin_plus cn HE.out
          go_wp2
          go_ret
          exact ⟨retS HF.out, hb⟩
end Go.Proofs.YteegbhnfkcbnoaaDoor
