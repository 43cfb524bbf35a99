/- The tags of states: what Tag and State of package scan answer, and the document's. -/
import Derived.Test.YtimknahfgpafaaaDoorS2
import Derived.Deep.AppendLies
namespace Go.Proofs.YtimknahfgpafaaaDoor
open Go.RowKit
set_option linter.unusedVariables false
set_option linter.unusedSimpArgs false

def tagT (n : Nat) : ByteArray := if n = 0 then ⟨#[46]⟩ else if n ≤ 24 then ⟨#[UInt8.ofNat (64 + n)]⟩ else ⟨#[UInt8.ofNat (112 + (n - 25) / 24), UInt8.ofNat (65 + (n - 25) % 24)]⟩
def tagF (n : Nat) : ByteArray := if n = 0 then ⟨#[98]⟩ else if n = 1 then ⟨#[111]⟩ else ⟨#[]⟩
theorem uBS : Tryd.prog.underlying 74 = some (.slice 5) := by kernel_rfl
theorem u5 : Tryd.prog.underlying 5 = some (.int .u8) := by kernel_rfl
theorem u9 : Tryd.prog.underlying 9 = some .string := by kernel_rfl
theorem conv1 (w : World) (x : Int) : (convert 74 9 (.slice (some ⟨w.heap.size, 0, none⟩) 1 1)).run Tryd.prog (w.alloc (.cells #[.int .u8 x] 5)) = .ok (.string ⟨#[UInt8.ofNat x.toNat]⟩) (w.alloc (.cells #[.int .u8 x] 5)) := by
  rw [run_convert_bytes_string _ 74 9 5 _ 1 1 uBS u5 u9]
  have hl := run_loadCells_list (P := Tryd.prog) (w.alloc (.cells #[.int .u8 x] 5)) ⟨w.heap.size, 0, none⟩ ([x].map (Value.int .u8)) (World.news_of_block (cs := #[.int .u8 x]) (heap_alloc_new w _))
  exact run_bytesToString _ _ 1 1 [x] hl
theorem conv2 (w : World) (x y : Int) : (convert 74 9 (.slice (some ⟨w.heap.size, 0, none⟩) 2 2)).run Tryd.prog (w.alloc (.cells #[.int .u8 x, .int .u8 y] 5)) = .ok (.string ⟨#[UInt8.ofNat x.toNat, UInt8.ofNat y.toNat]⟩) (w.alloc (.cells #[.int .u8 x, .int .u8 y] 5)) := by
  rw [run_convert_bytes_string _ 74 9 5 _ 2 2 uBS u5 u9]
  have hl := run_loadCells_list (P := Tryd.prog) (w.alloc (.cells #[.int .u8 x, .int .u8 y] 5)) ⟨w.heap.size, 0, none⟩ ([x, y].map (Value.int .u8)) (World.news_of_block (cs := #[.int .u8 x, .int .u8 y]) (heap_alloc_new w _))
  exact run_bytesToString _ _ 2 2 [x, y] hl
theorem ret_s {a b : ByteArray} (h : a = b) : Ending.returned (.string a) = .returned (.string b) := by rw [h]

set_option maxRecDepth 100000 in
set_option maxHeartbeats 1000000 in
theorem tagTC (n : Nat) (w : World) (hn : n < 256) : Calls Tryd.prog 24 #[.int .u8 n, .bool true] w fun e w' => e = .returned (.string (tagT n)) ∧ w.grownBy w' none := by
  by_cases h0 : n = 0
  · subst h0
    go_enter Tryd.func24, Tryd.ntmps24
    go_wp2
    go_ret
    exact ⟨rfl, World.grownBy.refl _ _⟩
  · by_cases h24 : n ≤ 24
    · have h1 : ¬ ((n : Int) = 0) := by omega
      have h2 : (n : Int) ≤ 24 := by omega
      have HC := conv1 w (64 + (n : Int))
      have HW : IntKind.u8.wrap (65 + (n : Int)) = 65 + (n : Int) := by rw [IntKind.wrap_u8]; omega
      have HX : IntKind.u8.wrap (65 + (n : Int) - 1) = 64 + (n : Int) := by rw [IntKind.wrap_u8]; omega
      have HY : IntKind.i64.wrap (65 + (n : Int) - 1) = 64 + (n : Int) := by rw [IntKind.wrap_i64]; omega
      have HZ : (65 + (n : Int) - 1) = 64 + (n : Int) := by omega
      have HT : Hid (ByteArray.mk #[UInt8.ofNat (64 + (n : Int)).toNat] = tagT n) := by
        unfold Hid tagT
        rw [if_neg h0, if_pos h24, show (64 + (n : Int)).toNat = 64 + n by omega]
      go_enter Tryd.func24, Tryd.ntmps24
      go_wp2
      go_ret
      exact ⟨ret_s HT.out, World.grownBy_alloc _ _ _⟩
    · have h1 : ¬ ((n : Int) = 0) := by omega
      have h2 : ¬ ((n : Int) ≤ 24) := by omega
      have HC := conv2 w (112 + ((n : Int) - 25) / 24) (65 + ((n : Int) - 25) % 24)
      have HT : Hid (ByteArray.mk #[UInt8.ofNat (112 + ((n : Int) - 25) / 24).toNat, UInt8.ofNat (65 + ((n : Int) - 25) % 24).toNat] = tagT n) := by
        unfold Hid tagT
        rw [if_neg h0, if_neg h24, show (112 + ((n : Int) - 25) / 24).toNat = 112 + (n - 25) / 24 by omega, show (65 + ((n : Int) - 25) % 24).toNat = 65 + (n - 25) % 24 by omega]
      go_enter Tryd.func24, Tryd.ntmps24
      go_wp2
      go_ret
      refine ⟨ret_s ?_, World.grownBy_alloc _ _ _⟩
      first
      | exact HT.out
      | (unfold tagT
         rw [if_neg h0, if_neg h24, UInt8.ofNat_add, UInt8.ofNat_add]
         rfl)

set_option maxRecDepth 100000 in
set_option maxHeartbeats 1000000 in
theorem rtagTC (n : Nat) (w : World) (hn : n < 256) : Calls Tryd.prog 25 #[.int .u8 n, .bool true] w fun e w' => e = .returned (.string (tagT n)) ∧ w.grownBy w' none := by
  by_cases h0 : n = 0
  · subst h0
    go_enter Tryd.func25, Tryd.ntmps25
    go_wp2
    go_ret
    exact ⟨rfl, World.grownBy.refl _ _⟩
  · by_cases h24 : n ≤ 24
    · have h1 : ¬ ((n : Int) = 0) := by omega
      have h2 : (n : Int) ≤ 24 := by omega
      have HC := conv1 w (64 + (n : Int))
      have HW : IntKind.u8.wrap (65 + (n : Int)) = 65 + (n : Int) := by rw [IntKind.wrap_u8]; omega
      have HX : IntKind.u8.wrap (65 + (n : Int) - 1) = 64 + (n : Int) := by rw [IntKind.wrap_u8]; omega
      have HY : IntKind.i64.wrap (65 + (n : Int) - 1) = 64 + (n : Int) := by rw [IntKind.wrap_i64]; omega
      have HZ : (65 + (n : Int) - 1) = 64 + (n : Int) := by omega
      have HT : Hid (ByteArray.mk #[UInt8.ofNat (64 + (n : Int)).toNat] = tagT n) := by
        unfold Hid tagT
        rw [if_neg h0, if_pos h24, show (64 + (n : Int)).toNat = 64 + n by omega]
      go_enter Tryd.func25, Tryd.ntmps25
      go_wp2
      go_ret
      exact ⟨ret_s HT.out, World.grownBy_alloc _ _ _⟩
    · have h1 : ¬ ((n : Int) = 0) := by omega
      have h2 : ¬ ((n : Int) ≤ 24) := by omega
      have HC := conv2 w (112 + ((n : Int) - 25) / 24) (65 + ((n : Int) - 25) % 24)
      have HT : Hid (ByteArray.mk #[UInt8.ofNat (112 + ((n : Int) - 25) / 24).toNat, UInt8.ofNat (65 + ((n : Int) - 25) % 24).toNat] = tagT n) := by
        unfold Hid tagT
        rw [if_neg h0, if_neg h24, show (112 + ((n : Int) - 25) / 24).toNat = 112 + (n - 25) / 24 by omega, show (65 + ((n : Int) - 25) % 24).toNat = 65 + (n - 25) % 24 by omega]
      go_enter Tryd.func25, Tryd.ntmps25
      go_wp2
      go_ret
      refine ⟨ret_s ?_, World.grownBy_alloc _ _ _⟩
      first
      | exact HT.out
      | (unfold tagT
         rw [if_neg h0, if_neg h24, UInt8.ofNat_add, UInt8.ofNat_add]
         rfl)

theorem tagOfTwoC (n : Nat) (w : World) : Calls Tryd.prog 50 #[.int .u8 n] w fun e w' => e = .returned (.string (tagF n)) ∧ w' = w := by
  by_cases h0 : n = 0
  · subst h0
    go_enter Tryd.func50, Tryd.ntmps50
    go_wp2
    go_ret
    exact ⟨rfl, rfl⟩
  · by_cases h1 : n = 1
    · subst h1
      go_enter Tryd.func50, Tryd.ntmps50
      go_wp2
      go_ret
      exact ⟨rfl, rfl⟩
    · have h2 : ((n : Int) == 0) = false := by simp; omega
      have h3 : ((n : Int) == 1) = false := by simp; omega
      have HT : Hid (ByteArray.mk #[] = tagF n) := by unfold Hid tagF; rw [if_neg h0, if_neg h1]
      go_enter Tryd.func50, Tryd.ntmps50
      go_wp2
      go_ret
      exact ⟨ret_s HT.out, rfl⟩
set_option maxRecDepth 100000 in
set_option maxHeartbeats 1000000 in
theorem tagFC (n : Nat) (w : World) : Calls Tryd.prog 24 #[.int .u8 n, .bool false] w fun e w' => e = .returned (.string (tagF n)) ∧ w' = w := by
  go_enter Tryd.func24, Tryd.ntmps24
  go_wp2_with (go_at_call 50; refine (tagOfTwoC _ _).mono ?_; rintro e w' ⟨rfl, rfl⟩)
  go_ret
  exact ⟨rfl, rfl⟩
set_option maxRecDepth 100000 in
set_option maxHeartbeats 1000000 in
theorem rtagFC (n : Nat) (w : World) (hn : n < 256) : Calls Tryd.prog 25 #[.int .u8 n, .bool false] w fun e w' => e = .returned (.string (tagF n)) ∧ w' = w := by
  by_cases h0 : n = 0
  · subst h0
    go_enter Tryd.func25, Tryd.ntmps25
    go_wp2
    go_ret
    exact ⟨rfl, rfl⟩
  · by_cases h1 : n = 1
    · subst h1
      go_enter Tryd.func25, Tryd.ntmps25
      go_wp2
      go_ret
      exact ⟨rfl, rfl⟩
    · have h2 : ((n : Int) == 0) = false := by simp; omega
      have h3 : ((n : Int) == 1) = false := by simp; omega
      have h4 : ¬ ((n : Int) = 0) := by omega
      have h5 : ¬ ((n : Int) = 1) := by omega
      have HT : Hid (ByteArray.mk #[] = tagF n) := by unfold Hid tagF; rw [if_neg h0, if_neg h1]
      go_enter Tryd.func25, Tryd.ntmps25
      go_wp2
      go_ret
      exact ⟨ret_s HT.out, rfl⟩

/-- The state that one byte tells; two bytes; a text. -/
def st1 (c : Nat) : Option Nat := if c = 98 ∨ c = 46 then some 0 else if c = 111 then some 1 else if Sc.stateB c = true then some (c - 64) else none
def st2 (a b : Nat) : Option Nat := if Sc.twoB a = true ∧ Sc.stateB b = true ∧ 25 + (a - 112) * 24 + (b - 65) < 256 then some (25 + (a - 112) * 24 + (b - 65)) else none
def stOf (t : ByteArray) : Option Nat := if t.size = 1 then st1 (Sc.bt t 0) else if t.size = 2 then st2 (Sc.bt t 0) (Sc.bt t 1) else none
def oN (x : Option Nat) : Nat := x.getD 0
def oB (x : Option Nat) : Bool := x.isSome
theorem ret_nb {a b : Int} {c d : Bool} (h : a = b) (hp : c = d) : Ending.returned (.tuple #[.int .u8 a, .bool c]) = .returned (.tuple #[.int .u8 b, .bool d]) := by rw [h, hp]

set_option maxRecDepth 100000 in
set_option maxHeartbeats 1000000 in
theorem stOneC (c : Nat) (w : World) (hc : c < 256) : Calls Tryd.prog 48 #[.int .u8 c] w fun e w' => e = .returned (.tuple #[.int .u8 (oN (st1 c) : Nat), .bool (oB (st1 c))]) ∧ w' = w := by
  by_cases h0 : c = 98
  · subst h0
    go_enter Tryd.func48, Tryd.ntmps48
    go_wp2
    go_ret2
    exact ⟨rfl, rfl⟩
  by_cases h1 : c = 46
  · subst h1
    go_enter Tryd.func48, Tryd.ntmps48
    go_wp2
    go_ret2
    exact ⟨rfl, rfl⟩
  by_cases h2 : c = 111
  · subst h2
    go_enter Tryd.func48, Tryd.ntmps48
    go_wp2
    go_ret2
    exact ⟨rfl, rfl⟩
  have e0 : ((c : Int) == 98) = false := by simp; omega
  have e1 : ((c : Int) == 46) = false := by simp; omega
  have e2 : ((c : Int) == 111) = false := by simp; omega
  cases h3 : Sc.stateB c with
  | false =>
    have H1 : Hid ((0 : Int) = (oN (st1 c) : Nat)) := by unfold Hid st1 oN; simp [h0, h1, h2, h3]
    have H2 : Hid (false = oB (st1 c)) := by unfold Hid st1 oB; simp [h0, h1, h2, h3]
    go_enter Tryd.func48, Tryd.ntmps48
    go_wp2_with (go_at_call 67; refine (isStateLetterC _ _).mono ?_; rintro e w' ⟨rfl, rfl⟩)
    go_ret2
    exact ⟨ret_nb H1.out H2.out, rfl⟩

  | true =>
    have hr : 65 ≤ c ∧ c ≤ 88 := by unfold Sc.stateB at h3; rw [Sc.wi_iff] at h3; omega
    obtain ⟨hr1, hr2⟩ := hr
    have hr1' : (65 : Int) ≤ (c : Int) := by omega
    have hr2' : (c : Int) ≤ 88 := by omega
    have HW1 : IntKind.u8.wrap ((c : Int) - 65) = (c : Int) - 65 := by rw [IntKind.wrap_u8]; omega
    have HW2 : IntKind.u8.wrap ((c : Int) - 65 + 1) = ((c - 64 : Nat) : Int) := by rw [IntKind.wrap_u8]; omega
    have HZ : (c : Int) - 65 + 1 = ((c - 64 : Nat) : Int) := by omega
    have H1 : Hid ((((c - 64 : Nat) : Int) : Int) = (oN (st1 c) : Nat)) := by unfold Hid st1 oN; simp [h0, h1, h2, h3]
    have H2 : Hid (true = oB (st1 c)) := by unfold Hid st1 oB; simp [h0, h1, h2, h3]
    go_enter Tryd.func48, Tryd.ntmps48
    go_wp2_with (go_at_call 67; refine (isStateLetterC _ _).mono ?_; rintro e w' ⟨rfl, rfl⟩)
    go_ret2
    exact ⟨ret_nb H1.out H2.out, rfl⟩


set_option maxRecDepth 100000 in
set_option maxHeartbeats 1000000 in
theorem stTwoC (a b : Nat) (w : World) (ha : a < 256) (hb : b < 256) : Calls Tryd.prog 49 #[.int .u8 a, .int .u8 b] w fun e w' => e = .returned (.tuple #[.int .u8 (oN (st2 a b) : Nat), .bool (oB (st2 a b))]) ∧ w' = w := by
  cases h1 : Sc.twoB a with
  | false =>
    have H1 : Hid ((0 : Int) = (oN (st2 a b) : Nat)) := by unfold Hid st2 oN; simp [h1]
    have H2 : Hid (false = oB (st2 a b)) := by unfold Hid st2 oB; simp [h1]
    go_enter Tryd.func49, Tryd.ntmps49
    go_wp2_with (first | (go_at_call 68; refine (beginsTwoC _ _).mono ?_; rintro e w' ⟨rfl, rfl⟩) | (go_at_call 67; refine (isStateLetterC _ _).mono ?_; rintro e w' ⟨rfl, rfl⟩))
    go_ret2
    exact ⟨ret_nb H1.out H2.out, rfl⟩
  | true =>
    cases h2 : Sc.stateB b with
    | false =>
      have H1 : Hid ((0 : Int) = (oN (st2 a b) : Nat)) := by unfold Hid st2 oN; simp [h2]
      have H2 : Hid (false = oB (st2 a b)) := by unfold Hid st2 oB; simp [h2]
      go_enter Tryd.func49, Tryd.ntmps49
      go_wp2_with (first | (go_at_call 68; refine (beginsTwoC _ _).mono ?_; rintro e w' ⟨rfl, rfl⟩) | (go_at_call 67; refine (isStateLetterC _ _).mono ?_; rintro e w' ⟨rfl, rfl⟩))
      go_ret2
      exact ⟨ret_nb H1.out H2.out, rfl⟩
    | true =>
      have hr : 65 ≤ b ∧ b ≤ 88 := by have := h2; unfold Sc.stateB at this; rw [Sc.wi_iff] at this; omega
      have hq : 112 ≤ a ∧ a ≤ 121 := by have := h1; unfold Sc.twoB at this; rw [Sc.wi_iff] at this; omega
      obtain ⟨hr1, hr2⟩ := hr
      obtain ⟨hq1, hq2⟩ := hq
      have HW1 : IntKind.u8.wrap ((a : Int) - 112) = (a : Int) - 112 := by rw [IntKind.wrap_u8]; omega
      have HW2 : IntKind.u8.wrap ((b : Int) - 65) = (b : Int) - 65 := by rw [IntKind.wrap_u8]; omega
      by_cases h3 : 25 + (a - 112) * 24 + (b - 65) < 256
      · have H1 : Hid ((25 + ((a : Int) - 112) * 24 + ((b : Int) - 65) : Int) = (oN (st2 a b) : Nat)) := by
          unfold Hid st2 oN; rw [if_pos ⟨h1, h2, h3⟩, Option.getD_some]; omega
        have H2 : Hid (true = oB (st2 a b)) := by unfold Hid st2 oB; rw [if_pos ⟨h1, h2, h3⟩]; rfl
        have h4 : ¬ (256 : Int) ≤ 25 + ((a : Int) - 112) * 24 + ((b : Int) - 65) := by omega
        go_enter Tryd.func49, Tryd.ntmps49
        go_wp2_with (first | (go_at_call 68; refine (beginsTwoC _ _).mono ?_; rintro e w' ⟨rfl, rfl⟩) | (go_at_call 67; refine (isStateLetterC _ _).mono ?_; rintro e w' ⟨rfl, rfl⟩))
        go_ret2
        exact ⟨ret_nb H1.out H2.out, rfl⟩
      · have H1 : Hid ((0 : Int) = (oN (st2 a b) : Nat)) := by unfold Hid st2 oN; rw [if_neg (fun h => h3 h.2.2)]; rfl
        have H2 : Hid (false = oB (st2 a b)) := by unfold Hid st2 oB; rw [if_neg (fun h => h3 h.2.2)]; rfl
        have h4 : (256 : Int) ≤ 25 + ((a : Int) - 112) * 24 + ((b : Int) - 65) := by omega
        go_enter Tryd.func49, Tryd.ntmps49
        go_wp2_with (first | (go_at_call 68; refine (beginsTwoC _ _).mono ?_; rintro e w' ⟨rfl, rfl⟩) | (go_at_call 67; refine (isStateLetterC _ _).mono ?_; rintro e w' ⟨rfl, rfl⟩))
        go_ret2
        exact ⟨ret_nb H1.out H2.out, rfl⟩

set_option maxRecDepth 100000 in
set_option maxHeartbeats 1000000 in
theorem stateC (t : ByteArray) (w : World) : Calls Tryd.prog 22 #[.string t] w fun e w' => e = .returned (.tuple #[.int .u8 (oN (stOf t) : Nat), .bool (oB (stOf t))]) ∧ ∃ k, w' = w.drewN k := by
  by_cases h1 : t.size = 1
  · have H1 : Hid ((oN (st1 (Sc.bt t 0)) : Int) = (oN (stOf t) : Nat)) := by unfold Hid stOf; rw [if_pos h1]
    have H2 : Hid (oB (st1 (Sc.bt t 0)) = oB (stOf t)) := by unfold Hid stOf; rw [if_pos h1]
    have h0 : 0 < t.size := by omega
    have hb := Sc.bt_at h0
    have hl := Sc.bt_lt t 0
    go_enter Tryd.func22, Tryd.ntmps22
    go_wp2_with (go_at_call 48; refine (stOneC _ _ hl).mono ?_; rintro e w' ⟨rfl, rfl⟩)
    go_ret2
    exact ⟨ret_nb H1.out H2.out, 0, rfl⟩
  · by_cases h2 : t.size = 2
    · have H1 : Hid ((oN (st2 (Sc.bt t 0) (Sc.bt t 1)) : Int) = (oN (stOf t) : Nat)) := by unfold Hid stOf; rw [if_neg h1, if_pos h2]
      have H2 : Hid (oB (st2 (Sc.bt t 0) (Sc.bt t 1)) = oB (stOf t)) := by unfold Hid stOf; rw [if_neg h1, if_pos h2]
      have h0 : 0 < t.size := by omega
      have h0' : 1 < t.size := by omega
      have hb := Sc.bt_at h0
      have hb' := Sc.bt_at h0'
      have hl := Sc.bt_lt t 0
      have hl' := Sc.bt_lt t 1
      clear h1
      go_enter Tryd.func22, Tryd.ntmps22
      go_wp2
      go_quiet (first | (go_at_call 49; refine Calls.quiet_of_same (stTwoC _ _ _ hl hl')))
      go_wp2
      go_ret2
      exact ⟨ret_nb H1.out H2.out, _, rfl⟩
    · have H1 : Hid ((0 : Int) = (oN (stOf t) : Nat)) := by unfold Hid stOf; rw [if_neg h1, if_neg h2]; rfl
      have H2 : Hid (false = oB (stOf t)) := by unfold Hid stOf; rw [if_neg h1, if_neg h2]; rfl
      have h3 : ((t.size : Int) == 1) = false := by simp; omega
      have h4 : ((t.size : Int) == 2) = false := by simp; omega
      go_enter Tryd.func22, Tryd.ntmps22
      go_wp2
      go_ret2
      exact ⟨ret_nb H1.out H2.out, 0, rfl⟩
end Go.Proofs.YtimknahfgpafaaaDoor
