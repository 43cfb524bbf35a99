/- What number and digits of the document answer. -/
import Derived.Test.YtlkdenanbofliaaGreatDoorL11
import Derived.Deep.AppendLies
namespace Go.Proofs.YtlkdenanbofliaaGreatDoor
open Go.RowKit
set_option linter.unusedVariables false
set_option linter.unusedSimpArgs false
set_option maxRecDepth 100000

/-- A whole box is read at once. -/
theorem wpList_ld {P : Program} {ops : Array Oper} {rest : List Oper} {op : Oper} {a : Act} {w : World} {Q : Exit → Act → World → Prop} (hgd : op.guard = none) (ty : TypeId) (x : Operand) (ho : op.op = .load ty x)
    (g : Nat) (hx : a.eval x = .pointer (some ⟨g, 0, none⟩)) (cs : Array Value) {t : TypeId} {d : TypeDesc} (hg : Bo w g t cs) (hu : P.underlying ty = some d) (hd : d.isRow = true) (hi : (P.info? ty).map (·.size) = some cs.size)
    (h : wpList P ops Q rest (a.put op.dst (.agg cs)) w) : wpList P ops Q (op :: rest) a w := by
  refine wpList_load_mid hgd ty x ho g 0 hx cs.toList d (fun j v hv => ?_) hu hd (by simpa using hi) (by simpa using h)
  rw [Nat.zero_add]
  exact hg.cell j (by simpa using hv)
/-- A row of ten truth values. -/
def bl (p : Nat → Bool) : Array Value := #[.bool (p 0), .bool (p 1), .bool (p 2), .bool (p 3), .bool (p 4), .bool (p 5), .bool (p 6), .bool (p 7), .bool (p 8), .bool (p 9)]
theorem bl_size (p : Nat → Bool) : (bl p).size = 10 := rfl
theorem bl_one (p : Nat → Bool) : (bl p).all (·.oneCell') = true := by simp [bl, Value.oneCell']
theorem bl_at (p : Nat → Bool) (k : Nat) (h : k < 10) : (bl p)[k]? = some (.bool (p k)) := by
  match k, h with
  | 0, _ => rfl
  | 1, _ => rfl
  | 2, _ => rfl
  | 3, _ => rfl
  | 4, _ => rfl
  | 5, _ => rfl
  | 6, _ => rfl
  | 7, _ => rfl
  | 8, _ => rfl
  | 9, _ => rfl
theorem bl_set (p : Nat → Bool) (k : Nat) (h : k < 10) (b : Bool) : (bl p).setIfInBounds k (.bool b) = bl (fun j => if j = k then b else p j) := by
  match k, h with
  | 0, _ => rfl
  | 1, _ => rfl
  | 2, _ => rfl
  | 3, _ => rfl
  | 4, _ => rfl
  | 5, _ => rfl
  | 6, _ => rfl
  | 7, _ => rfl
  | 8, _ => rfl
  | 9, _ => rfl
theorem bl_congr {p q : Nat → Bool} (h : ∀ j, j < 10 → p j = q j) : bl p = bl q := by
  unfold bl
  rw [h 0 (by decide), h 1 (by decide), h 2 (by decide), h 3 (by decide), h 4 (by decide), h 5 (by decide), h 6 (by decide), h 7 (by decide), h 8 (by decide), h 9 (by decide)]
theorem bl_zero : bl (fun _ => false) = #[.bool false, .bool false, .bool false, .bool false, .bool false, .bool false, .bool false, .bool false, .bool false, .bool false] := rfl
theorem infoBl : (Tryz.prog.info? 68).map (·.size) = some 10 := by kernel_rfl
namespace Lf
/-- The number whose bits are these, those below k. -/
def nm (p : Nat → Bool) : Nat → Nat
  | 0 => 0
  | k + 1 => nm p k + (if p k then 2 ^ k else 0)
theorem nm_lt (p : Nat → Bool) : ∀ k, nm p k < 2 ^ k
  | 0 => by unfold nm; decide
  | k + 1 => by
    have := nm_lt p k
    unfold nm
    rw [Nat.pow_succ]
    split <;> omega
theorem nm_bit (p : Nat → Bool) : ∀ k j, (nm p k).testBit j = (decide (j < k) && p j)
  | 0, j => by unfold nm; simp
  | k + 1, j => by
    have ih := nm_bit p k j
    have hl := nm_lt p k
    unfold nm
    cases hk : p k with
    | false =>
      simp only [Bool.false_eq_true, if_false, Nat.add_zero]
      rw [ih]
      by_cases e : j = k
      · subst e; simp [hk]
      · by_cases h : j < k
        · simp [h, Nat.lt_succ_of_lt h]
        · have : ¬ j < k + 1 := by omega
          simp [h, this]
    | true =>
      simp only [if_true]
      rw [Nat.add_comm, show 2 ^ k + nm p k = 2 ^ k * 1 + nm p k by rw [Nat.mul_one], Nat.testBit_two_pow_mul_add 1 hl]
      by_cases h : j < k
      · rw [if_pos h, ih]; simp [h, Nat.lt_succ_of_lt h]
      · rw [if_neg h]
        by_cases e : j = k
        · subst e; simp [hk]
        · have h2 : ¬ j < k + 1 := by omega
          have h3 : j - k ≠ 0 := by omega
          simp only [h2, decide_false, Bool.false_and]
          rw [show (1 : Nat) = 2 ^ 0 from rfl, Nat.testBit_two_pow]
          simp; omega
end Lf
set_option maxHeartbeats 2000000 in
theorem numberD (p : Nat → Bool) (w : World) : Calls Tryz.prog 39 #[.agg (bl p)] w fun e w' => e = .returned (.int .u16 ((Lf.nm p 10 : Nat) : Int)) ∧ w.grownBy w' none := by
  obtain ⟨W2, hW2, sz2, g2, B2⟩ := boxn w (bl p) 68
  go_enter Tryz.func39, Tryz.ntmps39
  go_wp2
  have G2 := g2
  go_loopw [3, 4, 5] (fun v u i wr => ∃ k : Nat, k ≤ 10 ∧ i = .int .i64 k ∧ v = .int .u16 ((Lf.nm p k : Nat) : Int) ∧ u = .int .u16 ((2 ^ k : Nat) : Int) ∧ wr = W2) (fun _ _ i _ => 10 - (intOf i).toNat)
  case atStart => exact ⟨0, by omega, rfl, rfl, rfl, rfl⟩
  case round =>
    obtain ⟨k, hk, rfl, rfl, rfl, rfl⟩ := hrel
    by_cases hlt : k < 10
    · have hlt' : (k : Int) < 10 := by omega
      have hn := Lf.nm_lt p k
      have h2 : 2 ^ k < 1024 := Nat.pow_lt_pow_right (n := 10) (by decide) hlt
      have hs : Hid (2 ^ (k + 1) = 2 * 2 ^ k) := by unfold Hid; rw [Nat.pow_succ, Nat.mul_comm]
      have c1 := B2.cell k (bl_at p k hlt)
      have hN : Hid (Lf.nm p (k + 1) = Lf.nm p k + (if p k then 2 ^ k else 0)) := rfl
      generalize Lf.nm p k = x at hn hN ⊢
      generalize 2 ^ k = y at hn h2 hs hN ⊢
      have w1 : IntKind.u16.wrap ((x : Int) + (y : Int)) = ((x + y : Nat) : Int) := by rw [IntKind.wrap_u16]; omega
      have w2 : IntKind.u16.wrap (2 * (y : Int)) = ((2 * y : Nat) : Int) := by rw [IntKind.wrap_u16]; omega
      cases hp : p k with
      | true =>
        rw [hp] at c1 hN
        simp only [if_true] at hN
        clear hp
        go_wp2
        exact ⟨⟨k + 1, by omega, by simp, (by rw [hN.out]; try simp), (by rw [hs.out]; try simp), trivial⟩, by simp [intOf]; omega⟩
      | false =>
        rw [hp] at c1 hN
        simp only [Bool.false_eq_true, if_false, Nat.add_zero] at hN
        clear hp
        go_wp2
        exact ⟨⟨k + 1, by omega, by simp, (by rw [hN.out]; try simp), (by rw [hs.out]; try simp), trivial⟩, by simp [intOf]; omega⟩
    · obtain rfl : k = 10 := by omega
      go_wp2
      go_ret
      exact ⟨rfl, G2⟩

theorem td_app {v k : Nat} (h : v.testBit k = true) : (⟨(Lf.tdl v k).toArray⟩ : ByteArray) ++ ⟨#[UInt8.ofNat (48 + (k : Int)).toNat]⟩ = ⟨(Lf.tdl v (k + 1)).toArray⟩ := by
  rw [show (#[UInt8.ofNat (48 + (k : Int)).toNat] : Array UInt8) = [UInt8.ofNat (48 + (k : Int)).toNat].toArray from rfl, ByteArray.mk_append_mk, Lf.tdl, h, if_pos rfl, show (48 + (k : Int)).toNat = k + 48 by omega]
theorem uBS : Tryz.prog.underlying 86 = some (.slice 5) := by kernel_rfl
theorem uU8 : Tryz.prog.underlying 5 = some (.int .u8) := by kernel_rfl
theorem uSt : Tryz.prog.underlying 9 = some .string := by kernel_rfl
theorem conv1 (w : World) (x : Int) : (convert 86 9 (.slice (some ⟨w.heap.size, 0, none⟩) 1 1)).run Tryz.prog (w.alloc (.cells #[.int .u8 x] 5)) = .ok (.string ⟨#[UInt8.ofNat x.toNat]⟩) (w.alloc (.cells #[.int .u8 x] 5)) := by
  rw [run_convert_bytes_string _ 86 9 5 _ 1 1 uBS uU8 uSt]
  have hl := run_loadCells_list (P := Tryz.prog) (w.alloc (.cells #[.int .u8 x] 5)) ⟨w.heap.size, 0, none⟩ ([x].map (Value.int .u8)) (World.news_of_block (cs := #[.int .u8 x]) (heap_alloc_new w _))
  exact run_bytesToString _ _ 1 1 [x] hl
set_option maxHeartbeats 2000000 in
theorem digitsD (v : Nat) (hv : v < 65536) (w : World) : Calls Tryz.prog 56 #[.int .u16 v] w fun e w' => e = .returned (.string (Lf.td v)) ∧ w.grownBy w' none := by
  go_enter Tryz.func56, Tryz.ntmps56
  go_wp2
  go_loopw [3, 4] (fun v' i wr => ∃ k : Nat, k ≤ 10 ∧ i = .int .i64 k ∧ v' = .string ⟨(Lf.tdl v k).toArray⟩ ∧ w.grownBy wr none) (fun _ i _ => 10 - (intOf i).toNat)
  case atStart => exact ⟨0, by omega, rfl, rfl, World.grownBy.refl _ _⟩
  case round =>
    obtain ⟨k, hk, rfl, rfl, hG⟩ := hrel
    by_cases hlt : k < 10
    · have hlt' : (k : Int) < 10 := by omega
      have hb1 := fun w => bitD v k hv (by omega) w
      have hln := Lf.tdl_len v k
      cases hp : v.testBit k with
      | true =>
        rw [hp] at hb1
        have w1 : IntKind.u8.wrap (48 + (k : Int)) = 48 + (k : Int) := by rw [IntKind.wrap_u8]; omega
        have a1 : ∀ w : World, (Op.stringOp .add ⟨(Lf.tdl v k).toArray⟩ ⟨#[UInt8.ofNat (48 + (k : Int)).toNat]⟩).run Tryz.prog w = .ok (.string ⟨(Lf.tdl v (k + 1)).toArray⟩) w := fun w => by
          have := run_string_add_sum (P := Tryz.prog) w (⟨(Lf.tdl v k).toArray⟩ : ByteArray) ⟨#[UInt8.ofNat (48 + (k : Int)).toNat]⟩ (by show (Lf.tdl v k).toArray.size + 1 ≤ _; rw [List.size_toArray]; omega)
          rw [this, td_app hp]
        obtain ⟨W3, hW3, sz3, g3, B3⟩ := boxn wr #[.int .u8 (48 + (k : Int))] 5
        have HC : (convert 86 9 (.slice (some ⟨wr.heap.size, 0, none⟩) 1 1)).run Tryz.prog W3 = .ok (.string ⟨#[UInt8.ofNat (48 + (k : Int)).toNat]⟩) W3 := by rw [← hW3]; exact conv1 wr _
        have G3 := gb_trans hG g3
        generalize hX : (⟨(Lf.tdl v k).toArray⟩ : ByteArray) = X at a1
        generalize hY : (⟨#[UInt8.ofNat (48 + (k : Int)).toNat]⟩ : ByteArray) = Y at a1 HC
        clear hp hX hY hln B3
        go_wp2_with (first | (go_at_call 57; refine (hb1 _).mono ?_; rintro e w5 ⟨rfl, hw5⟩; subst w5))
        exact ⟨⟨k + 1, by omega, by simp, rfl, G3⟩, by simp [intOf]; omega⟩
      | false =>
        rw [hp] at hb1
        have HT : Hid (Lf.tdl v (k + 1) = Lf.tdl v k) := by unfold Hid; rw [Lf.tdl, hp]; simp
        clear hp
        go_wp2_with (first | (go_at_call 57; refine (hb1 _).mono ?_; rintro e w5 ⟨rfl, hw5⟩; subst w5))
        exact ⟨⟨k + 1, by omega, by simp, by rw [HT.out], hG⟩, by simp [intOf]; omega⟩
    · obtain rfl : k = 10 := by omega
      go_wp2
      go_ret
      exact ⟨rfl, hG⟩
end Go.Proofs.YtlkdenanbofliaaGreatDoor
