/- A field that is none: each call. -/
import Derived.Test.YthjiiljglgmkpaaGreatDoorBo
import Derived.Test.YthjiiljglgmkpaaGreatDoorProg
import Derived.WalkKit
import Derived.Deep.QuietTactic
import Derived.Lib.Hide
import Derived.RangeFuncNested
import Derived.RangeFuncBound
import Derived.RangeFuncCalls
import Derived.RangeFuncLeaves
import Derived.RangeFuncWrites
import Derived.RangeFuncMany
import Derived.RangeFuncBox
import Derived.Shelf.RegionOpen
import Derived.OwnWalkIn
import Derived.TacticsInMore
import Derived.LoopNIn
import Derived.LoopIn
import Derived.ArgAppend
import Derived.Laws.IdiomStrings
import Derived.Laws.BytesArg
import Derived.Laws.AppendOwnNone
namespace Go.Proofs.YthjiiljglgmkpaaGreatDoor
open Go.RowKit
set_option linter.unusedVariables false
set_option linter.unusedSimpArgs false
set_option maxRecDepth 100000

structure Wq (P : Program) (ops : Array Oper) (C : World → Prop) (Q : Act → Prop) (l : List Oper) (a : Act) : Prop where
  out : wpQuiet P ops C Q l a
theorem Wq.step {P : Program} {ops : Array Oper} {C : World → Prop} {Q : Act → Prop} {a : Act} {o : Oper} {rest : List Oper} (h : ∀ K : Act → Prop, (∀ a, Wq P ops C Q rest a → K a) → if Region.wanted o (yielded ops a.tmps) then o.quiet P a C K else K (a.put o.dst undef)) : Wq P ops C Q (o :: rest) a :=
  ⟨wpQuiet_step (fun K hK => h K (fun a ha => hK a ha.out))⟩
theorem Wq.nil {P : Program} {ops : Array Oper} {C : World → Prop} {Q : Act → Prop} {a : Act} (h : Q a) : Wq P ops C Q [] a := ⟨wpQuiet_nil h⟩
/-- A pointer to no field, or to one that nobody made. -/
def Nf (w : World) (p : Option Addr) : Prop := p = none ∨ ∃ b, p = some ⟨b, 0, none⟩ ∧ Bo w b 57 #[.nilIface]

theorem lacksY (p : Option Addr) (w : World) (hp : Nf w p) : Calls Tryz.prog 46 #[.pointer p] w fun e w' => e = .returned (.bool true) ∧ w' = w := by
  rcases hp with rfl | ⟨b, rfl, hb⟩
  · go_enter Tryz.func46, Tryz.ntmps46
    go_wp2
    go_ret
    exact ⟨rfl, rfl⟩
  · have h0 := hb.cell 0 (v := .nilIface) rfl
    go_enter Tryz.func46, Tryz.ntmps46
    go_wp2
    go_ret
    exact ⟨rfl, rfl⟩

theorem noneW (p : Option Addr) (w : World) (hp : Nf w p) : Calls Tryz.prog 42 #[.pointer p] w fun e w' => e = .returned (.int .i64 0) ∧ w' = w := by
  go_enter Tryz.func42, Tryz.ntmps42
  go_wp2_with (go_at_call 46; refine (lacksY p w hp).mono ?_; rintro e _ ⟨rfl, rfl⟩)
  go_ret
  exact ⟨rfl, rfl⟩

theorem noneH (p : Option Addr) (w : World) (hp : Nf w p) : Calls Tryz.prog 43 #[.pointer p] w fun e w' => e = .returned (.int .i64 0) ∧ w' = w := by
  go_enter Tryz.func43, Tryz.ntmps43
  go_wp2_with (go_at_call 46; refine (lacksY p w hp).mono ?_; rintro e _ ⟨rfl, rfl⟩)
  go_ret
  exact ⟨rfl, rfl⟩

theorem noneStates (p : Option Addr) (w : World) (hp : Nf w p) : Calls Tryz.prog 44 #[.pointer p] w fun e w' => e = .returned (.int .i64 0) ∧ w' = w := by
  go_enter Tryz.func44, Tryz.ntmps44
  go_wp2_with (go_at_call 46; refine (lacksY p w hp).mono ?_; rintro e _ ⟨rfl, rfl⟩)
  go_ret
  exact ⟨rfl, rfl⟩

theorem nonePacked (p : Option Addr) (w : World) (hp : Nf w p) : Calls Tryz.prog 20 #[.pointer p] w fun e w' => e = .returned (.bool false) ∧ w' = w := by
  go_enter Tryz.func20, Tryz.ntmps20
  go_wp2_with (go_at_call 46; refine (lacksY p w hp).mono ?_; rintro e _ ⟨rfl, rfl⟩)
  go_ret
  exact ⟨rfl, rfl⟩

theorem nonePack (p : Option Addr) (on : Bool) (w : World) (hp : Nf w p) : Calls Tryz.prog 27 #[.pointer p, .bool on] w fun e w' => e = .returned (.int .i64 1) ∧ w' = w := by
  go_enter Tryz.func27, Tryz.ntmps27
  go_wp2_with (go_at_call 46; refine (lacksY p w hp).mono ?_; rintro e _ ⟨rfl, rfl⟩)
  go_ret
  exact ⟨rfl, rfl⟩

theorem noneGet (p : Option Addr) (x y : Int) (w : World) (hp : Nf w p) : Calls Tryz.prog 16 #[.pointer p, .int .i64 x, .int .i64 y] w fun e w' => e = .returned (.tuple #[.int .u8 0, .int .i64 1]) ∧ w' = w := by
  go_enter Tryz.func16, Tryz.ntmps16
  go_wp2_with (go_at_call 46; refine (lacksY p w hp).mono ?_; rintro e _ ⟨rfl, rfl⟩)
  go_ret2
  exact ⟨rfl, rfl⟩

theorem noneSet (p : Option Addr) (x y z : Int) (w : World) (hp : Nf w p) : Calls Tryz.prog 17 #[.pointer p, .int .i64 x, .int .i64 y, .int .u8 z] w fun e w' => e = .returned (.int .i64 1) ∧ w' = w := by
  go_enter Tryz.func17, Tryz.ntmps17
  go_wp2_with (go_at_call 46; refine (lacksY p w hp).mono ?_; rintro e _ ⟨rfl, rfl⟩)
  go_ret
  exact ⟨rfl, rfl⟩

theorem noneLine (p : Option Addr) (y : Int) (w : World) (hp : Nf w p) : Calls Tryz.prog 35 #[.pointer p, .int .i64 y] w fun e w' => e = .returned (.tuple #[.slice none 0 0, .int .i64 1]) ∧ w' = w := by
  go_enter Tryz.func35, Tryz.ntmps35
  go_wp2_with (go_at_call 46; refine (lacksY p w hp).mono ?_; rintro e _ ⟨rfl, rfl⟩)
  go_ret2
  exact ⟨rfl, rfl⟩

theorem noneLay (p : Option Addr) (y : Int) (sp : Option Addr) (n c : Nat) (w : World) (hp : Nf w p) : Calls Tryz.prog 34 #[.pointer p, .int .i64 y, .slice sp n c] w fun e w' => e = .returned (.int .i64 1) ∧ w' = w := by
  go_enter Tryz.func34, Tryz.ntmps34
  go_wp2_with (go_at_call 46; refine (lacksY p w hp).mono ?_; rintro e _ ⟨rfl, rfl⟩)
  go_ret
  exact ⟨rfl, rfl⟩

theorem noneClear (p : Option Addr) (w : World) (hp : Nf w p) : Calls Tryz.prog 18 #[.pointer p] w fun e w' => e = .returned (.int .i64 1) ∧ w' = w := by
  go_enter Tryz.func18, Tryz.ntmps18
  go_wp2_with (go_at_call 46; refine (lacksY p w hp).mono ?_; rintro e _ ⟨rfl, rfl⟩)
  go_ret
  exact ⟨rfl, rfl⟩

theorem noneClone (p : Option Addr) (w : World) (hp : Nf w p) : Calls Tryz.prog 26 #[.pointer p] w fun e w' => e = .returned (.pointer none) ∧ w' = w := by
  go_enter Tryz.func26, Tryz.ntmps26
  go_wp2_with (go_at_call 46; refine (lacksY p w hp).mono ?_; rintro e _ ⟨rfl, rfl⟩)
  go_ret
  exact ⟨rfl, rfl⟩

theorem noneSame (p : Option Addr) (q : Option Addr) (w : World) (hp : Nf w p) : Calls Tryz.prog 19 #[.pointer p, .pointer q] w fun e w' => e = .returned (.bool false) ∧ ∃ m, w' = w.drewN m := by
  go_enter Tryz.func19, Tryz.ntmps19
  go_wp2_with (go_at_call 46; refine (lacksY p w hp).mono ?_; rintro e _ ⟨rfl, rfl⟩)
  refine wp_region_quiet_lit (by kernel_rfl) (by kernel_rfl) (Wq.out ?_)
  repeat (refine Wq.step (fun K hK => ?_); go_simp; first | (refine hK _ ?_; clear hK K) | (apply Exists.intro; refine ⟨fun _ => ?_, hK _ ?_⟩; (go_at_call 46; refine Calls.quiet_of_same (lacksY p _ hp)); clear hK K))
  refine Wq.nil ?_
  intro _ hwq
  obtain ⟨nq, hw2⟩ := hwq
  subst hw2
  go_wp2
  go_ret
  exact ⟨rfl, nq, rfl⟩

end Go.Proofs.YthjiiljglgmkpaaGreatDoor
namespace Go.Proofs.YthjiiljglgmkpaaGreatDoor
open Go.RowKit Go.Shelf
set_option linter.unusedVariables false
set_option linter.unusedSimpArgs false
set_option maxRecDepth 100000
attribute [local go_sem] Oper.semAt_some

theorem nonePop (p : Option Addr) (w : World) (hp : Nf w p) : Calls Tryz.prog 36 #[.pointer p] w fun e w' => e = .returned (.int .i64 0) ∧ w' = w := by
  go_enter Tryz.func36, Tryz.ntmps36
  go_wp2_with (go_at_call 43; refine (noneH p w hp).mono ?_; rintro e _ ⟨rfl, rfl⟩)
  refine wp_loop_rounds 1 ?_
  rw [rounds_succ]
  go_wp2
  go_ret
  exact ⟨rfl, rfl⟩

theorem bo_own {W W' : World} {row : Option Nat} {g : Nat} {t : TypeId} {cs : Array Value} (h : Bo W g t cs) (hg : W.grownBy W' row) (hr : ∀ r, row = some r → ∃ o : Obj, W.heap[r]? = some o ∧ o.isCells = false) : Bo W' g t cs :=
  h.kept hg (fun e => by
    obtain ⟨o, ho, hc⟩ := hr g e.symm
    rw [show W.heap[g]? = _ from h] at ho; cases ho; cases hc)

end Go.Proofs.YthjiiljglgmkpaaGreatDoor
namespace Go.Proofs.YthjiiljglgmkpaaGreatDoor
open Go.RowKit
set_option linter.unusedVariables false
set_option linter.unusedSimpArgs false
set_option maxRecDepth 100000

theorem under8 : Tryz.prog.underlying 5 = some (.int .u8) := by kernel_rfl
theorem under8S : Tryz.prog.underlying 81 = some (.slice 5) := by kernel_rfl
theorem underSt : Tryz.prog.underlying 9 = some .string := by kernel_rfl
theorem info8 : (Tryz.prog.info? 5).map (fun i => (i.zero, i.size, i.bytes)) = some (some (.int .u8 0), 1, 1) := by kernel_rfl
/-- Bytes that can be read. -/
def By (w : World) (sp : Option Addr) (n : Nat) (f : Nat → Nat) : Prop := ∀ k, k < n → ∃ a, sp = some a ∧ w.cell? (a.add k) = some (.int .u8 (f k : Nat))
theorem By.at {w : World} {a : Addr} {n : Nat} {f : Nat → Nat} (h : By w (some a) n f) {k : Nat} (hk : k < n) : w.cell? (a.add k) = some (.int .u8 (f k : Nat)) := by
  obtain ⟨b, hb, hc⟩ := h k hk
  cases hb; exact hc
theorem By.kept {w w' : World} {sp : Option Addr} {n : Nat} {f : Nat → Nat} {r : Option Nat} (h : By w sp n f) (hg : w.grownBy w' r) (hne : ∀ a, sp = Option.some a → Option.some a.block ≠ r) : By w' sp n f := fun k hk => by
  obtain ⟨a, ha, hc⟩ := h k hk
  refine ⟨a, ha, ?_⟩
  have hl := cell_lt hc
  have hb : (a.add k).block = a.block := by unfold Addr.add; split <;> rfl
  rw [World.cell?, hg.block _ hl (by rw [hb]; exact hne a ha)]
  exact hc
/-- Bytes as cells. -/
def bysV (f : Nat → Nat) (m : Nat) : List Value := (List.range m).map fun i => .int .u8 (f i : Nat)
theorem bysV_len (f : Nat → Nat) (m : Nat) : (bysV f m).length = m := by simp [bysV]
theorem app_by {ops : Array Oper} {rest : List Oper} {o : Oper} {a : Act} {Q : Exit → Act → World → Prop} (w : World) (hgd : o.guard = none) (s x : Operand)
    (ho : o.op = .call { callee := .builtin .append, args := #[s, x], argTypes := #[81, 81] }) (hs : a.eval s = .slice none 0 0) (sp : Option Addr) (m c : Nat) (f : Nat → Nat) (hx : a.eval x = .slice sp m c) (hin : By w sp m f) (hnil : sp = none → m = 0 ∧ c = 0) (hb : m ≤ 140737488351232)
    (h : ∀ v' w', w'.ownsRow w.heap.size 5 1 v' m (bysV f m) → w.grownBy w' none → wpList Tryz.prog ops Q rest (a.put o.dst v') w') : wpList Tryz.prog ops Q (o :: rest) a w := by
  obtain ⟨i0, h1, h2, h3, h4⟩ := info_parts info8
  cases sp with
  | none =>
    obtain ⟨rfl, rfl⟩ := hnil rfl
    exact wpList_append_own_none hgd s x 81 ho w.heap.size 5 i0 1 under8S h1 _ 0 [] hs (World.ownsRow_nil _ _ _ _) hx (h _ _ (World.ownsRow_nil _ _ _ _) (World.grownBy.refl _ _))
  | some ad =>
    refine wpList_append_own _ hgd s x 81 ho w.heap.size 5 i0 (.int .u8 0) 1 1 under8S h1 h2 h3 h4 rfl (by decide) _ 0 [] hs (World.ownsRow_nil _ _ _ _) ad m c (bysV f m) hx (by rw [bysV_len]; omega) (fun j u hu => ?_) (fun u hu => ?_) (by unfold maxLen; omega) (by omega) (Nat.le_refl _) ?_
    · have hj : j < m := by
        have := (List.getElem?_eq_some_iff.1 hu).1
        rwa [bysV_len] at this
      simp [bysV, hj] at hu
      rw [← hu]
      exact hin.at hj
    · simp only [bysV, List.mem_map] at hu
      obtain ⟨i, _, rfl⟩ := hu
      rfl
    · intro v' w' own' g' _
      refine h v' w' ?_ g'
      simpa using own'


/-- The text of such bytes. -/
def txt (f : Nat → Nat) (n : Nat) : ByteArray := ⟨((List.range n).map fun k => UInt8.ofNat (f k)).toArray⟩
theorem by_str {w : World} {sp : Option Addr} {n : Nat} {f : Nat → Nat} (cap : Nat) (h : By w sp n f) (hf : ∀ k, f k < 256) : (convert 81 9 (.slice sp n cap)).run Tryz.prog w = .ok (.string (txt f n)) w := by
  cases sp with
  | none =>
    have hn : n = 0 := by
      rcases Nat.eq_zero_or_pos n with h0 | h0
      · exact h0
      · obtain ⟨a, ha, _⟩ := h 0 h0; cases ha
    subst hn
    exact run_convert_bytes_nil (P := Tryz.prog) (w := w) 81 5 under8S under8 0 cap 9 underSt
  | some a =>
    have hl : ((List.range n).map fun k => UInt8.ofNat (f k)).length = n := by simp
    have := run_convert_bytes_back (P := Tryz.prog) w 81 9 5 a cap ((List.range n).map fun k => UInt8.ofNat (f k)) under8S under8 underSt (fun j hj => by
      rw [hl] at hj
      rw [h.at hj]
      simp
      have := hf j
      omega)
    rw [hl] at this
    exact this
theorem own_sl {w : World} {B n : Nat} {v : Value} {xs : List Value} (h : w.ownsRow B 5 1 v n xs) : ∃ p q, v = .slice p n q := by
  rcases h.2 with ⟨h1, h2⟩ | ⟨g', cap', cur', h1, h2⟩
  · exact ⟨none, 0, by rw [h1, h2]⟩
  · exact ⟨_, _, h1⟩
theorem ow_by0 {w : World} {B n q : Nat} {p : Option Addr} {f : Nat → Nat} (h : w.ownsRow B 5 1 (.slice p n q) n (bysV f n)) : By w p n f := fun k hk => by
  rcases h.2 with ⟨h1, h2⟩ | ⟨g', cap', cur', h1, h2⟩
  · omega
  · cases h1
    exact ⟨_, rfl, h.cells rfl k _ (by simp [bysV, hk])⟩
theorem Nf.kept {w w' : World} {p : Option Addr} (h : Nf w p) (g : w.grownBy w' none) : Nf w' p := by
  rcases h with h | ⟨b, h, hb⟩
  · exact .inl h
  · exact .inr ⟨b, h, hb.kept g (by simp)⟩

end Go.Proofs.YthjiiljglgmkpaaGreatDoor
