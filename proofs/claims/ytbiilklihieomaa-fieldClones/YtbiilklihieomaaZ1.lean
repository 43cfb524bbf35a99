/- A field that is none: each call. -/
import Derived.Test.YtbiilklihieomaaBo
import Derived.Test.YtbiilklihieomaaProg
import Derived.WalkKit
import Derived.Deep.QuietTactic
import Derived.Lib.Hide
namespace Go.Proofs.Ytbiilklihieomaa
open Go.RowKit
set_option linter.unusedVariables false
set_option linter.unusedSimpArgs false
set_option maxRecDepth 100000

structure Wq (P : Program) (ops : Array Oper) (C : World → Prop) (Q : Act → Prop) (l : List Oper) (a : Act) : Prop where
  out : wpQuiet P ops C Q l a
theorem Wq.step {P : Program} {ops : Array Oper} {C : World → Prop} {Q : Act → Prop} {a : Act} {o : Oper} {rest : List Oper} (h : ∀ K : Act → Prop, (∀ a, Wq P ops C Q rest a → K a) → if Region.wanted o (yielded ops a.tmps) then o.quiet P a C K else K (a.put o.dst undef)) : Wq P ops C Q (o :: rest) a :=
  ⟨wpQuiet_step (fun K hK => h K (fun a ha => hK a ha.out))⟩
theorem Wq.nil {P : Program} {ops : Array Oper} {C : World → Prop} {Q : Act → Prop} {a : Act} (h : Q a) : Wq P ops C Q [] a := ⟨wpQuiet_nil h⟩
/-- A pointer to no field, or to one that nobody made. -/
def Nf (w : World) (p : Option Addr) : Prop := p = none ∨ ∃ b, p = some ⟨b, 0, none⟩ ∧ Bo w b 52 #[.nilIface]

theorem lacksY (p : Option Addr) (w : World) (hp : Nf w p) : Calls Try.prog 46 #[.pointer p] w fun e w' => e = .returned (.bool true) ∧ w' = w := by
  rcases hp with rfl | ⟨b, rfl, hb⟩
  · go_enter Try.func46, Try.ntmps46
    go_wp2
    go_ret
    exact ⟨rfl, rfl⟩
  · have h0 := hb.cell 0 (v := .nilIface) rfl
    go_enter Try.func46, Try.ntmps46
    go_wp2
    go_ret
    exact ⟨rfl, rfl⟩

theorem noneW (p : Option Addr) (w : World) (hp : Nf w p) : Calls Try.prog 24 #[.pointer p] w fun e w' => e = .returned (.int .i64 0) ∧ w' = w := by
  go_enter Try.func24, Try.ntmps24
  go_wp2_with (go_at_call 46; refine (lacksY p w hp).mono ?_; rintro e _ ⟨rfl, rfl⟩)
  go_ret
  exact ⟨rfl, rfl⟩

theorem noneH (p : Option Addr) (w : World) (hp : Nf w p) : Calls Try.prog 25 #[.pointer p] w fun e w' => e = .returned (.int .i64 0) ∧ w' = w := by
  go_enter Try.func25, Try.ntmps25
  go_wp2_with (go_at_call 46; refine (lacksY p w hp).mono ?_; rintro e _ ⟨rfl, rfl⟩)
  go_ret
  exact ⟨rfl, rfl⟩

theorem noneStates (p : Option Addr) (w : World) (hp : Nf w p) : Calls Try.prog 26 #[.pointer p] w fun e w' => e = .returned (.int .i64 0) ∧ w' = w := by
  go_enter Try.func26, Try.ntmps26
  go_wp2_with (go_at_call 46; refine (lacksY p w hp).mono ?_; rintro e _ ⟨rfl, rfl⟩)
  go_ret
  exact ⟨rfl, rfl⟩

theorem nonePacked (p : Option Addr) (w : World) (hp : Nf w p) : Calls Try.prog 27 #[.pointer p] w fun e w' => e = .returned (.bool false) ∧ w' = w := by
  go_enter Try.func27, Try.ntmps27
  go_wp2_with (go_at_call 46; refine (lacksY p w hp).mono ?_; rintro e _ ⟨rfl, rfl⟩)
  go_ret
  exact ⟨rfl, rfl⟩

theorem nonePack (p : Option Addr) (on : Bool) (w : World) (hp : Nf w p) : Calls Try.prog 22 #[.pointer p, .bool on] w fun e w' => e = .returned (.int .i64 1) ∧ w' = w := by
  go_enter Try.func22, Try.ntmps22
  go_wp2_with (go_at_call 46; refine (lacksY p w hp).mono ?_; rintro e _ ⟨rfl, rfl⟩)
  go_ret
  exact ⟨rfl, rfl⟩

theorem noneGet (p : Option Addr) (x y : Int) (w : World) (hp : Nf w p) : Calls Try.prog 16 #[.pointer p, .int .i64 x, .int .i64 y] w fun e w' => e = .returned (.tuple #[.int .u8 0, .int .i64 1]) ∧ w' = w := by
  go_enter Try.func16, Try.ntmps16
  go_wp2_with (go_at_call 46; refine (lacksY p w hp).mono ?_; rintro e _ ⟨rfl, rfl⟩)
  go_ret2
  exact ⟨rfl, rfl⟩

theorem noneSet (p : Option Addr) (x y z : Int) (w : World) (hp : Nf w p) : Calls Try.prog 19 #[.pointer p, .int .i64 x, .int .i64 y, .int .u8 z] w fun e w' => e = .returned (.int .i64 1) ∧ w' = w := by
  go_enter Try.func19, Try.ntmps19
  go_wp2_with (go_at_call 46; refine (lacksY p w hp).mono ?_; rintro e _ ⟨rfl, rfl⟩)
  go_ret
  exact ⟨rfl, rfl⟩

theorem noneLine (p : Option Addr) (y : Int) (w : World) (hp : Nf w p) : Calls Try.prog 17 #[.pointer p, .int .i64 y] w fun e w' => e = .returned (.tuple #[.slice none 0 0, .int .i64 1]) ∧ w' = w := by
  go_enter Try.func17, Try.ntmps17
  go_wp2_with (go_at_call 46; refine (lacksY p w hp).mono ?_; rintro e _ ⟨rfl, rfl⟩)
  go_ret2
  exact ⟨rfl, rfl⟩

theorem noneLay (p : Option Addr) (y : Int) (sp : Option Addr) (n c : Nat) (w : World) (hp : Nf w p) : Calls Try.prog 20 #[.pointer p, .int .i64 y, .slice sp n c] w fun e w' => e = .returned (.int .i64 1) ∧ w' = w := by
  go_enter Try.func20, Try.ntmps20
  go_wp2_with (go_at_call 46; refine (lacksY p w hp).mono ?_; rintro e _ ⟨rfl, rfl⟩)
  go_ret
  exact ⟨rfl, rfl⟩

theorem noneClear (p : Option Addr) (w : World) (hp : Nf w p) : Calls Try.prog 21 #[.pointer p] w fun e w' => e = .returned (.int .i64 1) ∧ w' = w := by
  go_enter Try.func21, Try.ntmps21
  go_wp2_with (go_at_call 46; refine (lacksY p w hp).mono ?_; rintro e _ ⟨rfl, rfl⟩)
  go_ret
  exact ⟨rfl, rfl⟩

theorem noneClone (p : Option Addr) (w : World) (hp : Nf w p) : Calls Try.prog 29 #[.pointer p] w fun e w' => e = .returned (.pointer none) ∧ w' = w := by
  go_enter Try.func29, Try.ntmps29
  go_wp2_with (go_at_call 46; refine (lacksY p w hp).mono ?_; rintro e _ ⟨rfl, rfl⟩)
  go_ret
  exact ⟨rfl, rfl⟩

theorem noneSame (p : Option Addr) (q : Option Addr) (w : World) (hp : Nf w p) : Calls Try.prog 30 #[.pointer p, .pointer q] w fun e w' => e = .returned (.bool false) ∧ ∃ m, w' = w.drewN m := by
  go_enter Try.func30, Try.ntmps30
  go_wp2_with (go_at_call 46; refine (lacksY p w hp).mono ?_; rintro e _ ⟨rfl, rfl⟩)
  refine wp_region_quiet_lit (by kernel_rfl) (by kernel_rfl) (Wq.out ?_)
  repeat (refine Wq.step (fun K hK => ?_); go_simp; first | (refine hK _ ?_; clear hK K) | (apply Exists.intro; refine ⟨fun _ => ?_, hK _ ?_⟩; (go_at_call 46; refine Calls.quiet_of_same (lacksY p _ hp)); clear hK K))
  refine Wq.nil ?_
  intro _ hwq
  obtain ⟨nq, hw2⟩ := hwq
  subst hw2
  go_wp2
  go_ret
  exact ⟨rfl, nq, rfl⟩

theorem noneCells (p : Option Addr) (w : World) (hp : Nf w p) : Calls Try.prog 14 #[.pointer p] w fun e w' => e = .returned (.func (.func 47) #[] #[]) ∧ w' = w := by
  go_enter Try.func14, Try.ntmps14
  go_wp2_with (go_at_call 46; refine (lacksY p w hp).mono ?_; rintro e _ ⟨rfl, rfl⟩)
  go_ret
  exact ⟨rfl, rfl⟩
end Go.Proofs.Ytbiilklihieomaa
