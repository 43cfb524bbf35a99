/- FieldNone. -/
import Derived.Test.YtjndljjpbkfmiaaGreatDoorZ2
import Derived.ArgAppend
import Derived.Laws.IdiomStrings
import Derived.Laws.BytesArg
import Derived.Laws.AppendOwnNone
namespace Go.Proofs.YtjndljjpbkfmiaaGreatDoor
open Go.RowKit
set_option linter.unusedVariables false
set_option linter.unusedSimpArgs false
set_option maxRecDepth 100000

theorem under8 : Tryz.prog.underlying 5 = some (.int .u8) := by kernel_rfl
theorem under8S : Tryz.prog.underlying 24 = some (.slice 5) := by kernel_rfl
theorem underSt : Tryz.prog.underlying 9 = some .string := by kernel_rfl
theorem info8 : (Tryz.prog.info? 5).map (fun i => (i.zero, i.size, i.bytes)) = some (some (.int .u8 0), 1, 1) := by kernel_rfl
/-- Bytes that can be read. -/
def By (w : World) (sp : Option Addr) (n : Nat) (f : Nat → Nat) : Prop := ∀ k, k < n → ∃ a, sp = some a ∧ w.cell? (a.add k) = some (.int .u8 (f k : Nat))
theorem By.at {w : World} {a : Addr} {n : Nat} {f : Nat → Nat} (h : By w (some a) n f) {k : Nat} (hk : k < n) : w.cell? (a.add k) = some (.int .u8 (f k : Nat)) := by
  obtain ⟨b, hb, hc⟩ := h k hk
  cases hb; exact hc
theorem By.kept {w w' : World} {sp : Option Addr} {n : Nat} {f : Nat → Nat} {r : Option Nat} (h : By w sp n f) (hg : w.grownBy w' r) (hne : ∀ a, sp = Option.some a → Option.some a.block ≠ r) : By w' sp n f := fun k hk => by
  obtain ⟨a, ha, hc⟩ := h k hk
  refine ⟨a, ha, ?_⟩
  have hl := cell_lt hc
  have hb : (a.add k).block = a.block := by unfold Addr.add; split <;> rfl
  rw [World.cell?, hg.block _ hl (by rw [hb]; exact hne a ha)]
  exact hc
/-- Bytes as cells. -/
def bysV (f : Nat → Nat) (m : Nat) : List Value := (List.range m).map fun i => .int .u8 (f i : Nat)
theorem bysV_len (f : Nat → Nat) (m : Nat) : (bysV f m).length = m := by simp [bysV]
theorem app_by {ops : Array Oper} {rest : List Oper} {o : Oper} {a : Act} {Q : Exit → Act → World → Prop} (w : World) (hgd : o.guard = none) (s x : Operand)
    (ho : o.op = .call { callee := .builtin .append, args := #[s, x], argTypes := #[24, 24] }) (hs : a.eval s = .slice none 0 0) (sp : Option Addr) (m c : Nat) (f : Nat → Nat) (hx : a.eval x = .slice sp m c) (hin : By w sp m f) (hnil : sp = none → m = 0 ∧ c = 0) (hb : m ≤ 140737488351232)
    (h : ∀ v' w', w'.ownsRow w.heap.size 5 1 v' m (bysV f m) → w.grownBy w' none → wpList Tryz.prog ops Q rest (a.put o.dst v') w') : wpList Tryz.prog ops Q (o :: rest) a w := by
  obtain ⟨i0, h1, h2, h3, h4⟩ := info_parts info8
  cases sp with
  | none =>
    obtain ⟨rfl, rfl⟩ := hnil rfl
    exact wpList_append_own_none hgd s x 24 ho w.heap.size 5 i0 1 under8S h1 _ 0 [] hs (World.ownsRow_nil _ _ _ _) hx (h _ _ (World.ownsRow_nil _ _ _ _) (World.grownBy.refl _ _))
  | some ad =>
    refine wpList_append_own _ hgd s x 24 ho w.heap.size 5 i0 (.int .u8 0) 1 1 under8S h1 h2 h3 h4 rfl (by decide) _ 0 [] hs (World.ownsRow_nil _ _ _ _) ad m c (bysV f m) hx (by rw [bysV_len]; omega) (fun j u hu => ?_) (fun u hu => ?_) (by unfold maxLen; omega) (by omega) (Nat.le_refl _) ?_
    · have hj : j < m := by
        have := (List.getElem?_eq_some_iff.1 hu).1
        rwa [bysV_len] at this
      simp [bysV, hj] at hu
      rw [← hu]
      exact hin.at hj
    · simp only [bysV, List.mem_map] at hu
      obtain ⟨i, _, rfl⟩ := hu
      rfl
    · intro v' w' own' g' _
      refine h v' w' ?_ g'
      simpa using own'


/-- The text of such bytes. -/
def txt (f : Nat → Nat) (n : Nat) : ByteArray := ⟨((List.range n).map fun k => UInt8.ofNat (f k)).toArray⟩
theorem by_str {w : World} {sp : Option Addr} {n : Nat} {f : Nat → Nat} (cap : Nat) (h : By w sp n f) (hf : ∀ k, f k < 256) : (convert 24 9 (.slice sp n cap)).run Tryz.prog w = .ok (.string (txt f n)) w := by
  cases sp with
  | none =>
    have hn : n = 0 := by
      rcases Nat.eq_zero_or_pos n with h0 | h0
      · exact h0
      · obtain ⟨a, ha, _⟩ := h 0 h0; cases ha
    subst hn
    exact run_convert_bytes_nil (P := Tryz.prog) (w := w) 24 5 under8S under8 0 cap 9 underSt
  | some a =>
    have hl : ((List.range n).map fun k => UInt8.ofNat (f k)).length = n := by simp
    have := run_convert_bytes_back (P := Tryz.prog) w 24 9 5 a cap ((List.range n).map fun k => UInt8.ofNat (f k)) under8S under8 underSt (fun j hj => by
      rw [hl] at hj
      rw [h.at hj]
      simp
      have := hf j
      omega)
    rw [hl] at this
    exact this
theorem own_sl {w : World} {B n : Nat} {v : Value} {xs : List Value} (h : w.ownsRow B 5 1 v n xs) : ∃ p q, v = .slice p n q := by
  rcases h.2 with ⟨h1, h2⟩ | ⟨g', cap', cur', h1, h2⟩
  · exact ⟨none, 0, by rw [h1, h2]⟩
  · exact ⟨_, _, h1⟩
theorem ow_by0 {w : World} {B n q : Nat} {p : Option Addr} {f : Nat → Nat} (h : w.ownsRow B 5 1 (.slice p n q) n (bysV f n)) : By w p n f := fun k hk => by
  rcases h.2 with ⟨h1, h2⟩ | ⟨g', cap', cur', h1, h2⟩
  · omega
  · cases h1
    exact ⟨_, rfl, h.cells rfl k _ (by simp [bysV, hk])⟩
theorem Nf.kept {w w' : World} {p : Option Addr} (h : Nf w p) (g : w.grownBy w' none) : Nf w' p := by
  rcases h with h | ⟨b, h, hb⟩
  · exact .inl h
  · exact .inr ⟨b, h, hb.kept g (by simp)⟩

end Go.Proofs.YtjndljjpbkfmiaaGreatDoor
