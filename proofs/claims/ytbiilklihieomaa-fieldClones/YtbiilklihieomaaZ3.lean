/- FieldNone. -/
import Derived.Test.YtbiilklihieomaaZ2
import Derived.ArgAppend
import Derived.Laws.IdiomStrings
import Derived.Laws.BytesArg
import Derived.Laws.AppendOwnNone
namespace Go.Proofs.Ytbiilklihieomaa
open Go.RowKit
set_option linter.unusedVariables false
set_option linter.unusedSimpArgs false
set_option maxRecDepth 100000

theorem under8 : Try.prog.underlying 5 = some (.int .u8) := by kernel_rfl
theorem under8S : Try.prog.underlying 39 = some (.slice 5) := by kernel_rfl
theorem underSt : Try.prog.underlying 9 = some .string := by kernel_rfl
theorem info8 : (Try.prog.info? 5).map (fun i => (i.zero, i.size, i.bytes)) = some (some (.int .u8 0), 1, 1) := by kernel_rfl
/-- Bytes that can be read. -/
def By (w : World) (sp : Option Addr) (n : Nat) (f : Nat → Nat) : Prop := ∀ k, k < n → ∃ a, sp = some a ∧ w.cell? (a.add k) = some (.int .u8 (f k : Nat))
theorem By.at {w : World} {a : Addr} {n : Nat} {f : Nat → Nat} (h : By w (some a) n f) {k : Nat} (hk : k < n) : w.cell? (a.add k) = some (.int .u8 (f k : Nat)) := by
  obtain ⟨b, hb, hc⟩ := h k hk
  cases hb; exact hc
theorem By.kept {w w' : World} {sp : Option Addr} {n : Nat} {f : Nat → Nat} {r : Option Nat} (h : By w sp n f) (hg : w.grownBy w' r) (hne : ∀ a, sp = Option.some a → Option.some a.block ≠ r) : By w' sp n f := fun k hk => by
  obtain ⟨a, ha, hc⟩ := h k hk
  refine ⟨a, ha, ?_⟩
  have hl := cell_lt hc
  have hb : (a.add k).block = a.block := by unfold Addr.add; split <;> rfl
  rw [World.cell?, hg.block _ hl (by rw [hb]; exact hne a ha)]
  exact hc
/-- Bytes as cells. -/
def bysV (f : Nat → Nat) (m : Nat) : List Value := (List.range m).map fun i => .int .u8 (f i : Nat)
theorem bysV_len (f : Nat → Nat) (m : Nat) : (bysV f m).length = m := by simp [bysV]
theorem app_by {ops : Array Oper} {rest : List Oper} {o : Oper} {a : Act} {Q : Exit → Act → World → Prop} (w : World) (hgd : o.guard = none) (s x : Operand)
    (ho : o.op = .call { callee := .builtin .append, args := #[s, x], argTypes := #[39, 39] }) (hs : a.eval s = .slice none 0 0) (sp : Option Addr) (m c : Nat) (f : Nat → Nat) (hx : a.eval x = .slice sp m c) (hin : By w sp m f) (hnil : sp = none → m = 0 ∧ c = 0) (hb : m ≤ 140737488351232)
    (h : ∀ v' w', w'.ownsRow w.heap.size 5 1 v' m (bysV f m) → w.grownBy w' none → wpList Try.prog ops Q rest (a.put o.dst v') w') : wpList Try.prog ops Q (o :: rest) a w := by
  obtain ⟨i0, h1, h2, h3, h4⟩ := info_parts info8
  cases sp with
  | none =>
    obtain ⟨rfl, rfl⟩ := hnil rfl
    exact wpList_append_own_none hgd s x 39 ho w.heap.size 5 i0 1 under8S h1 _ 0 [] hs (World.ownsRow_nil _ _ _ _) hx (h _ _ (World.ownsRow_nil _ _ _ _) (World.grownBy.refl _ _))
  | some ad =>
    refine wpList_append_own _ hgd s x 39 ho w.heap.size 5 i0 (.int .u8 0) 1 1 under8S h1 h2 h3 h4 rfl (by decide) _ 0 [] hs (World.ownsRow_nil _ _ _ _) ad m c (bysV f m) hx (by rw [bysV_len]; omega) (fun j u hu => ?_) (fun u hu => ?_) (by unfold maxLen; omega) (by omega) (Nat.le_refl _) ?_
    · have hj : j < m := by
        have := (List.getElem?_eq_some_iff.1 hu).1
        rwa [bysV_len] at this
      simp [bysV, hj] at hu
      rw [← hu]
      exact hin.at hj
    · simp only [bysV, List.mem_map] at hu
      obtain ⟨i, _, rfl⟩ := hu
      rfl
    · intro v' w' own' g' _
      refine h v' w' ?_ g'
      simpa using own'


/-- The text of such bytes. -/
def txt (f : Nat → Nat) (n : Nat) : ByteArray := ⟨((List.range n).map fun k => UInt8.ofNat (f k)).toArray⟩
theorem by_str {w : World} {sp : Option Addr} {n : Nat} {f : Nat → Nat} (cap : Nat) (h : By w sp n f) (hf : ∀ k, f k < 256) : (convert 39 9 (.slice sp n cap)).run Try.prog w = .ok (.string (txt f n)) w := by
  cases sp with
  | none =>
    have hn : n = 0 := by
      rcases Nat.eq_zero_or_pos n with h0 | h0
      · exact h0
      · obtain ⟨a, ha, _⟩ := h 0 h0; cases ha
    subst hn
    exact run_convert_bytes_nil (P := Try.prog) (w := w) 39 5 under8S under8 0 cap 9 underSt
  | some a =>
    have hl : ((List.range n).map fun k => UInt8.ofNat (f k)).length = n := by simp
    have := run_convert_bytes_back (P := Try.prog) w 39 9 5 a cap ((List.range n).map fun k => UInt8.ofNat (f k)) under8S under8 underSt (fun j hj => by
      rw [hl] at hj
      rw [h.at hj]
      simp
      have := hf j
      omega)
    rw [hl] at this
    exact this
theorem sameY (sa sb : Option Addr) (n ca cb : Nat) (f : Nat → Nat) (hf : ∀ k, f k < 256) (w : World) (ha : By w sa n f) (hb : By w sb n f) : Calls Try.prog 23 #[.slice sa n ca, .slice sb n cb] w fun e w' => e = .returned (.bool true) ∧ w' = w := by
  have c1 := by_str ca ha hf
  have c2 := by_str cb hb hf
  go_enter Try.func23, Try.ntmps23
  go_wp2
  go_ret
  exact ⟨rfl, rfl⟩

theorem own_sl {w : World} {B n : Nat} {v : Value} {xs : List Value} (h : w.ownsRow B 5 1 v n xs) : ∃ p q, v = .slice p n q := by
  rcases h.2 with ⟨h1, h2⟩ | ⟨g', cap', cur', h1, h2⟩
  · exact ⟨none, 0, by rw [h1, h2]⟩
  · exact ⟨_, _, h1⟩
theorem ow_by0 {w : World} {B n q : Nat} {p : Option Addr} {f : Nat → Nat} (h : w.ownsRow B 5 1 (.slice p n q) n (bysV f n)) : By w p n f := fun k hk => by
  rcases h.2 with ⟨h1, h2⟩ | ⟨g', cap', cur', h1, h2⟩
  · omega
  · cases h1
    exact ⟨_, rfl, h.cells rfl k _ (by simp [bysV, hk])⟩
theorem Nf.kept {w w' : World} {p : Option Addr} (h : Nf w p) (g : w.grownBy w' none) : Nf w' p := by
  rcases h with h | ⟨b, h, hb⟩
  · exact .inl h
  · exact .inr ⟨b, h, hb.kept g (by simp)⟩

theorem none_walk (x y z : Int) (sp : Option Addr) (n c : Nat) (f : Nat → Nat) (on : Bool) (hn : n ≤ 140737488351232) (hsp : sp = none → n = 0 ∧ c = 0) (hf : ∀ k, f k < 256) (w : World) (hb : By w sp n f) :
    Calls Try.prog 5 #[.int .i64 x, .int .i64 y, .int .u8 z, .slice sp n c, .bool on] w fun e w' => e = .returned (.bool true) ∧ Below w.heap.size w w' := by
  obtain ⟨W1, hW1, sz1, g1, B1⟩ := boxn w #[.nilIface] 52
  obtain ⟨W2, hW2, sz2, g2, B2⟩ := boxn W1 #[.pointer none, .pointer (some ⟨w.heap.size, 0, none⟩)] 22
  have B12 := B1.kept g2 (by simp)
  have G2 := gb_trans g1 g2
  have HW : Hid ((w.alloc (.cells #[.nilIface] 52)).alloc (.cells #[.pointer none, .pointer (some ⟨w.heap.size, 0, none⟩)] 22) = W2) := by unfold Hid; rw [hW1]; exact hW2
  have hsz : w.heap.size + 1 = W1.heap.size := sz1.out.symm
  clear hW1 hW2
  have HS : Hid (w.heap.size + 1 = W1.heap.size) := hsz
  clear hsz
  have qf : ∀ w : World, (binOp .eql 44 (.func (.func 47) #[] #[]) .nilFunc).run Try.prog w = .ok (.bool false) w := fun _ => rfl
  go_enter Try.func5, Try.ntmps5
  go_wp2
  rw [HW.out, HS.out]
  go_loopw [13] (fun i wr => ∃ k : Nat, k ≤ 2 ∧ i = .int .i64 k ∧ w.grownBy wr none ∧ Bo wr w.heap.size 52 #[.nilIface] ∧ Bo wr W1.heap.size 22 #[.pointer none, .pointer (some ⟨w.heap.size, 0, none⟩)]) (fun i _ => 2 - (intOf i).toNat)
  case atStart => exact ⟨0, by decide, rfl, G2, B12, B2⟩
  case round =>
    obtain ⟨k, hk, rfl, Gk, Zk, Lk⟩ := hrel
    by_cases hlt : k < 2
    · obtain ⟨p, hp, hcell⟩ : ∃ p, Nf wr p ∧ wr.cell? ⟨W1.heap.size, k, none⟩ = some (.pointer p) := by
        rcases Nat.lt_or_ge k 1 with h | h
        · obtain rfl : k = 0 := by omega
          exact ⟨none, .inl rfl, Lk.cell 0 rfl⟩
        · obtain rfl : k = 1 := by omega
          exact ⟨_, .inr ⟨_, rfl, Zk⟩, Lk.cell 1 rfl⟩
      have hlt' : (k : Int) < 2 := by omega
      go_wp2_with (first | (go_at_call 16; refine (noneGet p x y wr hp).mono ?_; rintro e V ⟨rfl, hV⟩; subst V) | (go_at_call 17; refine (noneLine p y wr hp).mono ?_; rintro e V ⟨rfl, hV⟩; subst V) | (go_at_call 18; refine (noneBox p wr hp).mono ?_; rintro e V ⟨rfl, gV⟩; have hpV : Nf (V.alloc (.cells #[.int .i64 0, .int .i64 0, .int .i64 0, .int .i64 0] 58)) p := (hp.kept gV).kept (World.grownBy_alloc _ _ none)) | (go_at_call 14; refine (noneCells p (V.alloc (.cells #[.int .i64 0, .int .i64 0, .int .i64 0, .int .i64 0] 58)) hpV).mono ?_; rintro e W4 ⟨rfl, hV⟩; have B4 : Bo W4 V.heap.size 58 #[.int .i64 0, .int .i64 0, .int .i64 0, .int .i64 0] := hV ▸ Bo.new V _ _; have G4 : wr.grownBy W4 none := hV ▸ gb_alloc gV _; have hp4 : Nf W4 p := hV ▸ hpV; clear hV; have b0 := B4.cell 0 (v := .int .i64 0) rfl; have b1 := B4.cell 1 (v := .int .i64 0) rfl; have b2 := B4.cell 2 (v := .int .i64 0) rfl; have b3 := B4.cell 3 (v := .int .i64 0) rfl) | (at_builtin; guard_hyp hp4; refine app_by W4 rfl _ _ rfl rfl sp n c f rfl (hb.kept (gb_trans Gk G4) (by simp)) hsp hn ?_; intro v1 w5 own5 gk5; obtain ⟨sq, cq, hv1⟩ := own_sl own5; subst hv1; have hp5 := hp4.kept gk5; have by5 : By w5 sq n f := ow_by0 own5; have ha5 := hb.kept (gb_trans Gk (gb_trans G4 gk5)) (by simp)) | (go_at_call 19; refine (noneSet p x y z w5 hp5).mono ?_; rintro e V ⟨rfl, hV⟩; subst V) | (go_at_call 20; refine (noneLay p y sq n cq w5 hp5).mono ?_; rintro e V ⟨rfl, hV⟩; subst V) | (go_at_call 21; refine (noneClear p w5 hp5).mono ?_; rintro e V ⟨rfl, hV⟩; subst V) | (go_at_call 22; refine (nonePack p on w5 hp5).mono ?_; rintro e V ⟨rfl, hV⟩; subst V) | (go_at_call 23; refine (sameY sq sp n cq c f hf w5 by5 ha5).mono ?_; rintro e V ⟨rfl, hV⟩; subst V) | (go_at_call 24; refine (noneW p w5 hp5).mono ?_; rintro e V ⟨rfl, hV⟩; subst V) | (go_at_call 25; refine (noneH p w5 hp5).mono ?_; rintro e V ⟨rfl, hV⟩; subst V) | (go_at_call 26; refine (noneStates p w5 hp5).mono ?_; rintro e V ⟨rfl, hV⟩; subst V) | (go_at_call 27; refine (nonePacked p w5 hp5).mono ?_; rintro e V ⟨rfl, hV⟩; subst V) | (go_at_call 28; refine (nonePop p w5 hp5).mono ?_; rintro e V ⟨rfl, hV⟩; subst V) | (go_at_call 29; refine (noneClone p w5 hp5).mono ?_; rintro e V ⟨rfl, hV⟩; subst V) | (go_at_call 30; guard_hyp hp5; (fail_if_success (guard_hyp g6)); refine (noneSame p p w5 hp5).mono ?_; rintro e w6 ⟨rfl, hm6⟩; have g6 : w5.grownBy w6 none := (by obtain ⟨m, rfl⟩ := hm6; exact gb_drewN (World.grownBy.refl _ _) m); have hp6 := hp5.kept g6; clear hm6) | (go_at_call 30; guard_hyp g6; (fail_if_success (guard_hyp g7)); refine (noneSame p none w6 hp6).mono ?_; rintro e w7 ⟨rfl, hm7⟩; have g7 : w6.grownBy w7 none := (by obtain ⟨m, rfl⟩ := hm7; exact gb_drewN (World.grownBy.refl _ _) m); clear hm7) | (go_at_call 13; refine (throughNone w7).mono ?_; rintro e w8 ⟨rfl, g8⟩))
      have gg : wr.grownBy w8 none := gb_trans G4 (gb_trans gk5 (gb_trans g6 (gb_trans g7 g8)))
      refine ⟨⟨k + 1, by omega, by simp, gb_trans Gk gg, Zk.kept gg (by simp), Lk.kept gg (by simp)⟩, by simp [intOf]; omega⟩
    · have hk2 : ¬ ((k : Int) < 2) := by omega
      go_wp2
      go_ret
      exact ⟨rfl, gb_below Gk⟩
end Go.Proofs.Ytbiilklihieomaa
