/- What Parts answers. -/
import Derived.Test.YtgflchbmoinonaaDoorH5
import Derived.Test.YtgflchbmoinonaaDoorH6
import Derived.Maps.AppendAt
namespace Go.Proofs.YtgflchbmoinonaaDoor
open Go.RowKit
open Fl
set_option linter.unusedVariables false
set_option linter.unusedSimpArgs false
set_option maxRecDepth 100000

def ksB (h k : Nat) : Bool := (List.range (sn h)).all fun j => (mp h k j).isSome
theorem ks_yes {h k : Nat} (hb : ksB h k = true) : ∀ j, j < sn h → (mp h k j).isSome = true := fun j hj => by
  have := List.all_eq_true.1 hb j (List.mem_range.2 hj)
  exact this
theorem ks_no {h k : Nat} (hb : ksB h k = false) : ∃ j, j < sn h ∧ mp h k j = none := by
  obtain ⟨j, hj, hn⟩ := List.all_eq_false.1 hb
  refine ⟨j, List.mem_range.1 hj, ?_⟩
  cases hm : mp h k j with
  | none => rfl
  | some n => rw [hm] at hn; exact absurd rfl hn
/-- The parts below n that keep the neighbourhood. -/
def pls (h n : Nat) : List Nat := (List.range n).filter (ksB h)
theorem pls_0 (h : Nat) : pls h 0 = [] := rfl
theorem pls_yes {h n : Nat} (hb : ksB h n = true) : pls h (n + 1) = pls h n ++ [n] := by
  unfold pls; rw [List.range_succ, List.filter_append]; simp [hb]
theorem pls_no {h n : Nat} (hb : ksB h n = false) : pls h (n + 1) = pls h n := by
  unfold pls; rw [List.range_succ, List.filter_append]; simp [hb]
theorem pls_le (h n : Nat) : (pls h n).length ≤ n := by
  have := List.length_filter_le (ksB h) (List.range n)
  rw [List.length_range] at this
  exact this
def cl (l : List Nat) : List Value := l.map fun k => .int .i64 (k : Nat)
theorem infoN : (Tryd.prog.info? 3).map (fun i => (i.zero, i.size, i.bytes)) = some (some (.int .i64 0), 1, 8) := by kernel_rfl
theorem info_parts {P : Program} {t : TypeId} {z : Value} {a b : Nat} (h : (P.info? t).map (fun i => (i.zero, i.size, i.bytes)) = some (some z, a, b)) : ∃ i, P.info? t = some i ∧ i.zero = some z ∧ i.size = a ∧ i.bytes = b := by
  obtain ⟨i, hi, he⟩ := Option.map_eq_some_iff.1 h
  simp only [Prod.mk.injEq] at he
  exact ⟨i, hi, he.1, he.2.1, he.2.2⟩
theorem gb_row {a b c : World} {r : Option Nat} (h : a.grownBy b none) (k : b.grownBy c r) (hr : ∀ i, r = some i → a.heap.size ≤ i) : a.grownBy c none :=
  ⟨k.os.trans h.os, k.tape.trans h.tape, k.output.trans h.output, Nat.le_trans h.size k.size, fun i hi hne => (k.block i (Nat.lt_of_lt_of_le hi h.size) (fun e => by have := hr i e.symm; omega)).trans (h.block i hi hne)⟩
set_option maxHeartbeats 2000000 in
theorem partsYes (h : Nat) (h1 : 1 ≤ h) (h3 : h ≤ 3) (w : World) (hv : Hid (Hv w)) : Calls Tryd.prog 11 #[.int .u8 h] w fun e w' => ∃ v, e = .returned (.tuple #[v, .int .i64 0]) ∧ w'.ownsRow w.heap.size 3 1 v (pls h 8).length (cl (pls h 8)) ∧ w.grownBy w' none := by
  obtain ⟨i0, hi⟩ := info_parts infoN
  have HI : Hid (Tryd.prog.info? 3 = some i0 ∧ i0.zero = some (.int .i64 0) ∧ i0.size = 1 ∧ i0.bytes = 8) := hi
  clear hi
  have hf := fun w hv => findYes h h1 h3 w hv
  have hpy := fun k hk8 hk w hv => permY h h1 h3 k hk8 hk w hv
  have hpn := fun k hk8 hk w hv => permN h h1 h3 k hk8 hk w hv
  go_enter Tryd.func11, Tryd.ntmps11
  go_wp2_with (first | (go_at_call 25; refine (hf _ hv).mono ?_; rintro e w2 ⟨rfl, g2⟩; obtain ⟨W3, hW3, sz3, g3, B3⟩ := boxn w2 #[.int .i64 0, .int .i64 0, .int .i64 0, .int .i64 0, .int .i64 0, .int .i64 0, .int .i64 0, .int .i64 0, .int .i64 0, .int .i64 0, .int .i64 0, .int .i64 0, .int .i64 0, .int .i64 0, .int .i64 0, .int .i64 0, .int .i64 0] 55) | (refine wpList_st (op := ⟨_, .store 55 _ _, _, _, _, _⟩) rfl 55 _ _ rfl w2.heap.size (ho h) rfl rfl B3 (infoH h) rfl (all1 h) ?_; intro W4 hW4 B4; have c16 := B4.cell 16 (v := .int .i64 ((sn h : Nat) : Int)) rfl; have G4 : w.grownBy W4 none := hW4 ▸ gb_rowset (gb_trans g2 g3) g2.size))
  go_loopw [6, 19] (fun vl v wr => ∃ k : Nat, k ≤ 8 ∧ v = .int .i64 k ∧ wr.ownsRow w.heap.size 3 1 vl (pls h k).length (cl (pls h k)) ∧ w.grownBy wr none) (fun _ v _ => 8 - (intOf v).toNat)
  case atStart => exact ⟨0, Nat.zero_le _, rfl, World.ownsRow_nil _ _ _ _, G4⟩
  case round =>
    obtain ⟨k, hk, rfl, hown, hg⟩ := hrel
    have hsz := hg.size
    by_cases hlt : k < 8
    · have hlt' : (k : Int) < 8 := by omega
      have hvk := hvK hv hg
      have hle := pls_le h k
      cases hb : ksB h k with
      | false =>
        have HP := hpn k hlt (ks_no hb)
        have HE : Hid (pls h (k + 1) = pls h k) := pls_no hb
        clear hb hpy hpn
        go_wp2_with (first | (go_at_call 10; refine (HP _ hvk).mono ?_; rintro e w5 ⟨rfl, g5⟩; have hown5 := hown.kept g5 (Classical.em _); have G5 := gb_trans hg g5))
        go_roundw
        case rel => exact ⟨k + 1, by omega, by go_num, by rw [HE.out]; exact hown5, G5⟩
        case measure => simp [intOf]; omega
      | true =>
        have HP := hpy k hlt (ks_yes hb)
        have HE : Hid (pls h (k + 1) = pls h k ++ [k]) := pls_yes hb
        clear hb hpy hpn
        go_wp2_with (first | (go_at_call 10; refine (HP _ hvk).mono ?_; rintro e w5 ⟨b5, rfl, B5, l5, g5⟩; have hown5 := hown.kept g5 (Classical.em _); have G5 := gb_trans hg g5; have hsz5 := G5.size) | (at_builtin; refine wpList_append_own _ rfl _ _ 25 rfl w.heap.size 3 i0 (.int .i64 0) 1 8 Tryd.underlying25 HI.out.1 HI.out.2.1 HI.out.2.2.1 HI.out.2.2.2 rfl (by decide) _ _ _ rfl (hown5.alloc _) ⟨_, 0, none⟩ 1 1 [.int .i64 (k : Nat)] rfl rfl (cell_one_new _ _ _) (by intro u hu; simp at hu; subst hu; rfl) ?_ ?_ ?_ ?_; rotate_right; intro v4 w4 hown4 hgrow4 hnil4))
        · have HA := hown5.alloc (.cells #[.int .i64 (k : Nat)] 3)
          have G4 := gb_row (gb_alloc G5 (.cells #[.int .i64 (k : Nat)] 3)) hgrow4 (fun i e => (HA.lt i e).1)
          go_wp2
          go_roundw
          case rel =>
            refine ⟨k + 1, by omega, by go_num, ?_, G4⟩
            rw [HE.out, List.length_append]
            unfold cl at hown4 ⊢
            rw [List.map_append]
            exact hown4
          case measure => simp [intOf]; omega
        · unfold maxLen; omega
        · omega
        · first | omega | (simp; omega)
    · have hlt' : ¬ (k : Int) < 8 := by omega
      obtain rfl : k = 8 := by omega
      go_wp2
      go_ret2
      exact ⟨_, rfl, hown, hg⟩
set_option maxHeartbeats 1000000 in
theorem partsNo (h : Int) (h0 : 0 ≤ h) (h1 : h ≤ 255) (hn : h < 1 ∨ 3 < h) (w : World) : Calls Tryd.prog 11 #[.int .u8 h] w fun e w' => e = .returned (.tuple #[.slice none 0 0, .int .i64 70]) ∧ w.grownBy w' none := by
  have hf := findNo h h0 h1 hn
  clear hn
  go_enter Tryd.func11, Tryd.ntmps11
  go_wp2_with (first | (go_at_call 25; refine (hf _).mono ?_; rintro e w2 ⟨rfl, g2⟩; obtain ⟨W3, hW3, sz3, g3, B3⟩ := boxn w2 #[.int .i64 0, .int .i64 0, .int .i64 0, .int .i64 0, .int .i64 0, .int .i64 0, .int .i64 0, .int .i64 0, .int .i64 0, .int .i64 0, .int .i64 0, .int .i64 0, .int .i64 0, .int .i64 0, .int .i64 0, .int .i64 0, .int .i64 0] 55) | (refine wpList_st (op := ⟨_, .store 55 _ _, _, _, _, _⟩) rfl 55 _ _ rfl w2.heap.size #[.int .i64 0, .int .i64 0, .int .i64 0, .int .i64 0, .int .i64 0, .int .i64 0, .int .i64 0, .int .i64 0, .int .i64 0, .int .i64 0, .int .i64 0, .int .i64 0, .int .i64 0, .int .i64 0, .int .i64 0, .int .i64 0, .int .i64 0] rfl rfl B3 infoO rfl (by simp [Value.oneCell']) ?_; intro W4 hW4 B4; have c16 := B4.cell 16 (v := .int .i64 0) rfl; have G4 : w.grownBy W4 none := hW4 ▸ gb_rowset (gb_trans g2 g3) g2.size))
  go_ret2
  exact ⟨rfl, G4⟩
end Go.Proofs.YtgflchbmoinonaaDoor
