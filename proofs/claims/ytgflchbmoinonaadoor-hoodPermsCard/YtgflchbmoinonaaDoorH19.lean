/- The document's Perm, Parts. -/
import Derived.Test.YtgflchbmoinonaaDoorH18
import Derived.Test.YtgflchbmoinonaaDoorH16
namespace Go.Proofs.YtgflchbmoinonaaDoor
open Go.RowKit
open Fl
set_option linter.unusedVariables false
set_option linter.unusedSimpArgs false
set_option maxRecDepth 100000

theorem mat : (List.range 4).all (fun h => (List.range 8).all fun k => (List.range (sn h)).all fun i => (match mp h k i with | none => true | some m => decide (m < sn h)) && (List.range (sn h)).all fun j => decide (px h j = lx k (px h i) (py h i) + 0 ∧ py h j = ly k (px h i) (py h i) + 0) == (mp h k i == some j)) = true := by decide +kernel
theorem mat_lt {h k i m : Nat} (h4 : h < 4) (hk : k < 8) (hi : i < sn h) (hm : mp h k i = some m) : m < sn h := by
  have := List.all_eq_true.1 (List.all_eq_true.1 (List.all_eq_true.1 mat h (List.mem_range.2 h4)) k (List.mem_range.2 hk)) i (List.mem_range.2 hi)
  rw [hm, Bool.and_eq_true] at this
  simpa using this.1
theorem mat_at {h k i j : Nat} (h4 : h < 4) (hk : k < 8) (hi : i < sn h) (hj : j < sn h) : (px h j = lx k (px h i) (py h i) + 0 ∧ py h j = ly k (px h i) (py h i) + 0) ↔ mp h k i = some j := by
  have := List.all_eq_true.1 (List.all_eq_true.1 (List.all_eq_true.1 mat h (List.mem_range.2 h4)) k (List.mem_range.2 hk)) i (List.mem_range.2 hi)
  rw [Bool.and_eq_true] at this
  have h2 := List.all_eq_true.1 this.2 j (List.mem_range.2 hj)
  rw [beq_iff_eq] at h2
  constructor
  · intro e; rw [decide_eq_true e] at h2; simpa using h2.symm
  · intro e; rw [e] at h2; simpa using h2
/-- Where the part takes the first offsets. -/
def plq (h k i : Nat) : List Nat := (List.range i).map fun j => (mp h k j).getD 0
theorem plq_next {h k i m : Nat} (hm : mp h k i = some m) : plq h k (i + 1) = plq h k i ++ [m] := by
  unfold plq
  rw [List.range_succ, List.map_append]
  simp [hm]
theorem cl_app (l : List Nat) (m : Nat) : cl (l ++ [m]) = cl l ++ [.int .i64 ((m : Nat) : Int)] := by unfold cl; simp
theorem px_small : (List.range 4).all (fun h => (List.range 8).all fun i => decide (-1 ≤ px h i) && decide (px h i ≤ 1) && decide (-1 ≤ py h i) && decide (py h i ≤ 1)) = true := by decide +kernel
theorem px_bd {h i : Nat} (h4 : h < 4) (hi : i < 8) : (-1 ≤ px h i ∧ px h i ≤ 1) ∧ (-1 ≤ py h i ∧ py h i ≤ 1) := by
  have := List.all_eq_true.1 (List.all_eq_true.1 px_small h (List.mem_range.2 h4)) i (List.mem_range.2 hi)
  simp only [Bool.and_eq_true, decide_eq_true_eq] at this
  omega
theorem own_boxT {w : World} {base b n : Nat} {v : Value} {xs : List Value} {cs : Array Value} (h : w.ownsRow base 3 1 v n xs) (B : Bo w b 37 cs) : some b ≠ v.ownBlock := by
  intro e
  rcases h.2 with ⟨rfl, _⟩ | ⟨g, cap, cur, rfl, _, hg, _⟩
  · cases e
  · have e' : some b = some g := e
    injection e' with e'
    subst e'
    rw [show w.heap[b]? = _ from B] at hg
    simp at hg
theorem underIn : Tryd.prog.underlying 25 = some (.slice 3) := by kernel_rfl
set_option maxHeartbeats 600000 in
theorem refPermC (h : Nat) (h1 : 1 ≤ h) (h3 : h ≤ 3) (k : Nat) (hk8 : k < 8) (B : Bool) (HB : Hid ((B = true ∧ ∀ j, j < sn h → (mp h k j).isSome = true) ∨ (B = false ∧ ∃ j, j < sn h ∧ mp h k j = none))) (w : World) :
    Calls Tryd.prog 18 #[.int .u8 h, .int .i64 k] w fun e w' => ∃ v, e = .returned (.tuple #[v, .bool B, .int .i64 0]) ∧ (B = true → w'.ownsRow w.heap.size 3 1 v (sn h) (cl (plq h k (sn h)))) ∧ (B = false → v = .slice none 0 0) ∧ w.grownBy w' none := by
  have hRO := fun w => refOffYes h h1 h3 w
  have h8 := sn_le h h1 h3
  have h4 : h < 4 := by omega
  have hlt_ := fun i m hi hm => mat_lt (m := m) h4 hk8 (i := i) hi hm
  have hat_ := fun i j hi hj => mat_at (j := j) h4 hk8 (i := i) hi hj
  have HL : Hid (∀ i m, i < sn h → mp h k i = some m → m < sn h) := hlt_
  have HA : Hid (∀ i j, i < sn h → j < sn h → ((px h j = lx k (px h i) (py h i) + 0 ∧ py h j = ly k (px h i) (py h i) + 0) ↔ mp h k i = some j)) := hat_
  clear hlt_ hat_
  generalize sn h = n at *
  have hk0 : decide ((k : Int) < 0) = false := by simp
  have hk7 : decide ((7 : Int) < (k : Int)) = false := by simp; omega
  obtain ⟨ib, hib⟩ := info_parts infoN
  have HI : Hid (Tryd.prog.info? 3 = some ib ∧ ib.zero = some (.int .i64 0) ∧ ib.size = 1 ∧ ib.bytes = 8) := hib
  clear hib
  go_enter Tryd.func18, Tryd.ntmps18
  go_wp2_with (go_at_call 14; refine (hRO w).mono ?_; rintro e w1 ⟨gw, rfl, P1, lw1, lw2, g1⟩)
  go_loopw [9, 10] (fun v x wr' => ∃ (i : Nat) (vc : Value), i ≤ n ∧ vc = v ∧ x = .int .i64 i ∧ wr'.ownsRow w1.heap.size 3 1 vc i (cl (plq h k i)) ∧ Hid (∀ j, j < i → (mp h k j).isSome = true) ∧ Pts wr' gw n h ∧ w1.heap.size ≤ wr'.heap.size ∧ w.grownBy wr' none) (fun _ x _ => n - (intOf x).toNat)
  case atStart => exact ⟨0, _, Nat.zero_le _, rfl, rfl, World.ownsRow_nil _ _ _ _, (fun j hj => absurd hj (Nat.not_lt_zero _)), P1, Nat.le_refl _, g1⟩
  case round =>
    obtain ⟨i, vc, hi, rfl, rfl, hown, HS, hP, hS, hG⟩ := hrel
    by_cases hlt : i < n
    · have hlt' : (i : Int) < (n : Int) := by omega
      obtain ⟨a0, a1⟩ := hP i hlt
      have hbd := px_bd h4 (i := i) (by omega)
      have hT := fun w => refTurnC k hk8 (px h i) (py h i) hbd.1 hbd.2 w
      have HAi : Hid (∀ j, j < n → ((px h j = lx k (px h i) (py h i) + 0 ∧ py h j = ly k (px h i) (py h i) + 0) ↔ mp h k i = some j)) := fun j hj => HA.out i j hlt hj
      generalize lx k (px h i) (py h i) + 0 = PX at hT HAi
      generalize ly k (px h i) (py h i) + 0 = PY at hT HAi
      go_wp2_with (go_at_call 27; refine (hT wr).mono ?_; rintro e w2 ⟨rfl, g2⟩; obtain ⟨W3, hW3, sz3, g3, B3⟩ := boxn w2 #[.int .i64 PX, .int .i64 PY] 37)
      have E3 := gb_trans g2 g3
      have own3 := hown.kept E3 (Classical.em _)
      have P3 := hP.kept E3 (by simp)
      have S3 : w1.heap.size ≤ W3.heap.size := Nat.le_trans hS E3.size
      have G3 := gb_trans hG E3
      have lB3 : w1.heap.size ≤ w2.heap.size := Nat.le_trans hS g2.size
      clear a0 a1 hT
      cases hM : mp h k i with
      | none =>
        have HAn : Hid (∀ j, j < n → ¬ (px h j = PX ∧ py h j = PY)) := fun j hj hh => by
          have := (HAi.out j hj).1 hh
          rw [hM] at this
          cases this
        have HBf : Hid (B = false) := by
          rcases HB.out with ⟨_, h9⟩ | ⟨h9, _⟩
          · have := h9 i hlt
            rw [hM] at this
            cases this
          · exact h9
        obtain rfl := HBf.out
        clear HB HBf HAi hM
        go_loopw [9, 12, 13] (fun v f x wr' => ∃ j : Nat, j ≤ n ∧ f = .bool false ∧ x = .int .i64 j ∧ W3.grownBy wr' none) (fun _ _ x _ => n - (intOf x).toNat)
        case atStart => exact ⟨0, Nat.zero_le _, rfl, rfl, World.grownBy.refl _ _⟩
        case round =>
          obtain ⟨j, hj, rfl, rfl, hgj⟩ := hrel
          by_cases hjl : j < n
          · have hjl' : (j : Int) < (n : Int) := by omega
            obtain ⟨a0, a1⟩ := (P3.kept hgj (by simp)) j hjl
            have Bj := B3.kept hgj (by simp)
            have p0 := Bj.cell 0 (v := .int .i64 PX) rfl
            have p1 := Bj.cell 1 (v := .int .i64 PY) rfl
            have hne := HAn.out j hjl
            generalize px h j = QX at *
            generalize py h j = QY at *
            have HNE : Hid (¬ (QX = PX ∧ QY = PY)) := hne
            clear hne
            cases ex : (QX == PX) with
            | false =>
              go_wp2
              go_quiet (fail)
              go_wp2
              first
                | (refine ⟨⟨j + 1, by omega, by first | rfl | trivial, by go_num, gb_drewN hgj _⟩, ?_⟩; simp [intOf]; omega)
                | (go_roundw; (case rel => exact ⟨j + 1, by omega, by first | rfl | trivial, by go_num, gb_drewN hgj _⟩); (case measure => (simp [intOf]; omega)))
            | true =>
              have ey : (QY == PY) = false := by
                have e1 : QX = PX := by simpa using ex
                have : ¬ QY = PY := fun e2 => HNE.out ⟨e1, e2⟩
                simpa using this
              go_wp2
              go_quiet (fail)
              go_wp2
              first
                | (refine ⟨⟨j + 1, by omega, by first | rfl | trivial, by go_num, gb_drewN hgj _⟩, ?_⟩; simp [intOf]; omega)
                | (go_roundw; (case rel => exact ⟨j + 1, by omega, by first | rfl | trivial, by go_num, gb_drewN hgj _⟩); (case measure => (simp [intOf]; omega)))
          · have hjl' : ¬ (j : Int) < (n : Int) := by omega
            go_wp2
            go_ret3
            first
              | exact ⟨_, rfl, (fun e => by cases e), (fun _ => rfl), gb_trans G3 hgj⟩
              | exact ⟨_, rfl, gb_trans G3 hgj⟩
              | exact ⟨_, rfl, rfl, gb_trans G3 hgj⟩
              | exact ⟨rfl, gb_trans G3 hgj⟩
      | some m =>
        have hmn := HL.out i m hlt hM
        have HAj : Hid (∀ j, j < n → ((px h j = PX ∧ py h j = PY) ↔ j = m)) := fun j hj => by
          have := HAi.out j hj
          rw [hM] at this
          simp only [Option.some.injEq] at this
          exact this.trans ⟨fun e => e.symm, fun e => e.symm⟩
        have HPL : Hid (cl (plq h k (i + 1)) = cl (plq h k i) ++ [.int .i64 ((m : Nat) : Int)]) := by unfold Hid; rw [plq_next hM, cl_app]
        have HS' : Hid (∀ j, j < i + 1 → (mp h k j).isSome = true) := fun j hj => by
          by_cases e : j = i
          · rw [e, hM]; rfl
          · exact HS.out j (by omega)
        clear HAi hM HS
        go_loopw [9, 12, 13] (fun v f x wr' => ∃ (j : Nat) (vd : Value) (fb : Bool) (c : Nat) (xs : List Value), j ≤ n ∧ vd = v ∧ f = .bool fb ∧ x = .int .i64 j ∧ Hid (fb = decide (m < j)) ∧ Hid (c = if m < j then i + 1 else i) ∧ Hid (xs = if m < j then cl (plq h k (i + 1)) else cl (plq h k i)) ∧ wr'.ownsRow w1.heap.size 3 1 vd c xs ∧ Pts wr' gw n h ∧ Bo wr' w2.heap.size 37 #[.int .i64 PX, .int .i64 PY] ∧ w1.heap.size ≤ wr'.heap.size ∧ w.grownBy wr' none) (fun _ _ x _ => n - (intOf x).toNat)
        case atStart => exact ⟨0, _, false, i, cl (plq h k i), Nat.zero_le _, rfl, rfl, rfl, by unfold Hid; simp, by unfold Hid; simp, by unfold Hid; simp, own3, P3, B3, S3, G3⟩
        case round =>
          obtain ⟨j, vd, fb, c, xs, hj, rfl, rfl, rfl, HF, HC, HX, own, hPj, Bj, hSj, hGj⟩ := hrel
          by_cases hjl : j < n
          · have hjl' : (j : Int) < (n : Int) := by omega
            obtain ⟨a0, a1⟩ := hPj j hjl
            have p0 := Bj.cell 0 (v := .int .i64 PX) rfl
            have p1 := Bj.cell 1 (v := .int .i64 PY) rfl
            have HJ : Hid ((px h j = PX ∧ py h j = PY) ↔ j = m) := HAj.out j hjl
            generalize px h j = QX at *
            generalize py h j = QY at *
            by_cases ejm : j = m
            · obtain ⟨rfl, rfl⟩ := HJ.out.2 ejm
              obtain rfl : fb = false := by rw [HF.out]; simp; omega
              obtain rfl : c = i := by rw [HC.out, if_neg (by omega)]
              obtain rfl : xs = cl (plq h k c) := by rw [HX.out, if_neg (by omega)]
              have EJM : Hid (j = m) := ejm
              clear HF HC HX HJ ejm
              go_wp2
              go_quiet (fail)
              obtain ⟨V0, hV0⟩ : ∃ V0, wr.drewN nq = V0 := ⟨_, rfl⟩
              have gq : wr.grownBy V0 none := hV0 ▸ gb_drewN (World.grownBy.refl wr none) nq
              rw [hV0]
              obtain ⟨V, hV, szV, gV, BV⟩ := boxn V0 #[.int .i64 (j : Int)] 3
              have gqV := gb_trans gq gV
              have ownV := own.kept gqV (Classical.em _)
              have v0 : ∀ l u, [Value.int .i64 (j : Int)][l]? = some u → V.cell? ((⟨V0.heap.size, 0, none⟩ : Addr).add l) = some u := fun l u hl => by
                match l, hl with
                | 0, hl => cases hl; exact BV.cell 0 rfl
              have sV : w1.heap.size ≤ V.heap.size := Nat.le_trans hSj gqV.size
              have GV := gb_trans hGj gqV
              have PV := hPj.kept gqV (by simp)
              have BjV := Bj.kept gqV (by simp)
              have neB := own_boxT ownV BjV
              go_wp2_with (at_builtin; refine wpList_append_own_at _ rfl _ _ 25 rfl w1.heap.size 3 ib (.int .i64 0) 1 8 underIn HI.out.1 HI.out.2.1 HI.out.2.2.1 HI.out.2.2.2 rfl (by decide) _ c _ rfl ownV ⟨V0.heap.size, 0, none⟩ 1 1 [.int .i64 (j : Int)] rfl rfl v0 (by intro u hu; simp at hu; subst hu; rfl) (by unfold maxLen; omega) (by omega) sV ?_; intro v' w' own' g' hnil' hblk')
              have HXe : Hid (cl (plq h k c) ++ [.int .i64 (j : Int)] = cl (plq h k (c + 1))) := by unfold Hid; rw [HPL.out, EJM.out]
              have own2 : w'.ownsRow w1.heap.size 3 1 v' (c + 1) (cl (plq h k (c + 1))) := HXe.out ▸ own'
              have hge : ∀ q, vd.ownBlock = some q → w1.heap.size ≤ q := fun q e => (ownV.lt q e).1
              have HF9 : Hid (true = decide (m < j + 1)) := by unfold Hid; simp; have := EJM.out; omega
              have HC9 : Hid (c + 1 = if m < j + 1 then c + 1 else c) := by unfold Hid; rw [if_pos (by have := EJM.out; omega)]
              have HX9 : Hid (cl (plq h k (c + 1)) = if m < j + 1 then cl (plq h k (c + 1)) else cl (plq h k c)) := by unfold Hid; rw [if_pos (by have := EJM.out; omega)]
              have PV' := PV.kept g' (fun e => by have := hge gw e.symm; omega)
              have BV' := BjV.kept g' neB
              have GV' := gb_rowH GV g' (fun q e => Nat.le_trans g1.size (hge q e))
              first
                | (refine ⟨⟨j + 1, v', true, c + 1, _, by omega, rfl, by first | rfl | trivial, by go_num, HF9, HC9, HX9, own2, PV', BV', Nat.le_trans sV g'.size, GV'⟩, ?_⟩; simp [intOf]; omega)
                | (go_roundw; (case rel => exact ⟨j + 1, v', true, c + 1, _, by omega, rfl, by first | rfl | trivial, by go_num, HF9, HC9, HX9, own2, PV', BV', Nat.le_trans sV g'.size, GV'⟩); (case measure => (simp [intOf]; omega)))
            · have HNE : Hid (¬ (QX = PX ∧ QY = PY)) := fun e => ejm (HJ.out.1 e)
              have HFn : Hid (fb = decide (m < j + 1)) := by unfold Hid; rw [HF.out]; congr 1; apply propext; omega
              have HCn : Hid (c = if m < j + 1 then i + 1 else i) := by
                unfold Hid; rw [HC.out]
                by_cases e : m < j
                · rw [if_pos e, if_pos (by omega)]
                · rw [if_neg e, if_neg (by omega)]
              have HXn : Hid (xs = if m < j + 1 then cl (plq h k (i + 1)) else cl (plq h k i)) := by
                unfold Hid; rw [HX.out]
                by_cases e : m < j
                · rw [if_pos e, if_pos (by omega)]
                · rw [if_neg e, if_neg (by omega)]
              clear HF HC HX HJ ejm
              cases ex : (QX == PX) with
              | false =>
                go_wp2
                go_quiet (fail)
                have gq := gb_drewN (World.grownBy.refl wr none) nq
                go_wp2
                first
                | (refine ⟨⟨j + 1, vd, fb, c, xs, by omega, rfl, by first | rfl | trivial, by go_num, HFn, HCn, HXn, own.kept gq (Classical.em _), hPj.kept gq (by simp), Bj.kept gq (by simp), Nat.le_trans hSj gq.size, gb_trans hGj gq⟩, ?_⟩; simp [intOf]; omega)
                | (go_roundw; (case rel => exact ⟨j + 1, vd, fb, c, xs, by omega, rfl, by first | rfl | trivial, by go_num, HFn, HCn, HXn, own.kept gq (Classical.em _), hPj.kept gq (by simp), Bj.kept gq (by simp), Nat.le_trans hSj gq.size, gb_trans hGj gq⟩); (case measure => (simp [intOf]; omega)))
              | true =>
                have ey : (QY == PY) = false := by
                  have e1 : QX = PX := by simpa using ex
                  have : ¬ QY = PY := fun e2 => HNE.out ⟨e1, e2⟩
                  simpa using this
                go_wp2
                go_quiet (fail)
                have gq := gb_drewN (World.grownBy.refl wr none) nq
                go_wp2
                first
                | (refine ⟨⟨j + 1, vd, fb, c, xs, by omega, rfl, by first | rfl | trivial, by go_num, HFn, HCn, HXn, own.kept gq (Classical.em _), hPj.kept gq (by simp), Bj.kept gq (by simp), Nat.le_trans hSj gq.size, gb_trans hGj gq⟩, ?_⟩; simp [intOf]; omega)
                | (go_roundw; (case rel => exact ⟨j + 1, vd, fb, c, xs, by omega, rfl, by first | rfl | trivial, by go_num, HFn, HCn, HXn, own.kept gq (Classical.em _), hPj.kept gq (by simp), Bj.kept gq (by simp), Nat.le_trans hSj gq.size, gb_trans hGj gq⟩); (case measure => (simp [intOf]; omega)))
          · have hjl' : ¬ (j : Int) < (n : Int) := by omega
            obtain rfl : fb = true := by rw [HF.out]; simp; omega
            obtain rfl : c = i + 1 := by rw [HC.out, if_pos (by omega)]
            obtain rfl : xs = cl (plq h k (i + 1)) := by rw [HX.out, if_pos (by omega)]
            clear HF HC HX
            go_wp2
            first
              | (refine ⟨⟨i + 1, vd, by omega, rfl, by go_num, own, HS', hPj, hSj, hGj⟩, ?_⟩; simp [intOf]; omega)
              | (go_roundw; (case rel => exact ⟨i + 1, vd, by omega, rfl, by go_num, own, HS', hPj, hSj, hGj⟩); (case measure => (simp [intOf]; omega)))
    · have hlt' : ¬ (i : Int) < (n : Int) := by omega
      obtain rfl : n = i := by omega
      have HBt : Hid (B = true) := by
        rcases HB.out with ⟨h9, _⟩ | ⟨_, j, hj, h9⟩
        · exact h9
        · have := HS.out j hj
          rw [h9] at this
          cases this
      obtain rfl := HBt.out
      clear HB HBt HS
      go_wp2
      go_ret3
      have ownW : wr.ownsRow w.heap.size 3 1 vc n (cl (plq h k n)) := ⟨hown.1, hown.2.imp id fun ⟨g, cap, cur, e, hb, r⟩ => ⟨g, cap, cur, e, Nat.le_trans g1.size hb, r⟩⟩
      first
        | exact ⟨_, rfl, ownW, hG⟩
        | exact ⟨_, rfl, (fun _ => ownW), (fun e => by cases e), hG⟩

set_option maxHeartbeats 600000 in
theorem refPermP (h : Nat) (h1 : 1 ≤ h) (h3 : h ≤ 3) (q : Int) (hq : q < 0 ∨ 7 < q) (w : World) : Calls Tryd.prog 18 #[.int .u8 h, .int .i64 q] w fun e w' => e = .returned (.tuple #[.slice none 0 0, .bool false, .int .i64 71]) ∧ w.grownBy w' none := by
  have hRO := fun w => refOffYes h h1 h3 w
  generalize sn h = n at *
  by_cases h0 : q < 0
  · have hk0 : decide (q < 0) = true := by simpa using h0
    clear hq h0
    go_enter Tryd.func18, Tryd.ntmps18
    go_wp2_with (go_at_call 14; refine (hRO w).mono ?_; rintro e w1 ⟨gw, rfl, P1, lw1, lw2, g1⟩)
    go_ret3
    exact ⟨rfl, g1⟩
  · have hk0 : decide (q < 0) = false := by simpa using h0
    have hk7 : decide ((7 : Int) < q) = true := by simp; omega
    clear hq h0
    go_enter Tryd.func18, Tryd.ntmps18
    go_wp2_with (go_at_call 14; refine (hRO w).mono ?_; rintro e w1 ⟨gw, rfl, P1, lw1, lw2, g1⟩)
    go_ret3
    exact ⟨rfl, g1⟩
set_option maxHeartbeats 600000 in
theorem refPermH (h : Int) (h0 : 0 ≤ h) (h1 : h ≤ 255) (hn : h < 1 ∨ 3 < h) (q : Int) (w : World) : Calls Tryd.prog 18 #[.int .u8 h, .int .i64 q] w fun e w' => e = .returned (.tuple #[.slice none 0 0, .bool false, .int .i64 70]) ∧ w.grownBy w' none := by
  have hRO := fun w => refOffNo h h0 h1 hn w
  clear hn
  go_enter Tryd.func18, Tryd.ntmps18
  go_wp2_with (go_at_call 14; refine (hRO w).mono ?_; rintro e w1 ⟨rfl, g1⟩)
  go_ret3
  exact ⟨rfl, g1⟩
set_option maxHeartbeats 600000 in
theorem refPartsNo (h : Int) (h0 : 0 ≤ h) (h1 : h ≤ 255) (hn : h < 1 ∨ 3 < h) (w : World) : Calls Tryd.prog 19 #[.int .u8 h] w fun e w' => e = .returned (.tuple #[.slice none 0 0, .int .i64 70]) ∧ w.grownBy w' none := by
  have hRO := fun w => refOffNo h h0 h1 hn w
  clear hn
  go_enter Tryd.func19, Tryd.ntmps19
  go_wp2_with (go_at_call 14; refine (hRO w).mono ?_; rintro e w1 ⟨rfl, g1⟩)
  go_ret2
  exact ⟨rfl, g1⟩
set_option maxHeartbeats 600000 in
theorem refPartsYes (h : Nat) (h1 : 1 ≤ h) (h3 : h ≤ 3) (w : World) : Calls Tryd.prog 19 #[.int .u8 h] w fun e w' => ∃ v, e = .returned (.tuple #[v, .int .i64 0]) ∧ w'.ownsRow w.heap.size 3 1 v (pls h 8).length (cl (pls h 8)) ∧ w.grownBy w' none := by
  have hRO := fun w => refOffYes h h1 h3 w
  have hY : ∀ k, k < 8 → ksB h k = true → ∀ w, Calls Tryd.prog 18 #[.int .u8 h, .int .i64 k] w fun e w' => ∃ v, e = .returned (.tuple #[v, .bool true, .int .i64 0]) ∧ w.grownBy w' none := fun k hk hb w => (refPermC h h1 h3 k hk true (.inl ⟨rfl, ks_yes hb⟩) w).mono fun e w' ⟨v, he, _, _, hg⟩ => ⟨v, he, hg⟩
  have hN : ∀ k, k < 8 → ksB h k = false → ∀ w, Calls Tryd.prog 18 #[.int .u8 h, .int .i64 k] w fun e w' => ∃ v, e = .returned (.tuple #[v, .bool false, .int .i64 0]) ∧ w.grownBy w' none := fun k hk hb w => (refPermC h h1 h3 k hk false (.inr ⟨rfl, ks_no hb⟩) w).mono fun e w' ⟨v, he, _, _, hg⟩ => ⟨v, he, hg⟩
  have HYY : Hid (∀ k, k < 8 → ksB h k = true → ∀ w, Calls Tryd.prog 18 #[.int .u8 h, .int .i64 k] w fun e w' => ∃ v, e = .returned (.tuple #[v, .bool true, .int .i64 0]) ∧ w.grownBy w' none) := hY
  have HNN : Hid (∀ k, k < 8 → ksB h k = false → ∀ w, Calls Tryd.prog 18 #[.int .u8 h, .int .i64 k] w fun e w' => ∃ v, e = .returned (.tuple #[v, .bool false, .int .i64 0]) ∧ w.grownBy w' none) := hN
  clear hY hN
  obtain ⟨ib, hib⟩ := info_parts infoN
  have HI : Hid (Tryd.prog.info? 3 = some ib ∧ ib.zero = some (.int .i64 0) ∧ ib.size = 1 ∧ ib.bytes = 8) := hib
  clear hib
  generalize sn h = n at hRO
  go_enter Tryd.func19, Tryd.ntmps19
  go_wp2_with (go_at_call 14; refine (hRO w).mono ?_; rintro e w1 ⟨gw, rfl, P1, lw1, lw2, g1⟩)
  go_loopw [6, 7] (fun v x wr' => ∃ (k : Nat) (vc : Value) (c : Nat) (xs : List Value), k ≤ 8 ∧ vc = v ∧ x = .int .i64 k ∧ Hid (c = (pls h k).length) ∧ Hid (xs = cl (pls h k)) ∧ wr'.ownsRow w.heap.size 3 1 vc c xs ∧ w.grownBy wr' none) (fun _ x _ => 8 - (intOf x).toNat)
  case atStart => exact ⟨0, _, 0, [], Nat.zero_le _, rfl, rfl, rfl, rfl, World.ownsRow_nil _ _ _ _, g1⟩
  case round =>
    obtain ⟨k, vc, c, xs, hk, rfl, rfl, HC, HX, hown, hG⟩ := hrel
    by_cases hlt : k < 8
    · have hlt' : (k : Int) < 8 := by omega
      have hcl : c ≤ 8 := by have := pls_le h k; have := HC.out; omega
      cases hb : ksB h k with
      | true =>
        have hP := HYY.out k hlt hb wr
        have HC' : Hid (c + 1 = (pls h (k + 1)).length) := by unfold Hid; rw [pls_yes hb, List.length_append, ← HC.out]; rfl
        have HX' : Hid (xs ++ [.int .i64 ((k : Nat) : Int)] = cl (pls h (k + 1))) := by unfold Hid; rw [pls_yes hb, cl_app, HX.out]
        clear hb HC HX
        go_wp2_with (first | (go_at_call 18; refine hP.mono ?_; rintro e w2 ⟨vv, rfl, g2⟩; obtain ⟨V, hV, szV, gV, BV⟩ := boxn w2 #[.int .i64 (k : Int)] 3; have E2 := gb_trans g2 gV; have ownV := hown.kept E2 (Classical.em _); have GV := gb_trans hG E2; have v0 : ∀ l u, [Value.int .i64 (k : Int)][l]? = some u → V.cell? ((⟨w2.heap.size, 0, none⟩ : Addr).add l) = some u := (fun l u hl => by
            match l, hl with
            | 0, hl => cases hl; exact BV.cell 0 rfl)) | (at_builtin; refine wpList_append_own_at _ rfl _ _ 25 rfl w.heap.size 3 ib (.int .i64 0) 1 8 underIn HI.out.1 HI.out.2.1 HI.out.2.2.1 HI.out.2.2.2 rfl (by decide) _ c _ rfl ownV ⟨w2.heap.size, 0, none⟩ 1 1 [.int .i64 (k : Int)] rfl rfl v0 (by intro u hu; simp at hu; subst hu; rfl) (by unfold maxLen; omega) (by omega) GV.size ?_; intro v' w' own' g' hnil' hblk'))
        have GV' := gb_rowH GV g' (fun q e => (ownV.lt q e).1)
        first
          | (refine ⟨⟨k + 1, v', c + 1, _, by omega, rfl, by go_num, HC', HX', own', GV'⟩, ?_⟩; simp [intOf]; omega)
          | (go_roundw; (case rel => exact ⟨k + 1, v', c + 1, _, by omega, rfl, by go_num, HC', HX', own', GV'⟩); (case measure => (simp [intOf]; omega)))
      | false =>
        have hP := HNN.out k hlt hb wr
        have HC' : Hid (c = (pls h (k + 1)).length) := by unfold Hid; rw [pls_no hb]; exact HC.out
        have HX' : Hid (xs = cl (pls h (k + 1))) := by unfold Hid; rw [pls_no hb]; exact HX.out
        clear hb HC HX
        go_wp2_with (go_at_call 18; refine hP.mono ?_; rintro e w2 ⟨vv, rfl, g2⟩)
        first
          | (refine ⟨⟨k + 1, vc, c, xs, by omega, rfl, by go_num, HC', HX', hown.kept g2 (Classical.em _), gb_trans hG g2⟩, ?_⟩; simp [intOf]; omega)
          | (go_roundw; (case rel => exact ⟨k + 1, vc, c, xs, by omega, rfl, by go_num, HC', HX', hown.kept g2 (Classical.em _), gb_trans hG g2⟩); (case measure => (simp [intOf]; omega)))
    · have hlt' : ¬ (k : Int) < 8 := by omega
      obtain rfl : k = 8 := by omega
      have own8 : wr.ownsRow w.heap.size 3 1 vc (pls h 8).length (cl (pls h 8)) := by rw [← HC.out, ← HX.out]; exact hown
      clear HC HX hown
      go_wp2
      go_ret2
      exact ⟨_, rfl, own8, hG⟩
end Go.Proofs.YtgflchbmoinonaaDoor
