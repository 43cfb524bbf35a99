/- The document's row, and its Read: what they answer. -/
import Derived.Test.YtjacoifhjfipaaaRd
import Derived.OwnWalk
import Derived.LoopN
import Derived.Laws.AppendOwnNone
namespace Go.Proofs.Ytjacoifhjfipaaa
open Go.RowKit
set_option linter.unusedVariables false
set_option linter.unusedSimpArgs false
set_option maxRecDepth 100000

theorem it_ne {U : World} {r p B : Nat} {t : ByteArray} {v : Value} {l : List Cx} (h : It U r t p) (ho : Own U B v l) : some r ≠ v.ownBlock := fun e => by
  have := rows_cells ho r _ e.symm h
  cases this
def rwB (o : Option Nat) (fr : Nat) : Int := match o with | none => -1 | some p => ((fr + p : Nat) : Int)
theorem rowA_nil {t : ByteArray} {y : Nat} {p : Nat} : ∀ (f q x : Nat) (b : List Cx), t.size - q ≤ f → (rowA t y q x b).2 = some p → (rowA t y q x b).1 = []
  | 0, q, x, b, h, e => by rw [rowA_end (by omega)] at e; cases e
  | f + 1, q, x, b, h, e => by
    by_cases hp : q < t.size
    · have hd := dec_pos t q hp
      cases hb : ofB ((Utf8.decode t q).1 : Int) with
      | false => rw [rowA_bad hp hb]
      | true => rw [rowA_go hp hb] at e ⊢; exact rowA_nil f _ _ _ (by omega) e
    · rw [rowA_end hp] at e; cases e
set_option maxHeartbeats 4000000 in
theorem refRowC (t : ByteArray) (ht : t.size ≤ 1048576) (fr y : Nat) (hfr : fr ≤ 2097152) (hy : y ≤ 1048577) (w : World) : Calls Try.prog 36 #[.string t, .int .i64 (fr : Nat), .int .i64 (y : Nat)] w fun e w' =>
    ∃ v, e = .returned (.tuple #[v, .int .i64 (rwB (rowA t y 0 0 []).2 fr)]) ∧ Own w' w.heap.size v (rowA t y 0 0 []).1 ∧ w.grownBy w' none := by
  obtain ⟨i0, hi⟩ := info_parts infoCx
  have HI : Hid (Try.prog.info? 33 = some i0 ∧ i0.zero = some (.agg #[.int .i64 0, .int .i64 0, .int .u8 0]) ∧ i0.size = 3 ∧ i0.bytes = 24) := hi
  clear hi
  obtain ⟨RS, hRS⟩ : ∃ RS, rowA t y 0 0 [] = RS := ⟨_, rfl⟩
  have HRS : Hid (rowA t y 0 0 [] = RS) := hRS
  rw [hRS]
  clear hRS
  go_enter Try.func36, Try.ntmps36
  go_wp2
  obtain ⟨V, hV⟩ : ∃ V, w.iter t 0 = V := ⟨_, rfl⟩
  have hit0 : It V w.heap.size t 0 := by rw [← hV]; exact World.iter_heap w t 0
  have g0 : w.grownBy V none := by rw [← hV]; exact World.grownBy_alloc w _ none
  rw [hV]
  clear hV
  go_loopw [8, 9] (fun v vx wr => ∃ (p x2 : Nat) (ac : List Cx), vx = .int .i64 (x2 : Nat) ∧ It wr w.heap.size t p ∧ Own wr w.heap.size v ac ∧ w.grownBy wr none ∧ Hid (x2 ≤ p ∧ ac.length ≤ p) ∧ Hid (RS = rowA t y p x2 ac)) (fun _ _ wr => t.size - itP wr w.heap.size)
  case atStart => exact ⟨0, 0, [], rfl, hit0, World.ownsRow_nil _ _ _ _, g0, ⟨by omega, by simp⟩, HRS.out.symm⟩
  case round =>
    obtain ⟨p, x2, ac, rfl, hit, own, hg, HP, HR⟩ := hrel
    obtain ⟨sp9, cp9, rfl, _, _⟩ := ce_of own
    by_cases hp : p < t.size
    · have hnx : ∀ ty, (Instr.next (.pointer (some ⟨w.heap.size, 0, none⟩)) true ty).run Try.prog wr = _ := fun ty => run_next_at wr w.heap.size t p ty hit hp
      have hdp := dec_pos t p hp
      have hdl := decode_le t p
      obtain ⟨d, hd⟩ : ∃ d, (Utf8.decode t p).1 = d := ⟨_, rfl⟩
      obtain ⟨n, hn⟩ : ∃ n, (Utf8.decode t p).2 = n := ⟨_, rfl⟩
      rw [hd] at hdl
      rw [hn] at hdp
      simp only [hd, hn] at hnx
      have HD : Hid ((Utf8.decode t p).1 = d ∧ (Utf8.decode t p).2 = n) := ⟨hd, hn⟩
      have hitU := hit.put (q := p + n)
      have HI2 : Hid (itP wr w.heap.size = p) := hit.pos
      obtain ⟨U, hU⟩ : ∃ U, wr.putObj w.heap.size (.stringIter t (p + n)) = U := ⟨_, rfl⟩
      have gU : w.grownBy U none := by rw [← hU]; exact gb_past hg (grownBy_putObj' wr w.heap.size _) (Nat.le_refl _)
      have HOW : Own U w.heap.size (.slice sp9 ac.length cp9) ac := by rw [← hU]; exact rows_own own (grownBy_putObj' wr w.heap.size _) (fun r e => by cases e; exact ⟨_, hit, rfl⟩)
      rw [hU] at hitU
      simp only [hU] at hnx
      clear hU hd hn hit own hg
      have hof := fun W => refOfC (d : Int) (by omega) (by omega) W
      have hsz := gU.size
      cases hb : ofB (d : Int) with
      | false =>
        rw [hb] at hof
        have hwx : IntKind.i64.wrap ((fr : Int) + (p : Int)) = ((fr + p : Nat) : Int) := wrap_add (by omega)
        have hwx2 : wrap64 ((fr : Int) + (p : Int)) = ((fr + p : Nat) : Int) := by unfold wrap64; omega
        have hRS : Hid (RS = ([], some p)) := by unfold Hid; rw [HR.out, rowA_bad hp (by rw [HD.out.1]; exact hb)]
        clear HR
        go_wp2_with (go_at_call 14; refine (hof _).mono ?_; rintro e w8 ⟨rfl, hw8⟩; subst w8)
        go_ret2
        rw [hRS.out]
        refine ⟨.slice none 0 0, ?_, World.ownsRow_nil _ _ _ _, gU⟩
        unfold rwB
        simp
      | true =>
        rw [hb] at hof
        have hwx : IntKind.i64.wrap ((x2 : Int) + 1) = (x2 : Int) + 1 := by rw [IntKind.wrap_i64]; have := HP.out; omega
        by_cases h0 : ofN (d : Int) = 0
        · rw [h0] at hof
          go_wp2_with (go_at_call 14; refine (hof _).mono ?_; rintro e w8 ⟨rfl, hw8⟩; subst w8)
          go_roundw
          case rel =>
            refine ⟨p + n, x2 + 1, ac, by go_num, hitU, HOW, gU, ?_, ?_⟩
            · have := HP.out; exact ⟨by omega, by omega⟩
            · unfold Hid; rw [HR.out, rowA_go hp (by rw [HD.out.1]; exact hb), HD.out.1, HD.out.2]; unfold adC; rw [if_pos h0]
          case measure =>
            rw [HI2.out, hitU.pos]
            omega
        · have hb0 : (0 : Int) < ((ofN (d : Int) : Nat) : Int) := by omega
          have hq := HP.out
          go_wp2_with (first | (go_at_call 14; refine (hof _).mono ?_; rintro e w8 ⟨rfl, hw8⟩; subst w8) | (at_builtin; refine wpList_append_own _ rfl _ _ 24 rfl w.heap.size 33 i0 (.agg #[.int .i64 0, .int .i64 0, .int .u8 0]) 3 24 underCS HI.out.1 HI.out.2.1 HI.out.2.2.1 HI.out.2.2.2 rfl (by decide) _ _ _ rfl (HOW.alloc _) ⟨U.heap.size, 0, none⟩ 1 1 [.int .i64 (x2 : Nat), .int .i64 (y : Nat), .int .u8 (ofN (d : Int) : Nat)] rfl rfl (new3 _ _ _ _ _) ?_ ?_ ?_ ?_ ?_; rotate_right; intro v4 w4 hown4 hgrow4 hnil4))
          · have HA := HOW.alloc (.cells #[.int .i64 (x2 : Nat), .int .i64 (y : Nat), .int .u8 (ofN (d : Int) : Nat)] 33)
            have G4 := gb_row (gb_alloc gU (.cells #[.int .i64 (x2 : Nat), .int .i64 (y : Nat), .int .u8 (ofN (d : Int) : Nat)] 33)) hgrow4 (fun i e => (HA.lt i e).1)
            have hit4 : It w4 w.heap.size t (p + n) := (hitU.kept (World.grownBy_alloc U _ none) (by simp)).kept hgrow4 (it_ne (hitU.kept (World.grownBy_alloc U _ none) (by simp)) HA)
            have own4 : Own w4 w.heap.size v4 (ac ++ [((x2 : Int), (y : Int), ofN (d : Int))]) := by unfold Own; rw [ccs_snoc, List.length_append]; exact hown4
            go_wp2
            go_roundw
            case rel =>
              refine ⟨p + n, x2 + 1, _, by go_num, hit4, own4, G4, ?_, ?_⟩
              · exact ⟨by omega, by rw [List.length_append]; simp only [List.length_cons, List.length_nil]; omega⟩
              · unfold Hid; rw [HR.out, rowA_go hp (by rw [HD.out.1]; exact hb), HD.out.1, HD.out.2]; unfold adC; rw [if_neg h0]
            case measure =>
              rw [HI2.out, hit4.pos]
              omega
          · intro u hu
            simp at hu
            rcases hu with rfl | rfl | rfl <;> rfl
          · unfold maxLen; omega
          · omega
          · first | omega | (simp; omega)
    · have hnx : ∀ ty, (Instr.next (.pointer (some ⟨w.heap.size, 0, none⟩)) true ty).run Try.prog wr = _ := fun ty => run_next_out wr w.heap.size t p ty hit hp
      have hRS : Hid (RS = (ac, none)) := by unfold Hid; rw [HR.out, rowA_end hp]
      clear HR
      go_wp2
      go_ret2
      rw [hRS.out]
      exact ⟨_, rfl, own, hg⟩
end Go.Proofs.Ytjacoifhjfipaaa
