/- read, Line of a field of bytes. -/
import Derived.Test.YtjndljjpbkfmiaaGreatDoorZ5
import Derived.Laws.CopyRow
import Derived.Laws.IdiomCopy
namespace Go.Proofs.YtjndljjpbkfmiaaGreatDoor
open Go.RowKit
set_option linter.unusedVariables false
set_option linter.unusedSimpArgs false
set_option maxRecDepth 100000

/-- Values copied into a row, from a place on. -/
theorem run_copy_vals {P : Program} (w : World) (dT sT ty elem : TypeId) (hu : P.underlying dT = some (.slice elem)) (hsz : (P.info? elem).map (·.size) = some 1)
    (ad : Addr) (n o M dCap sCap : Nat) (t : TypeId) (d : Nat) (f0 f : Nat → Value) (h1 : ∀ k, k < n → (f k).oneCell' = true) (hg : w.rowIs d t M f0) (hle : o + n ≤ M) (hn : 0 < n) (hsrc : ∀ j, j < n → w.cell? (ad.add j) = some (f j)) :
    ∃ w', (Builtin.copy_ #[dT, sT] ty #[.slice (some ⟨d, o, none⟩) n dCap, .slice (some ad) n sCap]).run P w = .ok (goInt n) w' ∧ w'.rowIs d t M (fun j => if o ≤ j ∧ j < o + n then f (j - o) else f0 j) ∧ w.grownBy w' (some d) := by
  obtain ⟨c, hc, hcn, hcv⟩ := hg
  obtain ⟨cs, hcs⟩ : ∃ cs : List Value, cs = (List.range n).map f := ⟨_, rfl⟩
  have hl : cs.length = n := by rw [hcs]; simp
  have hm : Nat.min n n = n := Nat.min_self n
  have hsrc' : ∀ j v, cs[j]? = some v → w.cell? (ad.add j) = some v := by
    intro j v hj
    have hjn : j < n := by
      obtain ⟨hlt, _⟩ := List.getElem?_eq_some_iff.1 hj
      omega
    rw [hcs, List.getElem?_map, List.getElem?_range hjn] at hj
    simp at hj
    subst hj
    exact hsrc j hjn
  have hk := run_copy_row (P := P) w dT sT ty elem d o n dCap ad n sCap c t cs hu hsz hc (by rw [hl, hm]) hsrc' (by rw [hl, hcn]; omega) (by
    intro v hv
    rw [hcs, List.mem_map] at hv
    obtain ⟨k, hkr, rfl⟩ := hv
    exact h1 k (List.mem_range.1 hkr))
  rw [hl] at hk
  refine ⟨_, hk, ⟨_, setRow_heap w d _ _ t _ hc, by simp [hl, hcn]; omega, fun i hi => ?_⟩, ⟨rfl, rfl, rfl, by simp [World.setRow], fun k hk hne => setRow_other w d k _ (fun e => hne (by rw [e]))⟩⟩
  have hci := hcv i hi
  have hcl : c.toList.length = M := by simp [hcn]
  have hci' : c.toList[i]? = some (f0 i) := by simpa using hci
  rw [List.getElem?_toArray]
  show _ = some (if o ≤ i ∧ i < o + n then f (i - o) else f0 i)
  by_cases h1 : i < o
  · rw [if_neg (by omega), List.append_assoc, List.getElem?_append_left (by simp; omega), List.getElem?_take_of_lt h1]
    exact hci'
  · by_cases h2 : i < o + n
    · rw [if_pos (by omega), List.append_assoc, List.getElem?_append_right (by simp; omega), List.getElem?_append_left (by simp [hl, hcn]; omega)]
      have e : i - (List.take o c.toList).length = i - o := by simp [hcn]; omega
      rw [e, hcs, List.getElem?_map, List.getElem?_range (by omega)]
      rfl
    · rw [if_neg (by omega), List.getElem?_append_right (by simp [hl, hcn]; omega), List.getElem?_drop]
      have e : o + n + (i - (List.take o c.toList ++ cs).length) = i := by simp [hl, hcn]; omega
      rw [e]
      exact hci'

theorem readC (s q C R S : Nat) (g : Nat → Nat) (hz : Sz C R S) (y : Nat) (hy : y < R) (d cap : Nat) (f0 : Nat → Value) (w : World) (h : Sb w s q C R S g) (hd : w.rowIs d 5 C f0) : Calls Tryz.prog 170 #[.pointer (some ⟨s, 0, none⟩), .int .i64 (y : Nat), .slice (some ⟨d, 0, none⟩) C cap] w fun e w' => e = .returned (.tuple #[]) ∧ w'.rowIs d 5 C (fun x => .int .u8 (g (y * C + x) : Nat)) ∧ w.grownBy w' (some d) := by
  have hl := row_le (C := C) hy
  have hcp := fun cp m => run_copy_vals (P := Tryz.prog) (w.drewN m) 24 24 3 5 under8S (by kernel_rfl) ⟨q, y * C, none⟩ C 0 C cap cp 5 d f0 (fun x => .int .u8 (g (y * C + x) : Nat)) (fun _ _ => rfl) hd (by omega) hz.c0 (fun j hj => by rw [add_mid]; exact h.sp (by omega))
  go_enter Tryz.func170, Tryz.ntmps170
  go_wp2_with (go_at_call 174; refine (rowC s q C R S g hz y hy w h).mono ?_; rintro e V ⟨cp, rfl, m, rfl⟩; obtain ⟨w2, e2, r2, g2⟩ := hcp cp m)
  go_end0
  refine ⟨rfl, r2.congr fun x hx => ?_, ?_⟩
  · show (if 0 ≤ x ∧ x < 0 + C then Value.int .u8 (g (y * C + (x - 0)) : Nat) else f0 x) = _
    rw [if_pos (by omega)]
    rfl
  · exact gb_trans (gb_drewN (World.grownBy.refl _ _) m) g2

theorem fLineY (b : Nat) (s q C R S : Nat) (g : Nat → Nat) (hz : Sz C R S) (y : Nat) (hy : y < R) (w : World) (h : Fb w b s q C R S g) : Calls Tryz.prog 40 #[.pointer (some ⟨b, 0, none⟩), .int .i64 (y : Nat)] w fun e w' => ∃ d, e = .returned (.tuple #[.slice (some ⟨d, 0, none⟩) C C, .int .i64 0]) ∧ w'.rowIs d 5 C (fun x => .int .u8 (g (y * C + x) : Nat)) ∧ w.heap.size ≤ d ∧ w.grownBy w' none := by
  have h0 := h.cell
  have hm := m_hasRow h.st
  have hd : decide (0 ≤ (y : Int) ∧ (y : Int) < (R : Int)) = true := decide_eq_true (by omega)
  have hpl := fun w => hasRowC C R S y w
  rw [hd] at hpl
  have hrd := fun w => m_read s w
  have hc1 := hz.c1
  have hmk := run_make_row' (P := Tryz.prog) 24 5 (.int .u8 0) 1 under8S info8 rfl .i64 .i64 C (by omega) (by omega)
  go_enter Tryz.func40, Tryz.ntmps40
  go_wp2_with (first | (go_at_call 61; refine (lacksN b s q C R S g w h).mono ?_; rintro e V ⟨rfl, hV⟩; subst V) | (go_at_call 145; refine (hpl w).mono ?_; rintro e V ⟨rfl, gV⟩; have hV := h.kept gV; have v0 := hV.cell) | (go_at_call 41; refine (fW b s q C R S g V hV).mono ?_; rintro e V2 ⟨rfl, gV2⟩; obtain ⟨W3, hW3, sz3, g3, B3⟩ := boxn V2 (madeCells #[.int .u8 0] C) 5; have hr3 := World.rowIs_made V2 (.int .u8 0) C 5; rw [hW3] at hr3; have h3 := (hV.kept gV2).kept g3; have v3 := h3.cell) | (go_at_call 170; refine (readC s q C R S g hz y hy V2.heap.size C _ W3 h3.st hr3).mono ?_; rintro e V4 ⟨rfl, r4, g4⟩))
  go_ret2
  exact ⟨V2.heap.size, rfl, r4, (gb_trans gV gV2).size, gb_past (gb_trans (gb_trans gV gV2) g3) g4 (gb_trans gV gV2).size⟩

theorem fLineN (b : Nat) (s q C R S : Nat) (g : Nat → Nat) (hz : Sz C R S) (y : Int) (hn : ¬ (0 ≤ y ∧ y < R)) (w : World) (h : Fb w b s q C R S g) : Calls Tryz.prog 40 #[.pointer (some ⟨b, 0, none⟩), .int .i64 y] w fun e w' => e = .returned (.tuple #[.slice none 0 0, .int .i64 130]) ∧ w.grownBy w' none := by
  have h0 := h.cell
  have hm := m_hasRow h.st
  have hpl := fun w => hasRowC C R S y w
  rw [decide_eq_false hn] at hpl
  go_enter Tryz.func40, Tryz.ntmps40
  go_wp2_with (first | (go_at_call 61; refine (lacksN b s q C R S g w h).mono ?_; rintro e V ⟨rfl, hV⟩; subst V) | (go_at_call 145; refine (hpl w).mono ?_; rintro e V ⟨rfl, gV⟩))
  go_ret2
  exact ⟨rfl, gV⟩
end Go.Proofs.YtjndljjpbkfmiaaGreatDoor
