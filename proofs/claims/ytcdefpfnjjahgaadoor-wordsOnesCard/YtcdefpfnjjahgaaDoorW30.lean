/- What Bits of package words hands out; counting places. -/
import Derived.Test.YtcdefpfnjjahgaaDoorW28
import Derived.Test.YtcdefpfnjjahgaaDoorW5
namespace Go.Proofs.YtcdefpfnjjahgaaDoor
open Go.RowKit Go.Shelf
set_option linter.unusedVariables false

theorem come_cnt (p : Nat → Bool) : ∀ s, (come p s).length = cnt p s
  | 0 => rfl
  | s + 1 => by
    have := come_cnt p s
    unfold come at this ⊢
    rw [List.range_succ, List.filter_append, List.length_append, this]
    rw [show cnt p (s + 1) = cnt p s + (if p s then 1 else 0) from rfl]
    cases hp : p s <;> simp [hp]
theorem cnt_xor (p q : Nat → Bool) : ∀ m, cnt (fun i => Bool.xor (p i) (q i)) m + 2 * cnt (fun i => (p i && q i)) m = cnt p m + cnt q m
  | 0 => rfl
  | m + 1 => by
    have := cnt_xor p q m
    simp only [cnt]
    by_cases hp : p m = true <;> by_cases hq : q m = true <;> simp [hp, hq] <;> omega

/-- The last of them, as an int; -1 where there is none. -/
def lastOf {m : Nat} (pre : List (Fin m)) : Int := match pre.getLast? with | none => -1 | some x => (x.val : Int)
theorem lastOf_snoc {m : Nat} (pre : List (Fin m)) (x : Fin m) : lastOf (pre ++ [x]) = (x.val : Int) := by simp [lastOf]
theorem come_good {m : Nat} {p : Nat → Bool} {s : Nat} {pre : List (Fin m)} {x : Fin m} (h : (pre ++ [x]).map Fin.val = come p s) : lastOf pre < (x.val : Int) ∧ p x.val = true := by
  have hx : x.val ∈ come p s := by rw [← h]; simp
  have hs : (come p s).Pairwise (· < ·) := List.Pairwise.filter _ List.pairwise_lt_range
  rw [← h, List.map_append, List.pairwise_append] at hs
  refine ⟨?_, (mem_come.1 hx).2⟩
  unfold lastOf
  cases hl : pre.getLast? with
  | none => simp; omega
  | some y =>
    have hy : y ∈ pre := List.mem_of_getLast? hl
    have := hs.2.2 y.val (List.mem_map.2 ⟨y, hy, rfl⟩) x.val (by simp)
    simp; exact this

set_option maxHeartbeats 1000000 in
/-- **Bits of a row that may be.** -/
theorem bitsC (m n cap : Nat) (sp : Option Addr) (p : Nat → Bool) (M : MayBe m n p) (w : World) (hc : Wd w sp n (Pk.pack p)) :
    Calls Tryd.prog 14 #[.agg #[.int .i64 m, .slice sp n cap]] w fun e w' => ∃ b B, e = .returned (.func (.func 42) #[] #[.pointer (some ⟨B, 0, none⟩)]) ∧ w'.cell? ⟨B, 0, none⟩ = some (.slice (some ⟨b, 0, none⟩) n n) ∧ Row w' 52 b n p ∧ w.grownBy w' none := by
  obtain ⟨W1, hW, c0, c1, sz, hg1, hB⟩ := box2 w (.int .i64 m) (.slice sp n cap) 24
  have hc1 := hc.kept hg1 (by simp)
  have e0 := hB.cell0
  have e1 := hB.cell1
  have ml := M.le
  have mw : Hid (n = (m + 63) / 64) := M.words
  have hfd : ∀ (b : Nat) (w : World), (Instr.field 24 (.agg #[.int .i64 m, .slice (some ⟨b, 0, none⟩) n n]) 1).run Tryd.prog w = .ok (.slice (some ⟨b, 0, none⟩) n n) w := fun _ _ => by kernel_rfl
  go_enter Tryd.func14, Tryd.ntmps14
  go_wp2_with (first | (go_at_call 28; refine (validP m n cap sp p M W1 hc1).mono ?_; rintro e w3 ⟨rfl, g3⟩; have hB3 := hB.kept g3 (by simp); have x0 := hB3.cell0; have x1 := hB3.cell1; have hc3 := hc1.kept g3 (by simp)) | (go_at_call 32; refine (copiedC m n cap sp p ml mw.out w3 hc3).mono ?_; rintro e w4 ⟨b, rfl, hr, g4, hlt, hlt2⟩) | (go_at_call 31; refine (callsIn_wide.1 (places_in 1 _ _ _ _)).mono ?_; rintro e w6 ⟨rfl, hw6⟩))
  go_ret
  have g6 : w4.grownBy w6 none := by rw [hw6]; exact World.grownBy_alloc _ _ _
  rw [← hw6]
  exact ⟨b, w4.heap.size, rfl, by rw [hw6]; simp [World.cell?_alloc_at], hr.kept g6 (by simp), gb_trans hg1 (gb_trans g3 (gb_trans g4 g6))⟩

end Go.Proofs.YtcdefpfnjjahgaaDoor
