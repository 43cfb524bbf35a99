/- Bits of every row. -/
import Derived.Test.YtcdefpfnjjahgaaDoorW55
namespace Go.Proofs.YtcdefpfnjjahgaaDoor
open Go.RowKit Go.Shelf
set_option linter.unusedVariables false
set_option linter.unusedSimpArgs false

/-- A walk through places: the words behind its box, all of them from the block n on, tell the places l. -/
def Sq (w : World) (n B : Nat) (l : List Nat) : Prop := ∃ sb k q m, w.cell? ⟨B, 0, none⟩ = some (.slice sb k k) ∧ Wd w sb k (Pk.pack q) ∧ k ≤ 1025 ∧ m ≤ 65538 ∧ (∀ j, j < 64 * k → q j = true → j < m) ∧ come q (64 * k) = l ∧ (∀ a, sb = some a → n ≤ a.block ∧ a.block < w.heap.size) ∧ n ≤ B
theorem Sq.kept {w w' : World} {n B : Nat} {l : List Nat} {r : Option Nat} (h : Sq w n B l) (hg : w.grownBy w' r) (hr : ∀ b, r = some b → b < n) : Sq w' n B l := by
  obtain ⟨sb, k, q, m, h1, h2, h3, h4, h5, h6, h7, h8⟩ := h
  refine ⟨sb, k, q, m, hg.cell h1 (fun e => ?_), h2.kept hg (fun a ha e => ?_), h3, h4, h5, h6, fun a ha => ⟨(h7 a ha).1, Nat.lt_of_lt_of_le (h7 a ha).2 hg.size⟩, h8⟩
  · have := hr B e.symm; omega
  · have := hr a.block e.symm; have := (h7 a ha).1; omega
theorem Sq.lt {w : World} {n B : Nat} {l : List Nat} (h : Sq w n B l) : B < w.heap.size := by
  obtain ⟨sb, k, q, m, h1, h2⟩ := h
  exact cell_lt h1

set_option maxHeartbeats 1000000 in
/-- **Bits of a row that may be, and where its memory lies.** -/
theorem bitsF (m n cap : Nat) (sp : Option Addr) (p : Nat → Bool) (M : MayBe m n p) (w : World) (hc : Wd w sp n (Pk.pack p)) :
    Calls Tryd.prog 14 #[.agg #[.int .i64 m, .slice sp n cap]] w fun e w' => ∃ b B, e = .returned (.func (.func 42) #[] #[.pointer (some ⟨B, 0, none⟩)]) ∧ w'.cell? ⟨B, 0, none⟩ = some (.slice (some ⟨b, 0, none⟩) n n) ∧ Row w' 52 b n p ∧ w.heap.size ≤ b ∧ w.heap.size ≤ B ∧ w.grownBy w' none := by
  obtain ⟨W1, hW, c0, c1, sz, hg1, hB⟩ := box2 w (.int .i64 m) (.slice sp n cap) 24
  have hc1 := hc.kept hg1 (by simp)
  have e0 := hB.cell0
  have e1 := hB.cell1
  have ml := M.le
  have mw : Hid (n = (m + 63) / 64) := M.words
  have hfd : ∀ (b : Nat) (w : World), (Instr.field 24 (.agg #[.int .i64 m, .slice (some ⟨b, 0, none⟩) n n]) 1).run Tryd.prog w = .ok (.slice (some ⟨b, 0, none⟩) n n) w := fun _ _ => by kernel_rfl
  go_enter Tryd.func14, Tryd.ntmps14
  go_wp2_with (first | (go_at_call 28; refine (validP m n cap sp p M W1 hc1).mono ?_; rintro e w3 ⟨rfl, g3⟩; have hB3 := hB.kept g3 (by simp); have x0 := hB3.cell0; have x1 := hB3.cell1; have hc3 := hc1.kept g3 (by simp)) | (go_at_call 32; refine (copiedC m n cap sp p ml mw.out w3 hc3).mono ?_; rintro e w4 ⟨b, rfl, hr, g4, hlt, hlt2⟩) | (go_at_call 31; refine (callsIn_wide.1 (places_in 1 _ _ _ _)).mono ?_; rintro e w6 ⟨rfl, hw6⟩))
  go_ret
  have g6 : w4.grownBy w6 none := by rw [hw6]; exact World.grownBy_alloc _ _ _
  rw [← hw6]
  have z1 := hg1.size
  have z3 := g3.size
  have z4 := g4.size
  exact ⟨b, w4.heap.size, rfl, by rw [hw6]; simp [World.cell?_alloc_at], hr.kept g6 (by simp), by omega, by omega, gb_trans hg1 (gb_trans g3 (gb_trans g4 g6))⟩

set_option maxHeartbeats 1000000 in
/-- **Bits of every row.** -/
theorem bitsU (N : Int) (n cap : Nat) (sp : Option Addr) (f : Nat → Nat) (hf : ∀ k, k < n → f k < 18446744073709551616) (hn : n ≤ 9223372036854775807) (w : World) (hc : Wd w sp n f) :
    Calls Tryd.prog 14 #[.agg #[.int .i64 N, .slice sp n cap]] w fun e w' => ∃ B, e = .returned (.func (.func 42) #[] #[.pointer (some ⟨B, 0, none⟩)]) ∧ Sq w' w.heap.size B (plA N n f) ∧ w.grownBy w' none := by
  cases hvb : validB N n f with
  | false =>
    obtain ⟨W0, hW0, c0, c1, sz0, g0, B0⟩ := box2 w (.int .i64 N) (.slice sp n cap) 24
    have hv := validC N n cap sp f hf hn W0 (hc.kept g0 (by simp))
    rw [hvb] at hv
    have e0 : plA N n f = [] := by unfold plA; rw [if_neg (by rw [hvb]; simp)]
    rw [e0]
    clear hvb e0
    go_enter Tryd.func14, Tryd.ntmps14
    go_wp2_with (first | (go_at_call 28; refine hv.mono ?_; rintro e w2 ⟨rfl, g2⟩) | (go_at_call 31; refine (callsIn_wide.1 (places_in 1 _ _ _ _)).mono ?_; rintro e w6 ⟨rfl, hw6⟩))
    go_ret
    have g6 : w2.grownBy w6 none := by rw [hw6]; exact World.grownBy_alloc _ _ _
    rw [← hw6]
    have z0 := g0.size
    have z2 := g2.size
    exact ⟨w2.heap.size, rfl, ⟨none, 0, fun _ => false, 0, by rw [hw6]; simp [World.cell?_alloc_at], fun k hk => by omega, by omega, by omega, fun j hj => by omega, rfl, (fun a ha => by cases ha), by omega⟩, gb_trans g0 (gb_trans g2 g6)⟩
  | true =>
    obtain ⟨m, p, rfl, M, hp⟩ := may_of_validB hf hvb
    have hw := M.words
    have hml := M.le
    have e0 : plA (m : Int) n f = come p (64 * n) := by
      unfold plA
      rw [if_pos hvb, Int.toNat_natCast, come_bit hp (by omega), come_same p (64 * n) (s := m) (by omega) (fun j h1 _ => M.tail j h1)]
    rw [e0]
    refine (bitsF m n cap sp p M w (hc.congr hp)).mono ?_
    rintro e w' ⟨b, B, rfl, hB, hr, lb, lB, hg⟩
    refine ⟨B, rfl, ⟨some ⟨b, 0, none⟩, n, p, m, hB, hr.wd, M.len, hml, fun j _ hj => ?_, rfl, (fun a ha => by cases ha; exact ⟨lb, hr.lt⟩), lB⟩, hg⟩
    by_cases h : j < m
    · exact h
    · rw [M.tail j (by omega)] at hj; cases hj
end Go.Proofs.YtcdefpfnjjahgaaDoor
