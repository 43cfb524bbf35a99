/- Rows of truth values; what LinearMakes goes through: plain. -/
import Derived.Test.YtelelnpoijokjaaGreatN38
namespace Go.Proofs.YtelelnpoijokjaaGreat
open Go.RowKit
set_option linter.unusedVariables false
set_option linter.unusedSimpArgs false
set_option maxRecDepth 100000

namespace Ln
theorem gen_farB (h : Nat → Int) (m : Nat) (B : Int) (hh : ∀ k, k < m → -B ≤ h k ∧ h k ≤ B) : ∀ (n : Nat) (x : Int), (B * (n : Int) < x ∨ x < -(B * (n : Int))) → gen h m n oneA x = false
  | 0, x, hx => by
    show oneA x = false
    unfold oneA
    exact decide_eq_false (by simp at hx; omega)
  | n + 1, x, hx => by
    rw [gen_out]
    have e : B * ((n + 1 : Nat) : Int) = B * (n : Int) + B := by rw [Int.natCast_add, Int.mul_add]; simp
    rw [e] at hx
    have : ∀ k, k ≤ m → parA h k (gen h m n oneA) x = false := fun k => by
      induction k with
      | zero => intro _; rfl
      | succ k ih =>
        intro hk
        show Bool.xor (parA h k (gen h m n oneA) x) (gen h m n oneA (x + h k)) = false
        have := hh k (by omega)
        rw [ih (by omega), gen_farB h m B hh n (x + h k) (by omega)]
        rfl
    exact this m (Nat.le_refl _)
/-- The next generation's row, done up to the place x and k offsets. -/
def nxR (h : Nat → Int) (m i x k : Nat) (c : Nat) : Bool := if c = x then parA h k (gen h m i oneA) ((x : Int) - 300) else if 100 ≤ c ∧ c < x then gen h m (i + 1) oneA ((c : Int) - 300) else false
theorem nxR_first (h : Nat → Int) (m i c : Nat) : nxR h m i 100 0 c = false := by
  unfold nxR
  by_cases e : c = 100
  · rw [if_pos e]; rfl
  · rw [if_neg e, if_neg (by omega)]
theorem nxR_next (h : Nat → Int) (m i x c : Nat) (hx : 100 ≤ x) : nxR h m i x m c = nxR h m i (x + 1) 0 c := by
  unfold nxR
  by_cases e : c = x
  · subst e
    rw [if_pos rfl, if_neg (by omega), if_pos (by omega), gen_out]
  · rw [if_neg e]
    by_cases e2 : c = x + 1
    · rw [if_pos e2, if_neg (by omega)]; rfl
    · rw [if_neg e2]
      by_cases e3 : 100 ≤ c ∧ c < x
      · rw [if_pos e3, if_pos (by omega)]
      · rw [if_neg e3, if_neg (by omega)]
theorem nxR_step (h : Nat → Int) (m i x k c : Nat) : nxR h m i x (k + 1) c = if c = x then Bool.xor (nxR h m i x k x) (gen h m i oneA ((x : Int) - 300 + h k)) else nxR h m i x k c := by
  unfold nxR
  by_cases e : c = x
  · rw [if_pos e, if_pos e, if_pos rfl]; rfl
  · rw [if_neg e, if_neg e, if_neg e]
theorem nxR_last (h : Nat → Int) (m i c : Nat) (hh : ∀ k, k < m → -8 ≤ h k ∧ h k ≤ 8) (hi : i < 12) (hc : c < 601) : nxR h m i 501 0 c = gen h m (i + 1) oneA ((c : Int) - 300) := by
  have hf := gen_farB h m 8 hh (i + 1) ((c : Int) - 300)
  unfold nxR
  by_cases e : c = 501
  · rw [if_pos e, hf (by subst e; omega)]; rfl
  · rw [if_neg e]
    by_cases e2 : 100 ≤ c ∧ c < 501
    · rw [if_pos e2]
    · rw [if_neg e2, hf (by omega)]
def bR (F : Nat → Bool) (c : Nat) : Value := .bool (F c)
theorem underBS : Tryz.prog.underlying 25 = some (.slice 4) := by kernel_rfl
theorem infoB : (Tryz.prog.info? 4).map (fun i => (i.zero, i.size, i.bytes)) = some (some (.bool false), 1, 1) := by kernel_rfl
theorem makeB (w : World) : (Instr.makeSlice 25 (.int .i64 601) (.int .i64 601)).run Tryz.prog w = .ok (.slice (some ⟨w.heap.size, 0, none⟩) 601 601) (w.alloc (.cells (madeCells #[.bool false] 601) 4)) := by
  obtain ⟨i, hi, hzz⟩ := Option.map_eq_some_iff.1 infoB
  simp only [Prod.mk.injEq] at hzz
  obtain ⟨hz, hs, hb⟩ := hzz
  have hr := run_make (P := Tryz.prog) w 25 4 i _ underBS hi hz .i64 .i64 601 601 (by omega) (Int.le_refl _) (by rw [hb]; omega) (by omega)
  simp only [hs] at hr
  exact hr
theorem madeB (w : World) : (w.alloc (.cells (madeCells #[.bool false] 601) 4)).rowIs w.heap.size 4 601 (bR fun _ => false) := by
  refine ⟨_, heap_alloc_new _ _, by rw [size_madeCells], fun i hi => ?_⟩
  simp [madeCells, hi, bR, Nat.mod_one]
theorem upC (a : Int) (ha : -9223372036854775808 ≤ a ∧ a ≤ 9223372036854775807) (w : World) : Calls Tryz.prog 5 #[.int .i64 a, .int .i64 13] w fun e w' => ∃ F : Nat, F < 13 ∧ e = .returned (.int .i64 (F : Int)) ∧ w' = w := by
  have h1 := Int.tmod_lt_of_pos a (show (0 : Int) < 13 by omega)
  have h2 := Int.lt_tmod_of_pos a (show (0 : Int) < 13 by omega)
  obtain ⟨r, hr⟩ : ∃ r, Int.tmod a 13 = r := ⟨_, rfl⟩
  rw [hr] at h1 h2
  have w1 : IntKind.i64.wrap (r + 13) = r + 13 := by rw [IntKind.wrap_i64]; omega
  obtain ⟨F, hF⟩ : ∃ F : Nat, Int.tmod (r + 13) 13 = (F : Int) := ⟨(Int.tmod (r + 13) 13).toNat, by
    rw [Int.toNat_of_nonneg]; exact Int.tmod_nonneg _ (by omega)⟩
  have h3 := Int.tmod_lt_of_pos (r + 13) (show (0 : Int) < 13 by omega)
  rw [hF] at h3
  go_enter Tryz.func5, Tryz.ntmps5
  go_wp2
  go_ret
  exact ⟨F, by omega, rfl, rfl⟩
theorem underIL : Tryz.prog.underlying 22 = some (.slice 3) := by kernel_rfl
theorem infoI : (Tryz.prog.info? 3).map (fun i => (i.zero, i.size, i.bytes)) = some (some (.int .i64 0), 1, 8) := by kernel_rfl
theorem own_shapeI {w : World} {base n : Nat} {v : Value} {D : List Int} (H : w.ownsRow base 3 1 v n (D.map fun x : Int => Value.int .i64 x)) (hn : D.length = n) : ∃ sp cap, v = .slice sp n cap ∧ In w sp n (fun k => D.getD k 0) := by
  rcases H.2 with ⟨rfl, hnil⟩ | ⟨g, cap, cur, rfl, hb, hbk, h1, h2, h3, h4⟩
  · have h0 : n = 0 := by
      cases n with
      | zero => rfl
      | succ n => simp at hnil
    subst h0
    exact ⟨none, 0, rfl, fun k hk => by omega⟩
  · refine ⟨_, cap, rfl, fun k hk => ⟨g, 0, rfl, ?_⟩⟩
    have hk' : k < D.length := by rw [hn]; exact hk
    have e : (cur.toList.take (n * 1))[k]? = (D.map fun x : Int => Value.int .i64 x)[k]? := by rw [h4]
    rw [List.getElem?_take_of_lt (by omega), List.getElem?_map, List.getElem?_eq_getElem hk', Array.getElem?_toList] at e
    simp only [World.cell?, hbk, Nat.zero_add]
    rw [List.getD_eq_getElem?_getD, List.getElem?_eq_getElem hk']
    simpa using e
/-- Offsets that were kept: none twice, near. -/
structure Dk (D : List Int) : Prop where
  nd : D.Nodup
  bd : ∀ x ∈ D, -8 ≤ x ∧ x ≤ 8
  le : D.length ≤ 8
theorem Dk.ck {D : List Int} (h : Dk D) : ckO (onL (fun k => D.getD k 0)) D.length 64 = 0 := by
  have hg : ∀ k, (hk : k < D.length) → D.getD k 0 = D[k] := fun k hk => by rw [List.getD_eq_getElem?_getD, List.getElem?_eq_getElem hk]; rfl
  have hl := h.le
  unfold ckO
  rw [if_neg (by omega), if_neg (by
    rw [(alW_is 64 _ _).2 (fun k hk => by
      have := h.bd _ (List.getElem_mem hk)
      rw [inW_is, inW_is]
      unfold onL
      simp only
      rw [hg k hk]
      omega)]
    simp)]
  have ht : tw (onL (fun k => D.getD k 0)) D.length = false := by
    unfold tw
    have h2 := (adL_full (onL (fun k => D.getD k 0)) D.length).2 (fun i j hij hj e => by
      unfold onL at e
      simp only [Prod.mk.injEq, and_true] at e
      rw [hg i (by omega), hg j hj] at e
      have := (List.nodup_iff_pairwise_ne.1 h.nd)
      exact (List.pairwise_iff_getElem.1 this) i j (by omega) hj hij e)
    exact decide_eq_false (by omega)
  rw [ht]
  rfl
theorem Dk.snoc {D : List Int} (h : Dk D) {x : Int} (hx : -8 ≤ x ∧ x ≤ 8) (hn : x ∉ D) (hl : D.length < 8) : Dk (D ++ [x]) := ⟨by
  rw [List.nodup_append]
  exact ⟨h.nd, by simp, fun a ha b hb e => by
    have : b = x := by simpa using hb
    subst this
    subst e
    exact hn ha⟩, fun y hy => by
  rcases List.mem_append.1 hy with hy | hy
  · exact h.bd y hy
  · have : y = x := by simpa using hy
    subst this
    exact hx, by rw [List.length_append]; simp; omega⟩
end Ln
end Go.Proofs.YtelelnpoijokjaaGreat
