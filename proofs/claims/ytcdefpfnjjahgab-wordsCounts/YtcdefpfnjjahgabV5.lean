/- Lists of rows that were lent. -/
import Derived.Test.YtcdefpfnjjahgabV2
import Derived.Test.YtcdefpfnjjahgabV3
import Derived.Test.YtcdefpfnjjahgabW37
import Derived.Test.YtcdefpfnjjahgabW47
import Derived.Deep.AppendLies
namespace Go.Proofs.Ytcdefpfnjjahgab
open Go.RowKit
set_option linter.unusedVariables false
set_option linter.unusedSimpArgs false
set_option maxRecDepth 100000

/-- The rows as cells, their words in blocks of their own. -/
def rwV (r : Nat → RD) (lb lc : Nat → Nat) : Nat → List Value
  | 0 => []
  | j + 1 => rwV r lb lc j ++ [.int .i64 (r j).N, .slice (some ⟨lb j, 0, none⟩) (r j).n (lc j)]
theorem rwV_len (r : Nat → RD) (lb lc : Nat → Nat) : ∀ k, (rwV r lb lc k).length = k * 2
  | 0 => rfl
  | k + 1 => by rw [rwV, List.length_append, rwV_len r lb lc k]; simp; omega
theorem rwV_get (r : Nat → RD) (lb lc : Nat → Nat) {j : Nat} : ∀ {k : Nat}, j < k → (rwV r lb lc k)[j * 2]? = some (.int .i64 (r j).N) ∧ (rwV r lb lc k)[j * 2 + 1]? = some (.slice (some ⟨lb j, 0, none⟩) (r j).n (lc j))
  | 0, h => absurd h (Nat.not_lt_zero _)
  | k + 1, h => by
    have hl := rwV_len r lb lc k
    by_cases e : j = k
    · subst e
      rw [rwV, List.getElem?_append_right (by omega), List.getElem?_append_right (by omega), show j * 2 - (rwV r lb lc j).length = 0 by omega, show j * 2 + 1 - (rwV r lb lc j).length = 1 by omega]
      exact ⟨rfl, rfl⟩
    · rw [rwV, List.getElem?_append_left (by omega), List.getElem?_append_left (by omega)]
      exact rwV_get r lb lc (by omega)
theorem rwV_congr {r r' : Nat → RD} {lb lc lb' lc' : Nat → Nat} : ∀ {j : Nat}, (∀ k, k < j → (r k).N = (r' k).N ∧ (r k).n = (r' k).n ∧ lb k = lb' k ∧ lc k = lc' k) → rwV r lb lc j = rwV r' lb' lc' j
  | 0, _ => rfl
  | j + 1, h => by
    obtain ⟨h1, h2, h3, h4⟩ := h j (by omega)
    rw [rwV, rwV, rwV_congr (fun k hk => h k (by omega)), h1, h2, h3, h4]
/-- The same rows, their words where they were lent. -/
def lenR (r : Nat → RD) (lb lc : Nat → Nat) (j : Nat) : RD := ⟨(r j).N, some ⟨lb j, 0, none⟩, (r j).n, lc j, (r j).f⟩
/-- .. wiped. -/
def wipR (r : Nat → RD) (j : Nat) : RD := ⟨(r j).N, (r j).sp, (r j).n, (r j).cap, xk (r j).f⟩
theorem alike_congr {r r' : Nat → RD} (h : ∀ j, (r j).N = (r' j).N ∧ (r j).n = (r' j).n ∧ (r j).f = (r' j).f) (k : Nat) : alikeZ r k = alikeZ r' k := by
  have hV : ∀ k, allV r k = allV r' k := fun k => by
    induction k with
    | zero => rfl
    | succ k ih => rw [allV, allV, ih]; unfold RD.valid; rw [(h k).1, (h k).2.1, (h k).2.2]
  have hN : ∀ k, allN r k = allN r' k := fun k => by
    induction k with
    | zero => rfl
    | succ k ih => rw [allN, allN, ih, (h k).1, (h 0).1]
  unfold alikeZ
  rw [hV, hN]
theorem cAns_congr {r r' : Nat → RD} (h : ∀ j, (r j).N = (r' j).N ∧ (r j).n = (r' j).n ∧ (r j).f = (r' j).f) (k : Nat) : cAns r k = cAns r' k := by
  funext d
  have e : (fun j => Pk.bitAt (r j).f) = fun j => Pk.bitAt (r' j).f := by funext j; rw [(h j).2.2]
  unfold cAns cE cM
  rw [alike_congr h, (h 0).1, e]
theorem cAns_e (r : Nat → RD) (k d : Nat) : (cAns r k d).e = (cAns r k 0).e := by
  unfold cAns
  split <;> rfl
theorem cAns_c {r : Nat → RD} {k : Nat} (hf : k ≤ 15 → ∀ d, d < k → ∀ i, i < (r d).n → (r d).f i < 18446744073709551616) (d : Nat) : (cAns r k d).c ≤ 1025 := by
  unfold cAns
  by_cases h : cE r k = 0
  · rw [if_pos h]
    have hk : ¬ 15 < k := fun hk => by unfold cE at h; rw [if_pos hk] at h; exact absurd h (by decide)
    have hz : alikeZ r k = 0 := by unfold cE at h; rw [if_neg hk] at h; exact h
    obtain ⟨m, n, pp, F⟩ := many_of (hf (by omega)) hz
    have hM : cM r k = m := by
      unfold cM
      by_cases h0 : k = 0
      · rw [if_pos h0, F.h0 h0]
      · rw [if_neg h0, F.eN 0 (by omega), Int.toNat_natCast]
    rw [hM]
    have := F.hm
    show (m + 63) / 64 ≤ 1025
    omega
  · rw [if_neg h]; exact Nat.zero_le _

theorem Lent.row22 {w : World} {b n c : Nat} {f : Nat → Nat} (h : Lent w b n c f) : ∃ cur z, w.heap[b]? = some (.cells cur 22 z) := by
  obtain ⟨F, ⟨cur, h3, _⟩, _⟩ := h.row
  exact ⟨cur, _, h3⟩
theorem Lent.lt {w : World} {b n c : Nat} {f : Nat → Nat} (h : Lent w b n c f) : b < w.heap.size := by
  obtain ⟨cur, z, h⟩ := h.row22
  exact (Array.getElem?_eq_some_iff.1 h).1
theorem Lent.block {w w' : World} {b n c : Nat} {f : Nat → Nat} (h : Lent w b n c f) (e : w'.heap[b]? = w.heap[b]?) : Lent w' b n c f := by
  obtain ⟨F, h1, h2⟩ := h.row
  exact ⟨⟨F, h1.of_block e, h2⟩, h.le⟩
theorem own_nel {w : World} {base j : Nat} {v : Value} {xs : List Value} (h : w.ownsRow base 31 2 v j xs) {b n c : Nat} {f : Nat → Nat} (k : Lent w b n c f) : some b ≠ v.ownBlock := fun e => by
  obtain ⟨cur', z, h2⟩ := k.row22
  rcases h.2 with ⟨rfl, _⟩ | ⟨g, cap, cur, rfl, _, hg, _⟩
  · cases e
  · cases e
    rw [hg] at h2
    simp at h2
/-- A list of rows that were lent. -/
structure Ll (w : World) (base : Nat) (v : Value) (k : Nat) (r : Nat → RD) (lb lc : Nat → Nat) : Prop where
  own : w.ownsRow base 31 2 v k (rwV r lb lc k)
  rows : ∀ j, j < k → Lent w (lb j) (r j).n (lc j) (r j).f
  low : ∀ j, j < k → base ≤ lb j
  inc : ∀ i j, i < j → j < k → lb i < lb j
theorem Ll.kept {w w' : World} {base k : Nat} {v : Value} {r : Nat → RD} {lb lc : Nat → Nat} (h : Ll w base v k r lb lc) (g : w.grownBy w' none) : Ll w' base v k r lb lc :=
  ⟨h.own.kept g (Classical.em _), fun j hj => (h.rows j hj).kept g (by simp), h.low, h.inc⟩
theorem Ll.nil (w : World) (base : Nat) (r : Nat → RD) (lb lc : Nat → Nat) : Ll w base (.slice none 0 0) 0 r lb lc :=
  ⟨World.ownsRow_nil _ _ _ _, fun j hj => absurd hj (Nat.not_lt_zero _), fun j hj => absurd hj (Nat.not_lt_zero _), fun i j _ hj => absurd hj (Nat.not_lt_zero _)⟩
/-- Behind the next row: it was lent in w1, laid in a block of its own, and appended. -/
theorem Ll.next {w w1 W2 w3 : World} {base j b c : Nat} {v v' : Value} {r : Nat → RD} {lb lc : Nat → Nat} (h : Ll w base v j r lb lc) (hb : base ≤ w.heap.size) (g1 : w.grownBy w1 none) (hl : w.heap.size ≤ b) (L1 : Lent w1 b (r j).n c (r j).f) (g2 : w1.grownBy W2 none)
    (own3 : w3.ownsRow base 31 2 v' (j + 1) (rwV r lb lc j ++ [.int .i64 (r j).N, .slice (some ⟨b, 0, none⟩) (r j).n c])) (g3 : W2.grownBy w3 v.ownBlock) : ∃ lb' lc', Ll w3 base v' (j + 1) r lb' lc' := by
  have h2 := (h.kept g1).kept g2
  have L2 := L1.kept g2 (by simp)
  refine ⟨fun i => if i = j then b else lb i, fun i => if i = j then c else lc i, ?_, fun i hi => ?_, fun i hi => ?_, fun i i' hii hi' => ?_⟩
  · have e : rwV r (fun i => if i = j then b else lb i) (fun i => if i = j then c else lc i) (j + 1) = rwV r lb lc j ++ [.int .i64 (r j).N, .slice (some ⟨b, 0, none⟩) (r j).n c] := by
      rw [rwV, if_pos rfl, if_pos rfl, rwV_congr (r' := r) (lb' := lb) (lc' := lc) (fun k hk => ⟨rfl, rfl, if_neg (by omega), if_neg (by omega)⟩)]
    rw [e]
    exact own3
  · by_cases e : i = j
    · subst e
      rw [if_pos rfl, if_pos rfl]
      exact L2.kept g3 (own_nel h2.own L2)
    · rw [if_neg e, if_neg e]
      exact (h2.rows i (by omega)).kept g3 (own_nel h2.own (h2.rows i (by omega)))
  · by_cases e : i = j
    · rw [if_pos e]; omega
    · rw [if_neg e]; exact h.low i (by omega)
  · by_cases e : i' = j
    · rw [if_pos e, if_neg (by omega)]
      have := (h.rows i (by omega)).lt
      omega
    · rw [if_neg e, if_neg (by omega)]
      exact h.inc i i' hii (by omega)
/-- The list's cells. -/
theorem Ll.cells {w : World} {base k g c : Nat} {r : Nat → RD} {lb lc : Nat → Nat} {n : Nat} {xs : List Value} (own : w.ownsRow base 31 2 (.slice (some ⟨g, 0, none⟩) n c) n (rwV r lb lc k ++ xs)) {j : Nat} (hj : j < k) : w.cell? ⟨g, j * 2, none⟩ = some (.int .i64 (r j).N) ∧ w.cell? ⟨g, j * 2 + 1, none⟩ = some (.slice (some ⟨lb j, 0, none⟩) (r j).n (lc j)) := by
  have hl := rwV_len r lb lc k
  obtain ⟨h0, h1⟩ := rwV_get r lb lc hj
  have c0 := own.cells (g := g) rfl (j * 2) _ (by rw [List.getElem?_append_left (by omega)]; exact h0)
  have c1 := own.cells (g := g) rfl (j * 2 + 1) _ (by rw [List.getElem?_append_left (by omega)]; exact h1)
  rw [Addr.add_lit, Nat.zero_add] at c0 c1
  exact ⟨c0, c1⟩
theorem Ll.mark {w : World} {base k g c : Nat} {r : Nat → RD} {lb lc : Nat → Nat} {n : Nat} {x : Value} {xs : List Value} (own : w.ownsRow base 31 2 (.slice (some ⟨g, 0, none⟩) n c) n (rwV r lb lc k ++ (x :: xs))) : w.cell? ⟨g, k * 2, none⟩ = some x := by
  have hl := rwV_len r lb lc k
  have c0 := own.cells (g := g) rfl (k * 2) x (by rw [List.getElem?_append_right (by omega), hl, Nat.sub_self]; rfl)
  rw [Addr.add_lit, Nat.zero_add] at c0
  exact c0
theorem ok_lent {w : World} {b n c : Nat} {N : Int} {f : Nat → Nat} (h : Lent w b n c f) (hf : ∀ k, k < n → f k < 18446744073709551616) (hn : n ≤ 17592186043904) : RD.ok w ⟨N, some ⟨b, 0, none⟩, n, c, f⟩ := ⟨h.wd, hf, by show n ≤ _; omega⟩
end Go.Proofs.Ytcdefpfnjjahgab
