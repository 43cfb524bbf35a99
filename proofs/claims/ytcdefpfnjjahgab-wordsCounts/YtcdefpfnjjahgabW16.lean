/- sumAt of package words: the count of the rows' words at one place of the list. -/
import Derived.Test.YtcdefpfnjjahgabW12
namespace Go.Proofs.Ytcdefpfnjjahgab
open Go.RowKit
set_option linter.unusedVariables false

/-- How many of the first k rows have a 1 at a place. -/
def cn (P : Nat → Nat → Bool) : Nat → Nat → Nat
  | 0, _ => 0
  | k + 1, t => cn P k t + (if P k t then 1 else 0)
theorem cn_le (P : Nat → Nat → Bool) : ∀ k t, cn P k t ≤ k
  | 0, _ => Nat.le_refl _
  | k + 1, t => by have := cn_le P k t; rw [cn]; split <;> omega
/-- What is carried to digit d when b is added to x. -/
def cB (x : Nat) (b : Bool) : Nat → Bool
  | 0 => b
  | d + 1 => x.testBit d && cB x b d
theorem add_digit : ∀ x : Fin 16, ∀ b : Bool, ∀ d : Fin 4, x.val ≤ 14 → (x.val + (if b then 1 else 0)).testBit d.val = Bool.xor (x.val.testBit d.val) (cB x.val b d.val) := by decide
def dgF (P : Nat → Nat → Bool) (k d t : Nat) : Bool := (cn P k t).testBit d
def caF (P : Nat → Nat → Bool) (j d t : Nat) : Bool := cB (cn P j t) (P j t) d
theorem dg_next (P : Nat → Nat → Bool) (j d t : Nat) (hj : j ≤ 14) (hd : d < 4) : Bool.xor (dgF P j d t) (caF P j d t) = dgF P (j + 1) d t := by
  have h := cn_le P j t
  have := add_digit ⟨cn P j t, by omega⟩ (P j t) ⟨d, hd⟩ (by show cn P j t ≤ 14; omega)
  unfold dgF caF
  rw [cn]
  exact this.symm
/-- Digit e on the way from j rows to one more, when d digits are done. -/
def mdF (P : Nat → Nat → Bool) (j d e t : Nat) : Bool := if e < d then dgF P (j + 1) e t else dgF P j e t

theorem info4 : (Try.prog.info? 73).map (·.size) = some 4 := by kernel_rfl
theorem under4 : Try.prog.underlying 73 = some (.array 4 22) := by kernel_rfl

theorem row4_cells {w : World} {b : Nat} {t : TypeId} {f : Nat → Value} (h : w.rowIs b t 4 f) : w.heap[b]? = some (.cells #[f 0, f 1, f 2, f 3] t (0, 0)) := by
  obtain ⟨c, hc, hn, hv⟩ := h
  rw [hc]
  have : c = #[f 0, f 1, f 2, f 3] := by
    apply Array.ext_getElem?
    intro i
    by_cases hi : i < 4
    · rw [hv i hi]
      rcases (show i = 0 ∨ i = 1 ∨ i = 2 ∨ i = 3 by omega) with rfl | rfl | rfl | rfl <;> rfl
    · rw [Array.getElem?_eq_none (by omega), Array.getElem?_eq_none (by simp; omega)]
  rw [this]

theorem box_arr4 (w : World) (x0 x1 x2 x3 : Value) (t : TypeId) : ∃ W1, w.alloc (.cells #[x0, x1, x2, x3] t) = W1 ∧ W1.heap[w.heap.size]? = some (.cells #[x0, x1, x2, x3] t (0, 0)) ∧ Hid (W1.heap.size = w.heap.size + 1) ∧ w.grownBy W1 none :=
  ⟨_, rfl, heap_alloc_new w _, by unfold Hid; simp, World.grownBy_alloc _ _ _⟩

theorem sumAtC (P : Nat → Nat → Bool) (q k cap n i m : Nat) (sp : Option Addr) (caps : Nat → Nat) (sps : Nat → Option Addr) (hsp : 0 < k → sp = some ⟨q, 0, none⟩) (hk : k ≤ 15) (hn : n ≤ 1025) (hi : i < n) (w : World) (h : Rws w q k (fun j => ⟨m, sps j, n, caps j, Pk.pack (P j)⟩)) :
    Calls Try.prog 37 #[.slice sp k cap, .int .i64 i] w fun e w' => e = .returned (.agg #[.int .u64 (Pk.pack (dgF P k 0) i), .int .u64 (Pk.pack (dgF P k 1) i), .int .u64 (Pk.pack (dgF P k 2) i), .int .u64 (Pk.pack (dgF P k 3) i)]) ∧ w.grownBy w' none := by
  obtain ⟨W1, hW1, hb1, sz1, g1⟩ := box_arr4 w (.int .u64 0) (.int .u64 0) (.int .u64 0) (.int .u64 0) 73
  obtain ⟨W2, hW2, hb2, sz2, g2⟩ := box_arr4 W1 (.int .u64 0) (.int .u64 0) (.int .u64 0) (.int .u64 0) 73
  have q1 : w.heap.size < W1.heap.size := by have := sz1.out; omega
  have q2 : W1.heap.size < W2.heap.size := by have := sz2.out; omega
  have hr2 : W2.rowIs W1.heap.size 73 4 (fun e => .int .u64 (Pk.pack (dgF P 0 e) i)) := by
    refine ⟨_, hb2, rfl, fun e he => ?_⟩
    have hz : Pk.pack (dgF P 0 e) i = 0 := by
      rw [← Pk.pack_zero i]
      exact Pk.pack_congr fun j hj => by show (0 : Nat).testBit e = false; simp
    simp only [hz]
    rcases (show e = 0 ∨ e = 1 ∨ e = 2 ∨ e = 3 by omega) with rfl | rfl | rfl | rfl <;> rfl
  have h2 := h.kept (gb_trans g1 g2)
  have hil : (i : Int) < (n : Int) := by omega
  go_enter Try.func37, Try.ntmps37
  go_wp2
  go_loopw [12] (fun x wr => ∃ j : Nat, j ≤ k ∧ x = .int .i64 j ∧ wr.rowIs W1.heap.size 73 4 (fun e => .int .u64 (Pk.pack (dgF P j e) i)) ∧ W2.grownBy wr (some W1.heap.size)) (fun x _ => k - (intOf x).toNat)
  case atStart => exact ⟨0, Nat.zero_le _, rfl, hr2, World.grownBy.refl _ _⟩
  case round =>
    obtain ⟨j, hj, rfl, hrj, hgj⟩ := hrel
    by_cases hlt : j < k
    · obtain rfl := hsp (by omega)
      have hlt' : (j : Int) < (k : Int) := by omega
      have hgw : w.grownBy wr none := gb_past (gb_trans g1 g2) hgj (by omega)
      obtain ⟨x0, x1, x2⟩ := (h.kept hgw) j hlt
      obtain ⟨W3, hW3, c0, c1, sz3, g3, hB3⟩ := box2 wr (.int .i64 m) (.slice (sps j) n (caps j)) 31
      obtain ⟨a, ha⟩ := x2.1.some (show 0 < n by omega)
      have hwd : Wd wr (sps j) n (Pk.pack (P j)) := x2.1
      have hsj : sps j = some a := ha
      rw [hsj] at hwd
      have hca := g3.cell (hwd.at hi) (by simp)
      simp only at x0 x1
      rw [hsj] at x1 c1 hB3
      rw [hsj] at hW3
      clear ha hsj x2 hwd
      have hr3 : W3.rowIs W1.heap.size 73 4 (fun e => .int .u64 (Pk.pack (mdF P j 0 e) i)) := (rowIs_kept hrj g3 (by simp)).congr fun e he => by
        rw [Pk.pack_congr (p := dgF P j e) (q := mdF P j 0 e) fun t ht => by unfold mdF; rw [if_neg (by omega)]]
      go_wp2
      go_loopw [8, 21] (fun c x wr => ∃ d : Nat, d ≤ 4 ∧ x = .int .i64 d ∧ c = .int .u64 (Pk.pack (caF P j d) i) ∧ wr.rowIs W1.heap.size 73 4 (fun e => .int .u64 (Pk.pack (mdF P j d e) i)) ∧ W3.grownBy wr (some W1.heap.size)) (fun _ x _ => 4 - (intOf x).toNat)
      case atStart => exact ⟨0, by omega, rfl, by rw [Pk.pack_congr (p := caF P j 0) (q := P j) fun t ht => rfl], hr3, World.grownBy.refl _ _⟩
      case round =>
        obtain ⟨d, hd, rfl, rfl, hrd, hgd⟩ := hrel
        by_cases hdl : d < 4
        · have hdl' : (d : Int) < 4 := by omega
          have y0 := hrd.cell hdl
          have y1 := hrd.frozen d
          have hmd : Pk.pack (mdF P j d d) i = Pk.pack (dgF P j d) i := Pk.pack_congr fun t ht => by unfold mdF; rw [if_neg (by omega)]
          simp only [hmd] at y0
          have hh := halfC (Pk.pack (dgF P j d) i) (Pk.pack (caF P j d) i) (Pk.pack_lt _ _) (Pk.pack_lt _ _)
          rw [Pk.pack_xor, Pk.pack_and] at hh
          have e1 : Pk.pack (fun t => Bool.xor (dgF P j d t) (caF P j d t)) i = Pk.pack (dgF P (j + 1) d) i := Pk.pack_congr fun t ht => dg_next P j d _ (by omega) hdl
          have e2 : Pk.pack (fun t => dgF P j d t && caF P j d t) i = Pk.pack (caF P j (d + 1)) i := Pk.pack_congr fun t ht => rfl
          rw [e1, e2] at hh
          clear e1 e2 hmd
          go_wp2_with (first | (go_at_call 8; refine (hh wr).mono ?_; rintro e w' ⟨rfl, hw'⟩; subst w'))
          go_roundw
          case rel => exact ⟨d + 1, by omega, by go_num, rfl, (hrd.set d _).congr fun e he => by
            by_cases hed : e = d
            · subst hed
              simp only [if_true]
              rw [Pk.pack_congr (p := dgF P (j + 1) e) (q := mdF P j (e + 1) e) fun t ht => by unfold mdF; rw [if_pos (by omega)]]
            · simp only [hed, if_false]
              rw [Pk.pack_congr (p := mdF P j d e) (q := mdF P j (d + 1) e) fun t ht => by
                unfold mdF
                by_cases h : e < d
                · rw [if_pos h, if_pos (by omega)]
                · rw [if_neg h, if_neg (by omega)]], gb_set hgd _ _⟩
          case measure => simp [intOf]; omega
        · have hdl' : ¬ (d : Int) < 4 := by omega
          go_wp2
          go_roundw
          case rel => exact ⟨j + 1, by omega, by go_num, hrd.congr fun e he => by
            rw [Pk.pack_congr (p := mdF P j d e) (q := dgF P (j + 1) e) fun t ht => by unfold mdF; rw [if_pos (by omega)]], gb_trans hgj (gb_trans ⟨g3.os, g3.tape, g3.output, g3.size, fun k hk _ => g3.block k hk (by simp)⟩ hgd)⟩
          case measure => simp [intOf]; omega
    · have hlt' : ¬ (j : Int) < (k : Int) := by omega
      have hjk : j = k := by omega
      have hG : w.grownBy wr none := gb_past (gb_trans g1 g2) hgj (by omega)
      have d0 := hrj.cell (i := 0) (by omega)
      have d1 := hrj.cell (i := 1) (by omega)
      have d2 := hrj.cell (i := 2) (by omega)
      have d3 := hrj.cell (i := 3) (by omega)
      simp only [hjk] at d0 d1 d2 d3
      have hbr : wr.heap[w.heap.size]? = some (.cells #[.int .u64 0, .int .u64 0, .int .u64 0, .int .u64 0] 73 (0, 0)) := (hgj.block _ (by omega) (by simp; omega)).trans ((g2.block _ (by omega) (by simp)).trans hb1)
      have hrr : wr.rowIs w.heap.size 73 4 (fun _ => .int .u64 0) := ⟨_, hbr, rfl, fun e he => by
        rcases (show e = 0 ∨ e = 1 ∨ e = 2 ∨ e = 3 by omega) with rfl | rfl | rfl | rfl <;> rfl⟩
      have f0 := hrr.cell (i := 0) (by omega)
      have f1 := hrr.cell (i := 1) (by omega)
      have f2 := hrr.cell (i := 2) (by omega)
      have f3 := hrr.cell (i := 3) (by omega)
      have k0 := hrr.frozen 0
      have k1 := hrr.frozen 1
      have k2 := hrr.frozen 2
      have k3 := hrr.frozen 3
      clear hjk
      go_wp2
      have R := (((hrr.set 0 (.int .u64 (Pk.pack (dgF P k 0) i))).set 1 (.int .u64 (Pk.pack (dgF P k 1) i))).set 2 (.int .u64 (Pk.pack (dgF P k 2) i))).set 3 (.int .u64 (Pk.pack (dgF P k 3) i))
      have hL : w.heap.size ≤ w.heap.size := Nat.le_refl _
      exact bodyPost_ret (results_cell_row rfl _ _ w.heap.size 73 #[.int .u64 (Pk.pack (dgF P k 0) i), .int .u64 (Pk.pack (dgF P k 1) i), .int .u64 (Pk.pack (dgF P k 2) i), .int .u64 (Pk.pack (dgF P k 3) i)] (0, 0) (.array 4 22) rfl (row4_cells R) under4 rfl info4) rfl
        ⟨rfl, gb_new (gb_new (gb_new (gb_new hG hL _) hL _) hL _) hL _⟩

end Go.Proofs.Ytcdefpfnjjahgab
