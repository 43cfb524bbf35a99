/- alike of package words: whether rows may be and are of one length. -/
import Derived.Test.YthjiiljglgmkpaaGreatDoorWa
import Derived.LoopN
namespace Go.Proofs.YthjiiljglgmkpaaGreatDoor.Wo
open Go.RowKit
set_option linter.unusedVariables false

/-- A row as it lies in memory. -/
structure RD where
  N : Int
  sp : Option Addr
  n : Nat
  cap : Nat
  f : Nat → Nat

def RD.ok (w : World) (r : RD) : Prop := Wd w r.sp r.n r.f ∧ (∀ k, k < r.n → r.f k < 18446744073709551616) ∧ r.n ≤ 9223372036854775807
def RD.val (r : RD) : Value := .agg #[.int .i64 r.N, .slice r.sp r.n r.cap]
def RD.valid (r : RD) : Bool := validB r.N r.n r.f

/-- A list of k rows from the head of block q on. -/
def Rws (w : World) (q k : Nat) (r : Nat → RD) : Prop :=
  ∀ j, j < k → w.cell? ⟨q, j * 2, none⟩ = some (.int .i64 (r j).N) ∧ w.cell? ⟨q, j * 2 + 1, none⟩ = some (.slice (r j).sp (r j).n (r j).cap) ∧ (r j).ok w

theorem RD.ok.kept {w w' : World} {x : Option Nat} {r : RD} (h : r.ok w) (hg : w.grownBy w' x) (hne : ∀ a, r.sp = some a → some a.block ≠ x) : r.ok w' := ⟨h.1.kept hg hne, h.2⟩
theorem Rws.kept {w w' : World} {q k : Nat} {r : Nat → RD} (h : Rws w q k r) (hg : w.grownBy w' none) : Rws w' q k r := fun j hj => by
  obtain ⟨h0, h1, h2⟩ := h j hj
  exact ⟨hg.cell h0 (by simp), hg.cell h1 (by simp), h2.kept hg (by simp)⟩

def allV (r : Nat → RD) : Nat → Bool
  | 0 => true
  | k + 1 => allV r k && (r k).valid
def allN (r : Nat → RD) : Nat → Bool
  | 0 => true
  | k + 1 => allN r k && decide ((r k).N = (r 0).N)
def alikeZ (r : Nat → RD) (k : Nat) : Int := if allV r k then (if allN r k then 0 else 21) else 20

theorem allV_no {r : Nat → RD} {j : Nat} (h : (r j).valid = false) : ∀ {k : Nat}, j < k → allV r k = false
  | k + 1, hj => by
    rw [allV]
    by_cases e : j = k
    · subst e; rw [h]; simp
    · rw [allV_no h (show j < k by omega)]; rfl
theorem allN_no {r : Nat → RD} {j : Nat} (h : ¬ (r j).N = (r 0).N) : ∀ {k : Nat}, j < k → allN r k = false
  | k + 1, hj => by
    rw [allN]
    by_cases e : j = k
    · subst e; rw [decide_eq_false h]; simp
    · rw [allN_no h (show j < k by omega)]; rfl
theorem allV_yes {r : Nat → RD} : ∀ {k : Nat}, (∀ j, j < k → (r j).valid = true) → allV r k = true
  | 0, _ => rfl
  | k + 1, h => by rw [allV, allV_yes (fun j hj => h j (by omega)), h k (by omega)]; rfl
theorem allN_yes {r : Nat → RD} : ∀ {k : Nat}, (∀ j, j < k → (r j).N = (r 0).N) → allN r k = true
  | 0, _ => rfl
  | k + 1, h => by rw [allN, allN_yes (fun j hj => h j (by omega)), decide_eq_true (h k (by omega))]; rfl

theorem validRD (r : RD) (w : World) (h : r.ok w) :
    Calls Tryz.prog 24 #[.agg #[.int .i64 r.N, .slice r.sp r.n r.cap]] w fun e w' => e = .returned (.bool r.valid) ∧ w.grownBy w' none :=
  validC r.N r.n r.cap r.sp r.f h.2.1 h.2.2 w h.1

theorem alikeC (q k cap : Nat) (r : Nat → RD) (sp : Option Addr) (hsp : 0 < k → sp = some ⟨q, 0, none⟩) (hk : k ≤ 1000000) (w : World) (h : Rws w q k r) :
    Calls Tryz.prog 114 #[.slice sp k cap] w fun e w' => e = .returned (.int .i64 (alikeZ r k)) ∧ w.grownBy w' none := by
  go_enter Tryz.func114, Tryz.ntmps114
  go_wp2
  go_loopw [9] (fun i wr => ∃ j : Nat, j ≤ k ∧ i = .int .i64 j ∧ Hid (∀ t, t < j → (r t).valid = true) ∧ w.grownBy wr none) (fun i _ => k - (intOf i).toNat)
  case atStart => exact ⟨0, Nat.zero_le _, rfl, (fun t ht => absurd ht (Nat.not_lt_zero _)), World.grownBy.refl _ _⟩
  case round =>
    obtain ⟨j, hj, rfl, hv, hg⟩ := hrel
    by_cases hlt : j < k
    · obtain rfl := hsp (by omega)
      have hlt' : (j : Int) < (k : Int) := by omega
      obtain ⟨x0, x1, x2⟩ := (h.kept hg) j hlt
      obtain ⟨W1, hW, c0, c1, sz, g1, hB⟩ := box2 wr (.int .i64 (r j).N) (.slice (r j).sp (r j).n (r j).cap) 33
      have hrd := validRD (r j) W1 (x2.kept g1 (by simp))
      cases hvj : (r j).valid with
      | true =>
        rw [hvj] at hrd
        go_wp2_with (first | (go_at_call 24; refine hrd.mono ?_; rintro e w2 ⟨rfl, g2⟩))
        go_roundw
        case rel => exact ⟨j + 1, by omega, by go_num, (fun t ht => by
          by_cases e : t = j
          · subst e; exact hvj
          · exact hv.out t (by omega)), gb_trans hg (gb_trans g1 g2)⟩
        case measure => simp [intOf]; omega
      | false =>
        rw [hvj] at hrd
        have HZ : Hid (alikeZ r k = 20) := by unfold Hid alikeZ; rw [allV_no hvj hlt]; rfl
        go_wp2_with (first | (go_at_call 24; refine hrd.mono ?_; rintro e w2 ⟨rfl, g2⟩))
        go_ret
        exact ⟨by rw [HZ.out]; rfl, gb_trans hg (gb_trans g1 g2)⟩
    · have hlt' : ¬ (j : Int) < (k : Int) := by omega
      have hjk : j = k := by omega
      have HV : Hid (allV r k = true) := allV_yes (fun t ht => hv.out t (by omega))
      clear hjk
      go_wp2
      go_loopw [19] (fun i wr' => ∃ l : Nat, l ≤ k ∧ i = .int .i64 l ∧ Hid (∀ t, t < l → (r t).N = (r 0).N) ∧ w.grownBy wr' none) (fun i _ => k - (intOf i).toNat)
      case atStart => exact ⟨0, Nat.zero_le _, rfl, (fun t ht => absurd ht (Nat.not_lt_zero _)), hg⟩
      case round =>
        obtain ⟨l, hl, rfl, hn, hgl⟩ := hrel
        by_cases hll : l < k
        · obtain rfl := hsp (by omega)
          have hll' : (l : Int) < (k : Int) := by omega
          have hk0 : (0 : Int) < (k : Int) := by omega
          obtain ⟨x0, x1, x2⟩ := (h.kept hgl) l hll
          obtain ⟨W1, hW, c0, c1, sz, g1, hB⟩ := box2 wr (.int .i64 (r l).N) (.slice (r l).sp (r l).n (r l).cap) 33
          obtain ⟨y0, _, _⟩ := (h.kept (gb_trans hgl g1)) 0 (by omega)
          rw [Nat.zero_mul] at y0
          by_cases he : (r l).N = (r 0).N
          · have he' : ((r l).N != (r 0).N) = false := by simp [he]
            have HE : Hid ((r l).N = (r 0).N) := he
            clear he
            go_wp2
            go_quiet (fail)
            go_wp2
            go_roundw
            case rel => exact ⟨l + 1, by omega, by go_num, (fun t ht => by
              by_cases e : t = l
              · subst e; exact HE.out
              · exact hn.out t (by omega)), gb_drewN (gb_trans hgl g1) _⟩
            case measure => simp [intOf]; omega
          · have he' : ((r l).N != (r 0).N) = true := by simp [he]
            have HZ : Hid (alikeZ r k = 21) := by unfold Hid alikeZ; rw [HV.out, allN_no he hll]; rfl
            go_wp2
            go_quiet (fail)
            go_wp2
            go_ret
            exact ⟨by rw [HZ.out]; rfl, gb_drewN (gb_trans hgl g1) _⟩
        · have hll' : ¬ (l : Int) < (k : Int) := by omega
          have hlk : l = k := by omega
          have HZ : Hid (alikeZ r k = 0) := by unfold Hid alikeZ; rw [HV.out, allN_yes (fun t ht => hn.out t (by omega))]; rfl
          clear hlk
          go_wp2
          go_ret
          exact ⟨by rw [HZ.out]; rfl, hgl⟩

end Go.Proofs.YthjiiljglgmkpaaGreatDoor.Wo
namespace Go.Proofs.YthjiiljglgmkpaaGreatDoor.Wo
open Go.RowKit
set_option linter.unusedVariables false

/-- How many of the first k rows have a 1 at a place. -/
def cn (P : Nat → Nat → Bool) : Nat → Nat → Nat
  | 0, _ => 0
  | k + 1, t => cn P k t + (if P k t then 1 else 0)
theorem cn_le (P : Nat → Nat → Bool) : ∀ k t, cn P k t ≤ k
  | 0, _ => Nat.le_refl _
  | k + 1, t => by have := cn_le P k t; rw [cn]; split <;> omega
/-- What is carried to digit d when b is added to x. -/
def cB (x : Nat) (b : Bool) : Nat → Bool
  | 0 => b
  | d + 1 => x.testBit d && cB x b d
theorem add_digit : ∀ x : Fin 16, ∀ b : Bool, ∀ d : Fin 4, x.val ≤ 14 → (x.val + (if b then 1 else 0)).testBit d.val = Bool.xor (x.val.testBit d.val) (cB x.val b d.val) := by decide
def dgF (P : Nat → Nat → Bool) (k d t : Nat) : Bool := (cn P k t).testBit d
def caF (P : Nat → Nat → Bool) (j d t : Nat) : Bool := cB (cn P j t) (P j t) d
theorem dg_next (P : Nat → Nat → Bool) (j d t : Nat) (hj : j ≤ 14) (hd : d < 4) : Bool.xor (dgF P j d t) (caF P j d t) = dgF P (j + 1) d t := by
  have h := cn_le P j t
  have := add_digit ⟨cn P j t, by omega⟩ (P j t) ⟨d, hd⟩ (by show cn P j t ≤ 14; omega)
  unfold dgF caF
  rw [cn]
  exact this.symm
/-- Digit e on the way from j rows to one more, when d digits are done. -/
def mdF (P : Nat → Nat → Bool) (j d e t : Nat) : Bool := if e < d then dgF P (j + 1) e t else dgF P j e t

theorem info4 : (Tryz.prog.info? 184).map (·.size) = some 4 := by kernel_rfl
theorem under4 : Tryz.prog.underlying 184 = some (.array 4 37) := by kernel_rfl

theorem row4_cells {w : World} {b : Nat} {t : TypeId} {f : Nat → Value} (h : w.rowIs b t 4 f) : w.heap[b]? = some (.cells #[f 0, f 1, f 2, f 3] t (0, 0)) := by
  obtain ⟨c, hc, hn, hv⟩ := h
  rw [hc]
  have : c = #[f 0, f 1, f 2, f 3] := by
    apply Array.ext_getElem?
    intro i
    by_cases hi : i < 4
    · rw [hv i hi]
      rcases (show i = 0 ∨ i = 1 ∨ i = 2 ∨ i = 3 by omega) with rfl | rfl | rfl | rfl <;> rfl
    · rw [Array.getElem?_eq_none (by omega), Array.getElem?_eq_none (by simp; omega)]
  rw [this]

theorem box_arr4 (w : World) (x0 x1 x2 x3 : Value) (t : TypeId) : ∃ W1, w.alloc (.cells #[x0, x1, x2, x3] t) = W1 ∧ W1.heap[w.heap.size]? = some (.cells #[x0, x1, x2, x3] t (0, 0)) ∧ Hid (W1.heap.size = w.heap.size + 1) ∧ w.grownBy W1 none :=
  ⟨_, rfl, heap_alloc_new w _, by unfold Hid; simp, World.grownBy_alloc _ _ _⟩

theorem sumAtC (P : Nat → Nat → Bool) (q k cap n i m : Nat) (sp : Option Addr) (caps : Nat → Nat) (sps : Nat → Option Addr) (hsp : 0 < k → sp = some ⟨q, 0, none⟩) (hk : k ≤ 15) (hn : n ≤ 1025) (hi : i < n) (w : World) (h : Rws w q k (fun j => ⟨m, sps j, n, caps j, Pk.pack (P j)⟩)) :
    Calls Tryz.prog 115 #[.slice sp k cap, .int .i64 i] w fun e w' => e = .returned (.agg #[.int .u64 (Pk.pack (dgF P k 0) i), .int .u64 (Pk.pack (dgF P k 1) i), .int .u64 (Pk.pack (dgF P k 2) i), .int .u64 (Pk.pack (dgF P k 3) i)]) ∧ w.grownBy w' none := by
  obtain ⟨W1, hW1, hb1, sz1, g1⟩ := box_arr4 w (.int .u64 0) (.int .u64 0) (.int .u64 0) (.int .u64 0) 184
  obtain ⟨W2, hW2, hb2, sz2, g2⟩ := box_arr4 W1 (.int .u64 0) (.int .u64 0) (.int .u64 0) (.int .u64 0) 184
  have q1 : w.heap.size < W1.heap.size := by have := sz1.out; omega
  have q2 : W1.heap.size < W2.heap.size := by have := sz2.out; omega
  have hr2 : W2.rowIs W1.heap.size 184 4 (fun e => .int .u64 (Pk.pack (dgF P 0 e) i)) := by
    refine ⟨_, hb2, rfl, fun e he => ?_⟩
    have hz : Pk.pack (dgF P 0 e) i = 0 := by
      rw [← Pk.pack_zero i]
      exact Pk.pack_congr fun j hj => by show (0 : Nat).testBit e = false; simp
    simp only [hz]
    rcases (show e = 0 ∨ e = 1 ∨ e = 2 ∨ e = 3 by omega) with rfl | rfl | rfl | rfl <;> rfl
  have h2 := h.kept (gb_trans g1 g2)
  have hil : (i : Int) < (n : Int) := by omega
  go_enter Tryz.func115, Tryz.ntmps115
  go_wp2
  go_loopw [12] (fun x wr => ∃ j : Nat, j ≤ k ∧ x = .int .i64 j ∧ wr.rowIs W1.heap.size 184 4 (fun e => .int .u64 (Pk.pack (dgF P j e) i)) ∧ W2.grownBy wr (some W1.heap.size)) (fun x _ => k - (intOf x).toNat)
  case atStart => exact ⟨0, Nat.zero_le _, rfl, hr2, World.grownBy.refl _ _⟩
  case round =>
    obtain ⟨j, hj, rfl, hrj, hgj⟩ := hrel
    by_cases hlt : j < k
    · obtain rfl := hsp (by omega)
      have hlt' : (j : Int) < (k : Int) := by omega
      have hgw : w.grownBy wr none := gb_past (gb_trans g1 g2) hgj (by omega)
      obtain ⟨x0, x1, x2⟩ := (h.kept hgw) j hlt
      obtain ⟨W3, hW3, c0, c1, sz3, g3, hB3⟩ := box2 wr (.int .i64 m) (.slice (sps j) n (caps j)) 33
      obtain ⟨a, ha⟩ := x2.1.some (show 0 < n by omega)
      have hwd : Wd wr (sps j) n (Pk.pack (P j)) := x2.1
      have hsj : sps j = some a := ha
      rw [hsj] at hwd
      have hca := g3.cell (hwd.at hi) (by simp)
      simp only at x0 x1
      rw [hsj] at x1 c1 hB3
      rw [hsj] at hW3
      clear ha hsj x2 hwd
      have hr3 : W3.rowIs W1.heap.size 184 4 (fun e => .int .u64 (Pk.pack (mdF P j 0 e) i)) := (rowIs_kept hrj g3 (by simp)).congr fun e he => by
        rw [Pk.pack_congr (p := dgF P j e) (q := mdF P j 0 e) fun t ht => by unfold mdF; rw [if_neg (by omega)]]
      go_wp2
      go_loopw [8, 21] (fun c x wr => ∃ d : Nat, d ≤ 4 ∧ x = .int .i64 d ∧ c = .int .u64 (Pk.pack (caF P j d) i) ∧ wr.rowIs W1.heap.size 184 4 (fun e => .int .u64 (Pk.pack (mdF P j d e) i)) ∧ W3.grownBy wr (some W1.heap.size)) (fun _ x _ => 4 - (intOf x).toNat)
      case atStart => exact ⟨0, by omega, rfl, by rw [Pk.pack_congr (p := caF P j 0) (q := P j) fun t ht => rfl], hr3, World.grownBy.refl _ _⟩
      case round =>
        obtain ⟨d, hd, rfl, rfl, hrd, hgd⟩ := hrel
        by_cases hdl : d < 4
        · have hdl' : (d : Int) < 4 := by omega
          have y0 := hrd.cell hdl
          have y1 := hrd.frozen d
          have hmd : Pk.pack (mdF P j d d) i = Pk.pack (dgF P j d) i := Pk.pack_congr fun t ht => by unfold mdF; rw [if_neg (by omega)]
          simp only [hmd] at y0
          have hh := halfC (Pk.pack (dgF P j d) i) (Pk.pack (caF P j d) i) (Pk.pack_lt _ _) (Pk.pack_lt _ _)
          rw [Pk.pack_xor, Pk.pack_and] at hh
          have e1 : Pk.pack (fun t => Bool.xor (dgF P j d t) (caF P j d t)) i = Pk.pack (dgF P (j + 1) d) i := Pk.pack_congr fun t ht => dg_next P j d _ (by omega) hdl
          have e2 : Pk.pack (fun t => dgF P j d t && caF P j d t) i = Pk.pack (caF P j (d + 1)) i := Pk.pack_congr fun t ht => rfl
          rw [e1, e2] at hh
          clear e1 e2 hmd
          go_wp2_with (first | (go_at_call 129; refine (hh wr).mono ?_; rintro e w' ⟨rfl, hw'⟩; subst w'))
          go_roundw
          case rel => exact ⟨d + 1, by omega, by go_num, rfl, (hrd.set d _).congr fun e he => by
            by_cases hed : e = d
            · subst hed
              simp only [if_true]
              rw [Pk.pack_congr (p := dgF P (j + 1) e) (q := mdF P j (e + 1) e) fun t ht => by unfold mdF; rw [if_pos (by omega)]]
            · simp only [hed, if_false]
              rw [Pk.pack_congr (p := mdF P j d e) (q := mdF P j (d + 1) e) fun t ht => by
                unfold mdF
                by_cases h : e < d
                · rw [if_pos h, if_pos (by omega)]
                · rw [if_neg h, if_neg (by omega)]], gb_set hgd _ _⟩
          case measure => simp [intOf]; omega
        · have hdl' : ¬ (d : Int) < 4 := by omega
          go_wp2
          go_roundw
          case rel => exact ⟨j + 1, by omega, by go_num, hrd.congr fun e he => by
            rw [Pk.pack_congr (p := mdF P j d e) (q := dgF P (j + 1) e) fun t ht => by unfold mdF; rw [if_pos (by omega)]], gb_trans hgj (gb_trans ⟨g3.os, g3.tape, g3.output, g3.size, fun k hk _ => g3.block k hk (by simp)⟩ hgd)⟩
          case measure => simp [intOf]; omega
    · have hlt' : ¬ (j : Int) < (k : Int) := by omega
      have hjk : j = k := by omega
      have hG : w.grownBy wr none := gb_past (gb_trans g1 g2) hgj (by omega)
      have d0 := hrj.cell (i := 0) (by omega)
      have d1 := hrj.cell (i := 1) (by omega)
      have d2 := hrj.cell (i := 2) (by omega)
      have d3 := hrj.cell (i := 3) (by omega)
      simp only [hjk] at d0 d1 d2 d3
      have hbr : wr.heap[w.heap.size]? = some (.cells #[.int .u64 0, .int .u64 0, .int .u64 0, .int .u64 0] 184 (0, 0)) := (hgj.block _ (by omega) (by simp; omega)).trans ((g2.block _ (by omega) (by simp)).trans hb1)
      have hrr : wr.rowIs w.heap.size 184 4 (fun _ => .int .u64 0) := ⟨_, hbr, rfl, fun e he => by
        rcases (show e = 0 ∨ e = 1 ∨ e = 2 ∨ e = 3 by omega) with rfl | rfl | rfl | rfl <;> rfl⟩
      have f0 := hrr.cell (i := 0) (by omega)
      have f1 := hrr.cell (i := 1) (by omega)
      have f2 := hrr.cell (i := 2) (by omega)
      have f3 := hrr.cell (i := 3) (by omega)
      have k0 := hrr.frozen 0
      have k1 := hrr.frozen 1
      have k2 := hrr.frozen 2
      have k3 := hrr.frozen 3
      clear hjk
      go_wp2
      have R := (((hrr.set 0 (.int .u64 (Pk.pack (dgF P k 0) i))).set 1 (.int .u64 (Pk.pack (dgF P k 1) i))).set 2 (.int .u64 (Pk.pack (dgF P k 2) i))).set 3 (.int .u64 (Pk.pack (dgF P k 3) i))
      have hL : w.heap.size ≤ w.heap.size := Nat.le_refl _
      exact bodyPost_ret (results_cell_row rfl _ _ w.heap.size 184 #[.int .u64 (Pk.pack (dgF P k 0) i), .int .u64 (Pk.pack (dgF P k 1) i), .int .u64 (Pk.pack (dgF P k 2) i), .int .u64 (Pk.pack (dgF P k 3) i)] (0, 0) (.array 4 37) rfl (row4_cells R) under4 rfl info4) rfl
        ⟨rfl, gb_new (gb_new (gb_new (gb_new hG hL _) hL _) hL _) hL _⟩

end Go.Proofs.YthjiiljglgmkpaaGreatDoor.Wo
namespace Go.Proofs.YthjiiljglgmkpaaGreatDoor.Wo
open Go.RowKit
set_option linter.unusedVariables false

/-- What was there is as it was, but for the blocks S. -/
structure Gs (S : Nat → Prop) (w w' : World) : Prop where
  os : w'.os = w.os
  tape : w'.tape = w.tape
  output : w'.output = w.output
  size : w.heap.size ≤ w'.heap.size
  block : ∀ k, k < w.heap.size → ¬ S k → w'.heap[k]? = w.heap[k]?
theorem Gs.refl (S : Nat → Prop) (w : World) : Gs S w w := ⟨rfl, rfl, rfl, Nat.le_refl _, fun _ _ _ => rfl⟩
theorem Gs.gb {S : Nat → Prop} {a b c : World} (h : Gs S a b) (k : b.grownBy c none) : Gs S a c :=
  ⟨k.os.trans h.os, k.tape.trans h.tape, k.output.trans h.output, Nat.le_trans h.size k.size, fun i hi hn => (k.block i (Nat.lt_of_lt_of_le hi h.size) (by simp)).trans (h.block i hi hn)⟩
theorem Gs.set {S : Nat → Prop} {a b : World} (h : Gs S a b) (x : Addr) (hx : S x.block) (v : Value) : Gs S a (b.setCell x v) :=
  ⟨h.os, h.tape, h.output, by simpa [World.setCell] using h.size, fun i hi hn => (Below.heap_setCell _ _ _ _ (fun e => hn (by rw [e]; exact hx))).trans (h.block i hi hn)⟩
theorem Gs.past {S : Nat → Prop} {w a b : World} (h : w.grownBy a none) (k : Gs S a b) (hs : ∀ i, S i → w.heap.size ≤ i) : w.grownBy b none :=
  ⟨k.os.trans h.os, k.tape.trans h.tape, k.output.trans h.output, Nat.le_trans h.size k.size, fun i hi hn => (k.block i (Nat.lt_of_lt_of_le hi h.size) (fun e => by have := hs i e; omega)).trans (h.block i hi hn)⟩

theorem infoC : (Tryz.prog.info? 119).map (·.size) = some 8 := by kernel_rfl
theorem underC : Tryz.prog.underlying 119 = some (.array 4 33) := by kernel_rfl

/-- A box of eight cells. -/
def B8 (w : World) (g : Nat) (t : TypeId) (x0 x1 x2 x3 x4 x5 x6 x7 : Value) : Prop := w.heap[g]? = some (.cells #[x0, x1, x2, x3, x4, x5, x6, x7] t (0, 0))
theorem B8.lt {w : World} {g : Nat} {t : TypeId} {x0 x1 x2 x3 x4 x5 x6 x7 : Value} (h : B8 w g t x0 x1 x2 x3 x4 x5 x6 x7) : g < w.heap.size := (Array.getElem?_eq_some_iff.1 h).1
theorem box8 (w : World) (t : TypeId) (x0 x1 x2 x3 x4 x5 x6 x7 : Value) : ∃ W1, w.alloc (.cells #[x0, x1, x2, x3, x4, x5, x6, x7] t) = W1 ∧ B8 W1 w.heap.size t x0 x1 x2 x3 x4 x5 x6 x7 ∧ Hid (W1.heap.size = w.heap.size + 1) ∧ w.grownBy W1 none :=
  ⟨_, rfl, heap_alloc_new w _, by unfold Hid; simp, World.grownBy_alloc _ _ _⟩
theorem B8.c0 {w : World} {g : Nat} {t : TypeId} {x0 x1 x2 x3 x4 x5 x6 x7 : Value} (h : B8 w g t x0 x1 x2 x3 x4 x5 x6 x7) : w.cell? ⟨g, 0, none⟩ = some x0 := by unfold B8 at h; simp [World.cell?, h]
theorem B8.f0 {w : World} {g : Nat} {t : TypeId} {x0 x1 x2 x3 x4 x5 x6 x7 : Value} (h : B8 w g t x0 x1 x2 x3 x4 x5 x6 x7) : w.frozen? ⟨g, 0, none⟩ = false := by unfold B8 at h; simp [World.frozen?, h]
theorem B8.c1 {w : World} {g : Nat} {t : TypeId} {x0 x1 x2 x3 x4 x5 x6 x7 : Value} (h : B8 w g t x0 x1 x2 x3 x4 x5 x6 x7) : w.cell? ⟨g, 1, none⟩ = some x1 := by unfold B8 at h; simp [World.cell?, h]
theorem B8.f1 {w : World} {g : Nat} {t : TypeId} {x0 x1 x2 x3 x4 x5 x6 x7 : Value} (h : B8 w g t x0 x1 x2 x3 x4 x5 x6 x7) : w.frozen? ⟨g, 1, none⟩ = false := by unfold B8 at h; simp [World.frozen?, h]
theorem B8.c2 {w : World} {g : Nat} {t : TypeId} {x0 x1 x2 x3 x4 x5 x6 x7 : Value} (h : B8 w g t x0 x1 x2 x3 x4 x5 x6 x7) : w.cell? ⟨g, 2, none⟩ = some x2 := by unfold B8 at h; simp [World.cell?, h]
theorem B8.f2 {w : World} {g : Nat} {t : TypeId} {x0 x1 x2 x3 x4 x5 x6 x7 : Value} (h : B8 w g t x0 x1 x2 x3 x4 x5 x6 x7) : w.frozen? ⟨g, 2, none⟩ = false := by unfold B8 at h; simp [World.frozen?, h]
theorem B8.c3 {w : World} {g : Nat} {t : TypeId} {x0 x1 x2 x3 x4 x5 x6 x7 : Value} (h : B8 w g t x0 x1 x2 x3 x4 x5 x6 x7) : w.cell? ⟨g, 3, none⟩ = some x3 := by unfold B8 at h; simp [World.cell?, h]
theorem B8.f3 {w : World} {g : Nat} {t : TypeId} {x0 x1 x2 x3 x4 x5 x6 x7 : Value} (h : B8 w g t x0 x1 x2 x3 x4 x5 x6 x7) : w.frozen? ⟨g, 3, none⟩ = false := by unfold B8 at h; simp [World.frozen?, h]
theorem B8.c4 {w : World} {g : Nat} {t : TypeId} {x0 x1 x2 x3 x4 x5 x6 x7 : Value} (h : B8 w g t x0 x1 x2 x3 x4 x5 x6 x7) : w.cell? ⟨g, 4, none⟩ = some x4 := by unfold B8 at h; simp [World.cell?, h]
theorem B8.f4 {w : World} {g : Nat} {t : TypeId} {x0 x1 x2 x3 x4 x5 x6 x7 : Value} (h : B8 w g t x0 x1 x2 x3 x4 x5 x6 x7) : w.frozen? ⟨g, 4, none⟩ = false := by unfold B8 at h; simp [World.frozen?, h]
theorem B8.c5 {w : World} {g : Nat} {t : TypeId} {x0 x1 x2 x3 x4 x5 x6 x7 : Value} (h : B8 w g t x0 x1 x2 x3 x4 x5 x6 x7) : w.cell? ⟨g, 5, none⟩ = some x5 := by unfold B8 at h; simp [World.cell?, h]
theorem B8.f5 {w : World} {g : Nat} {t : TypeId} {x0 x1 x2 x3 x4 x5 x6 x7 : Value} (h : B8 w g t x0 x1 x2 x3 x4 x5 x6 x7) : w.frozen? ⟨g, 5, none⟩ = false := by unfold B8 at h; simp [World.frozen?, h]
theorem B8.c6 {w : World} {g : Nat} {t : TypeId} {x0 x1 x2 x3 x4 x5 x6 x7 : Value} (h : B8 w g t x0 x1 x2 x3 x4 x5 x6 x7) : w.cell? ⟨g, 6, none⟩ = some x6 := by unfold B8 at h; simp [World.cell?, h]
theorem B8.f6 {w : World} {g : Nat} {t : TypeId} {x0 x1 x2 x3 x4 x5 x6 x7 : Value} (h : B8 w g t x0 x1 x2 x3 x4 x5 x6 x7) : w.frozen? ⟨g, 6, none⟩ = false := by unfold B8 at h; simp [World.frozen?, h]
theorem B8.c7 {w : World} {g : Nat} {t : TypeId} {x0 x1 x2 x3 x4 x5 x6 x7 : Value} (h : B8 w g t x0 x1 x2 x3 x4 x5 x6 x7) : w.cell? ⟨g, 7, none⟩ = some x7 := by unfold B8 at h; simp [World.cell?, h]
theorem B8.f7 {w : World} {g : Nat} {t : TypeId} {x0 x1 x2 x3 x4 x5 x6 x7 : Value} (h : B8 w g t x0 x1 x2 x3 x4 x5 x6 x7) : w.frozen? ⟨g, 7, none⟩ = false := by unfold B8 at h; simp [World.frozen?, h]

theorem B8.kept {w w' : World} {g : Nat} {t : TypeId} {x0 x1 x2 x3 x4 x5 x6 x7 : Value} (h : B8 w g t x0 x1 x2 x3 x4 x5 x6 x7) (hg : w.grownBy w' none) : B8 w' g t x0 x1 x2 x3 x4 x5 x6 x7 := (hg.block g h.lt (by simp)).trans h
theorem B8.keptS {S : Nat → Prop} {w w' : World} {g : Nat} {t : TypeId} {x0 x1 x2 x3 x4 x5 x6 x7 : Value} (h : B8 w g t x0 x1 x2 x3 x4 x5 x6 x7) (hg : Gs S w w') (hn : ¬ S g) : B8 w' g t x0 x1 x2 x3 x4 x5 x6 x7 := (hg.block g h.lt hn).trans h
theorem B8.set {w : World} {g : Nat} {t : TypeId} {x0 x1 x2 x3 x4 x5 x6 x7 : Value} (h : B8 w g t x0 x1 x2 x3 x4 x5 x6 x7) (y0 y1 y2 y3 y4 y5 y6 y7 : Value) :
    B8 ((((((((w.setCell ⟨g, 0, none⟩ y0).setCell ⟨g, 1, none⟩ y1).setCell ⟨g, 2, none⟩ y2).setCell ⟨g, 3, none⟩ y3).setCell ⟨g, 4, none⟩ y4).setCell ⟨g, 5, none⟩ y5).setCell ⟨g, 6, none⟩ y6).setCell ⟨g, 7, none⟩ y7) g t y0 y1 y2 y3 y4 y5 y6 y7 := by
  unfold B8 at h ⊢
  simp [World.setCell, Array.getElem?_modify, h]

theorem ret_box8 {P : Program} {fn : Func} {R : Ending → World → Prop} {a : Act} {w : World} {p u : Tmp} {ty e : TypeId} {l : Nat} (h : fn.results = #[.cell p ty, .tmp u]) {g : Nat} {t : TypeId} {x0 x1 x2 x3 x4 x5 x6 x7 : Value}
    (hu : P.underlying ty = some (.array l e)) (hi : (P.info? ty).map (·.size) = some 8) (hp : a.tmps.getD p undef = .pointer (some ⟨g, 0, none⟩)) (hg : B8 w g t x0 x1 x2 x3 x4 x5 x6 x7) (hdf : a.defers = []) (hR : R (.returned (.tuple #[.agg #[x0, x1, x2, x3, x4, x5, x6, x7], a.tmps.getD u undef])) w) :
    bodyPost P fn R .ret a w := by
  refine bodyPost_ret ?_ hdf hR
  have hp' : a.tmps[p]?.getD undef = .pointer (some ⟨g, 0, none⟩) := by simpa using hp
  simp [results, h, hp', asAddr, run_loadVar_row w g t ty #[x0, x1, x2, x3, x4, x5, x6, x7] (0, 0) (.array l e) hg hu rfl hi]

theorem Row.far8 {w : World} {t : TypeId} {b n g : Nat} {p : Nat → Bool} (h : Row w t b n p) (hne : b ≠ g) (y0 y1 y2 y3 y4 y5 y6 y7 : Value) :
    Row ((((((((w.setCell ⟨g, 0, none⟩ y0).setCell ⟨g, 1, none⟩ y1).setCell ⟨g, 2, none⟩ y2).setCell ⟨g, 3, none⟩ y3).setCell ⟨g, 4, none⟩ y4).setCell ⟨g, 5, none⟩ y5).setCell ⟨g, 6, none⟩ y6).setCell ⟨g, 7, none⟩ y7) t b n p :=
  World.rowIs.setOther (World.rowIs.setOther (World.rowIs.setOther (World.rowIs.setOther (World.rowIs.setOther (World.rowIs.setOther (World.rowIs.setOther (World.rowIs.setOther h hne _) hne _) hne _) hne _) hne _) hne _) hne _) hne _
theorem gb_new8 {w w' : World} {g : Nat} (h : w.grownBy w' none) (hb : w.heap.size ≤ g) (y0 y1 y2 y3 y4 y5 y6 y7 : Value) :
    w.grownBy ((((((((w'.setCell ⟨g, 0, none⟩ y0).setCell ⟨g, 1, none⟩ y1).setCell ⟨g, 2, none⟩ y2).setCell ⟨g, 3, none⟩ y3).setCell ⟨g, 4, none⟩ y4).setCell ⟨g, 5, none⟩ y5).setCell ⟨g, 6, none⟩ y6).setCell ⟨g, 7, none⟩ y7) none :=
  gb_new (gb_new (gb_new (gb_new (gb_new (gb_new (gb_new (gb_new h hb _) hb _) hb _) hb _) hb _) hb _) hb _) hb _

theorem ix0 (x0 x1 x2 x3 : Value) (w : World) : (Instr.index 184 (.agg #[x0, x1, x2, x3]) (.int .i64 0)).run Tryz.prog w = .ok x0 w := by kernel_rfl
theorem ix1 (x0 x1 x2 x3 : Value) (w : World) : (Instr.index 184 (.agg #[x0, x1, x2, x3]) (.int .i64 1)).run Tryz.prog w = .ok x1 w := by kernel_rfl
theorem ix2 (x0 x1 x2 x3 : Value) (w : World) : (Instr.index 184 (.agg #[x0, x1, x2, x3]) (.int .i64 2)).run Tryz.prog w = .ok x2 w := by kernel_rfl
theorem ix3 (x0 x1 x2 x3 : Value) (w : World) : (Instr.index 184 (.agg #[x0, x1, x2, x3]) (.int .i64 3)).run Tryz.prog w = .ok x3 w := by kernel_rfl

/-- Digit d of the count, up to word i. -/
def upTo (P : Nat → Nat → Bool) (k d i t : Nat) : Bool := if t < 64 * i then dgF P k d t else false

set_option maxHeartbeats 1000000 in
theorem countC (P : Nat → Nat → Bool) (q k cap n m : Nat) (sp : Option Addr) (caps : Nat → Nat) (sps : Nat → Option Addr) (hsp : 0 < k → sp = some ⟨q, 0, none⟩) (hk : k ≤ 15) (hm : m ≤ 65538) (hn : n = (m + 63) / 64) (hk0 : k = 0 → m = 0) (M : ∀ j, j < k → MayBe m n (P j)) (w : World) (h : Rws w q k (fun j => ⟨m, sps j, n, caps j, Pk.pack (P j)⟩)) :
    Calls Tryz.prog 94 #[.slice sp k cap] w fun e w' => ∃ b0 b1 b2 b3, e = .returned (.tuple #[.agg #[.int .i64 m, .slice (some ⟨b0, 0, none⟩) n n, .int .i64 m, .slice (some ⟨b1, 0, none⟩) n n, .int .i64 m, .slice (some ⟨b2, 0, none⟩) n n, .int .i64 m, .slice (some ⟨b3, 0, none⟩) n n], .int .i64 0]) ∧ Row w' 37 b0 n (dgF P k 0) ∧ Row w' 37 b1 n (dgF P k 1) ∧ Row w' 37 b2 n (dgF P k 2) ∧ Row w' 37 b3 n (dgF P k 3) ∧ w.grownBy w' none ∧ w.heap.size ≤ b0 ∧ w.heap.size ≤ b1 ∧ w.heap.size ≤ b2 ∧ w.heap.size ≤ b3 := by
  obtain ⟨W1, hW1, hR1, sz1, g1⟩ := box8 w 119 (.int .i64 0) (.slice none 0 0) (.int .i64 0) (.slice none 0 0) (.int .i64 0) (.slice none 0 0) (.int .i64 0) (.slice none 0 0)
  have hak := alikeC q k cap _ sp hsp (by omega) W1 (h.kept g1)
  have hz : alikeZ (fun j => (⟨m, sps j, n, caps j, Pk.pack (P j)⟩ : RD)) k = 0 := by
    unfold alikeZ
    rw [allV_yes (r := fun j => (⟨m, sps j, n, caps j, Pk.pack (P j)⟩ : RD)) (fun j hj => validB_may (M j hj)), allN_yes (r := fun j => (⟨m, sps j, n, caps j, Pk.pack (P j)⟩ : RD)) (fun j hj => rfl)]
    rfl
  rw [hz] at hak
  have hbl := blankC m hm
  have hwf := wordsForC m (by omega)
  rw [← hn] at hbl hwf
  have hnl : n ≤ 1025 := by omega
  have hkl : (k : Int) ≤ 15 := by omega
  have hkd : decide ((15 : Int) < (k : Int)) = false := by simp; omega
  have i0 := ix0
  have i1 := ix1
  have i2 := ix2
  have i3 := ix3
  clear hz M
  have HN : Hid (n = (m + 63) / 64) := hn
  clear hn
  have q1 : w.heap.size < W1.heap.size := by have := sz1.out; omega
  by_cases hk1 : k = 0
  · have hm0 := hk0 hk1
    subst hm0
    have hn0 : n = 0 := HN.out
    subst hn0
    subst hk1
    go_enter Tryz.func94, Tryz.ntmps94
    go_wp2_with (first | (go_at_call 114; refine hak.mono ?_; rintro e w2 ⟨rfl, g2⟩) | (go_at_call 80; (fail_if_success (guard_hyp w3)); refine (hbl w2).mono ?_; rintro e w3 ⟨b0, rfl, r0, g3, l0, m0⟩) | (go_at_call 80; (fail_if_success (guard_hyp w4)); refine (hbl w3).mono ?_; rintro e w4 ⟨b1, rfl, r1, g4, l1, m1⟩) | (go_at_call 80; (fail_if_success (guard_hyp w5)); refine (hbl w4).mono ?_; rintro e w5 ⟨b2, rfl, r2, g5, l2, m2⟩) | (go_at_call 80; refine (hbl w5).mono ?_; rintro e w6 ⟨b3, rfl, r3, g6, l3, m3⟩; obtain ⟨W7, hW7, hB7, sz7, g7⟩ := box8 w6 119 (.int .i64 0) (.slice (some ⟨b0, 0, none⟩) 0 0) (.int .i64 0) (.slice (some ⟨b1, 0, none⟩) 0 0) (.int .i64 0) (.slice (some ⟨b2, 0, none⟩) 0 0) (.int .i64 0) (.slice (some ⟨b3, 0, none⟩) 0 0)) | (go_at_call 54; refine (hwf W7).mono ?_; rintro e w' ⟨rfl, hw'⟩; subst w'))
    refine wp_loop_rounds 1 ?_
    rw [rounds_succ]
    have hRi := hR1.kept (gb_trans g2 (gb_trans g3 (gb_trans g4 (gb_trans g5 (gb_trans g6 g7)))))
    have G7 : w.grownBy W7 none := gb_trans g1 (gb_trans g2 (gb_trans g3 (gb_trans g4 (gb_trans g5 (gb_trans g6 g7)))))
    have r07 := (((r0.kept g4 (by simp)).kept g5 (by simp)).kept g6 (by simp)).kept g7 (by simp)
    have r17 := ((r1.kept g5 (by simp)).kept g6 (by simp)).kept g7 (by simp)
    have r27 := (r2.kept g6 (by simp)).kept g7 (by simp)
    have r37 := r3.kept g7 (by simp)
    have z2 := g2.size
    have z3 := g3.size
    have z4 := g4.size
    have z5 := g5.size
    have t0 := hB7.c0
    have y0 := hRi.c0
    have x0 := hRi.f0
    have t1 := hB7.c1
    have y1 := hRi.c1
    have x1 := hRi.f1
    have t2 := hB7.c2
    have y2 := hRi.c2
    have x2 := hRi.f2
    have t3 := hB7.c3
    have y3 := hRi.c3
    have x3 := hRi.f3
    have t4 := hB7.c4
    have y4 := hRi.c4
    have x4 := hRi.f4
    have t5 := hB7.c5
    have y5 := hRi.c5
    have x5 := hRi.f5
    have t6 := hB7.c6
    have y6 := hRi.c6
    have x6 := hRi.f6
    have t7 := hB7.c7
    have y7 := hRi.c7
    have x7 := hRi.f7
    go_wp2
    refine ret_box8 (g := w.heap.size) (t := 119) rfl underC infoC rfl (hRi.set _ _ _ _ _ _ _ _) rfl ?_
    have N0 : b0 ≠ w.heap.size := by omega
    have N1 : b1 ≠ w.heap.size := by omega
    have N2 : b2 ≠ w.heap.size := by omega
    have N3 : b3 ≠ w.heap.size := by omega
    exact ⟨b0, b1, b2, b3, rfl, (Row.far8 (r07.congr (fun t ht => by omega)) N0 _ _ _ _ _ _ _ _), (Row.far8 (r17.congr (fun t ht => by omega)) N1 _ _ _ _ _ _ _ _), (Row.far8 (r27.congr (fun t ht => by omega)) N2 _ _ _ _ _ _ _ _), (Row.far8 (r37.congr (fun t ht => by omega)) N3 _ _ _ _ _ _ _ _), gb_new8 G7 (Nat.le_refl _) _ _ _ _ _ _ _ _, by omega, by omega, by omega, by omega⟩
  · obtain rfl := hsp (by omega)
    have hkp : (0 : Int) < (k : Int) := by omega
    go_enter Tryz.func94, Tryz.ntmps94
    go_wp2_with (first | (go_at_call 114; refine hak.mono ?_; rintro e w2 ⟨rfl, g2⟩; have y0 := ((h.kept (gb_trans g1 g2)) 0 (by omega)).1; rw [Nat.zero_mul] at y0) | (go_at_call 80; (fail_if_success (guard_hyp w3)); refine (hbl w2).mono ?_; rintro e w3 ⟨b0, rfl, r0, g3, l0, m0⟩) | (go_at_call 80; (fail_if_success (guard_hyp w4)); refine (hbl w3).mono ?_; rintro e w4 ⟨b1, rfl, r1, g4, l1, m1⟩) | (go_at_call 80; (fail_if_success (guard_hyp w5)); refine (hbl w4).mono ?_; rintro e w5 ⟨b2, rfl, r2, g5, l2, m2⟩) | (go_at_call 80; refine (hbl w5).mono ?_; rintro e w6 ⟨b3, rfl, r3, g6, l3, m3⟩; obtain ⟨W7, hW7, hB7, sz7, g7⟩ := box8 w6 119 (.int .i64 m) (.slice (some ⟨b0, 0, none⟩) n n) (.int .i64 m) (.slice (some ⟨b1, 0, none⟩) n n) (.int .i64 m) (.slice (some ⟨b2, 0, none⟩) n n) (.int .i64 m) (.slice (some ⟨b3, 0, none⟩) n n)) | (go_at_call 54; refine (hwf W7).mono ?_; rintro e w' ⟨rfl, hw'⟩; subst w'))
    have v0 := l0
    have sB : Hid (w6.heap.size < W7.heap.size) := by have := sz7.out; unfold Hid; omega
    have u0 := m0.out
    have u1 := m1.out
    have u2 := m2.out
    have u3 := m3.out
    have z2 := g2.size
    have z3 := g3.size
    have z4 := g4.size
    have z5 := g5.size
    have z6 := g6.size
    have n01 : b0 ≠ b1 := by omega
    have n02 : b0 ≠ b2 := by omega
    have n03 : b0 ≠ b3 := by omega
    have n12 : b1 ≠ b2 := by omega
    have n13 : b1 ≠ b3 := by omega
    have n23 : b2 ≠ b3 := by omega
    have nB0 : w6.heap.size ≠ b0 := by omega
    have nB1 : w6.heap.size ≠ b1 := by omega
    have nB2 : w6.heap.size ≠ b2 := by omega
    have nB3 : w6.heap.size ≠ b3 := by omega
    have G7 : w.grownBy W7 none := gb_trans g1 (gb_trans g2 (gb_trans g3 (gb_trans g4 (gb_trans g5 (gb_trans g6 g7)))))
    have r07 := (((r0.kept g4 (by simp)).kept g5 (by simp)).kept g6 (by simp)).kept g7 (by simp)
    have r17 := ((r1.kept g5 (by simp)).kept g6 (by simp)).kept g7 (by simp)
    have r27 := (r2.kept g6 (by simp)).kept g7 (by simp)
    have r37 := r3.kept g7 (by simp)
    have hS : ∀ i, (i = b0 ∨ i = b1 ∨ i = b2 ∨ i = b3) → w.heap.size ≤ i := by intro i hi; omega
    clear r0 r1 r2 r3
    have E : ∀ i d, Pk.pack (dgF P k d) i = Pk.pack (upTo P k d (i + 1)) i := fun i d => Pk.pack_congr fun j hj => by unfold upTo; rw [if_pos (by omega)]
    have F : ∀ i d t, t < 64 * n → t / 64 ≠ i → upTo P k d i t = upTo P k d (i + 1) t := fun i d t ht hne => by
      unfold upTo
      by_cases h : t < 64 * i
      · rw [if_pos h, if_pos (by omega)]
      · rw [if_neg h, if_neg (by omega)]
    have EF : Hid ((∀ i d, Pk.pack (dgF P k d) i = Pk.pack (upTo P k d (i + 1)) i) ∧ ∀ i d t, t < 64 * n → t / 64 ≠ i → upTo P k d i t = upTo P k d (i + 1) t) := ⟨E, F⟩
    clear E F
    go_loopw [38] (fun x wr => ∃ i : Nat, i ≤ n ∧ x = .int .i64 i ∧ Row wr 37 b0 n (upTo P k 0 i) ∧ Row wr 37 b1 n (upTo P k 1 i) ∧ Row wr 37 b2 n (upTo P k 2 i) ∧ Row wr 37 b3 n (upTo P k 3 i) ∧ Gs (fun j => j = b0 ∨ j = b1 ∨ j = b2 ∨ j = b3) W7 wr) (fun x _ => n - (intOf x).toNat)
    case atStart => exact ⟨0, Nat.zero_le _, rfl, r07.congr fun t ht => by simp [upTo], r17.congr fun t ht => by simp [upTo], r27.congr fun t ht => by simp [upTo], r37.congr fun t ht => by simp [upTo], Gs.refl _ _⟩
    case round =>
      obtain ⟨i, hi, rfl, p0, p1, p2, p3, hgi⟩ := hrel
      have hGi : w.grownBy wr none := Gs.past G7 hgi hS
      have hBi := hB7.keptS hgi (by omega)
      by_cases hlt : i < n
      · have hlt' : (i : Int) < (n : Int) := by omega
        have hsa := sumAtC P q k cap n i m (some ⟨q, 0, none⟩) caps sps (fun _ => rfl) hk hnl hlt wr (h.kept hGi)
        go_wp2_with (first | (go_at_call 115; refine hsa.mono ?_; rintro e w8 ⟨rfl, g8⟩; have hB8 := hBi.kept g8; have c1 := hB8.c1; have c3 := hB8.c3; have c5 := hB8.c5; have c7 := hB8.c7; have s0 := p0.kept g8 (by simp); have s1 := p1.kept g8 (by simp); have s2 := p2.kept g8 (by simp); have s3 := p3.kept g8 (by simp); have d0 := World.rowIs.cell s0 hlt; have d1 := World.rowIs.cell s1 hlt; have d2 := World.rowIs.cell s2 hlt; have d3 := World.rowIs.cell s3 hlt; have f0 := World.rowIs.frozen s0 i; have f1 := World.rowIs.frozen s1 i; have f2 := World.rowIs.frozen s2 i; have f3 := World.rowIs.frozen s3 i))
        refine wp_loop_rounds 5 ?_
        rw [rounds_succ]
        go_wp2
        rw [rounds_succ]
        go_wp2
        rw [rounds_succ]
        go_wp2
        rw [rounds_succ]
        go_wp2
        rw [rounds_succ]
        go_wp2
        go_roundw
        case rel =>
          obtain ⟨E, F⟩ := EF.out
          exact ⟨i + 1, by omega, by go_num, (World.rowIs.setOther (World.rowIs.setOther (World.rowIs.setOther (Row.set (q := upTo P k 0 (i + 1)) s0 (E i 0) (F i 0)) n01 _) n02 _) n03 _), (World.rowIs.setOther (World.rowIs.setOther (Row.set (q := upTo P k 1 (i + 1)) (World.rowIs.setOther s1 (Ne.symm n01) _) (E i 1) (F i 1)) n12 _) n13 _), (World.rowIs.setOther (Row.set (q := upTo P k 2 (i + 1)) (World.rowIs.setOther (World.rowIs.setOther s2 (Ne.symm n02) _) (Ne.symm n12) _) (E i 2) (F i 2)) n23 _), (Row.set (q := upTo P k 3 (i + 1)) (World.rowIs.setOther (World.rowIs.setOther (World.rowIs.setOther s3 (Ne.symm n03) _) (Ne.symm n13) _) (Ne.symm n23) _) (E i 3) (F i 3)), (((((hgi.gb g8).set ⟨b0, i, none⟩ (.inl rfl) _).set ⟨b1, i, none⟩ (.inr (.inl rfl)) _).set ⟨b2, i, none⟩ (.inr (.inr (.inl rfl))) _).set ⟨b3, i, none⟩ (.inr (.inr (.inr rfl))) _)⟩
        case measure => simp [intOf]; omega
      · have hlt' : ¬ (i : Int) < (n : Int) := by omega
        have t0 := hBi.c0
        have t1 := hBi.c1
        have t2 := hBi.c2
        have t3 := hBi.c3
        have t4 := hBi.c4
        have t5 := hBi.c5
        have t6 := hBi.c6
        have t7 := hBi.c7
        have hRi := (hR1.kept (gb_trans g2 (gb_trans g3 (gb_trans g4 (gb_trans g5 (gb_trans g6 g7)))))).keptS hgi (by omega)
        have y0 := hRi.c0
        have y1 := hRi.c1
        have y2 := hRi.c2
        have y3 := hRi.c3
        have y4 := hRi.c4
        have y5 := hRi.c5
        have y6 := hRi.c6
        have y7 := hRi.c7
        have x0 := hRi.f0
        have x1 := hRi.f1
        have x2 := hRi.f2
        have x3 := hRi.f3
        have x4 := hRi.f4
        have x5 := hRi.f5
        have x6 := hRi.f6
        have x7 := hRi.f7
        go_wp2
        refine ret_box8 (g := w.heap.size) (t := 119) rfl underC infoC rfl (hRi.set _ _ _ _ _ _ _ _) rfl ?_
        have hin : i = n := by omega
        have N0 : b0 ≠ w.heap.size := by omega
        have N1 : b1 ≠ w.heap.size := by omega
        have N2 : b2 ≠ w.heap.size := by omega
        have N3 : b3 ≠ w.heap.size := by omega
        have fin : ∀ d t, t < 64 * n → upTo P k d i t = dgF P k d t := fun d t ht => by unfold upTo; rw [if_pos (by omega)]
        exact ⟨b0, b1, b2, b3, rfl, (Row.far8 (p0.congr (fin 0)) N0 _ _ _ _ _ _ _ _), (Row.far8 (p1.congr (fin 1)) N1 _ _ _ _ _ _ _ _), (Row.far8 (p2.congr (fin 2)) N2 _ _ _ _ _ _ _ _), (Row.far8 (p3.congr (fin 3)) N3 _ _ _ _ _ _ _ _), gb_new8 hGi (Nat.le_refl _) _ _ _ _ _ _ _ _, by omega, by omega, by omega, by omega⟩

end Go.Proofs.YthjiiljglgmkpaaGreatDoor.Wo
namespace Go.Proofs.YthjiiljglgmkpaaGreatDoor.Wo
open Go.RowKit
set_option linter.unusedVariables false

/-- The first d digits are those of v. -/
def isN (pp : Nat → Nat → Bool) (v : Nat) : Nat → Nat → Bool
  | 0, _ => true
  | d + 1, t => isN pp v d t && (if v.testBit d then pp d t else !pp d t)

theorem bit_i64 (v d : Nat) (hv : v ≤ 15) : bits .and .i64 ((v : Int) / 2 ^ d) 1 = ((v / 2 ^ d % 2 : Nat) : Int) := by
  have e0 : ((v / 2 ^ d : Nat) : Int) = (v : Int) / 2 ^ d := by simp
  have hle : v / 2 ^ d ≤ 15 := Nat.le_trans (Nat.div_le_self _ _) hv
  rw [← e0]
  generalize v / 2 ^ d = x at hle
  have hm := bits_mask .i64 63 (by decide) (fun n h0 h1 => by rw [IntKind.wrap_i64]; omega) 1 (by decide) (x : Int) (by omega) (by omega)
  have e1 : ((2 : Int) ^ 1 - 1) = 1 := by decide
  have e2 : ((2 : Int) ^ 1) = 2 := by decide
  rw [e1, e2] at hm
  rw [hm]
  omega

theorem andNotW (x y : Nat) (hx : x < 18446744073709551616) (hy : y < 18446744073709551616) : bits .andNot .u64 (x : Int) (y : Int) = ((x &&& (18446744073709551615 ^^^ y) : Nat) : Int) := by
  have hr : x &&& (18446744073709551615 ^^^ y) < 18446744073709551616 := Nat.lt_of_le_of_lt Nat.and_le_left hx
  unfold bits
  simp only [BitVec.ofInt_natCast]
  have hb : (BitVec.ofNat 64 x &&& ~~~ BitVec.ofNat 64 y).toNat = x &&& (18446744073709551615 ^^^ y) := by
    rw [BitVec.toNat_and, BitVec.toNat_ofNat, Nat.mod_eq_of_lt hx, BitVec.not_def, BitVec.toNat_xor, BitVec.toNat_ofNat, Nat.mod_eq_of_lt hy]
    rfl
  have hf : IntKind.u64.wrap (((BitVec.ofNat 64 x &&& ~~~ BitVec.ofNat 64 y).toNat : Nat) : Int) = ((x &&& (18446744073709551615 ^^^ y) : Nat) : Int) := by
    rw [hb, IntKind.wrap_u64]
    omega
  exact hf

theorem pack_andNot (p q : Nat → Bool) (k : Nat) : Pk.pack p k &&& (18446744073709551615 ^^^ Pk.pack q k) = Pk.pack (fun i => p i && !q i) k := by
  rw [Nat.xor_comm, Pk.pack_not, Pk.pack_and]

theorem pack_all (k : Nat) : Pk.pack (fun _ => true) k = 18446744073709551615 := by
  have h := Pk.pack_not (fun _ => false) k
  rw [Pk.pack_zero, Nat.zero_xor] at h
  exact h.symm

theorem iy0 (x0 x1 x2 x3 x4 x5 x6 x7 : Value) (w : World) : (Instr.index 119 (.agg #[x0, x1, x2, x3, x4, x5, x6, x7]) (.int .i64 0)).run Tryz.prog w = .ok (.agg #[x0, x1]) w := by kernel_rfl
theorem iy1 (x0 x1 x2 x3 x4 x5 x6 x7 : Value) (w : World) : (Instr.index 119 (.agg #[x0, x1, x2, x3, x4, x5, x6, x7]) (.int .i64 1)).run Tryz.prog w = .ok (.agg #[x2, x3]) w := by kernel_rfl
theorem iy2 (x0 x1 x2 x3 x4 x5 x6 x7 : Value) (w : World) : (Instr.index 119 (.agg #[x0, x1, x2, x3, x4, x5, x6, x7]) (.int .i64 2)).run Tryz.prog w = .ok (.agg #[x4, x5]) w := by kernel_rfl
theorem iy3 (x0 x1 x2 x3 x4 x5 x6 x7 : Value) (w : World) : (Instr.index 119 (.agg #[x0, x1, x2, x3, x4, x5, x6, x7]) (.int .i64 3)).run Tryz.prog w = .ok (.agg #[x6, x7]) w := by kernel_rfl

theorem isC (m n v : Nat) (cs : Nat → Nat) (ss : Nat → Option Addr) (pp : Nat → Nat → Bool) (M : ∀ d, d < 4 → MayBe m n (pp d)) (hv : v ≤ 15) (w : World) (h : ∀ d, d < 4 → Wd w (ss d) n (Pk.pack (pp d))) :
    Calls Tryz.prog 92 #[.agg #[.int .i64 m, .slice (ss 0) n (cs 0), .int .i64 m, .slice (ss 1) n (cs 1), .int .i64 m, .slice (ss 2) n (cs 2), .int .i64 m, .slice (ss 3) n (cs 3)], .int .i64 v] w fun e w' => ∃ b, e = .returned (.tuple #[.agg #[.int .i64 m, .slice (some ⟨b, 0, none⟩) n n], .int .i64 0]) ∧ Row w' 37 b n (fun t => isN pp v 4 t && decide (t < m)) ∧ w.grownBy w' none ∧ w.heap.size ≤ b := by
  obtain ⟨W1, hW1, hA, sz1, g1⟩ := box8 w 119 (.int .i64 m) (.slice (ss 0) n (cs 0)) (.int .i64 m) (.slice (ss 1) n (cs 1)) (.int .i64 m) (.slice (ss 2) n (cs 2)) (.int .i64 m) (.slice (ss 3) n (cs 3))
  obtain ⟨W2, hW2, d0, d1, sz2, g2, hR⟩ := box2 W1 (.int .i64 0) (.slice none 0 0) 33
  have G2 := gb_trans g1 g2
  have hA2 := hA.kept g2
  have hm := (M 0 (by decide)).le
  have hnl := (MayBe.len (M 0 (by decide)))
  have HN : Hid (n = (m + 63) / 64) := (M 0 (by decide)).words
  have hR2 : Rws W2 w.heap.size 4 (fun j => (⟨m, ss j, n, cs j, Pk.pack (pp j)⟩ : RD)) := by
    intro j hj
    have hw := (h j hj).kept G2 (by simp)
    have hok : RD.ok W2 (⟨m, ss j, n, cs j, Pk.pack (pp j)⟩ : RD) := ⟨hw, fun k _ => Pk.pack_lt _ _, by show n ≤ _; omega⟩
    rcases (show j = 0 ∨ j = 1 ∨ j = 2 ∨ j = 3 by omega) with rfl | rfl | rfl | rfl
    · exact ⟨hA2.c0, hA2.c1, hok⟩
    · exact ⟨hA2.c2, hA2.c3, hok⟩
    · exact ⟨hA2.c4, hA2.c5, hok⟩
    · exact ⟨hA2.c6, hA2.c7, hok⟩
  have hak := alikeC w.heap.size 4 4 _ (some ⟨w.heap.size, 0, none⟩) (fun _ => rfl) (by omega) W2 hR2
  have hz : alikeZ (fun j => (⟨m, ss j, n, cs j, Pk.pack (pp j)⟩ : RD)) 4 = 0 := by
    unfold alikeZ
    rw [allV_yes (r := (fun j => (⟨m, ss j, n, cs j, Pk.pack (pp j)⟩ : RD))) (fun j hj => validB_may (M j hj)), allN_yes (r := (fun j => (⟨m, ss j, n, cs j, Pk.pack (pp j)⟩ : RD))) (fun j hj => rfl)]
    rfl
  rw [hz] at hak
  clear hz hR2
  have hbl := blankC m hm
  rw [← HN.out] at hbl
  have hv0 : decide ((v : Int) < 0) = false := by simp
  have hv1 : decide ((15 : Int) < (v : Int)) = false := by simp; omega
  have a0 := hA2.c0
  have q1 : w.heap.size < W1.heap.size := by have := sz1.out; omega
  have q2 : W1.heap.size < W2.heap.size := by have := sz2.out; omega
  go_enter Tryz.func92, Tryz.ntmps92
  go_wp2_with (first | (go_at_call 114; refine hak.mono ?_; rintro e w3 ⟨rfl, g3⟩; have hA3 := hA2.kept g3; have b0 := hA3.c0) | (go_at_call 80; refine (hbl w3).mono ?_; rintro e w4 ⟨b, rfl, r4, g4, l4, m4⟩; obtain ⟨W5, hW5, y0, y1, sz5, g5, hU⟩ := box2 w4 (.int .i64 m) (.slice (some ⟨b, 0, none⟩) n n) 33))
  have g45 := gb_trans g4 g5
  have r5 := r4.kept g5 (by simp)
  have hA5 := hA3.kept g45
  have hR5 := (hR.kept g3 (by simp)).kept g45 (by simp)
  have G5 : w.grownBy W5 none := gb_trans G2 (gb_trans g3 g45)
  have z3 := g3.size
  have z4 := g4.size
  have z5 := m4.out
  have z6 : w4.heap.size < W5.heap.size := by have := sz5.out; omega
  have hwb : w.heap.size ≤ b := by omega
  go_loopw [32] (fun x wr => ∃ i : Nat, i ≤ n ∧ x = .int .i64 i ∧ Row wr 37 b n (fun t => if t < 64 * i then isN pp v 4 t else false) ∧ W5.grownBy wr (some b)) (fun x _ => n - (intOf x).toNat)
  case atStart => exact ⟨0, Nat.zero_le _, rfl, r5.congr fun t ht => by simp, World.grownBy.refl _ _⟩
  case round =>
    obtain ⟨i, hi, rfl, hri, hgi⟩ := hrel
    have hGi : w.grownBy wr none := gb_past G5 hgi hwb
    have hUi := hU.kept hgi (by simp; omega)
    have u0 := hUi.cell0
    have u1 := hUi.cell1
    by_cases hlt : i < n
    · have hlt' : (i : Int) < (n : Int) := by omega
      have hAi : B8 wr w.heap.size 119 (.int .i64 m) (.slice (ss 0) n (cs 0)) (.int .i64 m) (.slice (ss 1) n (cs 1)) (.int .i64 m) (.slice (ss 2) n (cs 2)) (.int .i64 m) (.slice (ss 3) n (cs 3)) := (hgi.block _ (by omega) (by simp; omega)).trans hA5
      have c0 := hAi.c0
      have c1 := hAi.c1
      have c2 := hAi.c2
      have c3 := hAi.c3
      have c4 := hAi.c4
      have c5 := hAi.c5
      have c6 := hAi.c6
      have c7 := hAi.c7
      go_wp2
      go_loopw [9, 36] (fun x y wr' => ∃ d : Nat, d ≤ 4 ∧ y = .int .i64 d ∧ x = .int .u64 (Pk.pack (isN pp v d) i) ∧ wr.grownBy wr' none) (fun _ y _ => 4 - (intOf y).toNat)
      case atStart => exact ⟨0, by omega, rfl, by rw [Pk.pack_congr (p := isN pp v 0) (q := fun _ => true) fun t ht => rfl, pack_all]; rfl, World.grownBy.refl _ _⟩
      case round =>
        obtain ⟨d, hd, rfl, rfl, hgd⟩ := hrel
        have hGd := gb_trans hGi hgd
        by_cases hdl : d < 4
        · have hdl' : (d : Int) < 4 := by omega
          have hix : ∀ W, (Instr.index 119 (.agg #[.int .i64 m, .slice (ss 0) n (cs 0), .int .i64 m, .slice (ss 1) n (cs 1), .int .i64 m, .slice (ss 2) n (cs 2), .int .i64 m, .slice (ss 3) n (cs 3)]) (.int .i64 (d : Int))).run Tryz.prog W = .ok (.agg #[.int .i64 m, .slice (ss d) n (cs d)]) W := by
            intro W
            rcases (show d = 0 ∨ d = 1 ∨ d = 2 ∨ d = 3 by omega) with rfl | rfl | rfl | rfl
            · exact iy0 _ _ _ _ _ _ _ _ W
            · exact iy1 _ _ _ _ _ _ _ _ W
            · exact iy2 _ _ _ _ _ _ _ _ W
            · exact iy3 _ _ _ _ _ _ _ _ W
          have hwd := (h d hdl).kept hGd (by simp)
          obtain ⟨a, ha⟩ := hwd.some (show 0 < n by omega)
          rw [ha] at hwd hix
          obtain ⟨W6, hW6, x0, x1, sz6, g6, hB6⟩ := box2 wr (.int .i64 m) (.slice (some a) n (cs d)) 33
          have hca := g6.cell (hwd.at hlt) (by simp)
          have hbi := bit_i64 v d hv
          have hA1 := bits_and_u64_nat (Pk.pack (isN pp v d) i) (Pk.pack (pp d) i) (Pk.pack_lt _ _) (Pk.pack_lt _ _)
          have hA2' := andNotW (Pk.pack (isN pp v d) i) (Pk.pack (pp d) i) (Pk.pack_lt _ _) (Pk.pack_lt _ _)
          rw [Pk.pack_and] at hA1
          rw [pack_andNot] at hA2'
          have hbd := Pk.bit_div v d
          clear ha hwd
          cases hvb : v.testBit d with
          | true =>
            rw [hvb, if_pos rfl] at hbd
            rw [hbd] at hbi
            have e1 : Pk.pack (fun t => isN pp v d t && pp d t) i = Pk.pack (isN pp v (d + 1)) i := Pk.pack_congr fun t ht => by rw [isN, hvb]; rfl
            rw [e1] at hA1
            clear e1 hbd hvb hA2'
            go_wp2
            go_roundw
            case rel => exact ⟨d + 1, by omega, by go_num, rfl, gb_trans hgd g6⟩
            case measure => simp [intOf]; omega
          | false =>
            rw [hvb, if_neg (by decide)] at hbd
            rw [hbd] at hbi
            have e1 : Pk.pack (fun t => isN pp v d t && !pp d t) i = Pk.pack (isN pp v (d + 1)) i := Pk.pack_congr fun t ht => by rw [isN, hvb]; rfl
            rw [e1] at hA2'
            clear e1 hbd hvb hA1
            go_wp2
            go_roundw
            case rel => exact ⟨d + 1, by omega, by go_num, rfl, gb_trans hgd g6⟩
            case measure => simp [intOf]; omega
        · have hdl' : ¬ (d : Int) < 4 := by omega
          have hd4 : d = 4 := by omega
          have hUd := hUi.kept hgd (by simp)
          have v0 := hUd.cell0
          have v1 := hUd.cell1
          have hrd := hri.kept hgd (by simp)
          have v2 := World.rowIs.cell hrd hlt
          have v3 := World.rowIs.frozen hrd i
          have E4 : Hid (Pk.pack (isN pp v d) i = Pk.pack (fun t => if t < 64 * (i + 1) then isN pp v 4 t else false) i) := by
            unfold Hid
            rw [hd4]
            exact Pk.pack_congr fun t ht => by rw [if_pos (by omega)]
          clear hd4
          go_wp2
          go_roundw
          case rel => exact ⟨i + 1, by omega, by go_num, hrd.set E4.out (fun t ht hne => by
            by_cases hh : t < 64 * i
            · rw [if_pos hh, if_pos (by omega)]
            · rw [if_neg hh, if_neg (by omega)]), gb_set (gb_none hgi hgd) _ _⟩
          case measure => simp [intOf]; omega
    · have hlt' : ¬ (i : Int) < (n : Int) := by omega
      have hrn : Row wr 37 b n (isN pp v 4) := hri.congr fun t ht => by rw [if_pos (by omega)]
      have hcr := cutC m b n n (isN pp v 4) hm HN.out wr hrn
      have hDr := hR5.kept hgi (by simp; omega)
      go_wp2_with (first | (go_at_call 51; refine hcr.mono ?_; rintro e w6 ⟨rfl, hr6, g6⟩; have hU6 := hUi.kept g6 (by simp; omega); have s0 := hU6.cell0; have s1 := hU6.cell1; have hD6 := hDr.kept g6 (by simp; omega); have r2 := hD6.cell0; have r3 := hD6.cell1; have r4 := hD6.free0; have r5 := hD6.free1))
      obtain ⟨fs, hfs⟩ := underR
      refine ret_box2 (g := W1.heap.size) (t := 33) rfl hfs infoR rfl (hD6.set _ _) rfl ?_
      have hG6 : w.grownBy w6 none := gb_past hGi g6 hwb
      have hbD : b ≠ W1.heap.size := by omega
      exact ⟨b, rfl, World.rowIs.setOther (World.rowIs.setOther hr6 hbD _) hbD _, gb_new (gb_new hG6 (Nat.le_of_lt q1) _) (Nat.le_of_lt q1) _, hwb⟩

end Go.Proofs.YthjiiljglgmkpaaGreatDoor.Wo
namespace Go.Proofs.YthjiiljglgmkpaaGreatDoor.Pd
set_option linter.unusedVariables false
set_option linter.unusedSimpArgs false

theorem same16 : ∀ x v : Fin 16, ((((true && (if v.val.testBit 0 then x.val.testBit 0 else !x.val.testBit 0)) && (if v.val.testBit 1 then x.val.testBit 1 else !x.val.testBit 1)) && (if v.val.testBit 2 then x.val.testBit 2 else !x.val.testBit 2)) && (if v.val.testBit 3 then x.val.testBit 3 else !x.val.testBit 3)) = decide (x.val = v.val) := by decide
/-- The four digits are those of v just if the number is v. -/
theorem isN_cn (P : Nat → Nat → Bool) (k v t : Nat) (hk : k ≤ 15) (hv : v ≤ 15) : Wo.isN (Wo.dgF P k) v 4 t = decide (Wo.cn P k t = v) := by
  have h := Wo.cn_le P k t
  have := same16 ⟨Wo.cn P k t, by omega⟩ ⟨v, by omega⟩
  simp only [Wo.isN, Wo.dgF]
  exact this
/-- A word's bits from a place on: its own, and the next word's first ones. -/
theorem pack_from (p : Nat → Bool) (i c : Nat) (hc : c ≤ 64) : Pk.pack p i / 2 ^ c ||| (Pk.pack p (i + 1) * 2 ^ (64 - c)) % 18446744073709551616 = Pk.pack (fun j => p (j + c)) i := by
  apply Nat.eq_of_testBit_eq
  intro j
  have e : (18446744073709551616 : Nat) = 2 ^ 64 := by decide
  rw [Nat.testBit_or, e, Nat.testBit_mod_two_pow, Nat.testBit_div_two_pow, Nat.testBit_mul_two_pow, Pk.testBit_pack, Pk.testBit_pack, Pk.testBit_pack]
  by_cases hj : j < 64
  · by_cases h1 : j + c < 64
    · have h2 : ¬ 64 - c ≤ j := by omega
      simp [hj, h1, h2, Nat.add_assoc]
    · have h2 : 64 - c ≤ j := by omega
      have h3 : j - (64 - c) < 64 := by omega
      have h4 : 64 * (i + 1) + (j - (64 - c)) = 64 * i + j + c := by omega
      simp [hj, h1, h2, h3, h4]
  · have h1 : ¬ j + c < 64 := by omega
    simp [hj, h1]
theorem pack_from_last (p : Nat → Bool) (i c : Nat) (hc : c ≤ 64) (h0 : ∀ j, 64 * (i + 1) ≤ j → p j = false) : Pk.pack p i / 2 ^ c = Pk.pack (fun j => p (j + c)) i := by
  have h := pack_from p i c hc
  rw [Pk.pack_congr (p := p) (q := fun _ => false) (k := i + 1) (fun j _ => h0 _ (by omega)), Pk.pack_zero] at h
  simpa using h
/-- All places' bits, moved down. -/
theorem all_down (d : Nat) (hd : d ≤ 64) : 18446744073709551615 / 2 ^ d = Pk.low (64 - d) := by
  apply Nat.eq_of_testBit_eq
  intro j
  have e : (18446744073709551615 : Nat) = 2 ^ 64 - 1 := by decide
  unfold Pk.low
  rw [e, Nat.testBit_div_two_pow, Nat.testBit_two_pow_sub_one, Nat.testBit_two_pow_sub_one]
  by_cases h : j + d < 64
  · rw [decide_eq_true h, decide_eq_true (by omega)]
  · rw [decide_eq_false h, decide_eq_false (by omega)]
/-- A row from a place on, two bits shorter. -/
def fr (p : Nat → Bool) (m c i : Nat) : Bool := p (i + c) && decide (i < m)
/-- Where a count is one of the first k numbers of a list. -/
def ga (c : Nat) (pp : Nat → Nat → Bool) (m : Nat) : Nat → Nat → Bool
  | 0, _ => false
  | k + 1, t => ga c pp m k t || (c.testBit k && (Wo.isN pp k 4 t && decide (t < m)))
theorem ga_is (c : Nat) (P : Nat → Nat → Bool) (m l t : Nat) (hl : l ≤ 15) (ht : t < m) : ∀ k, k ≤ 16 → ga c (Wo.dgF P l) m k t = (decide (Wo.cn P l t < k) && c.testBit (Wo.cn P l t))
  | 0, _ => by simp [ga]
  | k + 1, hk => by
    rw [ga, ga_is c P m l t hl ht k (by omega), isN_cn P l k t hl (by omega), decide_eq_true ht, Bool.and_true]
    by_cases h : Wo.cn P l t = k
    · rw [h]; simp
    · by_cases h1 : Wo.cn P l t < k
      · have : Wo.cn P l t < k + 1 := by omega
        simp [h, h1, this]
      · have : ¬ Wo.cn P l t < k + 1 := by omega
        simp [h, h1, this]
/-- The cells that live next. -/
def tl (bo st : Nat) (h : Nat → Bool) (pp : Nat → Nat → Bool) (m t : Nat) : Bool := (ga bo pp m 9 t && !h t) || (ga st pp m 9 t && h t)
/-- Which cells are neighbours, in the code's order: for each neighbourhood the rows seen. -/
def nb (ho : Nat) (a h b : Nat → Bool) (m : Nat) : Nat → Nat → Bool := fun j t =>
  if ho = 1 then (if j = 0 then fr a m 0 t else if j = 1 then fr a m 1 t else if j = 2 then fr a m 2 t else if j = 3 then fr h m 0 t else if j = 4 then fr h m 2 t else if j = 5 then fr b m 0 t else if j = 6 then fr b m 1 t else fr b m 2 t)
  else if ho = 2 then (if j = 0 then fr a m 1 t else if j = 1 then fr h m 0 t else if j = 2 then fr h m 2 t else fr b m 1 t)
  else (if j = 0 then fr a m 0 t else if j = 1 then fr a m 1 t else if j = 2 then fr h m 0 t else if j = 3 then fr h m 2 t else if j = 4 then fr b m 1 t else fr b m 2 t)
def nn (ho : Nat) : Nat := if ho = 1 then 8 else if ho = 2 then 4 else 6
/-- The row one generation later. -/
def ln (ho bo st : Nat) (a h b : Nat → Bool) (m t : Nat) : Bool := tl bo st (fr h m 1) (Wo.dgF (nb ho a h b m) (nn ho)) m t
theorem nn_le (ho : Nat) : nn ho ≤ 8 := by
  unfold nn
  split
  · omega
  · split <;> omega
/-- .. is what the rule says of the cell and of how many neighbours live. -/
theorem ln_is (ho bo st : Nat) (a h b : Nat → Bool) (m t : Nat) (ht : t < m) : ln ho bo st a h b m t = (if h (t + 1) then st.testBit (Wo.cn (nb ho a h b m) (nn ho) t) else bo.testBit (Wo.cn (nb ho a h b m) (nn ho) t)) := by
  have h8 := nn_le ho
  have hc := Wo.cn_le (nb ho a h b m) (nn ho) t
  unfold ln tl
  rw [ga_is _ _ _ _ _ (by omega) ht 9 (by omega), ga_is _ _ _ _ _ (by omega) ht 9 (by omega)]
  have hd : decide (Wo.cn (nb ho a h b m) (nn ho) t < 9) = true := decide_eq_true (by omega)
  rw [hd]
  unfold fr
  rw [decide_eq_true ht]
  cases h (t + 1) <;> simp
theorem ga_off (c : Nat) (pp : Nat → Nat → Bool) (m t : Nat) (ht : ¬ t < m) : ∀ k, ga c pp m k t = false
  | 0 => rfl
  | k + 1 => by rw [ga, ga_off c pp m t ht k]; simp [ht]
theorem ln_off (ho bo st : Nat) (a h b : Nat → Bool) (m t : Nat) (ht : ¬ t < m) : ln ho bo st a h b m t = false := by
  unfold ln tl
  rw [ga_off _ _ _ _ ht, ga_off _ _ _ _ ht]
  rfl
end Go.Proofs.YthjiiljglgmkpaaGreatDoor.Pd
