/- alike of package words: whether rows may be and are of one length. -/
import Derived.Test.YtcdefpfnjjahgabW4
namespace Go.Proofs.Ytcdefpfnjjahgab
open Go.RowKit
set_option linter.unusedVariables false

/-- A row as it lies in memory. -/
structure RD where
  N : Int
  sp : Option Addr
  n : Nat
  cap : Nat
  f : Nat → Nat

def RD.ok (w : World) (r : RD) : Prop := Wd w r.sp r.n r.f ∧ (∀ k, k < r.n → r.f k < 18446744073709551616) ∧ r.n ≤ 9223372036854775807
def RD.val (r : RD) : Value := .agg #[.int .i64 r.N, .slice r.sp r.n r.cap]
def RD.valid (r : RD) : Bool := validB r.N r.n r.f

/-- A list of k rows from the head of block q on. -/
def Rws (w : World) (q k : Nat) (r : Nat → RD) : Prop :=
  ∀ j, j < k → w.cell? ⟨q, j * 2, none⟩ = some (.int .i64 (r j).N) ∧ w.cell? ⟨q, j * 2 + 1, none⟩ = some (.slice (r j).sp (r j).n (r j).cap) ∧ (r j).ok w

theorem RD.ok.kept {w w' : World} {x : Option Nat} {r : RD} (h : r.ok w) (hg : w.grownBy w' x) (hne : ∀ a, r.sp = some a → some a.block ≠ x) : r.ok w' := ⟨h.1.kept hg hne, h.2⟩
theorem Rws.kept {w w' : World} {q k : Nat} {r : Nat → RD} (h : Rws w q k r) (hg : w.grownBy w' none) : Rws w' q k r := fun j hj => by
  obtain ⟨h0, h1, h2⟩ := h j hj
  exact ⟨hg.cell h0 (by simp), hg.cell h1 (by simp), h2.kept hg (by simp)⟩

def allV (r : Nat → RD) : Nat → Bool
  | 0 => true
  | k + 1 => allV r k && (r k).valid
def allN (r : Nat → RD) : Nat → Bool
  | 0 => true
  | k + 1 => allN r k && decide ((r k).N = (r 0).N)
def alikeZ (r : Nat → RD) (k : Nat) : Int := if allV r k then (if allN r k then 0 else 21) else 20

theorem allV_no {r : Nat → RD} {j : Nat} (h : (r j).valid = false) : ∀ {k : Nat}, j < k → allV r k = false
  | k + 1, hj => by
    rw [allV]
    by_cases e : j = k
    · subst e; rw [h]; simp
    · rw [allV_no h (show j < k by omega)]; rfl
theorem allN_no {r : Nat → RD} {j : Nat} (h : ¬ (r j).N = (r 0).N) : ∀ {k : Nat}, j < k → allN r k = false
  | k + 1, hj => by
    rw [allN]
    by_cases e : j = k
    · subst e; rw [decide_eq_false h]; simp
    · rw [allN_no h (show j < k by omega)]; rfl
theorem allV_yes {r : Nat → RD} : ∀ {k : Nat}, (∀ j, j < k → (r j).valid = true) → allV r k = true
  | 0, _ => rfl
  | k + 1, h => by rw [allV, allV_yes (fun j hj => h j (by omega)), h k (by omega)]; rfl
theorem allN_yes {r : Nat → RD} : ∀ {k : Nat}, (∀ j, j < k → (r j).N = (r 0).N) → allN r k = true
  | 0, _ => rfl
  | k + 1, h => by rw [allN, allN_yes (fun j hj => h j (by omega)), decide_eq_true (h k (by omega))]; rfl

theorem validRD (r : RD) (w : World) (h : r.ok w) :
    Calls Try.prog 41 #[.agg #[.int .i64 r.N, .slice r.sp r.n r.cap]] w fun e w' => e = .returned (.bool r.valid) ∧ w.grownBy w' none :=
  validC r.N r.n r.cap r.sp r.f h.2.1 h.2.2 w h.1

theorem alikeC (q k cap : Nat) (r : Nat → RD) (sp : Option Addr) (hsp : 0 < k → sp = some ⟨q, 0, none⟩) (hk : k ≤ 1000000) (w : World) (h : Rws w q k r) :
    Calls Try.prog 34 #[.slice sp k cap] w fun e w' => e = .returned (.int .i64 (alikeZ r k)) ∧ w.grownBy w' none := by
  go_enter Try.func34, Try.ntmps34
  go_wp2
  go_loopw [9] (fun i wr => ∃ j : Nat, j ≤ k ∧ i = .int .i64 j ∧ Hid (∀ t, t < j → (r t).valid = true) ∧ w.grownBy wr none) (fun i _ => k - (intOf i).toNat)
  case atStart => exact ⟨0, Nat.zero_le _, rfl, (fun t ht => absurd ht (Nat.not_lt_zero _)), World.grownBy.refl _ _⟩
  case round =>
    obtain ⟨j, hj, rfl, hv, hg⟩ := hrel
    by_cases hlt : j < k
    · obtain rfl := hsp (by omega)
      have hlt' : (j : Int) < (k : Int) := by omega
      obtain ⟨x0, x1, x2⟩ := (h.kept hg) j hlt
      obtain ⟨W1, hW, c0, c1, sz, g1, hB⟩ := box2 wr (.int .i64 (r j).N) (.slice (r j).sp (r j).n (r j).cap) 31
      have hrd := validRD (r j) W1 (x2.kept g1 (by simp))
      cases hvj : (r j).valid with
      | true =>
        rw [hvj] at hrd
        go_wp2_with (first | (go_at_call 41; refine hrd.mono ?_; rintro e w2 ⟨rfl, g2⟩))
        go_roundw
        case rel => exact ⟨j + 1, by omega, by go_num, (fun t ht => by
          by_cases e : t = j
          · subst e; exact hvj
          · exact hv.out t (by omega)), gb_trans hg (gb_trans g1 g2)⟩
        case measure => simp [intOf]; omega
      | false =>
        rw [hvj] at hrd
        have HZ : Hid (alikeZ r k = 20) := by unfold Hid alikeZ; rw [allV_no hvj hlt]; rfl
        go_wp2_with (first | (go_at_call 41; refine hrd.mono ?_; rintro e w2 ⟨rfl, g2⟩))
        go_ret
        exact ⟨by rw [HZ.out]; rfl, gb_trans hg (gb_trans g1 g2)⟩
    · have hlt' : ¬ (j : Int) < (k : Int) := by omega
      have hjk : j = k := by omega
      have HV : Hid (allV r k = true) := allV_yes (fun t ht => hv.out t (by omega))
      clear hjk
      go_wp2
      go_loopw [19] (fun i wr' => ∃ l : Nat, l ≤ k ∧ i = .int .i64 l ∧ Hid (∀ t, t < l → (r t).N = (r 0).N) ∧ w.grownBy wr' none) (fun i _ => k - (intOf i).toNat)
      case atStart => exact ⟨0, Nat.zero_le _, rfl, (fun t ht => absurd ht (Nat.not_lt_zero _)), hg⟩
      case round =>
        obtain ⟨l, hl, rfl, hn, hgl⟩ := hrel
        by_cases hll : l < k
        · obtain rfl := hsp (by omega)
          have hll' : (l : Int) < (k : Int) := by omega
          have hk0 : (0 : Int) < (k : Int) := by omega
          obtain ⟨x0, x1, x2⟩ := (h.kept hgl) l hll
          obtain ⟨W1, hW, c0, c1, sz, g1, hB⟩ := box2 wr (.int .i64 (r l).N) (.slice (r l).sp (r l).n (r l).cap) 31
          obtain ⟨y0, _, _⟩ := (h.kept (gb_trans hgl g1)) 0 (by omega)
          rw [Nat.zero_mul] at y0
          by_cases he : (r l).N = (r 0).N
          · have he' : ((r l).N != (r 0).N) = false := by simp [he]
            have HE : Hid ((r l).N = (r 0).N) := he
            clear he
            go_wp2
            go_quiet (fail)
            go_wp2
            go_roundw
            case rel => exact ⟨l + 1, by omega, by go_num, (fun t ht => by
              by_cases e : t = l
              · subst e; exact HE.out
              · exact hn.out t (by omega)), gb_drewN (gb_trans hgl g1) _⟩
            case measure => simp [intOf]; omega
          · have he' : ((r l).N != (r 0).N) = true := by simp [he]
            have HZ : Hid (alikeZ r k = 21) := by unfold Hid alikeZ; rw [HV.out, allN_no he hll]; rfl
            go_wp2
            go_quiet (fail)
            go_wp2
            go_ret
            exact ⟨by rw [HZ.out]; rfl, gb_drewN (gb_trans hgl g1) _⟩
        · have hll' : ¬ (l : Int) < (k : Int) := by omega
          have hlk : l = k := by omega
          have HZ : Hid (alikeZ r k = 0) := by unfold Hid alikeZ; rw [HV.out, allN_yes (fun t ht => hn.out t (by omega))]; rfl
          clear hlk
          go_wp2
          go_ret
          exact ⟨by rw [HZ.out]; rfl, hgl⟩

end Go.Proofs.Ytcdefpfnjjahgab
