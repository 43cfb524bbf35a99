/- Plain facts on frames: which cell each place of a grid and of its ring is, in home numbers; the ring's places in their order. -/
import Derived.Test.YthjiiljglgmkpaaGreatDoorFb
import Derived.RangeFuncNested
import Derived.RangeFuncBound
import Derived.RangeFuncCalls
import Derived.RangeFuncLeaves
import Derived.RangeFuncBox
import Derived.RangeFuncWrites
import Derived.WalkKit
import Derived.OwnWalkIn
import Derived.TacticsInMore
import Derived.LoopNIn
import Derived.LoopIn
import Derived.Test.YthjiiljglgmkpaaGreatDoorBo
import Derived.Test.YthjiiljglgmkpaaGreatDoorProg
import Derived.StillTailTactics
import Derived.OrdersIn
namespace Go.Proofs.YthjiiljglgmkpaaGreatDoor
set_option linter.unusedVariables false

/-- A grid: a topology that may be, with two ends each way. -/
structure Gr (k t z : Int) (C R : Nat) : Prop where
  chk : Tp.chk k C R t z = 0
  t0 : 0 ≤ t
  c0 : 0 < C
  r0 : 0 < R
theorem Gr.c1 {k t z : Int} {C R : Nat} (h : Gr k t z C R) : C ≤ 65536 := by have := (Tp.ok_of h.chk).wide; omega
theorem Gr.r1 {k t z : Int} {C R : Nat} (h : Gr k t z C R) : R ≤ 65536 := by have := (Tp.ok_of h.chk).high; omega
/-- Is a place (in home numbers) a cell; its column, its row. -/
def fcB (k t z : Int) (C R : Nat) (u v : Int) : Bool := Fd.riB k C R t z (u + To.fi C) (v + To.fi R)
def fcX (k t z : Int) (C R : Nat) (u v : Int) : Nat := (Fd.riX k C R t z (u + To.fi C) (v + To.fi R) - To.fi C).toNat
def fcY (k t z : Int) (C R : Nat) (u v : Int) : Nat := (Fd.riY k C R t z (u + To.fi C) (v + To.fi R) - To.fi R).toNat
/-- The state of a place. -/
def plS (k t z : Int) (C R : Nat) (g : Nat → Nat) (u v : Int) : Nat := if fcB k t z C R u v then g (fcY k t z C R u v * C + fcX k t z C R u v) else 0
/-- The state at an index of the frame. -/
def frV (k t z : Int) (C R : Nat) (g : Nat → Nat) (i : Nat) : Nat := plS k t z C R g ((i % (C + 2) : Nat) - 1) ((i / (C + 2) : Nat) - 1)
theorem fi_mem (n : Nat) (h : n ≤ 65536) : -32768 ≤ To.fi n ∧ To.fi n ≤ 0 := by unfold To.fi; omega
theorem li_home (n : Nat) (h : 0 < n) (u : Int) : To.liB (u + To.fi n) n = decide (0 ≤ u ∧ u < n) := by
  unfold To.liB
  rw [decide_eq_false (by omega), Bool.false_or]
  by_cases h1 : 0 ≤ u ∧ u < n
  · rw [decide_eq_true h1, decide_eq_true (by omega), decide_eq_true (by omega)]; rfl
  · rw [decide_eq_false h1]
    by_cases h2 : 0 ≤ u
    · rw [decide_eq_false (p := u + To.fi n < To.fi n + n) (by omega), Bool.and_false]
    · rw [decide_eq_false (p := To.fi n ≤ u + To.fi n) (by omega), Bool.false_and]
theorem gi_home (C R : Nat) (hc : 0 < C) (hr : 0 < R) (u v : Int) : Fd.giB C R (u + To.fi C) (v + To.fi R) = decide (0 ≤ u ∧ u < C ∧ 0 ≤ v ∧ v < R) := by
  unfold Fd.giB
  rw [li_home C hc, li_home R hr, ← Bool.decide_and]
  exact decide_eq_decide.2 (by omega)
theorem fr_home (n : Nat) (h : n ≤ 65536) (u : Int) (h1 : -1 ≤ u) (h2 : u ≤ n) : To.frB (u + To.fi n) = false := by
  have := fi_mem n h
  unfold To.frB
  rw [decide_eq_false (by omega), decide_eq_false (by omega)]; rfl
theorem to_home (n : Nat) (u : Int) (h1 : -1 ≤ u) (h2 : u ≤ n) : Fd.toB (u + To.fi n - To.fi n) n = true := by
  unfold Fd.toB
  rw [show u + To.fi n - To.fi n = u by omega, decide_eq_true h1, decide_eq_true h2]
  simp
/-- A place of the grid is itself. -/
theorem fc_in {k t z : Int} {C R : Nat} (G : Gr k t z C R) {x y : Nat} (hx : x < C) (hy : y < R) : fcB k t z C R x y = true ∧ fcX k t z C R x y = x ∧ fcY k t z C R x y = y := by
  have hg : Fd.giB C R ((x : Int) + To.fi C) ((y : Int) + To.fi R) = true := by rw [gi_home C R G.c0 G.r0]; exact decide_eq_true (by omega)
  have h1 := fr_home C G.c1 x (by omega) (by omega)
  have h2 := fr_home R G.r1 y (by omega) (by omega)
  refine ⟨?_, ?_, ?_⟩
  · unfold fcB Fd.riB Fd.riE
    rw [if_pos G.chk, h1, h2, hg]; rfl
  · unfold fcX Fd.riX
    rw [hg, if_pos rfl]; omega
  · unfold fcY Fd.riY
    rw [hg, if_pos rfl]; omega
theorem near_bd {v : Int} {n : Nat} (h : 0 < n) : 0 ≤ Nm.nearZ v 0 (n - 1) ∧ Nm.nearZ v 0 (n - 1) < n := by
  unfold Nm.nearZ; repeat' split
  all_goals omega
/-- The cell of a place lies in the grid; what fold answers there. -/
theorem fc_bd {k t z : Int} {C R : Nat} (G : Gr k t z C R) {u v : Int} (hu : -1 ≤ u ∧ u ≤ C) (hv : -1 ≤ v ∧ v ≤ R) : fcX k t z C R u v < C ∧ fcY k t z C R u v < R ∧ Fd.riX k C R t z (u + To.fi C) (v + To.fi R) = fcX k t z C R u v + To.fi C ∧ Fd.riY k C R t z (u + To.fi C) (v + To.fi R) = fcY k t z C R u v + To.fi R ∧ Fd.riE k C R t z (u + To.fi C) (v + To.fi R) = 0 := by
  have ok := Tp.ok_of G.chk
  have gx : 0 ≤ Fd.riX k C R t z (u + To.fi C) (v + To.fi R) - To.fi C ∧ Fd.riX k C R t z (u + To.fi C) (v + To.fi R) - To.fi C < C ∨ k = 1 := by
    unfold Fd.riX
    split
    · rename_i hg
      rw [gi_home C R G.c0 G.r0] at hg
      have := of_decide_eq_true hg
      omega
    · split
      · rename_i h5
        have e := ok.alike h5
        have hCR : C = R := by omega
        subst hCR
        have := near_bd (v := v + To.fi C - To.fi C) (n := C) G.c0
        omega
      · have := Fo.cx_bd k (x := (C : Int)) R t z (u + To.fi C - To.fi C) (v + To.fi R - To.fi R) (by have := G.c0; omega)
        omega
  have gy : 0 ≤ Fd.riY k C R t z (u + To.fi C) (v + To.fi R) - To.fi R ∧ Fd.riY k C R t z (u + To.fi C) (v + To.fi R) - To.fi R < R ∨ k = 1 := by
    unfold Fd.riY
    split
    · rename_i hg
      rw [gi_home C R G.c0 G.r0] at hg
      have := of_decide_eq_true hg
      omega
    · split
      · rename_i h5
        have e := ok.alike h5
        have hCR : C = R := by omega
        subst hCR
        have := near_bd (v := u + To.fi C - To.fi C) (n := C) G.c0
        omega
      · have := Fo.cy_bd k C (y := (R : Int)) t z (u + To.fi C - To.fi C) (v + To.fi R - To.fi R) (by have := G.r0; omega)
        omega
  have gx' : 0 ≤ Fd.riX k C R t z (u + To.fi C) (v + To.fi R) - To.fi C ∧ Fd.riX k C R t z (u + To.fi C) (v + To.fi R) - To.fi C < C := by
    rcases gx with h | h
    · exact h
    · subst h
      unfold Fd.riX
      split
      · rename_i hg
        rw [gi_home C R G.c0 G.r0] at hg
        have := of_decide_eq_true hg
        omega
      · rw [if_neg (by omega)]
        have := Fo.cx_bd 1 (x := (C : Int)) R t z (u + To.fi C - To.fi C) (v + To.fi R - To.fi R) (by have := G.c0; omega)
        omega
  have gy' : 0 ≤ Fd.riY k C R t z (u + To.fi C) (v + To.fi R) - To.fi R ∧ Fd.riY k C R t z (u + To.fi C) (v + To.fi R) - To.fi R < R := by
    rcases gy with h | h
    · exact h
    · subst h
      unfold Fd.riY
      split
      · rename_i hg
        rw [gi_home C R G.c0 G.r0] at hg
        have := of_decide_eq_true hg
        omega
      · rw [if_neg (by omega)]
        have := Fo.cy_bd 1 C (y := (R : Int)) t z (u + To.fi C - To.fi C) (v + To.fi R - To.fi R) (by have := G.r0; omega)
        omega
  refine ⟨by unfold fcX; omega, by unfold fcY; omega, by unfold fcX; omega, by unfold fcY; omega, ?_⟩
  unfold Fd.riE Fd.riN
  rw [if_pos G.chk, fr_home C G.c1 u hu.1 hu.2, fr_home R G.r1 v hv.1 hv.2, to_home C u hu.1 hu.2, to_home R v hv.1 hv.2]
  simp
/-- The index of a place. -/
def ixN (C : Nat) (u v : Int) : Nat := ((v + 1) * (C + 2) + u + 1).toNat
theorem ix_nat {C : Nat} {u v : Int} (hu : -1 ≤ u) (hv : -1 ≤ v) : ∃ a b : Nat, u = (a : Int) - 1 ∧ v = (b : Int) - 1 ∧ ixN C u v = b * (C + 2) + a := by
  obtain ⟨a, ha⟩ := Int.eq_ofNat_of_zero_le (show 0 ≤ u + 1 by omega)
  obtain ⟨b, hb⟩ := Int.eq_ofNat_of_zero_le (show 0 ≤ v + 1 by omega)
  refine ⟨a, b, by omega, by omega, ?_⟩
  unfold ixN
  have e : (v + 1) * ((C : Int) + 2) + u + 1 = ((b * (C + 2) + a : Nat) : Int) := by
    rw [hb, Int.natCast_add, Int.natCast_mul]
    have : ((C + 2 : Nat) : Int) = (C : Int) + 2 := by omega
    rw [this]; omega
  rw [e]; rfl
theorem ix_int {C : Nat} {u v : Int} (hu : -1 ≤ u) (hv : -1 ≤ v) : ((ixN C u v : Nat) : Int) = (v + 1) * (C + 2) + u + 1 := by
  obtain ⟨a, b, rfl, rfl, e⟩ := ix_nat (C := C) hu hv
  rw [e, Int.natCast_add, Int.natCast_mul, show (b : Int) - 1 + 1 = b by omega]
  have : ((C + 2 : Nat) : Int) = (C : Int) + 2 := by omega
  rw [this]; omega
theorem ix_lt {C R : Nat} {u v : Int} (hu : -1 ≤ u ∧ u ≤ C) (hv : -1 ≤ v ∧ v ≤ R) : ixN C u v < (C + 2) * (R + 2) := by
  obtain ⟨a, b, rfl, rfl, e⟩ := ix_nat (C := C) hu.1 hv.1
  rw [e]
  have h1 : b + 1 ≤ R + 2 := by omega
  have := Nat.mul_le_mul_right (C + 2) h1
  rw [Nat.succ_mul] at this
  rw [Nat.mul_comm (C + 2)]
  omega
theorem ix_div {C : Nat} {u v : Int} (hu : -1 ≤ u ∧ u ≤ C) (hv : -1 ≤ v) : (((ixN C u v) % (C + 2) : Nat) : Int) - 1 = u ∧ (((ixN C u v) / (C + 2) : Nat) : Int) - 1 = v := by
  obtain ⟨a, b, rfl, rfl, e⟩ := ix_nat (C := C) hu.1 hv
  have ha : a < C + 2 := by omega
  rw [e, Nat.mul_comm b, Nat.mul_add_mod, Nat.mod_eq_of_lt ha, Nat.mul_add_div (by omega), Nat.div_eq_of_lt ha]
  omega
theorem fr_ix (k t z : Int) {C R : Nat} (g : Nat → Nat) {u v : Int} (hu : -1 ≤ u ∧ u ≤ C) (hv : -1 ≤ v) : frV k t z C R g (ixN C u v) = plS k t z C R g u v := by
  have := ix_div hu hv
  unfold frV
  rw [this.1, this.2]
/-- Within the grid? -/
def inG (C R i : Nat) : Bool := decide (1 ≤ i % (C + 2) ∧ i % (C + 2) ≤ C ∧ 1 ≤ i / (C + 2) ∧ i / (C + 2) ≤ R)
theorem fr_in {k t z : Int} {C R : Nat} (G : Gr k t z C R) (g : Nat → Nat) {i : Nat} (h : inG C R i = true) : frV k t z C R g i = g ((i / (C + 2) - 1) * C + (i % (C + 2) - 1)) := by
  have h := of_decide_eq_true h
  have := fc_in G (x := i % (C + 2) - 1) (y := i / (C + 2) - 1) (by omega) (by omega)
  unfold frV plS
  rw [show ((i % (C + 2) : Nat) : Int) - 1 = ((i % (C + 2) - 1 : Nat) : Int) by omega, show ((i / (C + 2) : Nat) : Int) - 1 = ((i / (C + 2) - 1 : Nat) : Int) by omega, this.1, this.2.1, this.2.2, if_pos rfl]
theorem pl_in {k t z : Int} {C R : Nat} (G : Gr k t z C R) (g : Nat → Nat) {x y : Nat} (hx : x < C) (hy : y < R) : plS k t z C R g x y = g (y * C + x) := by
  have := fc_in G hx hy
  unfold plS
  rw [this.1, this.2.1, this.2.2, if_pos rfl]
/-- The ring's places, in their order. -/
def rgT (R : Nat) : Nat → List (Int × Int)
  | 0 => []
  | k + 1 => rgT R k ++ [((k : Int) - 1, -1), ((k : Int) - 1, (R : Int))]
def rgS (C : Nat) : Nat → List (Int × Int)
  | 0 => []
  | k + 1 => rgS C k ++ [(-1, (k : Int)), ((C : Int), (k : Int))]
def rgL (C R : Nat) : List (Int × Int) := rgT R (C + 2) ++ rgS C R
theorem rgT_mem {R n : Nat} {p : Int × Int} : p ∈ rgT R n ↔ (-1 ≤ p.1 ∧ p.1 < (n : Int) - 1) ∧ (p.2 = -1 ∨ p.2 = R) := by
  induction n with
  | zero => simp [rgT]; omega
  | succ n ih =>
    obtain ⟨a, b⟩ := p
    simp only [rgT, List.mem_append, ih, List.mem_cons, List.not_mem_nil, or_false, Prod.mk.injEq]
    omega
theorem rgS_mem {C n : Nat} {p : Int × Int} : p ∈ rgS C n ↔ (0 ≤ p.2 ∧ p.2 < n) ∧ (p.1 = -1 ∨ p.1 = C) := by
  induction n with
  | zero => simp [rgS]; omega
  | succ n ih =>
    obtain ⟨a, b⟩ := p
    simp only [rgS, List.mem_append, ih, List.mem_cons, List.not_mem_nil, or_false, Prod.mk.injEq]
    omega
theorem rgL_mem {C R : Nat} {p : Int × Int} : p ∈ rgL C R ↔ (-1 ≤ p.1 ∧ p.1 ≤ C ∧ -1 ≤ p.2 ∧ p.2 ≤ R) ∧ (p.1 = -1 ∨ p.1 = C ∨ p.2 = -1 ∨ p.2 = R) := by
  unfold rgL
  rw [List.mem_append, rgT_mem, rgS_mem]
  omega
/-- The ring's places up to some. -/
def Pre (C R : Nat) (pre : List (Int × Int)) : Prop := ∃ l, pre ++ l = rgL C R
theorem Pre.mem {C R : Nat} {pre : List (Int × Int)} {p : Int × Int} (h : Pre C R (pre ++ [p])) : p ∈ rgL C R := by
  obtain ⟨l, e⟩ := h
  rw [← e]; simp
theorem rgT_pre {R : Nat} {m n : Nat} (h : m ≤ n) : ∃ l, rgT R m ++ l = rgT R n := by
  obtain ⟨d, rfl⟩ := Nat.exists_eq_add_of_le h
  clear h
  induction d with
  | zero => exact ⟨[], by simp⟩
  | succ d ih =>
    obtain ⟨l, e⟩ := ih
    exact ⟨l ++ _, by rw [← List.append_assoc, e]; rfl⟩
theorem rgS_pre {C : Nat} {m n : Nat} (h : m ≤ n) : ∃ l, rgS C m ++ l = rgS C n := by
  obtain ⟨d, rfl⟩ := Nat.exists_eq_add_of_le h
  clear h
  induction d with
  | zero => exact ⟨[], by simp⟩
  | succ d ih =>
    obtain ⟨l, e⟩ := ih
    exact ⟨l ++ _, by rw [← List.append_assoc, e]; rfl⟩
theorem preT1 {C R m : Nat} (h : m < C + 2) : Pre C R (rgT R m ++ [((m : Int) - 1, -1)]) := by
  obtain ⟨l, e⟩ := rgT_pre (R := R) (show m + 1 ≤ C + 2 from h)
  exact ⟨((m : Int) - 1, (R : Int)) :: l ++ rgS C R, by rw [rgL, ← e, rgT]; simp⟩
theorem preT2 {C R m : Nat} (h : m < C + 2) : Pre C R ((rgT R m ++ [((m : Int) - 1, -1)]) ++ [((m : Int) - 1, (R : Int))]) := by
  obtain ⟨l, e⟩ := rgT_pre (R := R) (show m + 1 ≤ C + 2 from h)
  exact ⟨l ++ rgS C R, by rw [rgL, ← e, rgT]; simp⟩
theorem preS1 {C R m : Nat} (h : m < R) : Pre C R ((rgT R (C + 2) ++ rgS C m) ++ [(-1, (m : Int))]) := by
  obtain ⟨l, e⟩ := rgS_pre (C := C) (show m + 1 ≤ R from h)
  exact ⟨((C : Int), (m : Int)) :: l, by rw [rgL, ← e, rgS]; simp⟩
theorem preS2 {C R m : Nat} (h : m < R) : Pre C R (((rgT R (C + 2) ++ rgS C m) ++ [(-1, (m : Int))]) ++ [((C : Int), (m : Int))]) := by
  obtain ⟨l, e⟩ := rgS_pre (C := C) (show m + 1 ≤ R from h)
  exact ⟨l, by rw [rgL, ← e, rgS]; simp⟩
/-- The frame once some places of the ring are laid. -/
def frP (k t z : Int) (C R : Nat) (g : Nat → Nat) (pre : List (Int × Int)) (i : Nat) : Nat := if inG C R i = true ∨ ∃ p ∈ pre, ixN C p.1 p.2 = i then frV k t z C R g i else 0
theorem frP_all (k t z : Int) (C R : Nat) (g : Nat → Nat) (i : Nat) (h : i < (C + 2) * (R + 2)) : frP k t z C R g (rgL C R) i = frV k t z C R g i := by
  unfold frP
  rw [if_pos]
  by_cases hi : inG C R i = true
  · exact .inl hi
  · right
    have h1 : i % (C + 2) < C + 2 := Nat.mod_lt _ (by omega)
    have h2 : i / (C + 2) < R + 2 := Nat.div_lt_of_lt_mul h
    have hn : ¬ (1 ≤ i % (C + 2) ∧ i % (C + 2) ≤ C ∧ 1 ≤ i / (C + 2) ∧ i / (C + 2) ≤ R) := fun q => hi (decide_eq_true q)
    have hdm := Nat.div_add_mod i (C + 2)
    generalize i / (C + 2) = qq at *
    generalize i % (C + 2) = mm at *
    refine ⟨((mm : Int) - 1, (qq : Int) - 1), rgL_mem.2 (by dsimp only; omega), ?_⟩
    obtain ⟨a, b, e1, e2, e3⟩ := ix_nat (C := C) (u := (mm : Int) - 1) (v := (qq : Int) - 1) (by omega) (by omega)
    dsimp only
    rw [e3, show a = mm by omega, show b = qq by omega, Nat.mul_comm]
    exact hdm
theorem frP_no {k t z : Int} {C R : Nat} {g : Nat → Nat} {pre : List (Int × Int)} {p : Int × Int} (hp : p ∈ rgL C R) (h : fcB k t z C R p.1 p.2 = false) (i : Nat) : frP k t z C R g (pre ++ [p]) i = frP k t z C R g pre i := by
  have hb := (rgL_mem.1 hp).1
  unfold frP
  by_cases hi : inG C R i = true ∨ ∃ q ∈ pre, ixN C q.1 q.2 = i
  · rw [if_pos hi, if_pos]
    rcases hi with h1 | ⟨q, h1, h2⟩
    · exact .inl h1
    · exact .inr ⟨q, by simp [h1], h2⟩
  · rw [if_neg hi]
    split
    · rename_i h1
      rcases h1 with h1 | ⟨q, h1, h2⟩
      · exact absurd (.inl h1) hi
      · rcases List.mem_append.1 h1 with h1 | h1
        · exact absurd (.inr ⟨q, h1, h2⟩) hi
        · obtain rfl : q = p := by simpa using h1
          rw [← h2, fr_ix k t z g (by omega) (by omega)]
          unfold plS
          rw [h]; rfl
    · rfl
theorem frP_yes {k t z : Int} {C R : Nat} {g : Nat → Nat} {pre : List (Int × Int)} {p : Int × Int} (hp : p ∈ rgL C R) (h : fcB k t z C R p.1 p.2 = true) (i : Nat) : frP k t z C R g (pre ++ [p]) i = if i = ixN C p.1 p.2 then g (fcY k t z C R p.1 p.2 * C + fcX k t z C R p.1 p.2) else frP k t z C R g pre i := by
  have hb := (rgL_mem.1 hp).1
  by_cases hi : i = ixN C p.1 p.2
  · rw [if_pos hi]
    unfold frP
    rw [if_pos (.inr ⟨p, by simp, hi.symm⟩), hi, fr_ix k t z g (by omega) (by omega)]
    unfold plS
    rw [h]; rfl
  · rw [if_neg hi]
    unfold frP
    by_cases h1 : inG C R i = true ∨ ∃ q ∈ pre, ixN C q.1 q.2 = i
    · rw [if_pos h1, if_pos]
      rcases h1 with h1 | ⟨q, h1, h2⟩
      · exact .inl h1
      · exact .inr ⟨q, by simp [h1], h2⟩
    · rw [if_neg h1, if_neg]
      rintro (h2 | ⟨q, h2, h3⟩)
      · exact h1 (.inl h2)
      · rcases List.mem_append.1 h2 with h2 | h2
        · exact h1 (.inr ⟨q, h2, h3⟩)
        · obtain rfl : q = p := by simpa using h2
          exact hi h3.symm
theorem ix_in {C R x y : Nat} (hx : x < C) (hy : y < R) : inG C R (ixN C x y) = true := by
  have := ix_div (C := C) (u := x) (v := y) (by omega) (by omega)
  exact decide_eq_true (by omega)
theorem frP_cell {k t z : Int} {C R : Nat} (G : Gr k t z C R) (g : Nat → Nat) (pre : List (Int × Int)) {x y : Nat} (hx : x < C) (hy : y < R) : frP k t z C R g pre (ixN C x y) = g (y * C + x) := by
  unfold frP
  rw [if_pos (.inl (ix_in hx hy)), fr_ix k t z g (by omega) (by omega), pl_in G g hx hy]
/-- The frame once the first n rows of the grid are laid. -/
def frL (C R : Nat) (g : Nat → Nat) (n i : Nat) : Nat := if inG C R i = true ∧ i / (C + 2) ≤ n then g ((i / (C + 2) - 1) * C + (i % (C + 2) - 1)) else 0
theorem frL_zero (C R : Nat) (g : Nat → Nat) (i : Nat) : frL C R g 0 i = 0 := by
  unfold frL
  rw [if_neg]
  rintro ⟨h1, h2⟩
  have := of_decide_eq_true h1
  omega
theorem frL_all {k t z : Int} {C R : Nat} (G : Gr k t z C R) (g : Nat → Nat) (i : Nat) : frL C R g R i = frP k t z C R g [] i := by
  unfold frL frP
  by_cases h : inG C R i = true
  · have := of_decide_eq_true h
    rw [if_pos ⟨h, by omega⟩, if_pos (.inl h), fr_in G g h]
  · rw [if_neg (fun q => h q.1), if_neg]
    rintro (q | ⟨p, q, _⟩)
    · exact h q
    · cases q
theorem frL_step (C R : Nat) (g : Nat → Nat) {n : Nat} (hn : n < R) (i : Nat) : frL C R g (n + 1) i = if ixN C 0 n ≤ i ∧ i < ixN C 0 n + C then g (n * C + (i - ixN C 0 n)) else frL C R g n i := by
  have e : ixN C 0 n = (n + 1) * (C + 2) + 1 := by
    obtain ⟨a, b, h1, h2, h3⟩ := ix_nat (C := C) (u := 0) (v := n) (by omega) (by omega)
    rw [h3, show a = 1 by omega, show b = n + 1 by omega]
  rw [e]
  have hd := Nat.div_add_mod i (C + 2)
  have hm : i % (C + 2) < C + 2 := Nat.mod_lt _ (by omega)
  rw [Nat.mul_comm] at hd
  by_cases h : (n + 1) * (C + 2) + 1 ≤ i ∧ i < (n + 1) * (C + 2) + 1 + C
  · rw [if_pos h]
    have h1 : i / (C + 2) = n + 1 := Nat.div_eq_of_lt_le (by omega) (by rw [Nat.succ_mul]; omega)
    rw [h1] at hd
    unfold frL
    rw [if_pos ⟨decide_eq_true (by rw [h1]; omega), by omega⟩, h1, Nat.add_sub_cancel, show i % (C + 2) - 1 = i - ((n + 1) * (C + 2) + 1) by omega]
  · rw [if_neg h]
    unfold frL
    by_cases h1 : inG C R i = true ∧ i / (C + 2) ≤ n
    · rw [if_pos h1, if_pos ⟨h1.1, by omega⟩]
    · rw [if_neg h1, if_neg]
      rintro ⟨h2, h3⟩
      have h4 := of_decide_eq_true h2
      have h5 : i / (C + 2) = n + 1 := by
        by_cases h6 : i / (C + 2) ≤ n
        · exact absurd ⟨h2, h6⟩ h1
        · omega
      rw [h5] at hd h4
      exact h (by omega)
end Go.Proofs.YthjiiljglgmkpaaGreatDoor
namespace Go.Proofs.YthjiiljglgmkpaaGreatDoor
open Go.RowKit
set_option linter.unusedVariables false

theorem yield_any {P : Program} {m m' l : Nat} {args : Array Value} {W : World} {R : Ending → World → Prop} (h : YieldAt Fence.wide m P l args W R) : YieldAt Fence.wide m' P l args W R := by
  obtain ⟨fn, tmps, assign, body, h1, h2⟩ := h
  exact ⟨fn, tmps, assign, body, h1, h2.1, fun c cs _ => h2.2 c cs (room_wide _)⟩

/-- What Pr names stays. -/
structure Kl (Pr : Nat → Prop) (W W' : World) : Prop where
  os : W'.os = W.os
  tape : W'.tape = W.tape
  output : W'.output = W.output
  size : W.heap.size ≤ W'.heap.size
  low : ∀ i, Pr i → i < W.heap.size → W'.heap[i]? = W.heap[i]?
theorem Kl.trans {Pr : Nat → Prop} {X Y Z : World} (h : Kl Pr X Y) (k : Kl Pr Y Z) : Kl Pr X Z :=
  ⟨k.os.trans h.os, k.tape.trans h.tape, k.output.trans h.output, Nat.le_trans h.size k.size, fun i h1 h2 => (k.low i h1 (Nat.lt_of_lt_of_le h2 h.size)).trans (h.low i h1 h2)⟩
theorem Kl.of {Pr : Nat → Prop} {X Y : World} {r : Option Nat} (h : X.grownBy Y r) (hr : ∀ i, r = some i → ¬ Pr i) : Kl Pr X Y :=
  ⟨h.os, h.tape, h.output, h.size, fun i h1 h2 => h.block i h2 (fun e => hr i e.symm h1)⟩
/-- What Pr names, and what lies at B or beyond it, stays. -/
structure Kh (B : Nat) (Pr : Nat → Prop) (W W' : World) : Prop where
  os : W'.os = W.os
  tape : W'.tape = W.tape
  output : W'.output = W.output
  size : W.heap.size ≤ W'.heap.size
  low : ∀ i, Pr i → i < W.heap.size → W'.heap[i]? = W.heap[i]?
  high : ∀ i, B ≤ i → i < W.heap.size → W'.heap[i]? = W.heap[i]?
theorem Kh.refl (B : Nat) (Pr : Nat → Prop) (W : World) : Kh B Pr W W := ⟨rfl, rfl, rfl, Nat.le_refl _, fun _ _ _ => rfl, fun _ _ _ => rfl⟩
theorem Kh.trans {B : Nat} {Pr : Nat → Prop} {X Y Z : World} (h : Kh B Pr X Y) (k : Kh B Pr Y Z) : Kh B Pr X Z :=
  ⟨k.os.trans h.os, k.tape.trans h.tape, k.output.trans h.output, Nat.le_trans h.size k.size, fun i h1 h2 => (k.low i h1 (Nat.lt_of_lt_of_le h2 h.size)).trans (h.low i h1 h2), fun i h1 h2 => (k.high i h1 (Nat.lt_of_lt_of_le h2 h.size)).trans (h.high i h1 h2)⟩
theorem Kh.of {B : Nat} {Pr : Nat → Prop} {X Y : World} {r : Option Nat} (h : X.grownBy Y r) (hr : ∀ i, r = some i → ¬ Pr i ∧ i < B) : Kh B Pr X Y :=
  ⟨h.os, h.tape, h.output, h.size, fun i h1 h2 => h.block i h2 (fun e => (hr i e.symm).1 h1), fun i h1 h2 => h.block i h2 (fun e => by have := hr i e.symm; omega)⟩
theorem Kh.mono {B B' : Nat} {Pr : Nat → Prop} {X Y : World} (h : Kh B Pr X Y) (hB : B ≤ B') : Kh B' Pr X Y := ⟨h.os, h.tape, h.output, h.size, h.low, fun i h1 h2 => h.high i (by omega) h2⟩
theorem Kh.from {B : Nat} {Pr : Nat → Prop} {X Y : World} (h : Kh B Pr X Y) : KeepsFrom B X Y := ⟨h.size, fun k o hB hk _ => (h.high k hB (Array.getElem?_eq_some_iff.1 hk).1).trans hk⟩
theorem Kh.kl {B : Nat} {Pr : Nat → Prop} {X Y : World} (h : Kh B Pr X Y) : Kl Pr X Y := ⟨h.os, h.tape, h.output, h.size, h.low⟩
theorem RoundIn.inRound {F : Fence} {n : Nat} {P : Program} {l : Nat} {f : FuncId} {tmps : Array Value} {assign body : Code} {w : World} {R : Ending → World → Prop} (l₀ : Nat) (h : RoundIn F n P l f tmps assign body w R) : RoundIn (F.inRound l₀) n P l f tmps assign body w R := h

/-- How a round may be left. -/
def postI {α : Type} (B : Nat) (Pr : Nat → Prop) (I : List α → World → Prop) (Ix : Code → List α → World → Prop) (xs : List α) (W : World) : Exit → Act → World → Prop
  | .normal, _, W' => Kh B Pr W W' ∧ I xs W'
  | .ret, _, W' => Kh B Pr W W' ∧ Ix .ret xs W'
  | .exit id, _, W' => Kh B Pr W W' ∧ Ix (.exit id) xs W'
  | .goto t, _, W' => Kh B Pr W W' ∧ Ix (.goto t) xs W'
  | .panic _, _, _ => False
  | .outgrown, _, _ => False

/-- What an iterator must do that is called in a world of that size. -/
def SeqI {α : Type} (P : Program) (n : Nat) (gf : Nat) (lb : Array Value) (encs : α → Array Value) (Pr : Nat → Prop) (S Sp : List α → Prop) (w : World) : Prop :=
  ∀ (l : Nat) (J Jx : List α → World → Prop) (W : World), w.heap.size ≤ W.heap.size → w.grownBy W none → (∀ s A B r, J s A → A.grownBy B r → (∀ i, r = some i → W.heap.size ≤ i) → J s B) → (∀ s A B r, Jx s A → A.grownBy B r → (∀ i, r = some i → W.heap.size ≤ i) → Jx s B) →
    (∀ pre x W1 m, J pre W1 → Sp (pre ++ [x]) → YieldAt Fence.wide m P l (encs x) W1 fun e W' => ((e = .returned (.bool true) ∧ J (pre ++ [x]) W') ∨ (e = .returned (.bool false) ∧ Jx (pre ++ [x]) W')) ∧ Kh W.heap.size Pr W1 W') →
    J [] W → CallsIn Fence.wide n P gf (#[.func (.yield l) #[] #[]] ++ lb) W fun e W' => (∃ v, e = .returned v) ∧ ((∃ xs, S xs ∧ J xs W') ∨ (∃ pre, Sp pre ∧ Jx pre W'))

set_option maxHeartbeats 1000000 in
theorem rangeI {P : Program} {n : Nat} {α : Type} {g : Operand} {ps : Array Tmp} {assign body : Code} {Q : Exit → Act → World → Prop} {a : Act} {w : World}
    {gf : Nat} {lb : Array Value} (hg : a.eval g = .func (.func gf) #[] lb) (eg : ∀ args w, (callFunc gf args).run P w = .ok (.enter gf args) w)
    {encs : α → Array Value} (hps : ∀ x, (encs x).size = ps.size) (Pr : Nat → Prop) (hPr : ∀ i, Pr i → i < w.heap.size)
    {S Sp : List α → Prop} (hseq : SeqI P (n - 1) gf lb encs Pr S Sp w)
    (I : List α → World → Prop) (Ix : Code → List α → World → Prop)
    (hI : ∀ s A B r, I s A → A.grownBy B r → (∀ i, r = some i → w.heap.size ≤ i) → I s B) (hIx : ∀ c s A B r, Ix c s A → A.grownBy B r → (∀ i, r = some i → w.heap.size ≤ i) → Ix c s B) (h0 : I [] w)
    (Ax : α → Act → World → Prop) (hAx : ∀ x a' A B, Ax x a' A → A.grownBy B (some (w.heap.size + 1)) → Ax x a' B)
    (hassign : ∀ (l : Nat) (pre : List α) (x : α) (W : World) (K : Act → World → Prop), I pre W → w.heap.size + 2 ≤ W.heap.size → (∀ a' W', Ax x a' W' → W.grownBy W' none → K a' W') →
      assign.wpIn (Fence.wide.inRound l) n P (Exit.then K (fun _ _ _ => False)) { tmps := (ps.zip (encs x)).foldl (fun t (p, v) => t.setIfInBounds p v) a.tmps, defers := [] } W)
    (hbody : ∀ (l : Nat) (pre : List α) (x : α) (a' : Act) (W : World), I pre W → Ax x a' W → Sp (pre ++ [x]) → body.wpIn (Fence.wide.inRound l) n P (postI w.heap.size Pr I Ix (pre ++ [x]) W) a' W)
    (hdone : ∀ (D : Nat) (xs : List α) (W : World), w.heap.size ≤ D → S xs → I xs W → W.heap[D]? = some (.deferred (some [])) → Q .normal { a with defers := { target := .collected D, args := #[] } :: a.defers } W)
    (hstop : ∀ (D : Nat) (c : Code) (pre : List α) (W : World), w.heap.size ≤ D → Sp pre → Ix c pre W → W.heap[D]? = some (.deferred (some [])) → c.wpIn Fence.wide n P Q { a with defers := { target := .collected D, args := #[] } :: a.defers } W) :
    (Code.rangeFunc g ps assign body).wpIn Fence.wide n P Q a w := by
  refine wpIn_rangeFunc fun fn hfn => ?_
  obtain ⟨rc, hrc⟩ : ∃ rc : LoopState → Option Code → Loop, rc = fun st pe => { state := st, pending := pe, fn, tmps := a.tmps, params := ps, assign, body, defers := w.heap.size } := ⟨_, rfl⟩
  obtain ⟨V, hV⟩ : ∃ V, (w.alloc (.deferred (some []))).alloc (.loop (rc .ready none)) = V := ⟨_, rfl⟩
  obtain ⟨k, hk⟩ : ∃ k, w.heap.size = k := ⟨_, rfl⟩
  have sV : V.heap.size = k + 2 := by rw [← hV, ← hk]; simp
  have gV : w.grownBy V none := by
    rw [← hV]
    have h1 := World.grownBy_alloc w (.deferred (some [])) none
    have h2 := World.grownBy_alloc (w.alloc (.deferred (some []))) (.loop (rc .ready none)) none
    exact ⟨h2.os.trans h1.os, h2.tape.trans h1.tape, h2.output.trans h1.output, Nat.le_trans h1.size h2.size, fun i hi _ => (h2.block i (Nat.lt_of_lt_of_le hi h1.size) (by simp)).trans (h1.block i hi (by simp))⟩
  have lV : V.heap[k + 1]? = some (.loop (rc .ready none)) := by
    have := World.alloc_heap_new (w.alloc (.deferred (some []))) (.loop (rc .ready none))
    rw [World.size_alloc, hV, hk] at this
    exact this
  have dV : V.heap[k]? = some (.deferred (some [])) := by
    rw [← hV, ← hk]
    exact (Below.heap_alloc _ _ _ (by simp)).trans (World.alloc_heap_new w _)
  have same : ∀ {A B : World} {r : Option Nat} {i : Nat} {o : Obj}, A.grownBy B r → (some i ≠ r) → A.heap[i]? = some o → B.heap[i]? = some o := fun hg hi ho => (hg.block _ (Array.getElem?_eq_some_iff.1 ho).1 hi).trans ho
  have pg : ∀ (A : World) (i : Nat) (o : Obj), A.grownBy (A.putObj i o) (some i) := fun A i o => grownBy_putObj' A i o
  rw [hk] at hPr hI hIx hAx hassign hbody hdone hstop
  refine ⟨k + 1, [{ target := .collected k, args := #[] }], V, { target := .fn (.func gf) lb, args := #[.func (.yield (k + 1)) #[] #[]] }, V, gf, #[.func (.yield (k + 1)) #[] #[]] ++ lb, V, ?_, ?_, fun _ _ => trivial, ?_, fun h => by simp [Fence.wide] at h, ?_⟩
  · have := run_enterLoop_outer (P := P) (w := w) fn a.tmps ps assign body
    rw [hk] at this
    rw [show Fence.wide.round = none from rfl, ← hV, hrc, hk]
    exact this
  · simp only [resolve, hg]
    simp [go_sem]
  · simp [invoke, go_sem, eg]
  · refine (hseq (k + 1)
      (fun pre A => I pre A ∧ A.heap[k + 1]? = some (.loop (rc .ready none)) ∧ A.heap[k]? = some (.deferred (some [])))
      (fun pre A => ∃ c, Ix c pre A ∧ A.heap[k + 1]? = some (.loop (rc .done (some c))) ∧ A.heap[k]? = some (.deferred (some []))) V (by rw [hk, sV]; omega) gV
      (fun s A B r h hg' hr => ⟨hI s A B r h.1 hg' (fun i e => by have := hr i e; omega), same hg' (fun e => by have := hr _ e.symm; omega) h.2.1, same hg' (fun e => by have := hr _ e.symm; omega) h.2.2⟩)
      (fun s A B r h hg' hr => by
        obtain ⟨c, h1, h2, h3⟩ := h
        exact ⟨c, hIx c s A B r h1 hg' (fun i e => by have := hr i e; omega), same hg' (fun e => by have := hr _ e.symm; omega) h2, same hg' (fun e => by have := hr _ e.symm; omega) h3⟩) ?_
      ⟨hI [] w V none h0 gV (fun i e => by cases e), lV, dV⟩).mono ?_
    · rintro pre x A m ⟨hi, hl, hd⟩ hlen
      have hlt : k + 1 < A.heap.size := (Array.getElem?_eq_some_iff.1 hl).1
      have hy := run_yield (P := P) (args := encs x) hl (by rw [hrc]; exact hps x)
      rw [hrc] at hy
      refine yield_any (m := n) ⟨fn, _, assign, body, hy, roundIn_of_wpIn hfn (hassign _ pre x A _ hi (by omega) ?_)⟩
      intro a' A1 hax gA1
      have hi1 : I pre A1 := hI pre A A1 none hi gA1 (fun i e => by cases e)
      have hl1 := same gA1 (by simp) hl
      have hd1 := same gA1 (by simp) hd
      have hlt1 : k + 1 < A1.heap.size := (Array.getElem?_eq_some_iff.1 hl1).1
      obtain ⟨A2, hA2⟩ : ∃ A2, A1.putObj (k + 1) (.loop { rc .ready none with state := .busy }) = A2 := ⟨_, rfl⟩
      have gA : A1.grownBy A2 (some (k + 1)) := hA2 ▸ pg _ _ _
      have lA : A2.heap[k + 1]? = some (.loop { rc .ready none with state := .busy }) := by rw [← hA2]; exact World.putObj_heap_same hlt1
      have dA : A2.heap[k]? = some (.deferred (some [])) := same gA (by simp) hd1
      refine ⟨A2, by rw [← hA2]; exact run_beginRound hl1 (by rw [hrc]), ?_⟩
      refine wpIn_mono (hbody _ pre x a' A2 (hI pre A1 A2 _ hi1 gA (fun i e => by cases e; omega)) (hAx x a' A1 A2 hax gA) hlen) ?_
      have nP : ¬ Pr (k + 1) := fun h => by have := hPr _ h; omega
      have kA : Kh (k + 2) Pr A A2 := (Kh.of gA1 (fun i e => by cases e)).trans (Kh.of gA (fun i e => by cases e; exact ⟨nP, by omega⟩))
      have fin : ∀ (j : Option Code) (B : World), Kh k Pr A2 B → ∃ C, (Instr.endRound (k + 1) j).run P B = .ok (.bool j.isNone) C ∧ B.grownBy C (some (k + 1)) ∧ Kh (k + 2) Pr B C ∧ C.heap[k + 1]? = some (.loop (rc (if j.isNone then .ready else .done) j)) ∧ C.heap[k]? = some (.deferred (some [])) := fun j B hB => by
        have lB := (hB.high (k + 1) (by omega) (Array.getElem?_eq_some_iff.1 lA).1).trans lA
        have dB := (hB.high k (Nat.le_refl _) (Array.getElem?_eq_some_iff.1 dA).1).trans dA
        have hlB := (Array.getElem?_eq_some_iff.1 lB).1
        have := run_endRound (P := P) j lB
        rw [hrc] at this ⊢
        exact ⟨_, this, pg _ _ _, Kh.of (pg _ _ _) (fun i e => by cases e; exact ⟨nP, by omega⟩), World.putObj_heap_same hlB, (World.putObj_heap_other (by omega)).trans dB⟩
      rintro e a3 B hp
      have out : ∀ c, Kh k Pr A2 B → Ix c (pre ++ [x]) B → ∃ v C, (Instr.endRound (k + 1) (some c)).run P B = .ok v C ∧ ((Ending.returned v = .returned (.bool true) ∧ (I (pre ++ [x]) C ∧ C.heap[k + 1]? = some (.loop (rc .ready none)) ∧ C.heap[k]? = some (.deferred (some [])))) ∨ (Ending.returned v = .returned (.bool false) ∧ ∃ c, Ix c (pre ++ [x]) C ∧ C.heap[k + 1]? = some (.loop (rc .done (some c))) ∧ C.heap[k]? = some (.deferred (some [])))) ∧ Kh V.heap.size Pr A C := fun c hB hc => by
        obtain ⟨C, h1, h2, h3, h4, h5⟩ := fin (some c) B hB
        exact ⟨_, C, h1, .inr ⟨rfl, c, hIx c _ B C _ hc h2 (fun i e => by cases e; omega), h4, h5⟩, by rw [sV]; exact (kA.trans (hB.mono (by omega))).trans h3⟩
      cases e with
      | normal =>
        obtain ⟨hB, hiB⟩ := hp
        obtain ⟨C, h1, h2, h3, h4, h5⟩ := fin none B hB
        exact ⟨_, C, h1, .inl ⟨rfl, ⟨hI _ B C _ hiB h2 (fun i e => by cases e; omega), h4, h5⟩⟩, by rw [sV]; exact (kA.trans (hB.mono (by omega))).trans h3⟩
      | ret => exact out _ hp.1 hp.2
      | exit id => exact out _ hp.1 hp.2
      | goto t => exact out _ hp.1 hp.2
      | panic ch => exact hp.elim
      | outgrown => exact hp.elim
    · rintro e B ⟨⟨v, rfl⟩, (⟨xs, hS, hi, hl, hd⟩ | ⟨pre, hS, c, hi, hl, hd⟩)⟩
      · have := run_endLoop (P := P) hl (by rw [hrc]; simp)
        rw [hrc] at this
        exact ⟨none, _, this, hdone k xs _ (Nat.le_refl _) hS (hI _ B _ _ hi (pg _ _ _) (fun i e => by cases e; omega)) ((World.putObj_heap_other (by omega)).trans hd)⟩
      · have := run_endLoop (P := P) hl (by rw [hrc]; simp)
        rw [hrc] at this
        exact ⟨some c, _, this, hstop k c pre _ (Nat.le_refl _) hS (hIx c _ B _ _ hi (pg _ _ _) (fun i e => by cases e; omega)) ((World.putObj_heap_other (by omega)).trans hd)⟩
end Go.Proofs.YthjiiljglgmkpaaGreatDoor
namespace Go.Proofs.YthjiiljglgmkpaaGreatDoor
open Go.RowKit
set_option linter.unusedVariables false
set_option linter.unusedSimpArgs false
set_option maxRecDepth 100000
attribute [local go_sem] Oper.semAt_some

/-- How a place is handed out. -/
def encE (p : Int × Int) : Array Value := #[.agg #[.int .i64 p.1, .int .i64 p.2]]
theorem edgesC (C R : Int) (w : World) : Calls Tryz.prog 85 #[.int .i64 C, .int .i64 R] w fun e w' => e = .returned (.func (.func 111) #[] #[.pointer (some ⟨w.heap.size, 0, none⟩), .pointer (some ⟨w.heap.size + 1, 0, none⟩)]) ∧ w' = (w.alloc (.cells #[.int .i64 C] 3)).alloc (.cells #[.int .i64 R] 3) := by
  go_enter Tryz.func85, Tryz.ntmps85
  go_wp2
  go_ret
  exact ⟨by simp, rfl⟩
theorem Kl.cell {Pr : Nat → Prop} {W W' : World} {b i : Nat} {v : Value} (h : Kl Pr W W') (p : Pr b) (hc : W.cell? ⟨b, i, none⟩ = some v) : W'.cell? ⟨b, i, none⟩ = some v := by
  have := h.low b p (cell_lt hc)
  rw [← hc]
  simp [World.cell?, this]
set_option maxHeartbeats 2000000 in
theorem edges1_seq (n l b1 b2 : Nat) (Pr : Nat → Prop) (C R : Nat) (hC : C ≤ 65536) (hR : R ≤ 65536) (p1 : Pr b1) (p2 : Pr b2) (J Jx : List (Int × Int) → World → Prop) (W : World)
    (hY : ∀ pre x W1 m, J pre W1 → Pre C R (pre ++ [x]) → YieldAt Fence.wide m Tryz.prog l (encE x) W1 fun e W' => ((e = .returned (.bool true) ∧ J (pre ++ [x]) W') ∨ (e = .returned (.bool false) ∧ Jx (pre ++ [x]) W')) ∧ Kh W.heap.size Pr W1 W')
    (hJd : ∀ s A m, J s A → J s (A.drewN m)) (h1 : W.cell? ⟨b1, 0, none⟩ = some (.int .i64 (C : Nat))) (h2 : W.cell? ⟨b2, 0, none⟩ = some (.int .i64 (R : Nat))) (h0 : J [] W) :
    CallsIn Fence.wide n Tryz.prog 111 #[.func (.yield l) #[] #[], .pointer (some ⟨b1, 0, none⟩), .pointer (some ⟨b2, 0, none⟩)] W fun e W' => (∃ v, e = .returned v) ∧
      ((∃ ys, ys = rgL C R ∧ J ys W') ∨ (∃ pre, Pre C R pre ∧ Jx pre W')) := by
  refine (callsIn_wide (n := n)).2 ((callsIn_wide (n := 3)).1 ?_)
  refine callsIn_of_wp Tryz.func111 rfl trivial ?_ rfl
  simp only [Tryz.ntmps111, List.size_toArray, List.length_cons, List.length_nil, Nat.reduceAdd, Nat.reduceSub, Array.replicate_succ, Array.replicate_zero, List.push_toArray, List.append_toArray, List.nil_append, List.cons_append]
  gi_wp2
  gi_loopw [4] (fun i wr => ∃ k : Nat, k ≤ C + 2 ∧ i = .int .i64 ((k : Int) - 1) ∧ J (rgT R k) wr ∧ Kl Pr W wr) (fun i _ => C + 2 - (intOf i + 1).toNat)
  case atStart => exact ⟨0, Nat.zero_le _, rfl, h0, ⟨rfl, rfl, rfl, Nat.le_refl _, fun _ _ _ => rfl⟩⟩
  case round =>
    obtain ⟨k, hk, rfl, hJs, hnx⟩ := hrel
    have c1 := hnx.cell p1 h1
    have c2 := hnx.cell p2 h2
    by_cases hlt : k < C + 2
    · have hi1 : (k : Int) - 1 ≤ (C : Int) := by omega
      obtain ⟨fn, tmps, assign, body, hy1, hR1⟩ := hY (rgT R k) ((k : Int) - 1, -1) wr (3 - 1) hJs (preT1 hlt)
      dsimp only [encE] at hy1
      gi_wp2
      refine hR1.mono ?_
      rintro e W3 ⟨(⟨rfl, hJ3⟩ | ⟨rfl, hJx3⟩), hK3⟩
      all_goals have hk3 := hK3.kl
      · have d2 := (hnx.trans hk3).cell p2 h2
        obtain ⟨fn2, tmps2, assign2, body2, hy2, hR2⟩ := hY _ ((k : Int) - 1, (R : Int)) W3 (3 - 1) hJ3 (preT2 hlt)
        dsimp only [encE] at hy2
        gi_wp2
        refine hR2.mono ?_
        rintro e W4 ⟨(⟨rfl, hJ4⟩ | ⟨rfl, hJx4⟩), hK4⟩
        all_goals have hk4 := hK4.kl
        · gi_wp2
          go_roundw
          case rel => exact ⟨k + 1, hlt, by go_num, by rw [List.append_assoc] at hJ4; exact hJ4, (hnx.trans hk3).trans hk4⟩
          case measure => simp [intOf]; omega
        · gi_wp2
          refine bodyPost_ret (results_none rfl _ _ _) rfl ?_
          exact ⟨⟨_, rfl⟩, .inr ⟨_, preT2 hlt, hJx4⟩⟩
      · gi_wp2
        refine ⟨fun _ h => (by cases h), ?_⟩
        gi_wp2
        refine bodyPost_ret (results_none rfl _ _ _) rfl ?_
        exact ⟨⟨_, rfl⟩, .inr ⟨_, preT1 hlt, hJx3⟩⟩
    · obtain rfl : k = C + 2 := by omega
      have hi1 : ¬ ((C + 2 : Nat) : Int) - 1 ≤ (C : Int) := by omega
      gi_wp2
      gi_loopw [25] (fun i wi => ∃ k : Nat, k ≤ R ∧ i = .int .i64 (k : Nat) ∧ J (rgT R (C + 2) ++ rgS C k) wi ∧ Kl Pr W wi) (fun i _ => R - (intOf i).toNat)
      case atStart => exact ⟨0, Nat.zero_le _, rfl, by simpa [rgS] using hJs, hnx⟩
      case round =>
        obtain ⟨k, hk, rfl, hJs, hnx⟩ := hrel
        have c1 := hnx.cell p1 h1
        have c2 := hnx.cell p2 h2
        by_cases hlt : k < R
        · have hi1 : (k : Int) < (R : Int) := by omega
          obtain ⟨fn, tmps, assign, body, hy1, hR1⟩ := hY _ (-1, (k : Int)) wr (3 - 1) hJs (preS1 hlt)
          dsimp only [encE] at hy1
          gi_wp2
          refine hR1.mono ?_
          rintro e W3 ⟨(⟨rfl, hJ3⟩ | ⟨rfl, hJx3⟩), hK3⟩
          all_goals have hk3 := hK3.kl
          · have d1 := (hnx.trans hk3).cell p1 h1
            obtain ⟨fn2, tmps2, assign2, body2, hy2, hR2⟩ := hY _ ((C : Int), (k : Int)) W3 (3 - 1) hJ3 (preS2 hlt)
            dsimp only [encE] at hy2
            gi_wp2
            refine hR2.mono ?_
            rintro e W4 ⟨(⟨rfl, hJ4⟩ | ⟨rfl, hJx4⟩), hK4⟩
            all_goals have hk4 := hK4.kl
            · gi_wp2
              go_roundw
              case rel => exact ⟨k + 1, hlt, by go_num, by simpa [rgS] using hJ4, (hnx.trans hk3).trans hk4⟩
              case measure => simp [intOf]; omega
            · gi_wp2
              refine bodyPost_ret (results_none rfl _ _ _) rfl ?_
              exact ⟨⟨_, rfl⟩, .inr ⟨_, preS2 hlt, hJx4⟩⟩
          · gi_wp2
            refine ⟨fun _ h => (by cases h), ?_⟩
            gi_wp2
            refine bodyPost_ret (results_none rfl _ _ _) rfl ?_
            exact ⟨⟨_, rfl⟩, .inr ⟨_, preS1 hlt, hJx3⟩⟩
        · obtain rfl : k = R := by omega
          gi_wp2
          go_end0
          exact ⟨⟨_, rfl⟩, .inl ⟨_, rfl, hJs⟩⟩
theorem edges_seq (n b1 b2 : Nat) (Pr : Nat → Prop) (C R : Nat) (hC : C ≤ 65536) (hR : R ≤ 65536) (p1 : Pr b1) (p2 : Pr b2) (w : World) (h1 : Bo w b1 3 #[.int .i64 (C : Nat)]) (h2 : Bo w b2 3 #[.int .i64 (R : Nat)]) :
    SeqI Tryz.prog n 111 #[.pointer (some ⟨b1, 0, none⟩), .pointer (some ⟨b2, 0, none⟩)] encE Pr (fun ys => ys = rgL C R) (Pre C R) w := fun l J Jx W hW gW hJ hJx hY h0 =>
  edges1_seq n l b1 b2 Pr C R hC hR p1 p2 J Jx W hY (fun s A m h => hJ s A _ none h (gb_drewN (World.grownBy.refl _ _) m) (fun r e => by cases e)) ((h1.kept gW (by simp)).cell 0 rfl) ((h2.kept gW (by simp)).cell 0 rfl) h0
end Go.Proofs.YthjiiljglgmkpaaGreatDoor
namespace Go.Proofs.YthjiiljglgmkpaaGreatDoor
open Go.RowKit
set_option linter.unusedVariables false
set_option linter.unusedSimpArgs false
set_option maxRecDepth 100000

theorem ix_mul {C : Nat} {v : Int} (hC : C ≤ 65536) (h0 : -1 ≤ v) (h1 : v ≤ 65536) : 0 ≤ (v + 1) * ((C : Int) + 2) ∧ (v + 1) * ((C : Int) + 2) ≤ 4295163906 := by
  obtain ⟨b, hb⟩ := Int.eq_ofNat_of_zero_le (show 0 ≤ v + 1 by omega)
  have h2 : b * (C + 2) ≤ 65537 * 65538 := Nat.mul_le_mul (by omega) (by omega)
  have e : (v + 1) * ((C : Int) + 2) = ((b * (C + 2) : Nat) : Int) := by
    rw [hb, Int.natCast_mul]; rfl
  rw [e]; omega
theorem indexC (C : Nat) (u v : Int) (hC : C ≤ 65536) (hu : -1 ≤ u ∧ u ≤ 65536) (hv : -1 ≤ v ∧ v ≤ 65536) (w : World) : Calls Tryz.prog 83 #[.int .i64 (C : Nat), .int .i64 u, .int .i64 v] w fun e w' => e = .returned (.int .i64 (ixN C u v : Nat)) ∧ w' = w := by
  have hm := ix_mul hC hv.1 hv.2
  have HX : Hid (((ixN C u v : Nat) : Int) = (v + 1) * (C + 2) + u + 1) := ix_int hu.1 hv.1
  have hw : IntKind.i64.wrap ((v + 1) * ((C : Int) + 2)) = (v + 1) * ((C : Int) + 2) := by rw [IntKind.wrap_i64]; omega
  obtain ⟨P, hP⟩ : ∃ P, (v + 1) * ((C : Int) + 2) = P := ⟨_, rfl⟩
  rw [hP] at hm hw
  have hX : ((ixN C u v : Nat) : Int) = P + u + 1 := by rw [HX.out, ← hP]
  rw [hX]
  clear HX hX
  have hQ : Hid ((v + 1) * ((C : Int) + 2) = P) := hP
  go_enter Tryz.func83, Tryz.ntmps83
  go_wp2
  go_ret
  exact ⟨rfl, rfl⟩
theorem cellOfC {k t z : Int} {C R : Nat} (G : Gr k t z C R) (u v : Int) (hu : -1 ≤ u ∧ u ≤ C) (hv : -1 ≤ v ∧ v ≤ R) (w : World) : Calls Tryz.prog 86 #[.agg #[.int .u8 k, .int .i64 (C : Nat), .int .i64 (R : Nat), .int .u8 t, .int .i64 z], .agg #[.int .i64 (To.fi C), .int .i64 (To.fi R), .int .i64 (C : Nat), .int .i64 (R : Nat)], .agg #[.int .i64 u, .int .i64 v]] w fun e w' => (∃ a b : Int, e = .returned (.tuple #[.agg #[.int .i64 a, .int .i64 b], .bool (fcB k t z C R u v)]) ∧ (fcB k t z C R u v = true → a = (fcX k t z C R u v : Nat) ∧ b = (fcY k t z C R u v : Nat))) ∧ w.grownBy w' none := by
  have hb := fc_bd G hu hv
  have b1 := fi_mem C G.c1
  have b2 := fi_mem R G.r1
  have c1 := G.c1
  have r1 := G.r1
  have hr := fun w => Fd.ringC k C R t z (u + To.fi C) (v + To.fi R) G.t0 w
  have hB : Fd.riB k C R t z (u + To.fi C) (v + To.fi R) = fcB k t z C R u v := rfl
  rw [hB] at hr
  obtain ⟨fs, hfs⟩ := underP
  cases h : fcB k t z C R u v
  · rw [Fd.riV_no (hB.trans h), h] at hr
    obtain ⟨W1, hW1, sz1, g1, B1⟩ := boxn w #[.int .u8 k, .int .i64 (C : Nat), .int .i64 (R : Nat), .int .u8 t, .int .i64 z] 30
    obtain ⟨W2, hW2, sz2, g2, B2⟩ := boxn W1 #[.int .i64 (To.fi C), .int .i64 (To.fi R), .int .i64 (C : Nat), .int .i64 (R : Nat)] 131
    have G2 := gb_trans g1 g2
    have B1x := B1.kept g2 (by simp)
    obtain ⟨W3, hW3, sz3, g3, B3⟩ := boxn W2 #[.int .i64 u, .int .i64 v] 135
    have G3 := gb_trans G2 g3
    have B1xx := B1x.kept g3 (by simp)
    have B2x := B2.kept g3 (by simp)
    obtain ⟨W4, hW4, sz4, g4, B4⟩ := boxn W3 #[.int .i64 0, .int .i64 0] 135
    have G4 := gb_trans G3 g4
    have B1xxx := B1xx.kept g4 (by simp)
    have B2xx := B2x.kept g4 (by simp)
    have B3x := B3.kept g4 (by simp)
    have b1_4_0 := B1xxx.cell 0 (v := .int .u8 k) rfl
    have b1_4_1 := B1xxx.cell 1 (v := .int .i64 (C : Nat)) rfl
    have b1_4_2 := B1xxx.cell 2 (v := .int .i64 (R : Nat)) rfl
    have b1_4_3 := B1xxx.cell 3 (v := .int .u8 t) rfl
    have b1_4_4 := B1xxx.cell 4 (v := .int .i64 z) rfl
    have b2_4_0 := B2xx.cell 0 (v := .int .i64 (To.fi C)) rfl
    have b2_4_1 := B2xx.cell 1 (v := .int .i64 (To.fi R)) rfl
    have b2_4_2 := B2xx.cell 2 (v := .int .i64 (C : Nat)) rfl
    have b2_4_3 := B2xx.cell 3 (v := .int .i64 (R : Nat)) rfl
    have b3_4_0 := B3x.cell 0 (v := .int .i64 u) rfl
    have b3_4_1 := B3x.cell 1 (v := .int .i64 v) rfl
    have b4_4_0 := B4.cell 0 (v := .int .i64 0) rfl
    have b4_4_1 := B4.cell 1 (v := .int .i64 0) rfl
    have zb4_4_0 := B4.frozen 0
    have zb4_4_1 := B4.frozen 1
    go_enter Tryz.func86, Tryz.ntmps86
    go_wp2_with (first | (go_at_call 112; (fail_if_success (guard_hyp g5)); refine (hr _).mono ?_; rintro e w5 ⟨rfl, g5⟩; have G5 := gb_trans G4 g5; have B1xxxx := B1xxx.kept g5 (by simp); have B2xxx := B2xx.kept g5 (by simp); have B3xx := B3x.kept g5 (by simp); have B4x := B4.kept g5 (by simp); obtain ⟨W6, hW6, sz6, g6, B6⟩ := boxn w5 #[.int .i64 0, .int .i64 0] 135; have G6 := gb_trans G5 g6; have B1xxxxx := B1xxxx.kept g6 (by simp); have B2xxxx := B2xxx.kept g6 (by simp); have B3xxx := B3xx.kept g6 (by simp); have B4xx := B4x.kept g6 (by simp); have sm6_0 := Bo.same B6 0 (v := .int .i64 0) rfl; have sm6_1 := Bo.same B6 1 (v := .int .i64 0) rfl; have fz6_0 := B6.frozen 0; have fz6_1 := B6.frozen 1; clear b1_4_0 b1_4_1 b1_4_2 b1_4_3 b1_4_4 b2_4_0 b2_4_1 b2_4_2 b2_4_3 b3_4_0 b3_4_1 b4_4_0 b4_4_1 zb4_4_0 zb4_4_1; have b1_6_0 := B1xxxxx.cell 0 (v := .int .u8 k) rfl; have b1_6_1 := B1xxxxx.cell 1 (v := .int .i64 (C : Nat)) rfl; have b1_6_2 := B1xxxxx.cell 2 (v := .int .i64 (R : Nat)) rfl; have b1_6_3 := B1xxxxx.cell 3 (v := .int .u8 t) rfl; have b1_6_4 := B1xxxxx.cell 4 (v := .int .i64 z) rfl; have b2_6_0 := B2xxxx.cell 0 (v := .int .i64 (To.fi C)) rfl; have b2_6_1 := B2xxxx.cell 1 (v := .int .i64 (To.fi R)) rfl; have b2_6_2 := B2xxxx.cell 2 (v := .int .i64 (C : Nat)) rfl; have b2_6_3 := B2xxxx.cell 3 (v := .int .i64 (R : Nat)) rfl; have b3_6_0 := B3xxx.cell 0 (v := .int .i64 u) rfl; have b3_6_1 := B3xxx.cell 1 (v := .int .i64 v) rfl; have b4_6_0 := B4xx.cell 0 (v := .int .i64 0) rfl; have b4_6_1 := B4xx.cell 1 (v := .int .i64 0) rfl; have zb4_6_0 := B4xx.frozen 0; have zb4_6_1 := B4xx.frozen 1; have b6_6_0 := B6.cell 0 (v := .int .i64 0) rfl; have b6_6_1 := B6.cell 1 (v := .int .i64 0) rfl))
    refine ret_c2 (g := W3.heap.size) (cs := #[.int .i64 _, .int .i64 _]) rfl hfs infoP rfl (bo2 B4xx) rfl ⟨⟨_, _, rfl, fun h => by cases h⟩, gb2 G6 G3.size⟩
  · rw [Fd.riV_yes (hB.trans h), h, hb.2.2.1, hb.2.2.2.1] at hr
    have hx := hb.1
    have hy := hb.2.1
    clear hb
    obtain ⟨X, hX⟩ : ∃ X, fcX k t z C R u v = X := ⟨_, rfl⟩
    obtain ⟨Y, hY⟩ : ∃ Y, fcY k t z C R u v = Y := ⟨_, rfl⟩
    rw [hX, hY] at hr
    rw [hX] at hx
    rw [hY] at hy
    rw [hX, hY]
    clear hX hY
    obtain ⟨W1, hW1, sz1, g1, B1⟩ := boxn w #[.int .u8 k, .int .i64 (C : Nat), .int .i64 (R : Nat), .int .u8 t, .int .i64 z] 30
    obtain ⟨W2, hW2, sz2, g2, B2⟩ := boxn W1 #[.int .i64 (To.fi C), .int .i64 (To.fi R), .int .i64 (C : Nat), .int .i64 (R : Nat)] 131
    have G2 := gb_trans g1 g2
    have B1x := B1.kept g2 (by simp)
    obtain ⟨W3, hW3, sz3, g3, B3⟩ := boxn W2 #[.int .i64 u, .int .i64 v] 135
    have G3 := gb_trans G2 g3
    have B1xx := B1x.kept g3 (by simp)
    have B2x := B2.kept g3 (by simp)
    obtain ⟨W4, hW4, sz4, g4, B4⟩ := boxn W3 #[.int .i64 0, .int .i64 0] 135
    have G4 := gb_trans G3 g4
    have B1xxx := B1xx.kept g4 (by simp)
    have B2xx := B2x.kept g4 (by simp)
    have B3x := B3.kept g4 (by simp)
    have b1_4_0 := B1xxx.cell 0 (v := .int .u8 k) rfl
    have b1_4_1 := B1xxx.cell 1 (v := .int .i64 (C : Nat)) rfl
    have b1_4_2 := B1xxx.cell 2 (v := .int .i64 (R : Nat)) rfl
    have b1_4_3 := B1xxx.cell 3 (v := .int .u8 t) rfl
    have b1_4_4 := B1xxx.cell 4 (v := .int .i64 z) rfl
    have b2_4_0 := B2xx.cell 0 (v := .int .i64 (To.fi C)) rfl
    have b2_4_1 := B2xx.cell 1 (v := .int .i64 (To.fi R)) rfl
    have b2_4_2 := B2xx.cell 2 (v := .int .i64 (C : Nat)) rfl
    have b2_4_3 := B2xx.cell 3 (v := .int .i64 (R : Nat)) rfl
    have b3_4_0 := B3x.cell 0 (v := .int .i64 u) rfl
    have b3_4_1 := B3x.cell 1 (v := .int .i64 v) rfl
    have b4_4_0 := B4.cell 0 (v := .int .i64 0) rfl
    have b4_4_1 := B4.cell 1 (v := .int .i64 0) rfl
    have zb4_4_0 := B4.frozen 0
    have zb4_4_1 := B4.frozen 1
    go_enter Tryz.func86, Tryz.ntmps86
    go_wp2_with (first | (go_at_call 112; (fail_if_success (guard_hyp g5)); refine (hr _).mono ?_; rintro e w5 ⟨rfl, g5⟩; have G5 := gb_trans G4 g5; have B1xxxx := B1xxx.kept g5 (by simp); have B2xxx := B2xx.kept g5 (by simp); have B3xx := B3x.kept g5 (by simp); have B4x := B4.kept g5 (by simp); obtain ⟨W6, hW6, sz6, g6, B6⟩ := boxn w5 #[.int .i64 ((X : Nat) + To.fi C), .int .i64 ((Y : Nat) + To.fi R)] 135; have G6 := gb_trans G5 g6; have B1xxxxx := B1xxxx.kept g6 (by simp); have B2xxxx := B2xxx.kept g6 (by simp); have B3xxx := B3xx.kept g6 (by simp); have B4xx := B4x.kept g6 (by simp); clear b1_4_0 b1_4_1 b1_4_2 b1_4_3 b1_4_4 b2_4_0 b2_4_1 b2_4_2 b2_4_3 b3_4_0 b3_4_1 b4_4_0 b4_4_1 zb4_4_0 zb4_4_1; have b1_6_0 := B1xxxxx.cell 0 (v := .int .u8 k) rfl; have b1_6_1 := B1xxxxx.cell 1 (v := .int .i64 (C : Nat)) rfl; have b1_6_2 := B1xxxxx.cell 2 (v := .int .i64 (R : Nat)) rfl; have b1_6_3 := B1xxxxx.cell 3 (v := .int .u8 t) rfl; have b1_6_4 := B1xxxxx.cell 4 (v := .int .i64 z) rfl; have b2_6_0 := B2xxxx.cell 0 (v := .int .i64 (To.fi C)) rfl; have b2_6_1 := B2xxxx.cell 1 (v := .int .i64 (To.fi R)) rfl; have b2_6_2 := B2xxxx.cell 2 (v := .int .i64 (C : Nat)) rfl; have b2_6_3 := B2xxxx.cell 3 (v := .int .i64 (R : Nat)) rfl; have b3_6_0 := B3xxx.cell 0 (v := .int .i64 u) rfl; have b3_6_1 := B3xxx.cell 1 (v := .int .i64 v) rfl; have b4_6_0 := B4xx.cell 0 (v := .int .i64 0) rfl; have b4_6_1 := B4xx.cell 1 (v := .int .i64 0) rfl; have zb4_6_0 := B4xx.frozen 0; have zb4_6_1 := B4xx.frozen 1; have b6_6_0 := B6.cell 0 (v := .int .i64 ((X : Nat) + To.fi C)) rfl; have b6_6_1 := B6.cell 1 (v := .int .i64 ((Y : Nat) + To.fi R)) rfl))
    refine ret_c2 (g := W3.heap.size) (cs := #[.int .i64 _, .int .i64 _]) rfl hfs infoP rfl (bo2 B4xx) rfl ⟨⟨_, _, rfl, fun h => ⟨by omega, by omega⟩⟩, gb2 G6 G3.size⟩
end Go.Proofs.YthjiiljglgmkpaaGreatDoor
namespace Go.Proofs.YthjiiljglgmkpaaGreatDoor
open Go.RowKit
set_option linter.unusedVariables false

/-- No operation is a defer statement. -/
def noDef (o : Oper) : Bool := match o.op with | .defer _ => false | _ => true
theorem op_in {l n : Nat} {P : Program} {o : Oper} {a : Act} {w : World} {K : Act → World → Prop} {Q : Exit → Act → World → Prop} (hd : noDef o = true) (h : o.wp P a w K Q) : o.wpIn (Fence.wide.inRound l) n P a w K Q := by
  refine ⟨fun _ _ => trivial, ?_⟩
  rw [Oper.semAt_eq _ _ _ (fun c e => by simp [noDef, e] at hd)]
  unfold Oper.wp at h
  generalize (execOp a.eval o).run P w = r at h
  cases r with
  | ok x w' =>
    cases x <;> simp only [Oper.upon, Oper.uponIn] at h ⊢ <;> first | exact h | exact ⟨fun e => by simp [Fence.wide] at e, CallsIn.inRound l (callsIn_wide.2 h)⟩ | exact ⟨fun e => by simp [Fence.wide] at e, fun c cs _ => by obtain ⟨v, w', r, s⟩ := h c cs; exact ⟨v, w', r, stepsIn_wide.2 s⟩⟩ | exact h.elim
  | halt x w' => cases x <;> simp only [Oper.upon, Oper.uponIn] at h ⊢ <;> exact h
theorem any_in {l n : Nat} {P : Program} {md : Region.Mode} {ops : Array Oper} {Q : Exit → Act → World → Prop} (hd : ∀ (i : Nat) (o : Oper), ops[i]? = some o → noDef o = true) (hno : ¬ LetsOut Q) : ∀ (fuel : Nat) (listed : Array Bool) (a : Act) (w : World), wpAny P md ops Q fuel listed a w → wpAnyIn (Fence.wide.inRound l) n P md ops Q fuel listed a w
  | 0, listed, a, w, h => h
  | fuel + 1, listed, a, w, h => by
    refine ⟨h.1, fun i hi => ?_⟩
    have h2 := h.2 i hi
    unfold wpOp at h2
    unfold wpOpIn
    cases ho : ops[i]? with
    | none => rw [ho] at h2; exact any_in hd hno fuel _ _ _ h2
    | some o =>
      rw [ho] at h2
      dsimp only at h2 ⊢
      split
      · rename_i hw
        rw [if_pos hw] at h2
        rcases h2 with h2 | h2
        · exact Oper.wpIn_mono (fun a w => any_in hd hno fuel _ a w) (op_in (hd i o ho) h2)
        · exact absurd h2.2 hno
      · rename_i hw
        rw [if_neg hw] at h2
        exact ⟨fun _ _ => trivial, any_in hd hno fuel _ _ _ h2⟩
/-- What lets nothing out. -/
def noO (Q : Exit → Act → World → Prop) : Exit → Act → World → Prop
  | .outgrown, _, _ => False
  | e, a, w => Q e a w
theorem noO_le {Q : Exit → Act → World → Prop} : ∀ e a w, noO Q e a w → Q e a w := fun e a w h => by
  cases e <;> first | exact h | exact h.elim
theorem noO_normal {Q : Exit → Act → World → Prop} {a : Act} {w : World} (h : Q .normal a w) : noO Q .normal a w := h
theorem tail_in {l n : Nat} {P : Program} {id : Nat} {Q : Exit → Act → World → Prop} {a : Act} {w : World} {ops : List Oper} (k : Nat) (hm : P.follows .mixedOrders = true) (hd : ops.all noDef = true) (hB : Region.lexTailB .any ops.toArray k = true)
    (h : wpStill P ops.toArray w.drew (fun a' => wpList P ops.toArray (noO Q) (ops.drop k) a' w.drew) (ops.take k) a) : (Code.region id ops.toArray true).wpIn (Fence.wide.inRound l) n P Q a w := by
  refine wpIn_mono (Q := noO Q) ?_ noO_le
  simp only [Region.lexTailB, Bool.and_eq_true, decide_eq_true_eq] at hB
  obtain ⟨⟨⟨⟨b1, b2⟩, b3⟩, b4⟩, b5⟩ := hB
  have hk : k < ops.length := by simpa using b2
  have e1 : (ops.take k).length = k := by simp; omega
  have e2 : (ops.drop k).length = ops.toArray.size - k := by simp
  have hw : (w.drew : World) = { w with drawn := w.drawn + 1 } := rfl
  have A := wpAnyL_lex (md := .any) (g := ops.toArray.size - k) b1 b3 b4 b2 (ops.take k) 0 (Array.replicate ops.toArray.size false) a (fun j hj => by
    rw [e1] at hj
    simp [hj]) (by simpa using e1) ⟨by simp, fun j oj _ hl => (by rw [getD_replicate_false] at hl; cases hl), fun t _ ht => getD_in (by simpa using ht) (getD_replicate_false _ _)⟩ (by rw [e1]; exact b5) h
  have B := wpAny_of_head (Q' := noO Q) (g := ops.toArray.size - k) (fun listed a' hL => by
    have := wpAny_of_seq (md := .any) (Q' := noO Q) (ops.drop k) k listed a' w.drew (fun j => by simp [List.getElem?_drop]) (by rw [e2]; exact hL.1) hL.2
    rwa [e2] at this) _ _ _ A
  rw [e1, show k + (ops.toArray.size - k) = ops.toArray.size by omega] at B
  refine wpIn_region_any hm (any_in (fun i o ho => ?_) (fun ⟨a, w, h⟩ => h) _ _ _ _ B)
  exact List.all_eq_true.1 hd o (List.mem_of_getElem? (by simpa using ho))
end Go.Proofs.YthjiiljglgmkpaaGreatDoor
