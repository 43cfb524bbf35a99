/- Plain facts on frames: which cell each place of a grid and of its ring is, in home numbers; the ring's places in their order. -/
import Derived.Test.YtjndljjpbkfmiaaGreatDoorF9
namespace Go.Proofs.YtjndljjpbkfmiaaGreatDoor
set_option linter.unusedVariables false

/-- A grid: a topology that may be, with two ends each way. -/
structure Gr (k t z : Int) (C R : Nat) : Prop where
  chk : Tp.chk k C R t z = 0
  t0 : 0 ≤ t
  c0 : 0 < C
  r0 : 0 < R
theorem Gr.c1 {k t z : Int} {C R : Nat} (h : Gr k t z C R) : C ≤ 65536 := by have := (Tp.ok_of h.chk).wide; omega
theorem Gr.r1 {k t z : Int} {C R : Nat} (h : Gr k t z C R) : R ≤ 65536 := by have := (Tp.ok_of h.chk).high; omega
/-- Is a place (in home numbers) a cell; its column, its row. -/
def fcB (k t z : Int) (C R : Nat) (u v : Int) : Bool := Fd.riB k C R t z (u + To.fi C) (v + To.fi R)
def fcX (k t z : Int) (C R : Nat) (u v : Int) : Nat := (Fd.riX k C R t z (u + To.fi C) (v + To.fi R) - To.fi C).toNat
def fcY (k t z : Int) (C R : Nat) (u v : Int) : Nat := (Fd.riY k C R t z (u + To.fi C) (v + To.fi R) - To.fi R).toNat
/-- The state of a place. -/
def plS (k t z : Int) (C R : Nat) (g : Nat → Nat) (u v : Int) : Nat := if fcB k t z C R u v then g (fcY k t z C R u v * C + fcX k t z C R u v) else 0
/-- The state at an index of the frame. -/
def frV (k t z : Int) (C R : Nat) (g : Nat → Nat) (i : Nat) : Nat := plS k t z C R g ((i % (C + 2) : Nat) - 1) ((i / (C + 2) : Nat) - 1)
theorem fi_mem (n : Nat) (h : n ≤ 65536) : -32768 ≤ To.fi n ∧ To.fi n ≤ 0 := by unfold To.fi; omega
theorem li_home (n : Nat) (h : 0 < n) (u : Int) : To.liB (u + To.fi n) n = decide (0 ≤ u ∧ u < n) := by
  unfold To.liB
  rw [decide_eq_false (by omega), Bool.false_or]
  by_cases h1 : 0 ≤ u ∧ u < n
  · rw [decide_eq_true h1, decide_eq_true (by omega), decide_eq_true (by omega)]; rfl
  · rw [decide_eq_false h1]
    by_cases h2 : 0 ≤ u
    · rw [decide_eq_false (p := u + To.fi n < To.fi n + n) (by omega), Bool.and_false]
    · rw [decide_eq_false (p := To.fi n ≤ u + To.fi n) (by omega), Bool.false_and]
theorem gi_home (C R : Nat) (hc : 0 < C) (hr : 0 < R) (u v : Int) : Fd.giB C R (u + To.fi C) (v + To.fi R) = decide (0 ≤ u ∧ u < C ∧ 0 ≤ v ∧ v < R) := by
  unfold Fd.giB
  rw [li_home C hc, li_home R hr, ← Bool.decide_and]
  exact decide_eq_decide.2 (by omega)
theorem fr_home (n : Nat) (h : n ≤ 65536) (u : Int) (h1 : -1 ≤ u) (h2 : u ≤ n) : To.frB (u + To.fi n) = false := by
  have := fi_mem n h
  unfold To.frB
  rw [decide_eq_false (by omega), decide_eq_false (by omega)]; rfl
theorem to_home (n : Nat) (u : Int) (h1 : -1 ≤ u) (h2 : u ≤ n) : Fd.toB (u + To.fi n - To.fi n) n = true := by
  unfold Fd.toB
  rw [show u + To.fi n - To.fi n = u by omega, decide_eq_true h1, decide_eq_true h2]
  simp
/-- A place of the grid is itself. -/
theorem fc_in {k t z : Int} {C R : Nat} (G : Gr k t z C R) {x y : Nat} (hx : x < C) (hy : y < R) : fcB k t z C R x y = true ∧ fcX k t z C R x y = x ∧ fcY k t z C R x y = y := by
  have hg : Fd.giB C R ((x : Int) + To.fi C) ((y : Int) + To.fi R) = true := by rw [gi_home C R G.c0 G.r0]; exact decide_eq_true (by omega)
  have h1 := fr_home C G.c1 x (by omega) (by omega)
  have h2 := fr_home R G.r1 y (by omega) (by omega)
  refine ⟨?_, ?_, ?_⟩
  · unfold fcB Fd.riB Fd.riE
    rw [if_pos G.chk, h1, h2, hg]; rfl
  · unfold fcX Fd.riX
    rw [hg, if_pos rfl]; omega
  · unfold fcY Fd.riY
    rw [hg, if_pos rfl]; omega
theorem near_bd {v : Int} {n : Nat} (h : 0 < n) : 0 ≤ Nm.nearZ v 0 (n - 1) ∧ Nm.nearZ v 0 (n - 1) < n := by
  unfold Nm.nearZ; repeat' split
  all_goals omega
/-- The cell of a place lies in the grid; what fold answers there. -/
theorem fc_bd {k t z : Int} {C R : Nat} (G : Gr k t z C R) {u v : Int} (hu : -1 ≤ u ∧ u ≤ C) (hv : -1 ≤ v ∧ v ≤ R) : fcX k t z C R u v < C ∧ fcY k t z C R u v < R ∧ Fd.riX k C R t z (u + To.fi C) (v + To.fi R) = fcX k t z C R u v + To.fi C ∧ Fd.riY k C R t z (u + To.fi C) (v + To.fi R) = fcY k t z C R u v + To.fi R ∧ Fd.riE k C R t z (u + To.fi C) (v + To.fi R) = 0 := by
  have ok := Tp.ok_of G.chk
  have gx : 0 ≤ Fd.riX k C R t z (u + To.fi C) (v + To.fi R) - To.fi C ∧ Fd.riX k C R t z (u + To.fi C) (v + To.fi R) - To.fi C < C ∨ k = 1 := by
    unfold Fd.riX
    split
    · rename_i hg
      rw [gi_home C R G.c0 G.r0] at hg
      have := of_decide_eq_true hg
      omega
    · split
      · rename_i h5
        have e := ok.alike h5
        have hCR : C = R := by omega
        subst hCR
        have := near_bd (v := v + To.fi C - To.fi C) (n := C) G.c0
        omega
      · have := Fo.cx_bd k (x := (C : Int)) R t z (u + To.fi C - To.fi C) (v + To.fi R - To.fi R) (by have := G.c0; omega)
        omega
  have gy : 0 ≤ Fd.riY k C R t z (u + To.fi C) (v + To.fi R) - To.fi R ∧ Fd.riY k C R t z (u + To.fi C) (v + To.fi R) - To.fi R < R ∨ k = 1 := by
    unfold Fd.riY
    split
    · rename_i hg
      rw [gi_home C R G.c0 G.r0] at hg
      have := of_decide_eq_true hg
      omega
    · split
      · rename_i h5
        have e := ok.alike h5
        have hCR : C = R := by omega
        subst hCR
        have := near_bd (v := u + To.fi C - To.fi C) (n := C) G.c0
        omega
      · have := Fo.cy_bd k C (y := (R : Int)) t z (u + To.fi C - To.fi C) (v + To.fi R - To.fi R) (by have := G.r0; omega)
        omega
  have gx' : 0 ≤ Fd.riX k C R t z (u + To.fi C) (v + To.fi R) - To.fi C ∧ Fd.riX k C R t z (u + To.fi C) (v + To.fi R) - To.fi C < C := by
    rcases gx with h | h
    · exact h
    · subst h
      unfold Fd.riX
      split
      · rename_i hg
        rw [gi_home C R G.c0 G.r0] at hg
        have := of_decide_eq_true hg
        omega
      · rw [if_neg (by omega)]
        have := Fo.cx_bd 1 (x := (C : Int)) R t z (u + To.fi C - To.fi C) (v + To.fi R - To.fi R) (by have := G.c0; omega)
        omega
  have gy' : 0 ≤ Fd.riY k C R t z (u + To.fi C) (v + To.fi R) - To.fi R ∧ Fd.riY k C R t z (u + To.fi C) (v + To.fi R) - To.fi R < R := by
    rcases gy with h | h
    · exact h
    · subst h
      unfold Fd.riY
      split
      · rename_i hg
        rw [gi_home C R G.c0 G.r0] at hg
        have := of_decide_eq_true hg
        omega
      · rw [if_neg (by omega)]
        have := Fo.cy_bd 1 C (y := (R : Int)) t z (u + To.fi C - To.fi C) (v + To.fi R - To.fi R) (by have := G.r0; omega)
        omega
  refine ⟨by unfold fcX; omega, by unfold fcY; omega, by unfold fcX; omega, by unfold fcY; omega, ?_⟩
  unfold Fd.riE Fd.riN
  rw [if_pos G.chk, fr_home C G.c1 u hu.1 hu.2, fr_home R G.r1 v hv.1 hv.2, to_home C u hu.1 hu.2, to_home R v hv.1 hv.2]
  simp
/-- The index of a place. -/
def ixN (C : Nat) (u v : Int) : Nat := ((v + 1) * (C + 2) + u + 1).toNat
theorem ix_nat {C : Nat} {u v : Int} (hu : -1 ≤ u) (hv : -1 ≤ v) : ∃ a b : Nat, u = (a : Int) - 1 ∧ v = (b : Int) - 1 ∧ ixN C u v = b * (C + 2) + a := by
  obtain ⟨a, ha⟩ := Int.eq_ofNat_of_zero_le (show 0 ≤ u + 1 by omega)
  obtain ⟨b, hb⟩ := Int.eq_ofNat_of_zero_le (show 0 ≤ v + 1 by omega)
  refine ⟨a, b, by omega, by omega, ?_⟩
  unfold ixN
  have e : (v + 1) * ((C : Int) + 2) + u + 1 = ((b * (C + 2) + a : Nat) : Int) := by
    rw [hb, Int.natCast_add, Int.natCast_mul]
    have : ((C + 2 : Nat) : Int) = (C : Int) + 2 := by omega
    rw [this]; omega
  rw [e]; rfl
theorem ix_int {C : Nat} {u v : Int} (hu : -1 ≤ u) (hv : -1 ≤ v) : ((ixN C u v : Nat) : Int) = (v + 1) * (C + 2) + u + 1 := by
  obtain ⟨a, b, rfl, rfl, e⟩ := ix_nat (C := C) hu hv
  rw [e, Int.natCast_add, Int.natCast_mul, show (b : Int) - 1 + 1 = b by omega]
  have : ((C + 2 : Nat) : Int) = (C : Int) + 2 := by omega
  rw [this]; omega
theorem ix_lt {C R : Nat} {u v : Int} (hu : -1 ≤ u ∧ u ≤ C) (hv : -1 ≤ v ∧ v ≤ R) : ixN C u v < (C + 2) * (R + 2) := by
  obtain ⟨a, b, rfl, rfl, e⟩ := ix_nat (C := C) hu.1 hv.1
  rw [e]
  have h1 : b + 1 ≤ R + 2 := by omega
  have := Nat.mul_le_mul_right (C + 2) h1
  rw [Nat.succ_mul] at this
  rw [Nat.mul_comm (C + 2)]
  omega
theorem ix_div {C : Nat} {u v : Int} (hu : -1 ≤ u ∧ u ≤ C) (hv : -1 ≤ v) : (((ixN C u v) % (C + 2) : Nat) : Int) - 1 = u ∧ (((ixN C u v) / (C + 2) : Nat) : Int) - 1 = v := by
  obtain ⟨a, b, rfl, rfl, e⟩ := ix_nat (C := C) hu.1 hv
  have ha : a < C + 2 := by omega
  rw [e, Nat.mul_comm b, Nat.mul_add_mod, Nat.mod_eq_of_lt ha, Nat.mul_add_div (by omega), Nat.div_eq_of_lt ha]
  omega
theorem fr_ix (k t z : Int) {C R : Nat} (g : Nat → Nat) {u v : Int} (hu : -1 ≤ u ∧ u ≤ C) (hv : -1 ≤ v) : frV k t z C R g (ixN C u v) = plS k t z C R g u v := by
  have := ix_div hu hv
  unfold frV
  rw [this.1, this.2]
/-- Within the grid? -/
def inG (C R i : Nat) : Bool := decide (1 ≤ i % (C + 2) ∧ i % (C + 2) ≤ C ∧ 1 ≤ i / (C + 2) ∧ i / (C + 2) ≤ R)
theorem fr_in {k t z : Int} {C R : Nat} (G : Gr k t z C R) (g : Nat → Nat) {i : Nat} (h : inG C R i = true) : frV k t z C R g i = g ((i / (C + 2) - 1) * C + (i % (C + 2) - 1)) := by
  have h := of_decide_eq_true h
  have := fc_in G (x := i % (C + 2) - 1) (y := i / (C + 2) - 1) (by omega) (by omega)
  unfold frV plS
  rw [show ((i % (C + 2) : Nat) : Int) - 1 = ((i % (C + 2) - 1 : Nat) : Int) by omega, show ((i / (C + 2) : Nat) : Int) - 1 = ((i / (C + 2) - 1 : Nat) : Int) by omega, this.1, this.2.1, this.2.2, if_pos rfl]
theorem pl_in {k t z : Int} {C R : Nat} (G : Gr k t z C R) (g : Nat → Nat) {x y : Nat} (hx : x < C) (hy : y < R) : plS k t z C R g x y = g (y * C + x) := by
  have := fc_in G hx hy
  unfold plS
  rw [this.1, this.2.1, this.2.2, if_pos rfl]
/-- The ring's places, in their order. -/
def rgT (R : Nat) : Nat → List (Int × Int)
  | 0 => []
  | k + 1 => rgT R k ++ [((k : Int) - 1, -1), ((k : Int) - 1, (R : Int))]
def rgS (C : Nat) : Nat → List (Int × Int)
  | 0 => []
  | k + 1 => rgS C k ++ [(-1, (k : Int)), ((C : Int), (k : Int))]
def rgL (C R : Nat) : List (Int × Int) := rgT R (C + 2) ++ rgS C R
theorem rgT_mem {R n : Nat} {p : Int × Int} : p ∈ rgT R n ↔ (-1 ≤ p.1 ∧ p.1 < (n : Int) - 1) ∧ (p.2 = -1 ∨ p.2 = R) := by
  induction n with
  | zero => simp [rgT]; omega
  | succ n ih =>
    obtain ⟨a, b⟩ := p
    simp only [rgT, List.mem_append, ih, List.mem_cons, List.not_mem_nil, or_false, Prod.mk.injEq]
    omega
theorem rgS_mem {C n : Nat} {p : Int × Int} : p ∈ rgS C n ↔ (0 ≤ p.2 ∧ p.2 < n) ∧ (p.1 = -1 ∨ p.1 = C) := by
  induction n with
  | zero => simp [rgS]; omega
  | succ n ih =>
    obtain ⟨a, b⟩ := p
    simp only [rgS, List.mem_append, ih, List.mem_cons, List.not_mem_nil, or_false, Prod.mk.injEq]
    omega
theorem rgL_mem {C R : Nat} {p : Int × Int} : p ∈ rgL C R ↔ (-1 ≤ p.1 ∧ p.1 ≤ C ∧ -1 ≤ p.2 ∧ p.2 ≤ R) ∧ (p.1 = -1 ∨ p.1 = C ∨ p.2 = -1 ∨ p.2 = R) := by
  unfold rgL
  rw [List.mem_append, rgT_mem, rgS_mem]
  omega
/-- The ring's places up to some. -/
def Pre (C R : Nat) (pre : List (Int × Int)) : Prop := ∃ l, pre ++ l = rgL C R
theorem Pre.mem {C R : Nat} {pre : List (Int × Int)} {p : Int × Int} (h : Pre C R (pre ++ [p])) : p ∈ rgL C R := by
  obtain ⟨l, e⟩ := h
  rw [← e]; simp
theorem rgT_pre {R : Nat} {m n : Nat} (h : m ≤ n) : ∃ l, rgT R m ++ l = rgT R n := by
  obtain ⟨d, rfl⟩ := Nat.exists_eq_add_of_le h
  clear h
  induction d with
  | zero => exact ⟨[], by simp⟩
  | succ d ih =>
    obtain ⟨l, e⟩ := ih
    exact ⟨l ++ _, by rw [← List.append_assoc, e]; rfl⟩
theorem rgS_pre {C : Nat} {m n : Nat} (h : m ≤ n) : ∃ l, rgS C m ++ l = rgS C n := by
  obtain ⟨d, rfl⟩ := Nat.exists_eq_add_of_le h
  clear h
  induction d with
  | zero => exact ⟨[], by simp⟩
  | succ d ih =>
    obtain ⟨l, e⟩ := ih
    exact ⟨l ++ _, by rw [← List.append_assoc, e]; rfl⟩
theorem preT1 {C R m : Nat} (h : m < C + 2) : Pre C R (rgT R m ++ [((m : Int) - 1, -1)]) := by
  obtain ⟨l, e⟩ := rgT_pre (R := R) (show m + 1 ≤ C + 2 from h)
  exact ⟨((m : Int) - 1, (R : Int)) :: l ++ rgS C R, by rw [rgL, ← e, rgT]; simp⟩
theorem preT2 {C R m : Nat} (h : m < C + 2) : Pre C R ((rgT R m ++ [((m : Int) - 1, -1)]) ++ [((m : Int) - 1, (R : Int))]) := by
  obtain ⟨l, e⟩ := rgT_pre (R := R) (show m + 1 ≤ C + 2 from h)
  exact ⟨l ++ rgS C R, by rw [rgL, ← e, rgT]; simp⟩
theorem preS1 {C R m : Nat} (h : m < R) : Pre C R ((rgT R (C + 2) ++ rgS C m) ++ [(-1, (m : Int))]) := by
  obtain ⟨l, e⟩ := rgS_pre (C := C) (show m + 1 ≤ R from h)
  exact ⟨((C : Int), (m : Int)) :: l, by rw [rgL, ← e, rgS]; simp⟩
theorem preS2 {C R m : Nat} (h : m < R) : Pre C R (((rgT R (C + 2) ++ rgS C m) ++ [(-1, (m : Int))]) ++ [((C : Int), (m : Int))]) := by
  obtain ⟨l, e⟩ := rgS_pre (C := C) (show m + 1 ≤ R from h)
  exact ⟨l, by rw [rgL, ← e, rgS]; simp⟩
/-- The frame once some places of the ring are laid. -/
def frP (k t z : Int) (C R : Nat) (g : Nat → Nat) (pre : List (Int × Int)) (i : Nat) : Nat := if inG C R i = true ∨ ∃ p ∈ pre, ixN C p.1 p.2 = i then frV k t z C R g i else 0
theorem frP_all (k t z : Int) (C R : Nat) (g : Nat → Nat) (i : Nat) (h : i < (C + 2) * (R + 2)) : frP k t z C R g (rgL C R) i = frV k t z C R g i := by
  unfold frP
  rw [if_pos]
  by_cases hi : inG C R i = true
  · exact .inl hi
  · right
    have h1 : i % (C + 2) < C + 2 := Nat.mod_lt _ (by omega)
    have h2 : i / (C + 2) < R + 2 := Nat.div_lt_of_lt_mul h
    have hn : ¬ (1 ≤ i % (C + 2) ∧ i % (C + 2) ≤ C ∧ 1 ≤ i / (C + 2) ∧ i / (C + 2) ≤ R) := fun q => hi (decide_eq_true q)
    have hdm := Nat.div_add_mod i (C + 2)
    generalize i / (C + 2) = qq at *
    generalize i % (C + 2) = mm at *
    refine ⟨((mm : Int) - 1, (qq : Int) - 1), rgL_mem.2 (by dsimp only; omega), ?_⟩
    obtain ⟨a, b, e1, e2, e3⟩ := ix_nat (C := C) (u := (mm : Int) - 1) (v := (qq : Int) - 1) (by omega) (by omega)
    dsimp only
    rw [e3, show a = mm by omega, show b = qq by omega, Nat.mul_comm]
    exact hdm
theorem frP_no {k t z : Int} {C R : Nat} {g : Nat → Nat} {pre : List (Int × Int)} {p : Int × Int} (hp : p ∈ rgL C R) (h : fcB k t z C R p.1 p.2 = false) (i : Nat) : frP k t z C R g (pre ++ [p]) i = frP k t z C R g pre i := by
  have hb := (rgL_mem.1 hp).1
  unfold frP
  by_cases hi : inG C R i = true ∨ ∃ q ∈ pre, ixN C q.1 q.2 = i
  · rw [if_pos hi, if_pos]
    rcases hi with h1 | ⟨q, h1, h2⟩
    · exact .inl h1
    · exact .inr ⟨q, by simp [h1], h2⟩
  · rw [if_neg hi]
    split
    · rename_i h1
      rcases h1 with h1 | ⟨q, h1, h2⟩
      · exact absurd (.inl h1) hi
      · rcases List.mem_append.1 h1 with h1 | h1
        · exact absurd (.inr ⟨q, h1, h2⟩) hi
        · obtain rfl : q = p := by simpa using h1
          rw [← h2, fr_ix k t z g (by omega) (by omega)]
          unfold plS
          rw [h]; rfl
    · rfl
theorem frP_yes {k t z : Int} {C R : Nat} {g : Nat → Nat} {pre : List (Int × Int)} {p : Int × Int} (hp : p ∈ rgL C R) (h : fcB k t z C R p.1 p.2 = true) (i : Nat) : frP k t z C R g (pre ++ [p]) i = if i = ixN C p.1 p.2 then g (fcY k t z C R p.1 p.2 * C + fcX k t z C R p.1 p.2) else frP k t z C R g pre i := by
  have hb := (rgL_mem.1 hp).1
  by_cases hi : i = ixN C p.1 p.2
  · rw [if_pos hi]
    unfold frP
    rw [if_pos (.inr ⟨p, by simp, hi.symm⟩), hi, fr_ix k t z g (by omega) (by omega)]
    unfold plS
    rw [h]; rfl
  · rw [if_neg hi]
    unfold frP
    by_cases h1 : inG C R i = true ∨ ∃ q ∈ pre, ixN C q.1 q.2 = i
    · rw [if_pos h1, if_pos]
      rcases h1 with h1 | ⟨q, h1, h2⟩
      · exact .inl h1
      · exact .inr ⟨q, by simp [h1], h2⟩
    · rw [if_neg h1, if_neg]
      rintro (h2 | ⟨q, h2, h3⟩)
      · exact h1 (.inl h2)
      · rcases List.mem_append.1 h2 with h2 | h2
        · exact h1 (.inr ⟨q, h2, h3⟩)
        · obtain rfl : q = p := by simpa using h2
          exact hi h3.symm
theorem ix_in {C R x y : Nat} (hx : x < C) (hy : y < R) : inG C R (ixN C x y) = true := by
  have := ix_div (C := C) (u := x) (v := y) (by omega) (by omega)
  exact decide_eq_true (by omega)
theorem frP_cell {k t z : Int} {C R : Nat} (G : Gr k t z C R) (g : Nat → Nat) (pre : List (Int × Int)) {x y : Nat} (hx : x < C) (hy : y < R) : frP k t z C R g pre (ixN C x y) = g (y * C + x) := by
  unfold frP
  rw [if_pos (.inl (ix_in hx hy)), fr_ix k t z g (by omega) (by omega), pl_in G g hx hy]
/-- The frame once the first n rows of the grid are laid. -/
def frL (C R : Nat) (g : Nat → Nat) (n i : Nat) : Nat := if inG C R i = true ∧ i / (C + 2) ≤ n then g ((i / (C + 2) - 1) * C + (i % (C + 2) - 1)) else 0
theorem frL_zero (C R : Nat) (g : Nat → Nat) (i : Nat) : frL C R g 0 i = 0 := by
  unfold frL
  rw [if_neg]
  rintro ⟨h1, h2⟩
  have := of_decide_eq_true h1
  omega
theorem frL_all {k t z : Int} {C R : Nat} (G : Gr k t z C R) (g : Nat → Nat) (i : Nat) : frL C R g R i = frP k t z C R g [] i := by
  unfold frL frP
  by_cases h : inG C R i = true
  · have := of_decide_eq_true h
    rw [if_pos ⟨h, by omega⟩, if_pos (.inl h), fr_in G g h]
  · rw [if_neg (fun q => h q.1), if_neg]
    rintro (q | ⟨p, q, _⟩)
    · exact h q
    · cases q
theorem frL_step (C R : Nat) (g : Nat → Nat) {n : Nat} (hn : n < R) (i : Nat) : frL C R g (n + 1) i = if ixN C 0 n ≤ i ∧ i < ixN C 0 n + C then g (n * C + (i - ixN C 0 n)) else frL C R g n i := by
  have e : ixN C 0 n = (n + 1) * (C + 2) + 1 := by
    obtain ⟨a, b, h1, h2, h3⟩ := ix_nat (C := C) (u := 0) (v := n) (by omega) (by omega)
    rw [h3, show a = 1 by omega, show b = n + 1 by omega]
  rw [e]
  have hd := Nat.div_add_mod i (C + 2)
  have hm : i % (C + 2) < C + 2 := Nat.mod_lt _ (by omega)
  rw [Nat.mul_comm] at hd
  by_cases h : (n + 1) * (C + 2) + 1 ≤ i ∧ i < (n + 1) * (C + 2) + 1 + C
  · rw [if_pos h]
    have h1 : i / (C + 2) = n + 1 := Nat.div_eq_of_lt_le (by omega) (by rw [Nat.succ_mul]; omega)
    rw [h1] at hd
    unfold frL
    rw [if_pos ⟨decide_eq_true (by rw [h1]; omega), by omega⟩, h1, Nat.add_sub_cancel, show i % (C + 2) - 1 = i - ((n + 1) * (C + 2) + 1) by omega]
  · rw [if_neg h]
    unfold frL
    by_cases h1 : inG C R i = true ∧ i / (C + 2) ≤ n
    · rw [if_pos h1, if_pos ⟨h1.1, by omega⟩]
    · rw [if_neg h1, if_neg]
      rintro ⟨h2, h3⟩
      have h4 := of_decide_eq_true h2
      have h5 : i / (C + 2) = n + 1 := by
        by_cases h6 : i / (C + 2) ≤ n
        · exact absurd ⟨h2, h6⟩ h1
        · omega
      rw [h5] at hd h4
      exact h (by omega)
end Go.Proofs.YtjndljjpbkfmiaaGreatDoor
