/- Box of a field of bytes. -/
import Derived.Test.YtbiilklihieomaaZ7
import Derived.Test.YtbiilklihieomaaZ8
namespace Go.Proofs.Ytbiilklihieomaa
open Go.RowKit
set_option linter.unusedVariables false
set_option linter.unusedSimpArgs false
set_option maxRecDepth 100000

/-- The edges of what lives in the first k rows: left, right, top, bottom. -/
structure Eg where
  l : Int
  r : Int
  t : Int
  b : Int
def bx (g : Nat → Nat) (C R : Nat) : Nat → Eg
  | 0 => ⟨C, -1, R, -1⟩
  | k + 1 => if (liv (fun x => g (k * C + x)) C).isEmpty then bx g C R k else ⟨min (bx g C R k).l ((liv (fun x => g (k * C + x)) C).headD 0 : Nat), max (bx g C R k).r ((liv (fun x => g (k * C + x)) C).getLastD 0 : Nat), min (bx g C R k).t (k : Nat), (k : Nat)⟩
structure EgB (e : Eg) : Prop where
  l0 : 0 ≤ e.l
  l1 : e.l ≤ 65536
  r0 : -1 ≤ e.r
  r1 : e.r ≤ 65536
  t0 : 0 ≤ e.t
  t1 : e.t ≤ 65536
  b0 : -1 ≤ e.b
  b1 : e.b ≤ 65536
theorem liv_lt {f : Nat → Nat} {k x : Nat} (h : x ∈ liv f k) : x < k ∧ f x ≠ 0 := by
  unfold liv at h
  rw [List.mem_filter, List.mem_range] at h
  simpa using h
theorem headD_lt {f : Nat → Nat} {C : Nat} (hC : 0 < C) : (liv f C).headD 0 < C := by
  cases e : liv f C with
  | nil => exact hC
  | cons a l => exact (liv_lt (x := a) (by rw [e]; exact List.mem_cons_self ..)).1
theorem lastD_lt {f : Nat → Nat} {C : Nat} (hC : 0 < C) : (liv f C).getLastD 0 < C := by
  cases e : liv f C with
  | nil => exact hC
  | cons a l =>
    refine (liv_lt (f := f) (k := C) ?_).1
    rw [e]
    have : (a :: l).getLastD 0 = (a :: l).getLast (by simp) := by rw [List.getLastD_eq_getLast?, List.getLast?_eq_some_getLast (by simp)]; rfl
    rw [this]
    exact List.getLast_mem _
theorem bx_ok {C R S : Nat} (hz : Sz C R S) (g : Nat → Nat) : ∀ k, k ≤ R → EgB (bx g C R k)
  | 0, _ => by
    have h1 := hz.c1; have h2 := hz.r1
    exact ⟨by show (0 : Int) ≤ C; omega, by show (C : Int) ≤ 65536; omega, by show (-1 : Int) ≤ -1; omega, by show (-1 : Int) ≤ 65536; omega, by show (0 : Int) ≤ R; omega, by show (R : Int) ≤ 65536; omega, by show (-1 : Int) ≤ -1; omega, by show (-1 : Int) ≤ 65536; omega⟩
  | k + 1, hk => by
    have ih := bx_ok hz g k (by omega)
    have h1 := headD_lt (f := fun x => g (k * C + x)) hz.c0
    have h2 := lastD_lt (f := fun x => g (k * C + x)) hz.c0
    have c1 := hz.c1
    have r1 := hz.r1
    obtain ⟨i1, i2, i3, i4, i5, i6, i7, i8⟩ := ih
    rw [bx]
    split
    · exact ⟨i1, i2, i3, i4, i5, i6, i7, i8⟩
    · exact ⟨by show 0 ≤ min _ _; omega, by show min _ _ ≤ (65536 : Int); omega, by show (-1 : Int) ≤ max _ _; omega, by show max _ _ ≤ (65536 : Int); omega, by show 0 ≤ min _ _; omega, by show min _ _ ≤ (65536 : Int); omega, by show (-1 : Int) ≤ (k : Int); omega, by show (k : Int) ≤ 65536; omega⟩

/-- The lesser, the greater: shut. -/
def mn (x y : Int) : Int := min x y
def mx (x y : Int) : Int := max x y
theorem run_mn (ts : Array TypeId) (t : TypeId) (x y : Int) (w : World) : (Builtin.min_ ts t #[.int .i64 x, .int .i64 y]).run Try.prog w = .ok (.int .i64 (mn x y)) w := by
  rw [run_min_int2]
  unfold mn
  split <;> congr 2 <;> omega
theorem run_mx (ts : Array TypeId) (t : TypeId) (x y : Int) (w : World) : (Builtin.max_ ts t #[.int .i64 x, .int .i64 y]).run Try.prog w = .ok (.int .i64 (mx x y)) w := by
  rw [run_max_int2]
  unfold mx
  split <;> congr 2 <;> omega
/-- The rectangle of such edges. -/
def boxA (e : Eg) : Array Value := if e.b < 0 then #[.int .i64 0, .int .i64 0, .int .i64 0, .int .i64 0] else #[.int .i64 e.l, .int .i64 e.t, .int .i64 (e.r - e.l + 1), .int .i64 (e.b - e.t + 1)]
def boxB (e : Eg) : Bool := decide (0 ≤ e.b)
theorem fBox (b s q C R S : Nat) (g : Nat → Nat) (hz : Sz C R S) (w : World) (h : Fb w b s q C R S g) : Calls Try.prog 18 #[.pointer (some ⟨b, 0, none⟩)] w fun e w' =>
    e = .returned (.tuple #[.agg (boxA (bx g C R R)), .bool (boxB (bx g C R R))]) ∧ w.grownBy w' none := by
  have hsp := fun w => m_span s w
  have g1 : w.grownBy (w.alloc (.cells #[.int .i64 0, .int .i64 0, .int .i64 0, .int .i64 0] 58)) none := World.grownBy_alloc _ _ none
  have h1 := h.kept g1
  go_enter Try.func18, Try.ntmps18
  go_wp2_with (first | (go_at_call 24; refine (fW b s q C R S g _ h1).mono ?_; rintro e V ⟨rfl, gV⟩; have hV := h1.kept gV) | ((fail_if_success (guard_hyp hV2)); go_at_call 25; refine (fH b s q C R S g V hV).mono ?_; rintro e V2 ⟨rfl, gV2⟩; have hV2 := hV.kept gV2) | (guard_hyp hV2; go_at_call 25; refine (fH b s q C R S g V2 hV2).mono ?_; rintro e V3 ⟨rfl, gV3⟩))
  have hB3 : Bo V3 w.heap.size 58 #[.int .i64 0, .int .i64 0, .int .i64 0, .int .i64 0] := (Bo.new w _ _).kept (gb_trans gV (gb_trans gV2 gV3)) (by simp)
  have G3 := gb_trans g1 (gb_trans gV (gb_trans gV2 gV3))
  go_loopw [4, 5, 6, 7, 18] (fun vl vr vt vb i wr => ∃ k : Nat, k ≤ R ∧ i = .int .i64 k ∧ vl = .int .i64 (bx g C R k).l ∧ vr = .int .i64 (bx g C R k).r ∧ vt = .int .i64 (bx g C R k).t ∧ vb = .int .i64 (bx g C R k).b ∧ w.grownBy wr none ∧ Bo wr w.heap.size 58 #[.int .i64 0, .int .i64 0, .int .i64 0, .int .i64 0]) (fun _ _ _ _ i _ => R - (intOf i).toNat)
  case atStart => exact ⟨0, Nat.zero_le _, rfl, rfl, rfl, rfl, rfl, G3, hB3⟩
  case round =>
    obtain ⟨k, hk, rfl, rfl, rfl, rfl, rfl, Gk, Bk⟩ := hrel
    have hr1 := hz.r1
    have hok := bx_ok hz g k hk
    by_cases hlt : k < R
    · have hnx : Hid (bx g C R (k + 1) = if (liv (fun x => g (k * C + x)) C).isEmpty then bx g C R k else ⟨min (bx g C R k).l ((liv (fun x => g (k * C + x)) C).headD 0 : Nat), max (bx g C R k).r ((liv (fun x => g (k * C + x)) C).getLastD 0 : Nat), min (bx g C R k).t (k : Nat), (k : Nat)⟩) := rfl
      obtain ⟨e, he⟩ : ∃ e, bx g C R k = e := ⟨_, rfl⟩
      rw [he] at hnx hok ⊢
      clear he
      obtain ⟨l, r, t, bb⟩ := e
      have hlt' : (k : Int) < (R : Int) := by omega
      have hFk := h.kept Gk
      have v0 := hFk.cell
      have hs := spanC s q C R S g hz k hlt wr hFk.st
      have hmn := run_mn
      have hmx := run_mx
      dsimp only
      by_cases hem : (liv (fun x => g (k * C + x)) C).isEmpty = true
      · rw [hem] at hs
        have HX : Hid (bx g C R (k + 1) = ⟨l, r, t, bb⟩) := by unfold Hid; rw [hnx.out, if_pos hem]
        generalize (liv (fun x => g (k * C + x)) C).headD 0 = Fi at hs
        generalize (liv (fun x => g (k * C + x)) C).getLastD 0 = La at hs
        clear hnx hem hmn hmx hok
        go_wp2_with (go_at_call 119; refine hs.mono ?_; rintro e V4 ⟨rfl, g4⟩)
        go_roundw
        case rel => exact ⟨k + 1, hlt, by go_num, by rw [HX.out], by rw [HX.out], by rw [HX.out], by rw [HX.out], gb_trans Gk g4, Bk.kept g4 (by simp)⟩
        case measure => simp [intOf]; omega
      · have hem' : (liv (fun x => g (k * C + x)) C).isEmpty = false := by simpa using hem
        rw [hem'] at hs
        have HX : Hid (bx g C R (k + 1) = ⟨mn l ((liv (fun x => g (k * C + x)) C).headD 0 : Nat), mx r ((liv (fun x => g (k * C + x)) C).getLastD 0 : Nat), mn t (k : Nat), (k : Nat)⟩) := by unfold Hid; rw [hnx.out, if_neg hem]; rfl
        generalize (liv (fun x => g (k * C + x)) C).headD 0 = Fi at hs HX
        generalize (liv (fun x => g (k * C + x)) C).getLastD 0 = La at hs HX
        clear hnx hem hem' hok
        go_wp2_with (go_at_call 119; refine hs.mono ?_; rintro e V4 ⟨rfl, g4⟩)
        refine ⟨⟨k + 1, hlt, by go_num, by rw [HX.out], by rw [HX.out], by rw [HX.out], by rw [HX.out], gb_trans Gk g4, Bk.kept g4 (by simp)⟩, by simp [intOf]; omega⟩
    · have hkn : ¬ ((k : Int) < (R : Int)) := by omega
      have hkc : k = R := by omega
      subst hkc
      obtain ⟨e, he⟩ : ∃ e, bx g C k k = e := ⟨_, rfl⟩
      have HE : Hid (bx g C k k = e) := he
      rw [he] at hok ⊢
      clear he
      obtain ⟨l, r, t, bb⟩ := e
      obtain ⟨i1, i2, i3, i4, i5, i6, i7, i8⟩ := hok
      dsimp only at i1 i2 i3 i4 i5 i6 i7 i8 ⊢
      by_cases hb0 : bb < 0
      · have b0 := Bk.cell 0 (v := .int .i64 0) rfl
        have b1 := Bk.cell 1 (v := .int .i64 0) rfl
        have b2 := Bk.cell 2 (v := .int .i64 0) rfl
        have b3 := Bk.cell 3 (v := .int .i64 0) rfl
        have f0 := Bk.frozen 0
        have f1 := Bk.frozen 1
        have f2 := Bk.frozen 2
        have f3 := Bk.frozen 3
        go_wp2
        obtain ⟨fs, hfs⟩ : ∃ fs, Try.prog.underlying 58 = some (.struct fs) := ⟨_, Try.underlying58⟩
        have BB := (((Bk.set 0 (.int .i64 0)).set 1 (.int .i64 0)).set 2 (.int .i64 0)).set 3 (.int .i64 0)
        refine ret_c2 (g := w.heap.size) (t := 58) (cs := #[.int .i64 0, .int .i64 0, .int .i64 0, .int .i64 0]) rfl hfs (by kernel_rfl) rfl BB rfl ?_
        refine ⟨?_, gb_new (gb_new (gb_new (gb_new Gk (Nat.le_refl _) _) (Nat.le_refl _) _) (Nat.le_refl _) _) (Nat.le_refl _) _⟩
        rw [HE.out, boxA, if_pos hb0, boxB, decide_eq_false (by show ¬ (0 ≤ bb); omega)]
        rfl
      · have hb1 : ¬ (bb < 0) := hb0
        have b0 := Bk.cell 0 (v := .int .i64 0) rfl
        have b1 := Bk.cell 1 (v := .int .i64 0) rfl
        have b2 := Bk.cell 2 (v := .int .i64 0) rfl
        have b3 := Bk.cell 3 (v := .int .i64 0) rfl
        have f0 := Bk.frozen 0
        have f1 := Bk.frozen 1
        have f2 := Bk.frozen 2
        have f3 := Bk.frozen 3
        go_wp2
        obtain ⟨fs, hfs⟩ : ∃ fs, Try.prog.underlying 58 = some (.struct fs) := ⟨_, Try.underlying58⟩
        have BB := (((Bk.set 0 (.int .i64 l)).set 1 (.int .i64 t)).set 2 (.int .i64 (r - l + 1))).set 3 (.int .i64 (bb - t + 1))
        refine ret_c2 (g := w.heap.size) (t := 58) (cs := #[.int .i64 l, .int .i64 t, .int .i64 (r - l + 1), .int .i64 (bb - t + 1)]) rfl hfs (by kernel_rfl) rfl BB rfl ?_
        refine ⟨?_, gb_new (gb_new (gb_new (gb_new Gk (Nat.le_refl _) _) (Nat.le_refl _) _) (Nat.le_refl _) _) (Nat.le_refl _) _⟩
        rw [HE.out, boxA, if_neg (by show ¬ (bb < 0); omega), boxB, decide_eq_true (by show 0 ≤ bb; omega)]
        rfl
end Go.Proofs.Ytbiilklihieomaa
