/- What may be. -/
import Derived.Test.YtbmpiddjakdebaaGreatNa
import Derived.Test.YtbmpiddjakdebaaGreatNb
import Derived.Deep.RegionHeld2
namespace Go.Proofs.YtbmpiddjakdebaaGreat
open Go.RowKit
set_option linter.unusedVariables false
set_option linter.unusedSimpArgs false
set_option maxRecDepth 100000

namespace Ln
/-- The first that is not 0. -/
def orL : List Int → Int
  | [] => 0
  | x :: xs => if x = 0 then orL xs else x
theorem orL_zero {vs : List Int} {k : Nat} {x : Int} (h : vs[k]? = some x) (hx : x = 0) : orL (vs.drop (k + 1)) = orL (vs.drop k) := by
  obtain ⟨hk, e⟩ := List.getElem?_eq_some_iff.1 h
  rw [List.drop_eq_getElem_cons hk, e]
  show _ = if x = 0 then _ else _
  rw [if_pos hx]
theorem orL_some {vs : List Int} {k : Nat} {x : Int} (h : vs[k]? = some x) (hx : x ≠ 0) : orL (vs.drop k) = x := by
  obtain ⟨hk, e⟩ := List.getElem?_eq_some_iff.1 h
  rw [List.drop_eq_getElem_cons hk, e]
  show (if x = 0 then _ else _) = _
  rw [if_neg hx]
set_option maxHeartbeats 1000000 in
theorem orE (q cap : Nat) (vs : List Int) (hl : vs.length < 1000000) (w : World) (h : ∀ k x, vs[k]? = some x → w.cell? ⟨q, k, none⟩ = some (.int .i64 x)) : Calls Tryz.prog 34 #[.slice (some ⟨q, 0, none⟩) vs.length cap] w fun e w' => e = .returned (.int .i64 (orL vs)) ∧ w' = w := by
  obtain ⟨r, hr⟩ : ∃ r, orL vs = r := ⟨_, rfl⟩
  have HR : Hid (orL vs = r) := hr
  rw [hr]
  clear hr
  obtain ⟨n, hn⟩ : ∃ n, vs.length = n := ⟨_, rfl⟩
  have HN : Hid (vs.length = n) := hn
  rw [hn] at hl ⊢
  clear hn
  have HH : Hid (∀ k x, vs[k]? = some x → w.cell? ⟨q, k, none⟩ = some (.int .i64 x)) := h
  clear h
  go_enter Tryz.func34, Tryz.ntmps34
  go_wp2
  go_loopw [8] (fun x wr => ∃ k : Nat, k ≤ n ∧ x = .int .i64 k ∧ wr = w ∧ Hid (orL (vs.drop k) = r)) (fun x _ => n - (intOf x).toNat)
  case atStart => exact ⟨0, Nat.zero_le _, rfl, rfl, HR.out⟩
  case round =>
    obtain ⟨k, hk, rfl, rfl, HK⟩ := hrel
    by_cases hlt : k < n
    · have hlt' : (k : Int) < (n : Int) := by omega
      obtain ⟨x, hx⟩ : ∃ x, vs[k]? = some x := ⟨_, List.getElem?_eq_getElem (by rw [HN.out]; exact hlt)⟩
      have c0 := HH.out k x hx
      by_cases h0 : x = 0
      · have HZ : Hid (orL (vs.drop (k + 1)) = r) := (orL_zero hx h0).trans HK.out
        subst h0
        clear hx
        go_wp2
        go_roundw
        case rel => exact ⟨k + 1, by omega, by go_num, trivial, HZ⟩
        case measure => simp [intOf]; omega
      · have hxr : x = r := (orL_some hx h0).symm.trans HK.out
        have hb : (x != 0) = true := by simp [h0]
        clear hx HK
        subst hxr
        go_wp2
        go_ret
        exact ⟨rfl, rfl⟩
    · have hkn : k = n := by omega
      subst hkn
      have hlt' : ¬ (k : Int) < (k : Int) := by omega
      have h0 : r = 0 := by rw [← HK.out, List.drop_eq_nil_of_le (by rw [HN.out]; exact Nat.le_refl _)]; rfl
      subst h0
      go_wp2
      go_ret
      exact ⟨rfl, rfl⟩

def inW (m x : Int) : Bool := decide (-m ≤ x) && decide (x ≤ m)
theorem isWithinC (x m : Int) (hm : 0 ≤ m ∧ m ≤ 9223372036854775807) (w : World) : Calls Tryz.prog 68 #[.int .i64 x, .int .i64 m] w fun e w' => e = .returned (.bool (inW m x)) ∧ w' = w := by
  have h1 : IntKind.i64.wrap (-m) = -m := by rw [IntKind.wrap_i64]; omega
  have h2 : IntKind.i64.wrap (0 - m) = -m := by rw [IntKind.wrap_i64]; omega
  unfold inW
  by_cases ha : -m ≤ x <;> by_cases hb : x ≤ m
  all_goals (simp only [ha, hb, decide_true, decide_false, Bool.and_true, Bool.and_false, Bool.false_and]; go_enter Tryz.func68, Tryz.ntmps68; go_wp2; go_ret; exact ⟨rfl, rfl⟩)
/-- Are the first n within? -/
def alW (m : Int) (f : Nat → Pt) : Nat → Bool
  | 0 => true
  | k + 1 => alW m f k && (inW m (f k).1 && inW m (f k).2)
theorem alW_is (m : Int) (f : Nat → Pt) : ∀ n, alW m f n = true ↔ ∀ k, k < n → inW m (f k).1 = true ∧ inW m (f k).2 = true
  | 0 => by simp [alW]
  | n + 1 => by
    simp only [alW, Bool.and_eq_true, alW_is m f n]
    constructor
    · rintro ⟨h1, h2⟩ k hk
      by_cases e : k = n
      · subst e; exact h2
      · exact h1 k (by omega)
    · intro h; exact ⟨fun k hk => h k (by omega), h n (by omega)⟩
theorem alW_no {m : Int} {f : Nat → Pt} {n k : Nat} (hk : k < n) (h : (inW m (f k).1 && inW m (f k).2) = false) : alW m f n = false := by
  cases e : alW m f n with
  | false => rfl
  | true => have := (alW_is m f n).1 e k hk; rw [this.1, this.2] at h; cases h
set_option maxHeartbeats 1000000 in
theorem allWithinC (sp : Option Addr) (n cap : Nat) (f : Nat → Pt) (m : Int) (hm : 0 ≤ m ∧ m ≤ 9223372036854775807) (hn : n < 1073741824) (w : World) (h : Pl w sp n f) :
    Calls Tryz.prog 42 #[.slice sp n cap, .int .i64 m] w fun e w' => e = .returned (.bool (alW m f n)) ∧ w.grownBy w' none := by
  obtain ⟨r, hr⟩ : ∃ r, alW m f n = r := ⟨_, rfl⟩
  have HR : Hid (alW m f n = r) := hr
  rw [hr]
  clear hr
  go_enter Tryz.func42, Tryz.ntmps42
  go_wp2
  go_loopw [9] (fun x wr => ∃ k : Nat, k ≤ n ∧ x = .int .i64 k ∧ Hid (alW m f k = true) ∧ w.grownBy wr none) (fun x _ => n - (intOf x).toNat)
  case atStart => exact ⟨0, Nat.zero_le _, rfl, rfl, World.grownBy.refl _ _⟩
  case round =>
    obtain ⟨k, hk, rfl, HK, gk⟩ := hrel
    by_cases hlt : k < n
    · have hlt' : (k : Int) < (n : Int) := by omega
      obtain ⟨q, o, rfl, c0, c1⟩ := (h.kept gk (by simp)) k hlt
      have HS : Hid (alW m f (k + 1) = (alW m f k && (inW m (f k).1 && inW m (f k).2))) := rfl
      have HNO : Hid ((inW m (f k).1 && inW m (f k).2) = false → alW m f n = false) := alW_no hlt
      obtain ⟨p, hp⟩ : ∃ p, f k = p := ⟨_, rfl⟩
      rw [hp] at c0 c1 HS HNO
      clear hp
      obtain ⟨x, y⟩ := p
      obtain ⟨W3, hW3, sz3, g3, B3⟩ := boxn wr #[.int .i64 x, .int .i64 y] 40
      have d0 := B3.cell 0 (v := .int .i64 x) rfl
      have d1 := B3.cell 1 (v := .int .i64 y) rfl
      have G3 := gb_trans gk g3
      have i1 := isWithinC x m hm W3
      have i2 := isWithinC y m hm W3
      simp only at HS HNO
      cases hx : inW m x
      · rw [hx] at i1 HNO
        have h0 : r = false := HR.out.symm.trans (HNO.out rfl)
        subst h0
        clear hx HS HNO HK
        go_wp2_with (first | (go_at_call 68; refine i1.mono ?_; rintro e w' ⟨rfl, rfl⟩) | go_in)
        go_ret
        exact ⟨rfl, G3⟩
      · rw [hx] at i1 HNO HS
        cases hy : inW m y
        · rw [hy] at i2 HNO
          have h0 : r = false := HR.out.symm.trans (HNO.out rfl)
          subst h0
          clear hx hy HS HNO HK
          go_wp2_with (first | (go_at_call 68; (fail_if_success (guard_hyp m1)); refine i1.mono ?_; rintro e w' ⟨rfl, rfl⟩; have m1 : True := trivial) | (go_at_call 68; refine i2.mono ?_; rintro e w' ⟨rfl, rfl⟩) | go_in)
          go_ret
          exact ⟨rfl, G3⟩
        · rw [hy] at i2 HS
          have HK1 : Hid (alW m f (k + 1) = true) := by unfold Hid; rw [HS.out, HK.out]; rfl
          clear hx hy HS HNO HK
          go_wp2_with (first | (go_at_call 68; (fail_if_success (guard_hyp m1)); refine i1.mono ?_; rintro e w' ⟨rfl, rfl⟩; have m1 : True := trivial) | (go_at_call 68; refine i2.mono ?_; rintro e w' ⟨rfl, rfl⟩) | go_in)
          go_roundw
          case rel => exact ⟨k + 1, by omega, by go_num, HK1, G3⟩
          case measure => simp [intOf]; omega
    · have hkn : k = n := by omega
      subst hkn
      have hlt' : ¬ (k : Int) < (k : Int) := by omega
      have h0 : r = true := HR.out.symm.trans HK.out
      subst h0
      go_wp2
      go_ret
      exact ⟨rfl, gk⟩
/-- Does one stand there twice? -/
def tw (f : Nat → Pt) (n : Nat) : Bool := decide ((adL f n).length < n)
set_option maxHeartbeats 1000000 in
theorem hasTwiceC (sp : Option Addr) (n cap : Nat) (f : Nat → Pt) (hf : ∀ k, k < n → PtOk (f k)) (hn : n < 1073741824) (w : World) (h : Pl w sp n f) :
    Calls Tryz.prog 65 #[.slice sp n cap] w fun e w' => e = .returned (.bool (tw f n)) ∧ w.grownBy w' none := by
  have hs := setOfC sp n cap f hf hn w h
  unfold tw
  obtain ⟨S, hS⟩ : ∃ S, adL f n = S := ⟨_, rfl⟩
  rw [hS] at hs ⊢
  clear hS h
  obtain ⟨c, hc⟩ : ∃ c, S.length = c := ⟨_, rfl⟩
  rw [hc]
  by_cases hlt : c < n
  all_goals
    simp only [hlt, decide_true, decide_false]
    go_enter Tryz.func65, Tryz.ntmps65
    go_wp2_with (first | (go_at_call 40; refine hs.mono ?_; rintro e w' ⟨b, rfl, ⟨D, F1, F2, -⟩, hb, g⟩; rw [hc] at F2 F1) | (at_len; refine wpList_len_own _ rfl _ 73 rfl 40 71 underM _ b _ D rfl F1 ?_; rw [F2]) | go_in)
    go_ret
    exact ⟨rfl, g⟩
/-- What is wrong with offsets. -/
def ckO (f : Nat → Pt) (n : Nat) (m : Int) : Int := if 64 < n then 6 else if alW m f n = false then 5 else if tw f n then 170 else 0
set_option maxHeartbeats 1000000 in
theorem checkOffsetsC (sp : Option Addr) (n cap : Nat) (f : Nat → Pt) (hf : ∀ k, k < n → PtOk (f k)) (m : Int) (hm : 0 ≤ m ∧ m ≤ 9223372036854775807) (hn : n < 1073741824) (w : World) (h : Pl w sp n f) :
    Calls Tryz.prog 35 #[.slice sp n cap, .int .i64 m] w fun e w' => e = .returned (.int .i64 (ckO f n m)) ∧ w.grownBy w' none := by
  have ha := allWithinC sp n cap f m hm hn w h
  have ht := fun w1 (g1 : w.grownBy w1 none) => hasTwiceC sp n cap f hf hn w1 (h.kept g1 (by simp))
  unfold ckO
  clear h
  by_cases h1 : 64 < n
  · rw [if_pos h1]
    have h1' : (64 : Int) < (n : Int) := by omega
    go_enter Tryz.func35, Tryz.ntmps35
    go_wp2
    go_ret
    exact ⟨rfl, World.grownBy.refl _ _⟩
  · rw [if_neg h1]
    have h1' : ¬ (64 : Int) < (n : Int) := by omega
    cases h2 : alW m f n
    · rw [h2] at ha
      rw [if_pos rfl]
      go_enter Tryz.func35, Tryz.ntmps35
      go_wp2_with (first | (go_at_call 42; refine ha.mono ?_; rintro e w' ⟨rfl, g1⟩) | go_in)
      go_ret
      exact ⟨rfl, g1⟩
    · rw [h2] at ha
      rw [if_neg (by decide)]
      cases h3 : tw f n
      all_goals
        rw [h3] at ht
        simp only [if_true, if_false, Bool.false_eq_true]
        go_enter Tryz.func35, Tryz.ntmps35
        go_wp2_with (first | (go_at_call 42; refine ha.mono ?_; rintro e w' ⟨rfl, g1⟩) | (go_at_call 65; refine (ht _ g1).mono ?_; rintro e w' ⟨rfl, g2⟩) | go_in)
        go_ret
        exact ⟨rfl, gb_trans g1 g2⟩
theorem checkC (sp : Option Addr) (n cap : Nat) (f : Nat → Pt) (hf : ∀ k, k < n → PtOk (f k)) (hn : n < 1073741824) (w : World) (h : Pl w sp n f) :
    Calls Tryz.prog 39 #[.slice sp n cap] w fun e w' => e = .returned (.int .i64 (ckO f n 1099511627776)) ∧ w.grownBy w' none := by
  have hc := checkOffsetsC sp n cap f hf 1099511627776 (by omega) hn w h
  generalize ckO f n 1099511627776 = r at hc ⊢
  go_enter Tryz.func39, Tryz.ntmps39
  go_wp2_with (first | (go_at_call 35; refine hc.mono ?_; rintro e w' ⟨rfl, g1⟩) | go_in)
  go_ret
  exact ⟨rfl, g1⟩
def ckG (n : Int) : Int := if n < 0 then 2 else if 1125899906842624 < n then 5 else 0
theorem checkGenC (n : Int) (w : World) : Calls Tryz.prog 36 #[.int .i64 n] w fun e w' => e = .returned (.int .i64 (ckG n)) ∧ w' = w := by
  unfold ckG
  by_cases h1 : n < 0
  · rw [if_pos h1]
    go_enter Tryz.func36, Tryz.ntmps36
    go_wp2
    go_ret
    exact ⟨rfl, rfl⟩
  · rw [if_neg h1]
    by_cases h2 : 1125899906842624 < n
    · rw [if_pos h2]
      go_enter Tryz.func36, Tryz.ntmps36
      go_wp2
      go_ret
      exact ⟨rfl, rfl⟩
    · rw [if_neg h2]
      go_enter Tryz.func36, Tryz.ntmps36
      go_wp2
      go_ret
      exact ⟨rfl, rfl⟩
end Ln
end Go.Proofs.YtbmpiddjakdebaaGreat
namespace Go.Proofs.YtbmpiddjakdebaaGreat
open Go.RowKit
set_option linter.unusedVariables false
set_option linter.unusedSimpArgs false
set_option maxRecDepth 100000

namespace Ln
theorem fl_at (ps : List Pt) (k : Nat) (hk : k < ps.length) : (fl ps)[k * 2]? = some (.int .i64 (ps.getD k (0, 0)).1) ∧ (fl ps)[k * 2 + 1]? = some (.int .i64 (ps.getD k (0, 0)).2) := by
  have h1 := fl_get ps (k * 2) (by omega)
  have h2 := fl_get ps (k * 2 + 1) (by omega)
  rw [show k * 2 / 2 = k by omega, show k * 2 % 2 = 0 by omega] at h1
  rw [show (k * 2 + 1) / 2 = k by omega, show (k * 2 + 1) % 2 = 1 by omega] at h2
  exact ⟨h1, h2⟩
/-- A row of one's own can be read. -/
theorem pl_own {w : World} {base g n cap : Nat} {ps : List Pt} (h : w.ownsRow base 40 2 (.slice (some ⟨g, 0, none⟩) n cap) n (fl ps)) (hn : ps.length = n) : Pl w (some ⟨g, 0, none⟩) n (fun k => ps.getD k (0, 0)) := fun k hk => by
  obtain ⟨h1, h2⟩ := fl_at ps k (by omega)
  have c1 := h.cells rfl _ _ h1
  have c2 := h.cells rfl _ _ h2
  rw [Addr.add_lit] at c1 c2
  exact ⟨g, 0, rfl, c1, by rw [Nat.add_assoc]; exact c2⟩
theorem adL_ok {f : Nat → Pt} {n : Nat} (m : Int) (h : alW m f n = true) {p : Pt} (hp : p ∈ adL f n) : inW m p.1 = true ∧ inW m p.2 = true := by
  obtain ⟨i, hi, rfl⟩ := (mem_adL f p n).1 hp
  exact (alW_is m f n).1 h i hi
theorem inW_is (m x : Int) : inW m x = true ↔ -m ≤ x ∧ x ≤ m := by unfold inW; simp
theorem ckO_zero {f : Nat → Pt} {n : Nat} {m : Int} (h : ckO f n m = 0) : n ≤ 64 ∧ alW m f n = true ∧ tw f n = false := by
  unfold ckO at h
  split at h
  · omega
  · split at h
    · omega
    · split at h
      · omega
      · rename_i h1 h2 h3
        exact ⟨by omega, by cases e : alW m f n <;> simp_all, by cases e : tw f n <;> simp_all⟩
/-- What two sums make: a set by its places. -/
def tmS (f1 : Nat → Pt) (n1 : Nat) (f2 : Nat → Pt) (n2 : Nat) (T : List Pt) : Prop := T.Nodup ∧ ∀ q, decide (q ∈ T) = odS (adL f1 n1) f2 n2 q
def FR : Int := 1099511627776
set_option maxHeartbeats 2000000 in
theorem timesN (s1 s2 : Option Addr) (n1 c1 n2 c2 : Nat) (f1 f2 : Nat → Pt) (hf1 : ∀ k, k < n1 → PtOk (f1 k)) (hf2 : ∀ k, k < n2 → PtOk (f2 k)) (hn1 : n1 < 1073741824) (hn2 : n2 < 1073741824) (w : World) (h1 : Pl w s1 n1 f1) (h2 : Pl w s2 n2 f2) (hE : orL [ckO f1 n1 1099511627776, ckO f2 n2 1099511627776] ≠ 0) :
    Calls Tryz.prog 19 #[.slice s1 n1 c1, .slice s2 n2 c2] w fun e w' => e = .returned (.tuple #[.slice none 0 0, .int .i64 (orL [ckO f1 n1 1099511627776, ckO f2 n2 1099511627776])]) ∧ w.grownBy w' none := by
  have k1 := checkC s1 n1 c1 f1 hf1 hn1
  have k2 := checkC s2 n2 c2 f2 hf2 hn2
  obtain ⟨e1, he1⟩ : ∃ e, ckO f1 n1 1099511627776 = e := ⟨_, rfl⟩
  obtain ⟨e2, he2⟩ : ∃ e, ckO f2 n2 1099511627776 = e := ⟨_, rfl⟩
  rw [he1] at k1 hE ⊢
  rw [he2] at k2 hE ⊢
  clear he1 he2
  obtain ⟨r, hr⟩ : ∃ r, orL [e1, e2] = r := ⟨_, rfl⟩
  have HR : Hid (orL [e1, e2] = r) := hr
  rw [hr] at hE ⊢
  clear hr
  have hb : (r != 0) = true := by simp [hE]
  have k1' := k1 w h1
  have k2' := fun w1 (g1 : w.grownBy w1 none) => k2 w1 (h2.kept g1 (by simp))
  have kO : ∀ W : World, Calls Tryz.prog 34 #[.slice (some ⟨W.heap.size, 0, none⟩) 2 2] (W.alloc (.cells #[.int .i64 e1, .int .i64 e2] 34)) fun e w' => e = .returned (.int .i64 r) ∧ w' = W.alloc (.cells #[.int .i64 e1, .int .i64 e2] 34) := fun W => by
    have := orE W.heap.size 2 [e1, e2] (by simp) (W.alloc (.cells #[.int .i64 e1, .int .i64 e2] 34)) (fun k x hx => by
      match k, hx with
      | 0, hx => cases hx; exact World.news_of_block (heap_alloc_new _ _) 0 _ rfl
      | 1, hx => cases hx; exact World.news_of_block (heap_alloc_new _ _) 1 _ rfl)
    rw [HR.out] at this
    exact this
  clear k1 k2 h1 h2
  go_enter Tryz.func19, Tryz.ntmps19
  go_wp2_with (first | (go_at_call 39; (fail_if_success (guard_hyp m1)); refine k1'.mono ?_; rintro e w1 ⟨rfl, g1⟩; have m1 : True := trivial) | (go_at_call 39; refine (k2' _ g1).mono ?_; rintro e w2 ⟨rfl, g2⟩; have g12 := gb_trans g1 g2) | (go_at_call 34; refine (kO _).mono ?_; rintro e w3 ⟨rfl, rfl⟩) | go_in)
  go_ret2
  exact ⟨rfl, gb_trans g12 (World.grownBy_alloc _ _ _)⟩
theorem odS_ne {S : List Pt} {f : Nat → Pt} {n : Nat} {q : Pt} (h : odS S f n q = true) : ∃ p ∈ S, ∃ k, k < n ∧ q = padd p (f k) := by
  induction S with
  | nil => cases h
  | cons p S ih =>
    by_cases hS : odS S f n q = true
    · obtain ⟨p', hp', h'⟩ := ih hS
      exact ⟨p', List.mem_cons_of_mem _ hp', h'⟩
    · have h1 : od1 p f n q = true := by
        have e : odS (p :: S) f n q = Bool.xor (od1 p f n q) (odS S f n q) := rfl
        rw [e, Bool.not_eq_true _ |>.mp hS, Bool.xor_false] at h
        exact h
      clear ih hS h
      have : ∀ n, od1 p f n q = true → ∃ k, k < n ∧ q = padd p (f k) := fun n => by
        induction n with
        | zero => intro h; cases h
        | succ n ih =>
          intro h
          by_cases hq : q = padd p (f n)
          · exact ⟨n, by omega, hq⟩
          · have e : od1 p f (n + 1) q = Bool.xor (od1 p f n q) (decide (q = padd p (f n))) := rfl
            rw [e, decide_eq_false hq, Bool.xor_false] at h
            obtain ⟨k, hk, h'⟩ := ih h
            exact ⟨k, by omega, h'⟩
      exact ⟨p, List.mem_cons_self, this n h1⟩
theorem own_less {w : World} {base base' : Nat} {e : TypeId} {size : Nat} {v : Value} {n : Nat} {xs : List Value} (h : w.ownsRow base e size v n xs) (hb : base' ≤ base) : w.ownsRow base' e size v n xs := by
  refine ⟨h.1, ?_⟩
  rcases h.2 with h0 | ⟨g, cap, cur, h1, h2, h3⟩
  · exact .inl h0
  · exact .inr ⟨g, cap, cur, h1, Nat.le_trans hb h2, h3⟩
/-- Is a list within? -/
def lsW (m : Int) (L : List Pt) : Bool := alW m (fun k => L.getD k (0, 0)) L.length
set_option maxHeartbeats 2000000 in
theorem timesY (s1 s2 : Option Addr) (n1 c1 n2 c2 : Nat) (f1 f2 : Nat → Pt) (hn1 : n1 < 1073741824) (hn2 : n2 < 1073741824) (w : World) (h1 : Pl w s1 n1 f1) (h2 : Pl w s2 n2 f2) (hE1 : ckO f1 n1 1099511627776 = 0) (hE2 : ckO f2 n2 1099511627776 = 0) :
    Calls Tryz.prog 19 #[.slice s1 n1 c1, .slice s2 n2 c2] w fun e w' => w.grownBy w' none ∧ ∃ T, tmS f1 n1 f2 n2 T ∧ T.length ≤ 4096 ∧ ((lsW 1099511627776 (srt T) = false ∧ e = .returned (.tuple #[.slice none 0 0, .int .i64 5])) ∨ (lsW 1099511627776 (srt T) = true ∧ ∃ g cap, e = .returned (.tuple #[.slice (some ⟨g, 0, none⟩) T.length cap, .int .i64 0]) ∧ w'.ownsRow w.heap.size 40 2 (.slice (some ⟨g, 0, none⟩) T.length cap) T.length (fl (srt T)))) := by
  obtain ⟨l1, a1, t1⟩ := ckO_zero hE1
  obtain ⟨l2, a2, t2⟩ := ckO_zero hE2
  have b1 := (alW_is _ f1 n1).1 a1
  have b2 := (alW_is _ f2 n2).1 a2
  have hf1 : ∀ k, k < n1 → PtOk (f1 k) := fun k hk => by
    have h := b1 k hk
    rw [inW_is, inW_is] at h
    exact ⟨⟨by omega, by omega⟩, ⟨by omega, by omega⟩⟩
  have hf2 : ∀ k, k < n2 → PtOk (f2 k) := fun k hk => by
    have h := b2 k hk
    rw [inW_is, inW_is] at h
    exact ⟨⟨by omega, by omega⟩, ⟨by omega, by omega⟩⟩
  have hf : ∀ p ∈ adL f1 n1, ∀ k, k < n2 → PtOk (padd p (f2 k)) := fun p hp k hk => by
    obtain ⟨i, hi, rfl⟩ := (mem_adL f1 p n1).1 hp
    have h := b1 i hi
    have h' := b2 k hk
    rw [inW_is, inW_is] at h h'
    unfold padd
    exact ⟨⟨by simp only; omega, by simp only; omega⟩, ⟨by simp only; omega, by simp only; omega⟩⟩
  have k1 := checkC s1 n1 c1 f1 hf1 hn1 w h1
  have k2 := fun w1 (g1 : w.grownBy w1 none) => checkC s2 n2 c2 f2 hf2 hn2 w1 (h2.kept g1 (by simp))
  rw [hE1] at k1
  rw [hE2] at k2
  have kO : ∀ W : World, Calls Tryz.prog 34 #[.slice (some ⟨W.heap.size, 0, none⟩) 2 2] (W.alloc (.cells #[.int .i64 0, .int .i64 0] 34)) fun e w' => e = .returned (.int .i64 0) ∧ w' = W.alloc (.cells #[.int .i64 0, .int .i64 0] 34) := fun W => by
    have := orE W.heap.size 2 [0, 0] (by simp) (W.alloc (.cells #[.int .i64 0, .int .i64 0] 34)) (fun k x hx => by
      match k, hx with
      | 0, hx => cases hx; exact World.news_of_block (heap_alloc_new _ _) 0 _ rfl
      | 1, hx => cases hx; exact World.news_of_block (heap_alloc_new _ _) 1 _ rfl)
    exact this
  have kS := fun w1 (g1 : w.grownBy w1 none) => setOfC s1 n1 c1 f1 hf1 hn1 w1 (h1.kept g1 (by simp))
  have hS := adL_len f1 n1
  have hL : (adL f1 n1).length * n2 ≤ 64 * 64 := Nat.mul_le_mul (by omega) l2
  have kP := fun w1 b (g1 : w.grownBy w1 none) F => spreadC b (adL f1 n1) s2 n2 c2 f2 hf (by omega) (by omega) (by omega) w1 F (h2.kept g1 (by simp))
  have HW : Hid (∀ T, tmS f1 n1 f2 n2 T → ∀ p ∈ T, PtOk p) := fun T hT p hp => by
    obtain ⟨q, hq, k, hk, rfl⟩ := odS_ne (((hT.2 p).symm).trans (decide_eq_true hp))
    exact hf q hq k hk
  clear hf hf1 hf2 b1 b2 hE1 hE2 h1 h2 a1 a2 t1 t2
  go_enter Tryz.func19, Tryz.ntmps19
  go_wp2_with (first | (go_at_call 39; (fail_if_success (guard_hyp m1)); refine k1.mono ?_; rintro e w1 ⟨rfl, g1⟩; have m1 : True := trivial) | (go_at_call 39; refine (k2 _ g1).mono ?_; rintro e w2 ⟨rfl, g2⟩; have g12 := gb_trans g1 g2; obtain ⟨W3, hW3⟩ : ∃ W3, w2.alloc (.cells #[.int .i64 0, .int .i64 0] 34) = W3 := ⟨_, rfl⟩; have kO2 := kO w2; rw [hW3] at kO2; have g3 : w.grownBy W3 none := (by rw [← hW3]; exact gb_trans g12 (World.grownBy_alloc _ _ _))) | (go_at_call 34; refine kO2.mono ?_; rintro e w3 ⟨rfl, rfl⟩) | (go_at_call 40; refine (kS _ g3).mono ?_; rintro e w4 ⟨b4, rfl, F4, hb4, g4⟩; have g34 := gb_trans g3 g4) | (go_at_call 37; refine (kP _ b4 g34 F4).mono ?_; rintro e w5 ⟨b5, T, rfl, F5, hT, hTl, hb5, g5⟩; have g35 := gb_trans g34 g5) | (go_at_call 41; refine (listC b5 T (by omega) _ F5).mono ?_; rintro e w6 ⟨g, cap, rfl, own6, g6⟩; have g36 := gb_trans g35 g6; have hPl := pl_own own6 (srt_len T); have kA := allWithinC (some ⟨g, 0, none⟩) T.length cap (fun k => (srt T).getD k (0, 0)) 1099511627776 (by omega) (by omega) w6 hPl; refine Hid.out ?_) | go_in)
  refine Lib.hid ?_
  have hz : alW 1099511627776 (fun k => (srt T).getD k (0, 0)) T.length = lsW 1099511627776 (srt T) := by unfold lsW; rw [srt_len]
  rw [hz] at kA
  have hnd : T.Nodup := by obtain ⟨_, _, _, h3, _⟩ := F5; exact h3
  have HT : Hid (tmS f1 n1 f2 n2 T) := ⟨hnd, hT⟩
  have HL : Hid (T.length ≤ 4096) := by unfold Hid; omega
  have own7 : ∀ w7, w6.grownBy w7 none → w7.ownsRow w.heap.size 40 2 (.slice (some ⟨g, 0, none⟩) T.length cap) T.length (fl (srt T)) := fun w7 g7 => own_less (own6.kept g7 (.inr (by intro e; cases e))) g35.size
  clear hz hT F5 F4 k1 k2 kO kO2 kS kP hPl hnd
  cases hW : lsW 1099511627776 (srt T)
  all_goals
    rw [hW] at kA
    go_wp2_with (first | (go_at_call 42; refine kA.mono ?_; rintro e w7 ⟨rfl, g7⟩) | go_in)
    go_ret2
  · exact ⟨gb_trans g36 g7, T, HT.out, HL.out, .inl ⟨hW, rfl⟩⟩
  · exact ⟨gb_trans g36 g7, T, HT.out, HL.out, .inr ⟨hW, g, cap, rfl, own7 _ g7⟩⟩
end Ln
end Go.Proofs.YtbmpiddjakdebaaGreat
