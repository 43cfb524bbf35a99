/- What a leap makes: the cells to which an odd number of moves come. -/
import Derived.Test.YtbmpiddjakdebaaGreatNj
namespace Go.Proofs.YtbmpiddjakdebaaGreat
open Go.RowKit
set_option linter.unusedVariables false
set_option linter.unusedSimpArgs false
set_option maxRecDepth 100000

namespace Ln
/-- A torus as leap goes through it: turned the wide way, or not at all. -/
structure To1 (k x y t z : Int) : Prop where
  ok : Tp.chk k x y t z = 0
  kd : k = 2
  tn : t = 0 ∨ t = 1
  hx : 1 ≤ x
  hy : 1 ≤ y
theorem divZ_pos {u s : Int} (h : 1 ≤ s) : Nm.divZ u s = u / s := by
  unfold Nm.divZ
  rw [if_neg (by omega)]
theorem cellP_form {k x y t z : Int} (h : To1 k x y t z) {p : Pt} (h1 : -1099511627776 ≤ p.1 ∧ p.1 ≤ 1099511627776) (h2 : -1099511627776 ≤ p.2 ∧ p.2 ≤ 1099511627776) : cellP k x y t z p = (To.fi x + (p.1 - To.fi x - (if t = 1 then (p.2 - To.fi y) / y * z else 0)) % x, To.fi y + (p.2 - To.fi y) % y) := by
  obtain ⟨hc, rfl, ht, hx, hy⟩ := h
  have f1 : To.frB p.1 = false := by unfold To.frB; simp; omega
  have f2 : To.frB p.2 = false := by unfold To.frB; simp; omega
  have hg : Fd.glB 2 = true := by decide
  have he : Fd.ceE 2 x y t z p.1 p.2 = 0 := by
    unfold Fd.ceE
    rw [if_pos hc, f1, f2, if_neg (by simp), if_neg (by rw [hg]; simp)]
  unfold cellP
  rw [if_pos he]
  unfold Fd.ceX Fd.ceY
  rw [if_pos hg, if_pos hg]
  unfold Fo.cy
  rcases ht with rfl | rfl
  · rw [Fo.cx_2 (by omega), Fo.cx_2 (by omega), Fo.wi_pos hx, Fo.wi_pos hy, if_neg (by omega)]
    simp only [Prod.mk.injEq]
    constructor
    · rw [Int.sub_zero, Int.add_comm]
    · rw [Int.add_comm]
  · rw [Fo.cx_21, Fo.cx_2 (by omega), Fo.wi_pos hx, Fo.wi_pos hy, if_pos rfl, divZ_pos hy]
    simp only [Prod.mk.injEq]
    constructor
    · rw [Int.add_comm]
    · rw [Int.add_comm]
theorem mod_back {b n r y : Int} (hb : 0 ≤ b ∧ b < y) (hr : 0 ≤ r ∧ r < y) : (b + n) % y = r ↔ b = (r - n) % y := by
  constructor
  · intro h
    have e := Int.emod_add_mul_ediv (b + n) y
    rw [h] at e
    rw [show r - n = b + y * (-((b + n) / y)) by rw [Int.mul_neg]; omega, Int.add_mul_emod_self_left, Int.emod_eq_of_lt hb.1 hb.2]
  · intro h
    have e := Int.emod_add_mul_ediv (r - n) y
    rw [← h] at e
    rw [show b + n = r + y * (-((r - n) / y)) by rw [Int.mul_neg]; omega, Int.add_mul_emod_self_left, Int.emod_eq_of_lt hr.1 hr.2]
theorem div_back {b n r y : Int} (hy : 1 ≤ y) (hr : 0 ≤ r ∧ r < y) (h : b = (r - n) % y) : (b + n) / y = -((r - n) / y) := by
  have e := Int.emod_add_mul_ediv (r - n) y
  rw [← h] at e
  rw [show b + n = r + y * (-((r - n) / y)) by rw [Int.mul_neg]; omega, Int.add_mul_ediv_left _ _ (by omega), Int.ediv_eq_zero_of_lt hr.1 hr.2, Int.zero_add]
theorem sub_back {a w x : Int} : (a - w % x) % x = (a - w) % x := by
  have e := Int.emod_add_mul_ediv w x
  rw [show a - w % x = a - w + x * (w / x) by omega, Int.add_mul_emod_self_left]
/-- A cell and a move, small. -/
structure Sml (x y : Int) (c m : Pt) : Prop where
  c1 : To.fi x ≤ c.1 ∧ c.1 < To.fi x + x
  c2 : To.fi y ≤ c.2 ∧ c.2 < To.fi y + y
  m1 : -65536 ≤ m.1 ∧ m.1 ≤ 65536
  m2 : -65536 ≤ m.2 ∧ m.2 ≤ 65536
  bx : x ≤ 65536
  by_ : y ≤ 65536
theorem row_hit {k x y t z : Int} (h : To1 k x y t z) {c m : Pt} (hs : Sml x y c m) {y0 : Int} (h0 : To.fi y ≤ y0 ∧ y0 < To.fi y + y) :
    ((cellP k x y t z (padd c m)).2 = y0 ↔ c.2 = (cellP k x y t z (To.fi x - m.1, y0 - m.2)).2) ∧ (c.2 = (cellP k x y t z (To.fi x - m.1, y0 - m.2)).2 → cellP k x y t z (padd c m) = rwP (To.fi x) x y0 (cellP k x y t z (To.fi x - m.1, y0 - m.2)).1 c) := by
  obtain ⟨c1, c2, m1, m2, bx, by_⟩ := hs
  have hx := h.hx
  have hy := h.hy
  have ex : To.fi x = -(x / 2) := rfl
  have ey : To.fi y = -(y / 2) := rfl
  have e1 := cellP_form h (p := padd c m) (by unfold padd; simp only; omega) (by unfold padd; simp only; omega)
  have e2 := cellP_form h (p := (To.fi x - m.1, y0 - m.2)) (by simp only; omega) (by simp only; omega)
  rw [e1, e2]
  unfold padd rwP
  simp only
  clear e1 e2
  generalize To.fi x = X at c1 ex ⊢
  generalize To.fi y = Y at c2 h0 ey ⊢
  have hb : 0 ≤ c.2 - Y ∧ c.2 - Y < y := by omega
  have hr : 0 ≤ y0 - Y ∧ y0 - Y < y := by omega
  have mb := mod_back (n := m.2) hb hr
  rw [show c.2 + m.2 - Y = c.2 - Y + m.2 by omega, show y0 - m.2 - Y = y0 - Y - m.2 by omega]
  refine ⟨⟨fun e => ?_, fun e => ?_⟩, fun e => ?_⟩
  · have := mb.1 (by omega); omega
  · have := mb.2 (by omega); omega
  · have hbr : c.2 - Y = (y0 - Y - m.2) % y := by omega
    have hm := mb.2 hbr
    have hd := div_back hy hr hbr
    rw [hm, hd]
    simp only [Prod.mk.injEq]
    refine ⟨?_, by omega⟩
    rcases h.tn with rfl | rfl
    · rw [if_neg (by omega), if_neg (by omega)]
      congr 1
      rw [show c.1 - (X + (X - m.1 - X - 0) % x) = (c.1 - X) - (X - m.1 - X - 0) % x by omega, sub_back]
      congr 1
      omega
    · rw [if_pos rfl, if_pos rfl]
      congr 1
      rw [show c.1 - (X + (X - m.1 - X - (y0 - Y - m.2) / y * z) % x) = (c.1 - X) - (X - m.1 - X - (y0 - Y - m.2) / y * z) % x by omega, sub_back]
      congr 1
      rw [Int.neg_mul]
      omega
end Ln
end Go.Proofs.YtbmpiddjakdebaaGreat
namespace Go.Proofs.YtbmpiddjakdebaaGreat
open Go.RowKit
set_option linter.unusedVariables false
set_option linter.unusedSimpArgs false
set_option maxRecDepth 100000

namespace Ln
theorem take_getD' (C : List Pt) (i : Nat) (h : i < C.length) : C.take (i + 1) = C.take i ++ [C.getD i (0, 0)] := by
  rw [List.take_add_one, List.getElem?_eq_getElem h, List.getD_eq_getElem?_getD, List.getElem?_eq_getElem h]
  rfl
theorem psL_succ' (f : Nat → Pt) (n : Nat) : psL f (n + 1) = psL f n ++ [f n] := by unfold psL; rw [List.range_succ, List.map_append]; rfl
def parL (g : Pt → Bool) (cs : List Pt) : Bool := cs.foldr (fun c a => Bool.xor (g c) a) false
theorem parL_cons (g : Pt → Bool) (c : Pt) (cs : List Pt) : parL g (c :: cs) = Bool.xor (g c) (parL g cs) := rfl
theorem parL_snoc (g : Pt → Bool) (c : Pt) : ∀ cs : List Pt, parL g (cs ++ [c]) = Bool.xor (parL g cs) (g c)
  | [] => by show Bool.xor (g c) false = Bool.xor false (g c); cases g c <;> rfl
  | d :: cs => by rw [List.cons_append, parL_cons, parL_cons, parL_snoc g c cs]; cases g d <;> cases parL g cs <;> cases g c <;> rfl
theorem parL_filter (g P : Pt → Bool) : ∀ cs : List Pt, parL g (cs.filter P) = parL (fun c => P c && g c) cs
  | [] => rfl
  | c :: cs => by
    rw [parL_cons, ← parL_filter g P cs]
    cases h : P c with
    | true => rw [List.filter_cons_of_pos h, parL_cons]; simp
    | false => rw [List.filter_cons_of_neg (by rw [h]; simp)]; simp
theorem parL_congr {g g' : Pt → Bool} : ∀ {cs : List Pt}, (∀ c ∈ cs, g c = g' c) → parL g cs = parL g' cs
  | [], _ => rfl
  | c :: cs, h => by rw [parL_cons, parL_cons, h c List.mem_cons_self, parL_congr (fun d hd => h d (List.mem_cons_of_mem _ hd))]
theorem parL_no {g : Pt → Bool} {cs : List Pt} (h : ∀ c ∈ cs, g c = false) : parL g cs = false := by
  induction cs with
  | nil => rfl
  | cons c cs ih => rw [parL_cons, h c List.mem_cons_self, ih (fun d hd => h d (List.mem_cons_of_mem _ hd))]; rfl
theorem flp_dec {S : List Pt} (hS : S.Nodup) (p q : Pt) : decide (q ∈ flp S p) = Bool.xor (decide (q ∈ S)) (decide (q = p)) := by
  have h := mem_flp hS p q
  by_cases h1 : q ∈ S <;> by_cases h2 : q = p
  · rw [decide_eq_false (fun e => by rcases h.1 e with e | e; exact e.2 h2; exact e.1 h1), decide_eq_true h1, decide_eq_true h2]; rfl
  · rw [decide_eq_true (h.2 (.inl ⟨h1, h2⟩)), decide_eq_true h1, decide_eq_false h2]; rfl
  · rw [decide_eq_true (h.2 (.inr ⟨h1, h2⟩)), decide_eq_false h1, decide_eq_true h2]; rfl
  · rw [decide_eq_false (fun e => by rcases h.1 e with e | e; exact h1 e.1; exact h2 e.2), decide_eq_false h1, decide_eq_false h2]; rfl
theorem rwI_par {X x y0 a : Int} {ps T : List Pt} (hT : T.Nodup) (q : Pt) : ∀ i, i ≤ ps.length → decide (q ∈ rwI X x y0 ps a T i) = Bool.xor (decide (q ∈ T)) (parL (fun c => decide (q = rwP X x y0 a c)) (ps.take i))
  | 0, _ => by show _ = Bool.xor _ false; rw [Bool.xor_false]; rfl
  | i + 1, hi => by
    show decide (q ∈ flp (rwI X x y0 ps a T i) (rwP X x y0 a (ps.getD i (0, 0)))) = _
    rw [flp_dec (rwI_nodup hT i), rwI_par hT q i (by omega), take_getD' ps i (by omega), parL_snoc]
    cases decide (q ∈ T) <;> cases parL (fun c => decide (q = rwP X x y0 a c)) (ps.take i) <;> cases decide (q = rwP X x y0 a (ps.getD i (0, 0))) <;> rfl
theorem psF_filter (f : Nat → Pt) (r : Int) : ∀ n, psF f n r = (psL f n).filter (fun p => decide (p.2 = r))
  | 0 => rfl
  | n + 1 => by
    show upP (psF f n) (f n) r = _
    unfold upP
    rw [psL_succ', List.filter_append, psF_filter f r n]
    by_cases e : r = (f n).2
    · rw [if_pos e]; simp [e]
    · have e2 : ¬ (f n).2 = r := fun h => e h.symm
      rw [if_neg e]; simp [e2]
/-- An odd number of the cells comes by the first moves. -/
def hits (C : Pt → Pt) (f : Nat → Pt) (cs : List Pt) (q : Pt) : Nat → Bool
  | 0 => false
  | j + 1 => Bool.xor (hits C f cs q j) (parL (fun c => decide (q = C (padd c (f j)))) cs)
theorem hits_no {C : Pt → Pt} {f : Nat → Pt} {cs : List Pt} {q : Pt} : ∀ {m : Nat}, (∀ j, j < m → ∀ c ∈ cs, q ≠ C (padd c (f j))) → hits C f cs q m = false
  | 0, _ => rfl
  | m + 1, h => by
    show Bool.xor (hits C f cs q m) (parL _ cs) = false
    rw [hits_no (fun j hj => h j (by omega)), parL_no (fun c hc => decide_eq_false (h m (by omega) c hc))]
    rfl
theorem rwL_par {k x y t z : Int} (h : To1 k x y t z) (hb : x ≤ 65536 ∧ y ≤ 65536) (g : Nat → Pt) (n : Nat) (f : Nat → Pt) {q : Pt} (hq : To.fi y ≤ q.2 ∧ q.2 < To.fi y + y) (hcs : InT x y (To.fi x) (To.fi y) (psL g n)) : ∀ m, (∀ j, j < m → (-65536 ≤ (f j).1 ∧ (f j).1 ≤ 65536) ∧ (-65536 ≤ (f j).2 ∧ (f j).2 ≤ 65536)) → decide (q ∈ rwL k x y t z (To.fi x) q.2 (psF g n) f m) = hits (cellP k x y t z) f (psL g n) q m
  | 0, _ => by rfl
  | m + 1, hf => by
    show decide (q ∈ rwI (To.fi x) x q.2 (psF g n (cellP k x y t z (To.fi x - (f m).1, q.2 - (f m).2)).2) (cellP k x y t z (To.fi x - (f m).1, q.2 - (f m).2)).1 (rwL k x y t z (To.fi x) q.2 (psF g n) f m) (psF g n (cellP k x y t z (To.fi x - (f m).1, q.2 - (f m).2)).2).length) = Bool.xor (hits (cellP k x y t z) f (psL g n) q m) (parL (fun c => decide (q = cellP k x y t z (padd c (f m)))) (psL g n))
    rw [rwI_par (rwL_nodup _ _ _) q _ (Nat.le_refl _), rwL_par h hb g n f hq hcs m (fun j hj => hf j (by omega)), List.take_length, psF_filter, parL_filter]
    congr 1
    refine parL_congr (fun c hc => ?_)
    obtain ⟨hc1, hc2⟩ := hcs c hc
    obtain ⟨r1, r2⟩ := row_hit h ⟨hc1, hc2, (hf m (by omega)).1, (hf m (by omega)).2, hb.1, hb.2⟩ hq (m := f m)
    by_cases e : c.2 = (cellP k x y t z (To.fi x - (f m).1, q.2 - (f m).2)).2
    · rw [decide_eq_true e, Bool.true_and, r2 e]
    · rw [decide_eq_false e, Bool.false_and]
      exact (decide_eq_false (fun e2 => e (r1.1 (by rw [← e2])))).symm
theorem flat_nodup {F : Int → List Pt} : ∀ {T : List Int}, T.Nodup → (∀ y, (F y).Nodup) → (∀ y, ∀ p ∈ F y, p.2 = y) → (T.flatMap F).Nodup
  | [], _, _, _ => List.nodup_nil
  | y :: T, hT, hF, hy => by
    obtain ⟨h1, h2⟩ := List.nodup_cons.1 hT
    rw [List.flatMap_cons, List.nodup_append]
    refine ⟨hF y, flat_nodup h2 hF hy, fun a ha b hb e => ?_⟩
    subst e
    obtain ⟨y', hy', hm⟩ := List.mem_flatMap.1 hb
    have e1 := hy y a ha
    have e2 := hy y' a hm
    exact h1 (by rw [← e1, e2]; exact hy')
/-- A LEAP: none twice, and a cell is there if an odd number of cells come to it. -/
theorem leap_par {k x y t z : Int} (h : To1 k x y t z) (hb : x ≤ 65536 ∧ y ≤ 65536) {ms cs nx : List Pt} (hcs : InT x y (To.fi x) (To.fi y) cs) (hms : ∀ p ∈ ms, (-65536 ≤ p.1 ∧ p.1 ≤ 65536) ∧ (-65536 ≤ p.2 ∧ p.2 ≤ 65536)) (hl : leapR k x y t z (To.fi x) ms cs nx) : nx.Nodup ∧ ∀ q, decide (q ∈ nx) = hits (cellP k x y t z) (fun j => ms.getD j (0, 0)) cs q ms.length := by
  obtain ⟨Ks, T, h1, h2, h3, h4⟩ := hl
  have hx := h.hx
  have hy := h.hy
  have hps := psL_self cs
  have hfm : ∀ j, j < ms.length → (-65536 ≤ (ms.getD j (0, 0)).1 ∧ (ms.getD j (0, 0)).1 ≤ 65536) ∧ (-65536 ≤ (ms.getD j (0, 0)).2 ∧ (ms.getD j (0, 0)).2 ≤ 65536) := fun j hj => hms _ (getD_mem ms j hj)
  have hin : ∀ y0, ∀ p ∈ rwL k x y t z (To.fi x) y0 (psF (fun j => cs.getD j (0, 0)) cs.length) (fun j => ms.getD j (0, 0)) ms.length, p.2 = y0 := fun y0 p hp => (rwL_in hx _ _ _ p hp).1
  have hTY : ∀ q ∈ T, To.fi y ≤ q ∧ q < To.fi y + y := fun q hq => by
    obtain ⟨r, _, j, _, e⟩ := (h2 q).1 hq
    rw [e]
    exact (cellP_in h.kd hx hy _).2
  refine ⟨h4.nodup_iff.2 (flat_nodup h3 (fun y0 => rwL_nodup _ _ _) hin), fun q => ?_⟩
  by_cases hq : q.2 ∈ T
  · have hp := rwL_par h hb (fun j => cs.getD j (0, 0)) cs.length (fun j => ms.getD j (0, 0)) (hTY _ hq) (by rw [hps]; exact hcs) ms.length hfm
    rw [hps] at hp
    rw [← hp, decide_eq_decide, h4.mem_iff, List.mem_flatMap]
    constructor
    · rintro ⟨y0, hy0, hm⟩
      rw [hin y0 q hm]
      exact hm
    · intro hm
      exact ⟨q.2, hq, hm⟩
  · rw [hits_no (fun j hj c hc e => hq ?_), decide_eq_false]
    · intro hm
      obtain ⟨y0, hy0, hm⟩ := List.mem_flatMap.1 (h4.mem_iff.1 hm)
      rw [hin y0 q hm] at hq
      exact hq hy0
    · obtain ⟨i, hi, ec⟩ := List.getElem_of_mem hc
      refine (h2 q.2).2 ⟨c.2, (h1 c.2).2 ⟨i, hi, by rw [List.getD_eq_getElem?_getD, List.getElem?_eq_getElem hi]; exact congrArg Prod.snd ec⟩, j, hj, ?_⟩
      obtain ⟨hc1, hc2⟩ := hcs c hc
      have hf := hfm j hj
      have ex : To.fi x = -(x / 2) := rfl
      have ey : To.fi y = -(y / 2) := rfl
      rw [e]
      unfold rcY
      rw [cellP_form h (by unfold padd; simp only; omega) (by unfold padd; simp only; omega), cellP_form h (by simp only; omega) (by simp only; omega)]
      rfl
end Ln
end Go.Proofs.YtbmpiddjakdebaaGreat
namespace Go.Proofs.YtbmpiddjakdebaaGreat
open Go.RowKit
set_option linter.unusedVariables false
set_option linter.unusedSimpArgs false
set_option maxRecDepth 100000

namespace Ln
/-- How often, modulo two, a list comes to a cell. -/
def cnt2 (C : Pt → Pt) (A : List Pt) (q : Pt) : Bool := parL (fun a => decide (C a = q)) A
/-- Alike as sums. -/
def Eqv (C : Pt → Pt) (A B : List Pt) : Prop := ∀ q, cnt2 C A q = cnt2 C B q
theorem Eqv.refl (C : Pt → Pt) (A : List Pt) : Eqv C A A := fun _ => rfl
theorem Eqv.symm {C : Pt → Pt} {A B : List Pt} (h : Eqv C A B) : Eqv C B A := fun q => (h q).symm
theorem Eqv.trans {C : Pt → Pt} {A B D : List Pt} (h : Eqv C A B) (h' : Eqv C B D) : Eqv C A D := fun q => (h q).trans (h' q)
theorem parL_nil (g : Pt → Bool) : parL g [] = false := rfl
theorem parL_append (g : Pt → Bool) (B : List Pt) : ∀ A : List Pt, parL g (A ++ B) = Bool.xor (parL g A) (parL g B)
  | [] => by rw [List.nil_append, parL_nil, Bool.false_xor]
  | a :: A => by rw [List.cons_append, parL_cons, parL_cons, parL_append g B A, Bool.xor_assoc]
theorem parL_map (g : Pt → Bool) (F : Pt → Pt) : ∀ A : List Pt, parL g (A.map F) = parL (fun a => g (F a)) A
  | [] => rfl
  | a :: A => by rw [List.map_cons, parL_cons, parL_cons, parL_map g F A]
theorem parL_zero : ∀ A : List Pt, parL (fun _ => false) A = false
  | [] => rfl
  | a :: A => by rw [parL_cons, parL_zero A]; rfl
theorem parL_xor (g h : Pt → Bool) : ∀ A : List Pt, parL (fun a => Bool.xor (g a) (h a)) A = Bool.xor (parL g A) (parL h A)
  | [] => rfl
  | a :: A => by
    rw [parL_cons, parL_cons, parL_cons, parL_xor g h A]
    cases g a <;> cases h a <;> cases parL g A <;> cases parL h A <;> rfl
theorem parL_swap (g : Pt → Pt → Bool) (B : List Pt) : ∀ A : List Pt, parL (fun a => parL (g a) B) A = parL (fun b => parL (fun a => g a b) A) B
  | [] => (parL_zero B).symm
  | a :: A => by
    rw [parL_cons, parL_swap g B A, ← parL_xor]
    rfl
theorem parL_flat (g : Pt → Bool) (F : Pt → List Pt) : ∀ A : List Pt, parL g (A.flatMap F) = parL (fun a => parL g (F a)) A
  | [] => rfl
  | a :: A => by rw [List.flatMap_cons, parL_append, parL_cons, parL_flat g F A]
theorem parL_perm (g : Pt → Bool) {A B : List Pt} (h : A.Perm B) : parL g A = parL g B := by
  induction h with
  | nil => rfl
  | cons a _ ih => rw [parL_cons, parL_cons, ih]
  | swap a b l => rw [parL_cons, parL_cons, parL_cons, parL_cons, Bool.xor_left_comm]
  | trans _ _ h1 h2 => rw [h1, h2]
theorem parL_even : ∀ (n : Nat) (L : List Pt), L.length ≤ n → (∀ q, parL (fun a => decide (a = q)) L = false) → ∀ g, parL g L = false
  | _, [], _, _, _ => rfl
  | 0, a :: L, h, _, _ => by simp at h
  | n + 1, a :: L, h, hq, g => by
    have h1 := hq a
    rw [parL_cons, decide_eq_true rfl, Bool.true_xor] at h1
    have hm : a ∈ L := by
      by_cases hm : a ∈ L
      · exact hm
      · have : parL (fun b => decide (b = a)) L = false := parL_no (fun b hb => decide_eq_false (fun e => hm (e ▸ hb)))
        rw [this] at h1
        cases h1
    have hp : L.Perm (a :: L.erase a) := List.perm_cons_erase hm
    have hl : (L.erase a).length ≤ n := by rw [List.length_erase_of_mem hm]; simp at h; omega
    have hall : ∀ f, parL f (a :: L) = parL f (L.erase a) := fun f => by
      rw [parL_cons, parL_perm f hp, parL_cons, ← Bool.xor_assoc, Bool.xor_self, Bool.false_xor]
    rw [hall]
    exact parL_even n _ hl (fun q => by rw [← hall]; exact hq q) g
theorem Eqv.push {C : Pt → Pt} {A B : List Pt} (h : Eqv C A B) (g : Pt → Bool) : parL (fun a => g (C a)) A = parL (fun a => g (C a)) B := by
  have hz : parL g (A.map C ++ B.map C) = false := parL_even _ _ (Nat.le_refl _) (fun q => by
    rw [parL_append, parL_map, parL_map]
    have := h q
    unfold cnt2 at this
    rw [this, Bool.xor_self]) g
  rw [parL_append, parL_map, parL_map] at hz
  cases ha : parL (fun a => g (C a)) A <;> cases hb : parL (fun a => g (C a)) B <;> rw [ha, hb] at hz <;> first | rfl | cases hz
/-- Two sums one behind the other. -/
def mulL (A B : List Pt) : List Pt := A.flatMap (fun a => B.map (padd a))
theorem parL_mul (g : Pt → Bool) (A B : List Pt) : parL g (mulL A B) = parL (fun a => parL (fun b => g (padd a b)) B) A := by
  unfold mulL
  rw [parL_flat]
  exact congrArg (fun F => parL F A) (funext fun a => parL_map g (padd a) B)
theorem padd_comm (p q : Pt) : padd p q = padd q p := by unfold padd; rw [Int.add_comm p.1, Int.add_comm p.2]
theorem padd_assoc (p q r : Pt) : padd (padd p q) r = padd p (padd q r) := by unfold padd; simp only; rw [Int.add_assoc, Int.add_assoc]
theorem padd_zero (p : Pt) : padd (0, 0) p = p := by unfold padd; simp
/-- Cells of a group. -/
def Gc (C : Pt → Pt) : Prop := ∀ p q, C (padd (C p) q) = C (padd p q)
theorem mulL_comm (C : Pt → Pt) (A B : List Pt) : Eqv C (mulL A B) (mulL B A) := fun q => by
  unfold cnt2
  rw [parL_mul, parL_mul, parL_swap]
  exact congrArg (fun F => parL F B) (funext fun b => congrArg (fun F => parL F A) (funext fun a => by rw [padd_comm]))
theorem mulL_left {C : Pt → Pt} (hC : Gc C) {A A' : List Pt} (h : Eqv C A A') (B : List Pt) : Eqv C (mulL A B) (mulL A' B) := fun q => by
  have hp := h.push (fun c => parL (fun b => decide (C (padd c b) = q)) B)
  unfold cnt2
  rw [parL_mul, parL_mul]
  have e : (fun a => parL (fun b => decide (C (padd (C a) b) = q)) B) = fun a => parL (fun b => decide (C (padd a b) = q)) B := funext fun a => congrArg (fun F => parL F B) (funext fun b => by rw [hC])
  rw [e] at hp
  exact hp
theorem mulL_right {C : Pt → Pt} (hC : Gc C) (A : List Pt) {B B' : List Pt} (h : Eqv C B B') : Eqv C (mulL A B) (mulL A B') :=
  ((mulL_comm C A B).trans (mulL_left hC h A)).trans (mulL_comm C B' A)
theorem mul_both {C : Pt → Pt} (hC : Gc C) {A A' B B' : List Pt} (h : Eqv C A A') (h' : Eqv C B B') : Eqv C (mulL A B) (mulL A' B') := (mulL_left hC h B).trans (mulL_right hC A' h')
theorem mulL_assoc (C : Pt → Pt) (A B D : List Pt) : Eqv C (mulL (mulL A B) D) (mulL A (mulL B D)) := fun q => by
  unfold cnt2
  rw [parL_mul, parL_mul, parL_mul]
  exact congrArg (fun F => parL F A) (funext fun a => by
    rw [parL_mul]
    exact congrArg (fun F => parL F B) (funext fun b => congrArg (fun F => parL F D) (funext fun d => by rw [padd_assoc])))
theorem mulL_one (C : Pt → Pt) (A : List Pt) : Eqv C (mulL [(0, 0)] A) A := fun q => by
  unfold cnt2
  rw [parL_mul, parL_cons, parL_nil, Bool.xor_false]
  exact congrArg (fun F => parL F A) (funext fun b => by rw [padd_zero])
theorem one_mul' (C : Pt → Pt) (A : List Pt) : Eqv C (mulL A [(0, 0)]) A := (mulL_comm C _ _).trans (mulL_one C A)
theorem mulL_add (C : Pt → Pt) (A B D : List Pt) : ∀ q, cnt2 C (mulL A (B ++ D)) q = Bool.xor (cnt2 C (mulL A B) q) (cnt2 C (mulL A D) q) := fun q => by
  unfold cnt2
  rw [parL_mul, parL_mul, parL_mul, ← parL_xor]
  exact congrArg (fun F => parL F A) (funext fun a => parL_append _ _ _)
theorem cnt2_append (C : Pt → Pt) (A B : List Pt) (q : Pt) : cnt2 C (A ++ B) q = Bool.xor (cnt2 C A q) (cnt2 C B q) := parL_append _ _ _
theorem par_sq (g : Pt → Bool) : ∀ A : List Pt, parL g (mulL A A) = parL (fun a => g (tmsP 2 a)) A
  | [] => rfl
  | a :: A => by
    have ih := par_sq g A
    rw [parL_mul] at ih ⊢
    rw [parL_cons, parL_cons, parL_cons]
    have e : (fun c => parL (fun b => g (padd c b)) (a :: A)) = fun c => Bool.xor (g (padd a c)) (parL (fun b => g (padd c b)) A) := funext fun c => by rw [parL_cons, padd_comm]
    rw [e, parL_xor, ih]
    have e2 : padd a a = tmsP 2 a := by unfold padd tmsP; rw [Int.two_mul, Int.two_mul]
    rw [e2]
    cases g (tmsP 2 a) <;> cases parL (fun b => g (padd a b)) A <;> cases parL (fun a => g (tmsP 2 a)) A <;> rfl
theorem sq_dbl (C : Pt → Pt) (A : List Pt) : Eqv C (mulL A A) (A.map (tmsP 2)) := fun q => by
  unfold cnt2
  rw [par_sq, parL_map]
/-- So many times. -/
def pwL (A : List Pt) : Nat → List Pt
  | 0 => [(0, 0)]
  | n + 1 => mulL A (pwL A n)
theorem pw_congr {C : Pt → Pt} (hC : Gc C) {A B : List Pt} (h : Eqv C A B) : ∀ n, Eqv C (pwL A n) (pwL B n)
  | 0 => Eqv.refl _ _
  | n + 1 => mul_both hC h (pw_congr hC h n)
theorem pw_add {C : Pt → Pt} (hC : Gc C) (A : List Pt) (n : Nat) : ∀ m, Eqv C (mulL (pwL A m) (pwL A n)) (pwL A (m + n))
  | 0 => by rw [Nat.zero_add]; exact mulL_one C _
  | m + 1 => by
    rw [show m + 1 + n = m + n + 1 by omega]
    exact (mulL_assoc C _ _ _).trans (mulL_right hC A (pw_add hC A n m))
theorem pw_one (C : Pt → Pt) (A : List Pt) : Eqv C (pwL A 1) A := one_mul' C A
theorem pw_dbl {C : Pt → Pt} (hC : Gc C) (A : List Pt) : ∀ n, Eqv C (pwL (A.map (tmsP 2)) n) (pwL A (2 * n))
  | 0 => Eqv.refl _ _
  | n + 1 => by
    rw [show 2 * (n + 1) = 2 * n + 1 + 1 by omega]
    exact (mul_both hC (sq_dbl C A).symm (pw_dbl hC A n)).trans (mulL_assoc C _ _ _)
theorem tms_map (a b : Int) (A : List Pt) : (A.map (tmsP b)).map (tmsP a) = A.map (tmsP (a * b)) := by
  rw [List.map_map]
  exact List.map_congr_left fun p _ => by unfold tmsP; simp only [Function.comp]; rw [Int.mul_assoc, Int.mul_assoc]
theorem pw_two {C : Pt → Pt} (hC : Gc C) (A : List Pt) : ∀ k : Nat, Eqv C (pwL A (2 ^ k)) (A.map (tmsP ((2 ^ k : Nat) : Int)))
  | 0 => by
    have e : A.map (tmsP ((2 ^ 0 : Nat) : Int)) = A := by
      conv => rhs; rw [← List.map_id A]
      exact List.map_congr_left fun p _ => by unfold tmsP; simp
    rw [e]
    exact pw_one C A
  | k + 1 => by
    have h1 := (pw_dbl hC A (2 ^ k)).symm
    have h2 := pw_two hC (A.map (tmsP 2)) k
    rw [tms_map] at h2
    rw [show 2 ^ (k + 1) = 2 * 2 ^ k by rw [Nat.pow_succ, Nat.mul_comm]]
    have e : (((2 ^ k : Nat) : Int) * 2) = ((2 * 2 ^ k : Nat) : Int) := by rw [Int.natCast_mul, Int.mul_comm]; rfl
    rw [e] at h2
    exact h1.trans h2
/-- All of them one behind the other. -/
def prL : List (List Pt) → List Pt
  | [] => [(0, 0)]
  | A :: L => mulL A (prL L)
theorem prL_perm {C : Pt → Pt} (hC : Gc C) {L M : List (List Pt)} (h : L.Perm M) : Eqv C (prL L) (prL M) := by
  induction h with
  | nil => exact Eqv.refl _ _
  | cons A _ ih => exact mulL_right hC A ih
  | swap A B l => exact ((mulL_assoc C B A (prL l)).symm.trans (mulL_left hC (mulL_comm C B A) _)).trans (mulL_assoc C A B _)
  | trans _ _ h1 h2 => exact h1.trans h2
theorem prL_append {C : Pt → Pt} (hC : Gc C) (M : List (List Pt)) : ∀ L, Eqv C (prL (L ++ M)) (mulL (prL L) (prL M))
  | [] => (mulL_one C _).symm
  | A :: L => (mulL_right hC A (prL_append hC M L)).trans (mulL_assoc C _ _ _).symm
theorem prL_snoc {C : Pt → Pt} (hC : Gc C) (L : List (List Pt)) (A : List Pt) : Eqv C (prL (L ++ [A])) (mulL A (prL L)) :=
  ((prL_append hC [A] L).trans (mulL_comm C _ _)).trans (mulL_left hC (one_mul' C A) _)
theorem cnt2_fix {C : Pt → Pt} {A : List Pt} (hn : A.Nodup) (hA : ∀ p ∈ A, C p = p) (q : Pt) : cnt2 C A q = decide (q ∈ A) := by
  unfold cnt2
  induction A with
  | nil => simp [parL_nil]
  | cons a A ih =>
    obtain ⟨h1, h2⟩ := List.nodup_cons.1 hn
    rw [parL_cons, ih h2 (fun p hp => hA p (List.mem_cons_of_mem _ hp)), hA a List.mem_cons_self]
    by_cases e : a = q
    · subst e
      rw [decide_eq_true rfl, decide_eq_false h1, decide_eq_true List.mem_cons_self]; rfl
    · rw [decide_eq_false e, Bool.false_xor, decide_eq_decide, List.mem_cons]
      exact ⟨Or.inr, fun h => h.resolve_left (fun x => e x.symm)⟩
theorem eqv_perm {C : Pt → Pt} {A B : List Pt} (hA : A.Nodup) (hB : B.Nodup) (fA : ∀ p ∈ A, C p = p) (fB : ∀ p ∈ B, C p = p) (h : Eqv C A B) : A.Perm B := by
  refine (List.perm_ext_iff_of_nodup hA hB).2 (fun q => ?_)
  have := h q
  rw [cnt2_fix hA fA, cnt2_fix hB fB] at this
  exact decide_eq_decide.1 this
theorem eqv_of_perm (C : Pt → Pt) {A B : List Pt} (h : A.Perm B) : Eqv C A B := fun q => parL_perm _ h
/-- What is alike on the plane is alike on each torus, moved by whatever. -/
theorem eqv_plane {A B : List Pt} (h : Eqv id A B) (F : Pt → Pt) (C : Pt → Pt) : Eqv C (A.map F) (B.map F) := fun q => by
  have := h.push (fun a => decide (C (F a) = q))
  unfold cnt2
  rw [parL_map, parL_map]
  exact this
theorem gc_id : Gc id := fun _ _ => rfl
theorem neg_mulL (A B : List Pt) : (mulL A B).map neg = mulL (A.map neg) (B.map neg) := by
  unfold mulL
  rw [List.map_flatMap, List.flatMap_map]
  congr 1
  funext a
  rw [List.map_map, List.map_map]
  exact List.map_congr_left fun b _ => by
    show neg (padd a b) = padd (neg a) (neg b)
    unfold neg padd
    simp only [Prod.mk.injEq]
    constructor <;> omega
/-- The cell of a place, for all places. -/
def celT (x y s : Int) (X Y : Int) (p : Pt) : Pt := (X + (p.1 - X - (p.2 - Y) / y * s) % x, Y + (p.2 - Y) % y)
theorem gc_cel (x y s X Y : Int) (hy : y ≠ 0) : Gc (celT x y s X Y) := fun p q => by
  have e0 := Int.emod_add_mul_ediv (p.2 - Y) y
  have e1 : p.2 + q.2 - Y = (p.2 - Y) % y + q.2 + y * ((p.2 - Y) / y) := by omega
  have e2 : (p.2 + q.2 - Y) % y = ((p.2 - Y) % y + q.2) % y := by rw [e1, Int.add_mul_emod_self_left]
  have e3 : (p.2 + q.2 - Y) / y = ((p.2 - Y) % y + q.2) / y + (p.2 - Y) / y := by rw [e1, Int.add_mul_ediv_left _ _ hy]
  have f0 := Int.emod_add_mul_ediv (p.1 - X - (p.2 - Y) / y * s) x
  unfold celT padd
  simp only [Prod.mk.injEq]
  refine ⟨?_, ?_⟩
  · rw [e3, show Y + (p.2 - Y) % y + q.2 - Y = (p.2 - Y) % y + q.2 by omega, Int.add_mul]
    congr 1
    generalize ((p.2 - Y) % y + q.2) / y * s = B at *
    generalize (p.2 - Y) / y * s = D at *
    rw [show p.1 + q.1 - X - (B + D) = X + (p.1 - X - D) % x + q.1 - X - B + x * ((p.1 - X - D) / x) by omega, Int.add_mul_emod_self_left]
  · rw [e2, show Y + (p.2 - Y) % y + q.2 - Y = (p.2 - Y) % y + q.2 by omega]
theorem cel_fix {x y s X Y : Int} {p : Pt} (h1 : X ≤ p.1 ∧ p.1 < X + x) (h2 : Y ≤ p.2 ∧ p.2 < Y + y) : celT x y s X Y p = p := by
  unfold celT
  rw [Int.ediv_eq_zero_of_lt (by omega) (by omega), Int.zero_mul, Int.sub_zero, Int.emod_eq_of_lt (by omega) (by omega), Int.emod_eq_of_lt (by omega) (by omega)]
  obtain ⟨a, b⟩ := p
  simp only [Prod.mk.injEq]
  constructor <;> omega
theorem cel_in {x y s X Y : Int} (hx : 1 ≤ x) (hy : 1 ≤ y) (p : Pt) : (X ≤ (celT x y s X Y p).1 ∧ (celT x y s X Y p).1 < X + x) ∧ (Y ≤ (celT x y s X Y p).2 ∧ (celT x y s X Y p).2 < Y + y) := by
  have a := Int.emod_nonneg (p.1 - X - (p.2 - Y) / y * s) (show x ≠ 0 by omega)
  have b := Int.emod_lt_of_pos (p.1 - X - (p.2 - Y) / y * s) (show 0 < x by omega)
  have c := Int.emod_nonneg (p.2 - Y) (show y ≠ 0 by omega)
  have d := Int.emod_lt_of_pos (p.2 - Y) (show 0 < y by omega)
  unfold celT
  simp only
  omega
/-- Rows and columns exchanged. -/
theorem gc_swp {C : Pt → Pt} (h : Gc C) : Gc (fun p => swp (C (swp p))) := fun p q => by
  show swp (C (swp (padd (swp (C (swp p))) q))) = swp (C (swp (padd p q)))
  have e1 : swp (padd (swp (C (swp p))) q) = padd (C (swp p)) (swp q) := rfl
  have e2 : swp (padd p q) = padd (swp p) (swp q) := rfl
  rw [e1, e2, h]
theorem eqv_swp {C : Pt → Pt} {A B : List Pt} (h : Eqv C (A.map swp) (B.map swp)) : Eqv (fun p => swp (C (swp p))) A B := fun q => by
  have := h (swp q)
  unfold cnt2 at this ⊢
  rw [parL_map, parL_map] at this
  have e : ∀ a : Pt, decide (swp (C (swp a)) = q) = decide (C (swp a) = swp q) := fun a => by
    rw [decide_eq_decide]
    constructor
    · intro h; rw [← h]; rfl
    · intro h; rw [h]; rfl
  rw [funext e]
  exact this
theorem mul_swp (A B : List Pt) : (mulL A B).map swp = mulL (A.map swp) (B.map swp) := by
  unfold mulL
  rw [List.map_flatMap, List.flatMap_map]
  congr 1
  funext a
  rw [List.map_map, List.map_map]
  rfl
theorem pw_swp (A : List Pt) : ∀ n, (pwL A n).map swp = pwL (A.map swp) n
  | 0 => rfl
  | n + 1 => by
    show (mulL A (pwL A n)).map swp = mulL (A.map swp) (pwL (A.map swp) n)
    rw [mul_swp, pw_swp A n]
theorem map_swp_swp (A : List Pt) : (A.map swp).map swp = A := by
  rw [List.map_map]
  conv => rhs; rw [← List.map_id A]
  rfl
end Ln
end Go.Proofs.YtbmpiddjakdebaaGreat
namespace Go.Proofs.YtbmpiddjakdebaaGreat
open Go.RowKit
set_option linter.unusedVariables false
set_option linter.unusedSimpArgs false
set_option maxRecDepth 100000

namespace Ln
/-- The cells of a torus as it lies. -/
def tC (x y t z : Int) : Pt → Pt := celT x y (if t = 1 then z else 0) (To.fi x) (To.fi y)
theorem cellP_tC {k x y t z : Int} (h : To1 k x y t z) {p : Pt} (h1 : -1099511627776 ≤ p.1 ∧ p.1 ≤ 1099511627776) (h2 : -1099511627776 ≤ p.2 ∧ p.2 ≤ 1099511627776) : cellP k x y t z p = tC x y t z p := by
  rw [cellP_form h h1 h2]
  unfold tC celT
  by_cases e : t = 1
  · rw [if_pos e, if_pos e]
  · rw [if_neg e, if_neg e, Int.mul_zero]
theorem gc_tC (x y t z : Int) (hy : 1 ≤ y) : Gc (tC x y t z) := gc_cel _ _ _ _ _ (by omega)
theorem tC_fix {x y t z : Int} {p : Pt} (h1 : To.fi x ≤ p.1 ∧ p.1 < To.fi x + x) (h2 : To.fi y ≤ p.2 ∧ p.2 < To.fi y + y) : tC x y t z p = p := cel_fix h1 h2
theorem tC_in {x y t z : Int} (hx : 1 ≤ x) (hy : 1 ≤ y) (p : Pt) : (To.fi x ≤ (tC x y t z p).1 ∧ (tC x y t z p).1 < To.fi x + x) ∧ (To.fi y ≤ (tC x y t z p).2 ∧ (tC x y t z p).2 < To.fi y + y) := cel_in hx hy p
theorem tC_idem {x y t z : Int} (hx : 1 ≤ x) (hy : 1 ≤ y) (p : Pt) : tC x y t z (tC x y t z p) = tC x y t z p := tC_fix (tC_in hx hy p).1 (tC_in hx hy p).2
theorem flF_nodup (F : Nat → Pt) : ∀ n, (flF F n).Nodup
  | 0 => List.nodup_nil
  | n + 1 => nodup_flp (flF_nodup F n) _
theorem flF_dec (F : Nat → Pt) (q : Pt) : ∀ n, decide (q ∈ flF F n) = parL (fun p => decide (q = p)) (psL F n)
  | 0 => rfl
  | n + 1 => by
    show decide (q ∈ flp (flF F n) (F n)) = _
    rw [flp_dec (flF_nodup F n), flF_dec F q n, psL_succ', parL_snoc]
theorem psL_comp (G : Pt → Pt) (f : Nat → Pt) (n : Nat) : psL (fun j => G (f j)) n = (psL f n).map G := by
  unfold psL
  rw [List.map_map]
  rfl
theorem psL_cong {f g : Nat → Pt} {n : Nat} (h : ∀ j, j < n → f j = g j) : psL f n = psL g n := by
  unfold psL
  exact List.map_congr_left fun j hj => h j (List.mem_range.1 hj)
theorem mv_eqv {k x y t z : Int} (h : To1 k x y t z) (tm : Int) (f : Nat → Pt) (n : Nat) (hb : ∀ j, j < n → (-1099511627776 ≤ (tmsP tm (f j)).1 ∧ (tmsP tm (f j)).1 ≤ 1099511627776) ∧ (-1099511627776 ≤ (tmsP tm (f j)).2 ∧ (tmsP tm (f j)).2 ≤ 1099511627776)) : Eqv (tC x y t z) (mvT k x y t z tm f n) ((psL f n).map (tmsP tm)) := fun q => by
  have e1 : cnt2 (tC x y t z) (mvT k x y t z tm f n) q = cnt2 (tC x y t z) (flF (fun j => cellP k x y t z (tmsP tm (f j))) n) q := parL_perm _ (srt_perm _)
  have hfix : ∀ p ∈ flF (fun j => cellP k x y t z (tmsP tm (f j))) n, tC x y t z p = p := fun p hp => by
    obtain ⟨i, hi, e⟩ := flF_mem _ p n hp
    rw [e, cellP_tC h (hb i hi).1 (hb i hi).2]
    exact tC_idem h.hx h.hy _
  have e2 : psL (fun j => cellP k x y t z (tmsP tm (f j))) n = (psL f n).map (fun p => tC x y t z (tmsP tm p)) := by
    rw [← psL_comp]
    exact psL_cong fun j hj => cellP_tC h (hb j hj).1 (hb j hj).2
  rw [e1, cnt2_fix (flF_nodup _ n) hfix, flF_dec, e2, parL_map]
  unfold cnt2
  rw [parL_map]
  exact parL_congr fun p _ => by rw [decide_eq_decide]; exact eq_comm
theorem cell_small {k x y t z : Int} (h : To1 k x y t z) (hb : x ≤ 65536 ∧ y ≤ 65536) (p : Pt) : (-65536 ≤ (cellP k x y t z p).1 ∧ (cellP k x y t z p).1 ≤ 65536) ∧ (-65536 ≤ (cellP k x y t z p).2 ∧ (cellP k x y t z p).2 ≤ 65536) := by
  have := cellP_in (t := t) (z := z) h.kd h.hx h.hy p
  have ex : To.fi x = -(x / 2) := rfl
  have ey : To.fi y = -(y / 2) := rfl
  have := h.hx
  have := h.hy
  omega
theorem nx_eqv {k x y t z : Int} (h : To1 k x y t z) (hb : x ≤ 65536 ∧ y ≤ 65536) {ms : List Pt} (hm : ∀ p ∈ ms, ∃ q, p = cellP k x y t z q) : Eqv (tC x y t z) (nxT k x y t z ms) (ms.map (tmsP 2)) := by
  have := mv_eqv h 2 (fun j => ms.getD j (0, 0)) ms.length (fun j hj => by
    obtain ⟨q, hq⟩ := hm _ (getD_mem ms j hj)
    have := cell_small h hb q
    rw [← hq] at this
    unfold tmsP
    simp only
    omega)
  rw [psL_self] at this
  exact this
theorem lp_eqv {k x y t z : Int} (h : To1 k x y t z) (hb : x ≤ 65536 ∧ y ≤ 65536) : ∀ (n : Nat) (ms : List Pt), (∀ p ∈ ms, ∃ q, p = cellP k x y t z q) → Eqv (tC x y t z) (prL (lpL k x y t z ms n)) (pwL ms n) := by
  have hC := gc_tC x y t z h.hy
  intro n
  induction n using Nat.strongRecOn with
  | _ n ih =>
    intro ms hm
    by_cases hn : n = 0
    · subst hn
      rw [lpL_zero]
      exact Eqv.refl _ _
    · rw [lpL_pos k x y t z ms hn]
      have h1 := ih (n / 2) (by omega) (nxT k x y t z ms) (fun p hp => mvT_mem hp)
      have h2 := (h1.trans (pw_congr hC (nx_eqv h hb hm) (n / 2))).trans (pw_dbl hC ms (n / 2))
      by_cases ho : n % 2 = 1
      · rw [if_pos ho]
        show Eqv _ (mulL ms (prL (lpL k x y t z (nxT k x y t z ms) (n / 2)))) _
        have e : n = 2 * (n / 2) + 1 := by omega
        conv => rhs; rw [e]
        exact mulL_right hC ms h2
      · rw [if_neg ho, List.nil_append]
        have e : 2 * (n / 2) = n := by omega
        rw [e] at h2
        exact h2
theorem hits_par (C : Pt → Pt) (f : Nat → Pt) (cs : List Pt) (q : Pt) : ∀ n, hits C f cs q n = parL (fun m => parL (fun c => decide (q = C (padd c m))) cs) (psL f n)
  | 0 => rfl
  | n + 1 => by
    show Bool.xor (hits C f cs q n) _ = _
    rw [hits_par C f cs q n, psL_succ', parL_snoc]
theorem leap_eqv {k x y t z : Int} (h : To1 k x y t z) (hb : x ≤ 65536 ∧ y ≤ 65536) {ms cs nx : List Pt} (hcs : InT x y (To.fi x) (To.fi y) cs) (hms : ∀ p ∈ ms, ∃ q, p = cellP k x y t z q) (hl : leapR k x y t z (To.fi x) ms cs nx) : nx.Nodup ∧ InT x y (To.fi x) (To.fi y) nx ∧ Eqv (tC x y t z) nx (mulL ms cs) := by
  have hsm : ∀ p ∈ ms, (-65536 ≤ p.1 ∧ p.1 ≤ 65536) ∧ (-65536 ≤ p.2 ∧ p.2 ≤ 65536) := fun p hp => by
    obtain ⟨q, rfl⟩ := hms p hp
    exact cell_small h hb q
  obtain ⟨h1, h2⟩ := leap_par h hb hcs hsm hl
  have h3 := (leapR_in h.hx (fun p => (cellP_in h.kd h.hx h.hy p).2) hl).1
  refine ⟨h1, h3, fun q => ?_⟩
  rw [cnt2_fix h1 (fun p hp => tC_fix (h3 p hp).1 (h3 p hp).2), h2 q, hits_par, psL_self]
  unfold cnt2
  rw [parL_mul]
  refine parL_congr fun m hm => parL_congr fun c hc => ?_
  have b1 := hsm m hm
  have b2 := hcs c hc
  have ex : To.fi x = -(x / 2) := rfl
  have ey : To.fi y = -(y / 2) := rfl
  have := h.hx
  have := h.hy
  rw [cellP_tC h (by unfold padd; simp only; omega) (by unfold padd; simp only; omega), padd_comm, decide_eq_decide]
  exact eq_comm
theorem run_eqv {k x y t z : Int} (h : To1 k x y t z) (hb : x ≤ 65536 ∧ y ≤ 65536) {L : List (List Pt)} {cs : List Pt} (hL : ∀ l ∈ L, ∀ p ∈ l, ∃ q, p = cellP k x y t z q) (hn : cs.Nodup) (hcs : InT x y (To.fi x) (To.fi y) cs) : ∀ (i : Nat) (nx : List Pt), i ≤ L.length → runI k x y t z (To.fi x) (fun i => L.getD i []) i cs nx → nx.Nodup ∧ InT x y (To.fi x) (To.fi y) nx ∧ Eqv (tC x y t z) nx (mulL (prL (L.take i)) cs)
  | 0, nx, _, hr => by
    obtain rfl : cs = nx := hr
    exact ⟨hn, hcs, (mulL_one _ _).symm⟩
  | i + 1, nx, hi, hr => by
    have hC := gc_tC x y t z h.hy
    obtain ⟨c, hr1, hr2⟩ := hr
    obtain ⟨a1, a2, a3⟩ := run_eqv h hb hL hn hcs i c (by omega) hr1
    have hi' : i < L.length := by omega
    have hg : L.getD i [] = L[i] := by rw [List.getD_eq_getElem?_getD, List.getElem?_eq_getElem hi']; rfl
    have ht : L.take (i + 1) = L.take i ++ [L[i]] := by rw [List.take_add_one, List.getElem?_eq_getElem hi']; rfl
    have hr2' : leapR k x y t z (To.fi x) L[i] c nx := by rw [← hg]; exact hr2
    obtain ⟨b1, b2, b3⟩ := leap_eqv h hb a2 (hL _ (List.getElem_mem hi')) hr2'
    refine ⟨b1, b2, ?_⟩
    rw [ht]
    exact ((b3.trans (mulL_right hC _ a3)).trans (mulL_assoc _ _ _ _).symm).trans (mulL_left hC (prL_snoc hC (L.take i) L[i]).symm _)
theorem tms_one (A : List Pt) : A.map (tmsP 1) = A := by
  conv => rhs; rw [← List.map_id A]
  exact List.map_congr_left fun p _ => by unfold tmsP; simp
theorem jump_eqv {k x y t z : Int} (h : To1 k x y t z) (hb : x ≤ 65536 ∧ y ≤ 65536) {L : List (List Pt)} {f : Nat → Pt} {n g : Nat} {cs nx : List Pt} (hf : ∀ j, j < n → (-1099511627776 ≤ (f j).1 ∧ (f j).1 ≤ 1099511627776) ∧ (-1099511627776 ≤ (f j).2 ∧ (f j).2 ≤ 1099511627776)) (hL : L.Perm (lpL k x y t z (mvT k x y t z 1 (fun j => neg (f j)) n) g)) (hn : cs.Nodup) (hcs : InT x y (To.fi x) (To.fi y) cs) (hr : runI k x y t z (To.fi x) (fun i => L.getD i []) L.length cs nx) : nx.Nodup ∧ InT x y (To.fi x) (To.fi y) nx ∧ Eqv (tC x y t z) nx (mulL (pwL ((psL f n).map neg) g) cs) := by
  have hC := gc_tC x y t z h.hy
  have hms : ∀ p ∈ mvT k x y t z 1 (fun j => neg (f j)) n, ∃ q, p = cellP k x y t z q := fun p hp => mvT_mem hp
  have hall : ∀ l ∈ L, ∀ p ∈ l, ∃ q, p = cellP k x y t z q := fun l hl => (lpL_facts k x y t z g _ hms l (hL.mem_iff.1 hl)).1
  obtain ⟨a1, a2, a3⟩ := run_eqv h hb hall hn hcs L.length nx (Nat.le_refl _) hr
  refine ⟨a1, a2, a3.trans (mulL_left hC ?_ cs)⟩
  rw [List.take_length]
  have hm := mv_eqv h 1 (fun j => neg (f j)) n (fun j hj => by have := hf j hj; unfold tmsP neg; simp only; omega)
  rw [psL_comp, tms_one] at hm
  exact ((prL_perm hC hL).trans (lp_eqv h hb g _ hms)).trans (pw_congr hC hm g)
/-- The cells of a torus, by the way in which Jump lays it. -/
def CE (x y t z : Int) : Pt → Pt := if t = 2 ∨ (t = 0 ∧ x < y) then fun p => swp (tC y x (To.acT t) z (swp p)) else tC x y t z
theorem gc_CE (x y t z : Int) (hx : 1 ≤ x) (hy : 1 ≤ y) : Gc (CE x y t z) := by
  unfold CE
  split
  · exact gc_swp (gc_tC y x _ z hx)
  · exact gc_tC x y t z hy
theorem CE_fix {x y t z : Int} {p : Pt} (h1 : To.fi x ≤ p.1 ∧ p.1 < To.fi x + x) (h2 : To.fi y ≤ p.2 ∧ p.2 < To.fi y + y) : CE x y t z p = p := by
  unfold CE
  split
  · show swp (tC y x (To.acT t) z (swp p)) = p
    rw [tC_fix (p := swp p) h2 h1]
    rfl
  · exact tC_fix h1 h2
end Ln
end Go.Proofs.YtbmpiddjakdebaaGreat
