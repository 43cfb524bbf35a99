/- The order by rows. -/
import Derived.Test.YtbmpiddjakdebaaGreatNa
import Derived.Lib.Hide
import Derived.LoopN
import Derived.Deep.RegionHeld2
import Derived.Sort.Grow
import Derived.Shelf.SlSortCmp.WholeK
import Derived.Shelf.SlGeneric
import Derived.Shelf.Lay
import Derived.Ground.SlsfProg
import Derived.Sort.LotA
import Derived.Laws.AppendOwn
import Derived.OwnWalk
import Derived.Deep.AppendLies
namespace Go.Proofs.YtbmpiddjakdebaaGreat
open Go.RowKit
set_option linter.unusedVariables false
set_option linter.unusedSimpArgs false
set_option maxRecDepth 100000

namespace Ln
def cmpI (x y : Int) : Int := if x < y then -1 else if y < x then 1 else 0
theorem isNaNC (x : Int) (w : World) : Calls Tryz.prog 76 #[.int .i64 x] w fun e w' => e = .returned (.bool false) ∧ w' = w := by
  have h : (x != x) = false := by simp
  go_enter Tryz.func76, Tryz.ntmps76
  go_wp2
  go_ret
  exact ⟨rfl, rfl⟩
theorem compareC (x y : Int) (w : World) : Calls Tryz.prog 59 #[.int .i64 x, .int .i64 y] w fun e w' => e = .returned (.int .i64 (cmpI x y)) ∧ w' = w := by
  have h1 := isNaNC x w
  have h2 := isNaNC y w
  unfold cmpI
  by_cases h : x < y
  · rw [if_pos h]
    go_enter Tryz.func59, Tryz.ntmps59
    go_wp2_with (first | (go_at_call 76; (fail_if_success (guard_hyp m1)); refine h1.mono ?_; rintro e w' ⟨rfl, rfl⟩; have m1 : True := trivial) | (go_at_call 76; refine h2.mono ?_; rintro e w' ⟨rfl, rfl⟩))
    go_ret
    exact ⟨rfl, rfl⟩
  · rw [if_neg h]
    by_cases h' : y < x
    · rw [if_pos h']
      go_enter Tryz.func59, Tryz.ntmps59
      go_wp2_with (first | (go_at_call 76; (fail_if_success (guard_hyp m1)); refine h1.mono ?_; rintro e w' ⟨rfl, rfl⟩; have m1 : True := trivial) | (go_at_call 76; refine h2.mono ?_; rintro e w' ⟨rfl, rfl⟩))
      go_ret
      exact ⟨rfl, rfl⟩
    · rw [if_neg h']
      go_enter Tryz.func59, Tryz.ntmps59
      go_wp2_with (first | (go_at_call 76; (fail_if_success (guard_hyp m1)); refine h1.mono ?_; rintro e w' ⟨rfl, rfl⟩; have m1 : True := trivial) | (go_at_call 76; refine h2.mono ?_; rintro e w' ⟨rfl, rfl⟩))
      go_ret
      exact ⟨rfl, rfl⟩
theorem orC (q : Nat) (u v : Int) (w : World) (c0 : w.cell? ⟨q, 0, none⟩ = some (.int .i64 u)) (c1 : w.cell? ⟨q, 1, none⟩ = some (.int .i64 v)) : Calls Tryz.prog 64 #[.slice (some ⟨q, 0, none⟩) 2 2] w fun e w' => e = .returned (.int .i64 (if u = 0 then v else u)) ∧ w' = w := by
  by_cases h : u = 0
  · subst h
    rw [if_pos rfl]
    by_cases h2 : v = 0
    · subst h2
      go_enter Tryz.func64, Tryz.ntmps64
      go_wp2
      refine wp_loop_rounds 3 ?_
      rw [rounds_succ]
      go_wp2
      rw [rounds_succ]
      go_wp2
      rw [rounds_succ]
      go_wp2
      go_ret
      exact ⟨rfl, rfl⟩
    · have hv : (v != 0) = true := by simp [h2]
      go_enter Tryz.func64, Tryz.ntmps64
      go_wp2
      refine wp_loop_rounds 3 ?_
      rw [rounds_succ]
      go_wp2
      rw [rounds_succ]
      go_wp2
      go_ret
      exact ⟨rfl, rfl⟩
  · rw [if_neg h]
    have hu : (u != 0) = true := by simp [h]
    go_enter Tryz.func64, Tryz.ntmps64
    go_wp2
    refine wp_loop_rounds 3 ?_
    rw [rounds_succ]
    go_wp2
    go_ret
    exact ⟨rfl, rfl⟩
/-- By rows, of one row from the left. -/
def cmpP (p q : Pt) : Int := if cmpI p.2 q.2 = 0 then cmpI p.1 q.1 else cmpI p.2 q.2

/-- More blocks, and draws. -/
def Gw (W w' : World) : Prop := ∃ q os, w' = Go.Sort.grow (W.drewN q) os
theorem Gw.refl (W : World) : Gw W W := ⟨0, #[], by simp [Go.Sort.grow, World.drewN]⟩
theorem Gw.alloc {W w' : World} (h : Gw W w') (o : Obj) : Gw W (w'.alloc o) := by
  obtain ⟨q, os, rfl⟩ := h
  exact ⟨q, os ++ #[o], by rw [Go.Sort.alloc_eq_grow, Go.Sort.grow_grow]⟩
theorem Gw.drew {W w' : World} (h : Gw W w') : Gw W w'.drew := by
  obtain ⟨q, os, rfl⟩ := h
  exact ⟨q + 1, os, by simp [Go.Sort.grow, World.drewN, World.drew]; omega⟩
set_option maxHeartbeats 1000000 in
theorem closP (p q : Pt) (W : World) : Calls Tryz.prog 63 #[.agg #[.int .i64 p.1, .int .i64 p.2], .agg #[.int .i64 q.1, .int .i64 q.2]] W fun e w' => e = .returned (.int .i64 (cmpP p q)) ∧ Gw W w' := by
  obtain ⟨W1, hW1, sz1, g1, B1⟩ := boxn W #[.int .i64 p.1, .int .i64 p.2] 40
  obtain ⟨W2, hW2, sz2, g2, B2⟩ := boxn W1 #[.int .i64 q.1, .int .i64 q.2] 40
  have B12 := B1.kept g2 (by simp)
  have h1 := fun w => compareC p.2 q.2 w
  have h2 := fun w => compareC p.1 q.1 w
  unfold cmpP
  obtain ⟨u, hu⟩ : ∃ u, cmpI p.2 q.2 = u := ⟨_, rfl⟩
  obtain ⟨v, hv⟩ : ∃ v, cmpI p.1 q.1 = v := ⟨_, rfl⟩
  rw [hu] at h1 ⊢
  rw [hv] at h2 ⊢
  clear hu hv
  obtain ⟨W5, hW5, sz5, g5, B5⟩ := boxn W2.drew #[.int .i64 u, .int .i64 v] 3
  have GF : Hid (Gw W W5) := by rw [← hW5, ← hW2, ← hW1]; exact ((((Gw.refl W).alloc _).alloc _).drew).alloc _
  have hor := orC W2.heap.size u v W5 (B5.cell 0 rfl) (B5.cell 1 rfl)
  have a0 := B12.cell 0 (v := .int .i64 p.1) rfl
  have a1 := B12.cell 1 (v := .int .i64 p.2) rfl
  have a2 := B2.cell 0 (v := .int .i64 q.1) rfl
  have a3 := B2.cell 1 (v := .int .i64 q.2) rfl
  have C1 := B12.dr.kept g5 (by simp)
  have C2 := B2.dr.kept g5 (by simp)
  have b0 := C1.cell 0 (v := .int .i64 p.1) rfl
  have b1 := C1.cell 1 (v := .int .i64 p.2) rfl
  have b2 := C2.cell 0 (v := .int .i64 q.1) rfl
  have b3 := C2.cell 1 (v := .int .i64 q.2) rfl
  obtain ⟨r, hr⟩ : ∃ r, (if u = 0 then v else u) = r := ⟨_, rfl⟩
  rw [hr] at hor ⊢
  clear hr
  go_enter Tryz.func63, Tryz.ntmps63
  go_wp2
  go_region_held2 (fun w' => w'.cell? ⟨W.heap.size, 0, none⟩ = some (.int .i64 p.1) ∧ w'.cell? ⟨W.heap.size, 1, none⟩ = some (.int .i64 p.2) ∧ w'.cell? ⟨W1.heap.size, 0, none⟩ = some (.int .i64 q.1) ∧ w'.cell? ⟨W1.heap.size, 1, none⟩ = some (.int .i64 q.2)) (go_keep) (first | (go_at_call 59; (fail_if_success (guard_hyp m1)); refine (h1 _).mono ?_; rintro e w' ⟨rfl, rfl⟩; have m1 : True := trivial) | (go_at_call 59; refine (h2 _).mono ?_; rintro e w' ⟨rfl, rfl⟩) | (go_at_call 64; refine hor.mono ?_; rintro e w' ⟨rfl, rfl⟩))
  all_goals go_wp2
  all_goals go_ret
  all_goals exact ⟨rfl, GF.out⟩
end Ln
end Go.Proofs.YtbmpiddjakdebaaGreat
namespace Go.Proofs.YtbmpiddjakdebaaGreat
open Go.RowKit Go.Shelf Go.Lib Go.Sort
set_option linter.unusedVariables false
set_option linter.unusedSimpArgs false
set_option maxRecDepth 100000

namespace Ln
shelf_lay_g SlLaysF0.n6 Slsf 6 at Tryz 62 as laysSort
def encP (p : Pt) : List Value := [.int .i64 p.1, .int .i64 p.2]
/-- The cells of points in a row. -/
def fl : List Pt → List Value
  | [] => []
  | p :: ps => .int .i64 p.1 :: .int .i64 p.2 :: fl ps
theorem fl_len : ∀ ps : List Pt, (fl ps).length = ps.length * 2
  | [] => rfl
  | p :: ps => by simp only [fl, List.length_cons, fl_len ps]; omega
theorem fl_app : ∀ ps qs : List Pt, fl (ps ++ qs) = fl ps ++ fl qs
  | [], qs => rfl
  | p :: ps, qs => by simp only [List.cons_append, fl, fl_app ps qs]
theorem fl_get : ∀ (ps : List Pt) (t : Nat), t < ps.length * 2 → (fl ps)[t]? = (encP (ps.getD (t / 2) (0, 0)))[t % 2]?
  | [], t, h => by simp at h
  | p :: ps, 0, h => rfl
  | p :: ps, 1, h => rfl
  | p :: ps, t + 2, h => by
    have h1 : (t + 2) / 2 = t / 2 + 1 := by omega
    have h2 : (t + 2) % 2 = t % 2 := by omega
    rw [h1, h2]
    show (fl ps)[t]? = _
    rw [fl_get ps t (by simp only [List.length_cons] at h; omega)]
    rfl
theorem flat_is (ps : List Pt) : (flatK encP 2 ps.toArray).toList = fl ps := by
  apply List.ext_getElem?
  intro t
  by_cases ht : t < ps.length * 2
  · have h1 := get_flatK encP 2 ps.toArray t (by simpa using ht)
    have hs : t < (flatK encP 2 ps.toArray).size := by simpa using ht
    rw [getElem!_pos _ t hs] at h1
    rw [Array.getElem?_toList, Array.getElem?_eq_getElem hs, h1, fl_get ps t ht]
    have hm : t % 2 < 2 := Nat.mod_lt _ (by decide)
    have hd : t / 2 < ps.length := by omega
    have e : ps.toArray[t / 2]! = ps.getD (t / 2) (0, 0) := by simp [hd, List.getD]
    rw [e]
    obtain ⟨p, hp⟩ : ∃ p, ps.getD (t / 2) (0, 0) = p := ⟨_, rfl⟩
    rw [hp]
    rcases (by omega : t % 2 = 0 ∨ t % 2 = 1) with h | h <;> rw [h] <;> rfl
  · rw [List.getElem?_eq_none (by simp; omega), List.getElem?_eq_none (by rw [fl_len]; omega)]
theorem holdsP {w : World} {g : Nat} {cur : Array Value} {e : TypeId} {ps : List Pt} (hb : w.heap[g]? = some (.cells cur e (0, 0))) (ht : cur.toList.take (ps.length * 2) = fl ps) : HoldsK encP 2 w g 0 ps.toArray := by
  intro j hj
  have hj' : j < ps.length * 2 := by simpa using hj
  refine ⟨?_, by simp [World.frozen?, hb]⟩
  have h1 : (cur.toList.take (ps.length * 2))[j]? = (fl ps)[j]? := by rw [ht]
  rw [List.getElem?_take_of_lt hj', ← flat_is, Array.getElem?_toList, Array.getElem?_toList, Array.getElem?_eq_getElem hj] at h1
  simp only [World.cell?, hb, Nat.zero_add]
  simp only [Option.isSome_none, Bool.false_eq_true, if_false]
  rw [h1, getElem!_pos _ j hj]
  rfl
theorem heapP {w : World} {g n : Nat} {os : Array Obj} {cur : Array Value} {e : TypeId} {fr : Nat × Nat} (F : Array Value) (hb : w.heap[g]? = some (.cells cur e fr)) :
    (grow (putRow id (Sort.ahead w n) g 0 F) os).heap[g]? = some (.cells (putCells id 0 F cur) e fr) := by
  have hg : g < w.heap.size := (Array.getElem?_eq_some_iff.1 hb).1
  rw [heap_grow_old _ _ (by simpa using hg)]
  simp [putRow, mapBlock, Sort.ahead, Array.getElem?_modify, hb, onCells]
theorem grownP {w : World} {g n : Nat} {os : Array Obj} (F : Array Value) : w.grownBy (grow (putRow id (Sort.ahead w n) g 0 F) os) (some g) := by
  refine ⟨rfl, rfl, rfl, by simp, fun k hk hne => ?_⟩
  rw [heap_grow_old _ _ (by simpa using hk)]
  have : g ≠ k := fun e => hne (by rw [e])
  simp [putRow, mapBlock, Sort.ahead, Array.getElem?_modify, this]
theorem takeP (cur F : Array Value) (h : F.size ≤ cur.size) : (putCells id 0 F cur).toList.take F.size = F.toList := by
  apply List.ext_getElem?
  intro j
  by_cases hj : j < F.size
  · rw [List.getElem?_take_of_lt hj, Array.getElem?_toList]
    simp [putCells, hj, show j < cur.size by omega]
  · rw [List.getElem?_take_eq_none (by omega), List.getElem?_eq_none (by simp; omega)]
theorem ltP_is (x y : Pt) : ltOf cmpP x y = decide (x.2 < y.2 ∨ (x.2 = y.2 ∧ x.1 < y.1)) := by
  obtain ⟨a, b⟩ := x
  obtain ⟨c, d⟩ := y
  unfold ltOf cmpP cmpI
  simp only
  by_cases h1 : b < d
  · simp [h1]
  · by_cases h2 : d < b
    · have : ¬ b = d := by omega
      simp [h1, h2, this]
    · have : b = d := by omega
      subst this
      by_cases h3 : a < c
      · simp [h3]
      · by_cases h4 : c < a <;> simp [h3, h4]
theorem swoP : SWO (ltOf cmpP) where
  irrefl x := by rw [ltP_is]; simp
  trans x y z h1 h2 := by rw [ltP_is] at *; simp at *; omega
  ntrans x y z h1 h2 := by rw [ltP_is] at *; simp at *; omega
/-- The points by rows, of one row from the left. -/
def srt (ps : List Pt) : List Pt := ps.mergeSort (fun x y => !ltOf cmpP y x)
theorem srt_len (ps : List Pt) : (srt ps).length = ps.length := by unfold srt; simp
theorem srt_perm (ps : List Pt) : (srt ps).Perm ps := List.mergeSort_perm _ _
theorem srt_of {ps : List Pt} {d' : Array Pt} (hp : PermIn 0 ps.toArray.size ps.toArray d') (hs : SortedIn (ltOf cmpP) 0 ps.toArray.size d') : d' = (srt ps).toArray := by
  have h := sorted_unique_holds (lt := ltOf cmpP) swoP (fun x y h1 h2 => by
    rw [ltP_is] at h1 h2
    simp only [decide_eq_false_iff_not] at h1 h2
    obtain ⟨a, b⟩ := x
    obtain ⟨c, d⟩ := y
    simp only at h1 h2
    have e1 : b = d := by omega
    have e2 : a = c := by omega
    rw [e1, e2]) ps.toArray d' hp hs
  apply Array.toList_inj.1
  rw [h]
  rfl
theorem cmpLaysP (blk off size : Nat) (w : World) : CmpLays Tryz.prog 63 #[] encP 2 cmpP blk off size w := fun _ _ _ _ x y => closP x y _

set_option maxHeartbeats 1000000 in
theorem sortRowsC (w : World) (base g cap : Nat) (ps : List Pt) (h : w.ownsRow base 40 2 (.slice (some ⟨g, 0, none⟩) ps.length cap) ps.length (fl ps)) (hl : ps.length < 1000000000) :
    Calls Tryz.prog 32 #[.slice (some ⟨g, 0, none⟩) ps.length cap] w fun e w' => e = .returned (.tuple #[]) ∧ w'.ownsRow base 40 2 (.slice (some ⟨g, 0, none⟩) ps.length cap) ps.length (fl (srt ps)) ∧ w.grownBy w' (some g) := by
  obtain ⟨hx, hh⟩ := h
  rcases hh with ⟨h0, _⟩ | ⟨g', cap', cur, hv, hbase, hb, h1, h2, h3, h4⟩
  · cases h0
  cases hv
  have hH : HoldsK encP 2 w g 0 ps.toArray := holdsP hb (by simpa using h4)
  have eg : ∀ args w, (callFunc 63 args).run Tryz.prog w = .ok (.enter 63 args) w := enters_of Tryz.func63 (by kernel_rfl) rfl
  have hcon := AnyQ.slices_SortFunc laysSort 2 (fun _ => rfl) (fun _ => rfl) encP (fun _ => rfl) (fun x v hv => by simp [encP] at hv; rcases hv with rfl | rfl <;> rfl) cmpP swoP 63 #[] g 0 cap ps.toArray w eg (cmpLaysP g 0 _ w) hH (Array.getElem?_eq_some_iff.1 hb).1 (by simp; omega)
  change Calls Tryz.prog 62 _ _ _ at hcon
  have ez : ps.toArray.size = ps.length := by simp
  rw [ez] at hcon
  have key : ∀ w', (∃ d' n os, PermIn 0 ps.length ps.toArray d' ∧ SortedIn (ltOf cmpP) 0 ps.length d' ∧ w' = sortWorldK encP 2 w g 0 n d' os) → w'.ownsRow base 40 2 (.slice (some ⟨g, 0, none⟩) ps.length cap) ps.length (fl (srt ps)) ∧ w.grownBy w' (some g) := by
    rintro w' ⟨d', n, os, hp, hs, rfl⟩
    have hd := srt_of (by rw [ez]; exact hp) (by rw [ez]; exact hs)
    subst hd
    unfold sortWorldK putRowK
    have hz : (flatK encP 2 (srt ps).toArray).size = ps.length * 2 := by simp [srt_len]
    refine ⟨⟨by rw [fl_len, srt_len], .inr ⟨g, cap, _, rfl, hbase, heapP _ hb, h1, h2, by simp [putCells, h3], ?_⟩⟩, grownP _⟩
    rw [← hz, takeP cur _ (by rw [hz, h3]; exact Nat.mul_le_mul_right 2 h1), flat_is]
  have hcon2 : Calls Tryz.prog 62 _ w fun e w' => e = .returned (.tuple #[]) ∧ (w'.ownsRow base 40 2 (.slice (some ⟨g, 0, none⟩) ps.length cap) ps.length (fl (srt ps)) ∧ w.grownBy w' (some g)) := hcon.mono (fun e w' hh => ⟨hh.1, key w' hh.2⟩)
  clear hcon key hH h4 hx eg
  generalize fl (srt ps) = R at hcon2 ⊢
  go_enter Tryz.func32, Tryz.ntmps32
  go_wp2_with (go_at_call 62; refine hcon2.mono ?_; rintro e w' ⟨rfl, hA⟩)
  go_end0
  exact ⟨rfl, hA⟩
theorem sortRowsK (w : World) (base g cap n : Nat) (ps : List Pt) (hn : ps.length = n) (h : w.ownsRow base 40 2 (.slice (some ⟨g, 0, none⟩) n cap) n (fl ps)) (hl : n < 1000000000) :
    Calls Tryz.prog 32 #[.slice (some ⟨g, 0, none⟩) n cap] w fun e w' => e = .returned (.tuple #[]) ∧ w'.ownsRow base 40 2 (.slice (some ⟨g, 0, none⟩) n cap) n (fl (srt ps)) ∧ w.grownBy w' (some g) := by
  subst hn
  exact sortRowsC w base g cap ps h hl
end Ln
end Go.Proofs.YtbmpiddjakdebaaGreat
namespace Go.Proofs.YtbmpiddjakdebaaGreat
open Go.RowKit Go.Shelf Go.Lib Go.Sort
set_option linter.unusedVariables false
set_option linter.unusedSimpArgs false
set_option maxRecDepth 100000

namespace Ln
theorem ltP_anti (x y : Pt) (h1 : ltOf cmpP x y = false) (h2 : ltOf cmpP y x = false) : x = y := by
  rw [ltP_is] at h1 h2
  simp only [decide_eq_false_iff_not] at h1 h2
  obtain ⟨a, b⟩ := x
  obtain ⟨c, d⟩ := y
  simp only at h1 h2
  have e1 : b = d := by omega
  have e2 : a = c := by omega
  rw [e1, e2]
theorem srt_pair (ps : List Pt) : (srt ps).Pairwise (fun x y => (!ltOf cmpP y x) = true) := by
  refine List.pairwise_mergeSort ?_ ?_ _
  · intro a b c h1 h2
    simp only [Bool.not_eq_true'] at h1 h2 ⊢
    exact swoP.ntrans c b a h2 h1
  · intro a b
    cases h : ltOf cmpP b a with
    | false => simp
    | true => simp [swoP.asymmA h]
theorem srt_only {ps qs : List Pt} (h : qs.Perm ps) (hq : qs.Pairwise (fun x y => (!ltOf cmpP y x) = true)) : qs = srt ps := by
  refine List.Perm.eq_of_pairwise (le := fun x y => (!ltOf cmpP y x) = true) ?_ hq (srt_pair ps) (h.trans (srt_perm ps).symm)
  intro a b _ _ h1 h2
  simp only [Bool.not_eq_true'] at h1 h2
  exact ltP_anti a b h2 h1
theorem srt_congr {ps qs : List Pt} (h : ps.Perm qs) : srt ps = srt qs := srt_only ((srt_perm ps).trans h) (srt_pair ps)
theorem underPS : Tryz.prog.underlying 24 = some (.slice 40) := by kernel_rfl
theorem infoK : (Tryz.prog.info? 40).map (fun i => (i.zero, i.size, i.bytes)) = some (some (.agg #[.int .i64 0, .int .i64 0]), 2, 16) := by kernel_rfl

set_option maxHeartbeats 2000000 in
theorem listC (b : Nat) (S : List Pt) (hSl : S.length < 1000000000) (w : World) (F : Sm w b S) :
    Calls Tryz.prog 41 #[.map (some b)] w fun e w' => ∃ g cap, e = .returned (.slice (some ⟨g, 0, none⟩) S.length cap) ∧ w'.ownsRow w.heap.size 40 2 (.slice (some ⟨g, 0, none⟩) S.length cap) S.length (fl (srt S)) ∧ w.grownBy w' none := by
  obtain ⟨D, F1, F2, F3, F4, F5, F6⟩ := F
  obtain ⟨i, HI⟩ : ∃ i, Hid (Tryz.prog.info? 40 = some i ∧ i.zero = some (.agg #[.int .i64 0, .int .i64 0]) ∧ i.size = 2 ∧ i.bytes = 16) := by
    obtain ⟨i, h1, h2, h3, h4⟩ := info_parts infoK
    exact ⟨i, h1, h2, h3, h4⟩
  have hb := F1.lt
  obtain ⟨R, HR⟩ : ∃ R, fl (srt S) = R := ⟨_, rfl⟩
  have HR' : Hid (fl (srt S) = R) := HR
  rw [HR]
  clear HR
  obtain ⟨c, hc⟩ : ∃ c, S.length = c := ⟨_, rfl⟩
  have HC : Hid (S.length = c) := hc
  have F1' := F1
  have F2' := F2
  rw [hc] at F2' F1' hSl ⊢
  clear F1 F2
  go_enter Tryz.func41, Tryz.ntmps41
  go_wp2_with (first | (at_len; refine wpList_len_own _ rfl _ 73 rfl 40 71 underM _ b _ D rfl F1' ?_; rw [F2']) | (at_make; refine wpList_make_own _ rfl _ _ 24 rfl w.heap.size 40 i (.agg #[.int .i64 0, .int .i64 0]) 2 underPS HI.out.1 HI.out.2.1 HI.out.2.2.1 .i64 .i64 _ c rfl rfl rfl (by rw [HI.out.2.2.2]; omega) (by unfold maxLen; omega) (Nat.le_refl _) ?_; intro w1 own1 g1; have ownM := F1'.kept g1 (by simp)) | (at_range; refine wpList_range_own _ rfl _ 73 rfl 40 71 lawK underM _ b _ D rfl ownM ?_; intro w0 hrg0 hg0 hs0) | go_in)
  go_frame
  have hall : ∀ p ∈ S, Maps.has D (pk p) = true := F5
  have hszw : w.heap.size < w1.heap.size := (own1.lt _ rfl).2
  go_loopw [3] (fun pv wr => ∃ (left : Lit → Bool) (cnt : Nat) (dn : List Pt) (g cap k : Nat), Hid (dn.length = k) ∧ pv = .slice (some ⟨g, 0, none⟩) k cap ∧ wr.ranges Tryz.prog 40 unitElem b w1.heap.size c D left cnt ∧ wr.ownsRow w.heap.size 40 2 (.slice (some ⟨g, 0, none⟩) k cap) k (fl dn.reverse) ∧ g ≠ w1.heap.size ∧ w.grownBy wr none ∧ Cm S dn left) (fun _ wr => wr.rangeLeft b w1.heap.size)
  case atStart => exact ⟨_, _, [], _, _, 0, rfl, rfl, hrg0, own1.kept hg0 (Classical.em _), by omega, gb_trans g1 hg0, Cm.start hall⟩
  case round =>
    obtain ⟨left, cnt, dn, g, cap, k, HK, rfl, hrg, own, hne, Gw, hC⟩ := hrel
    have hgl := own.lt g rfl
    go_wp2_with (first | (at_next; refine wpList_next_ranges (α := Int × Int) (β := Unit) _ rfl _ rfl 40 lawK _ (fun p => .agg #[.int .i64 p.1, .int .i64 p.2]) (fun _ => .agg #[]) (fun key l hk => by obtain ⟨x, y, e, _⟩ := (keyOf_is key l).1 hk; exact ⟨(x, y), e⟩) (fun v y hv => ⟨(), (unitElem_inv hv).1⟩) b w1.heap.size c D left cnt rfl hrg ?_ ?_) | go_in)
    · intro hc0 hl0
      have hperm := hC.done F3 hl0
      have hk : k = c := by have := hperm.length_eq; have := HK.out; have := HC.out; omega
      have HS : Hid (fl (srt dn.reverse) = fl (srt S)) := by unfold Hid; rw [srt_congr ((List.reverse_perm dn).trans hperm)]
      have hso := sortRowsK wr w.heap.size g cap k dn.reverse (by rw [List.length_reverse]; exact HK.out) own (by omega)
      rw [HS.out, HR'.out] at hso
      subst hk
      clear hperm hC HS own hrg
      go_wp2_with (first | (go_at_call 32; refine hso.mono ?_; rintro e w5 ⟨rfl, own5, g5⟩) | go_in)
      go_ret
      exact ⟨g, cap, rfl, own5, Gw.andThen g5 (fun j hj => .inl (by injection hj with hj; omega))⟩
    · intro x y l yd yp w2 cnt1 hkey hlk hv hat hrg1 hlt hg1 hsw hen
      try dsimp only at hkey hen ⊢
      obtain ⟨p, hpS, rfl⟩ := F6 _ (Maps.has_true_of_atKey hat)
      have hp := F4 p hpS
      have hkv : (.agg #[.int .i64 x, .int .i64 y] : Value) = ptV p := lawK.inj hkey hp.key
      have hxy : x = p.1 ∧ y = p.2 := by simpa [ptV] using hkv
      have HX : Hid (fl dn.reverse ++ [.int .i64 x, .int .i64 y] = fl (p :: dn).reverse) := by unfold Hid; rw [List.reverse_cons, fl_app, hxy.1, hxy.2]; rfl
      clear hkv hxy hkey hv hat
      have hC1 := hC.next F4 hpS hlk
      have hC1' := hC1
      have hdl : (p :: dn).length ≤ S.length := hC1.len
      have hk1 : k + 1 ≤ c := by have := HK.out; have := HC.out; rw [List.length_cons] at hdl; omega
      have HK1 : Hid ((p :: dn).length = k + 1) := by unfold Hid; rw [List.length_cons, HK.out]
      have hr2 := hrg.lt
      have hG1 : w.grownBy w2 none := Gw.andThen hg1 (fun j hj => .inl (by injection hj with hj; omega))
      have own1' := own.kept hg1 (.inr (fun e => hne (Option.some.inj e)))
      obtain ⟨W3, hW3, sz3, g3, B3⟩ := boxn w2 #[.int .i64 x, .int .i64 y] 40
      rw [hsw] at B3
      obtain ⟨W4, hW4⟩ : ∃ W4, W3.alloc (.cells #[.int .i64 x, .int .i64 y] 40) = W4 := ⟨_, rfl⟩
      have g4 : W3.grownBy W4 none := (by rw [← hW4]; exact World.grownBy_alloc _ _ _)
      have nX : ∀ l u, [Value.int .i64 x, .int .i64 y][l]? = some u → W4.cell? ((⟨W3.heap.size, 0, none⟩ : Addr).add l) = some u := by rw [← hW4]; exact World.news_of_block (heap_alloc_new _ _)
      have own4 := (own1'.kept g3 (Classical.em _)).kept g4 (Classical.em _)
      have hrg4 := (hrg1.kept g3 (by simp) (by simp)).kept g4 (by simp) (by simp)
      have hG4 := gb_trans hG1 (gb_trans g3 g4)
      have e0 := B3.cell 0 (v := .int .i64 x) rfl
      have e1 := B3.cell 1 (v := .int .i64 y) rfl
      have hsz4 := hG4.size
      have hszB : w1.heap.size < W4.heap.size := hrg4.lt
      have hlt2 : Hid (cnt1 < cnt) := hlt
      have hrgl : Hid (wr.rangeLeft b w1.heap.size = cnt) := hrg.left_eq
      have hl4 : Hid (W4.rangeLeft b w1.heap.size = cnt1) := hrg4.left_eq
      have HC1 : Hid (Cm S (p :: dn) (fun z => left z && !z.sameKey (pk p))) := hC1'
      clear hC hrg hrg1 own own1' hlt hC1 hC1'
      go_wp2_with (first | (at_builtin; refine wpList_append_lies _ rfl _ _ 24 rfl w.heap.size 40 i (.agg #[.int .i64 0, .int .i64 0]) 2 16 underPS HI.out.1 HI.out.2.1 HI.out.2.2.1 HI.out.2.2.2 rfl (by decide) _ k _ rfl own4 ⟨W3.heap.size, 0, none⟩ 1 1 [.int .i64 x, .int .i64 y] rfl rfl nX (by intro u hu; simp at hu; rcases hu with rfl | rfl <;> rfl) (by decide) (by unfold maxLen; omega) (by omega) hG4.size _ rfl ?_; intro g6 c6 w6 own6 g6' at6 lt6) | go_in)
      go_roundw
      case rel =>
        have hg6 : g6 ≠ w1.heap.size := by
          rcases at6 with h | h
          · have h : g = g6 := Option.some.inj h
            omega
          · omega
        exact ⟨_, cnt1, p :: dn, g6, c6, k + 1, HK1, rfl, hrg4.kept g6' (fun e => by have e : b = g := Option.some.inj e; omega) (fun e => hne (Option.some.inj e).symm), by rw [← HX.out]; exact own6, hg6, hG4.andThen g6' (fun j hj => .inl (by have hj : g = j := Option.some.inj hj; omega)), HC1.out⟩
      case measure =>
        have h9 := (hrg4.kept g6' (fun e => by have e : b = g := Option.some.inj e; omega) (fun e => hne (Option.some.inj e).symm)).left_eq
        have := hrgl.out
        have := hlt2.out
        omega
end Ln
end Go.Proofs.YtbmpiddjakdebaaGreat
