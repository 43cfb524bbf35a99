/- Lists by their lengths. -/
import Derived.Test.YtbmpiddjakdebaaGreatNe
import Derived.Shelf.SlSortCmp.Insertion1
import Derived.Shelf.SlGeneric
import Derived.Shelf.Lay
import Derived.Ground.SlsfProg
import Derived.Sort.LotA
namespace Go.Proofs.YtbmpiddjakdebaaGreat
open Go.RowKit Go.Shelf Go.Lib Go.Sort
set_option linter.unusedVariables false
set_option linter.unusedSimpArgs false
set_option maxRecDepth 100000

namespace Ln
shelf_lay_g SlLaysF.n20 Slsf 20 at Tryz 89 as laysIns
/-- A list of points in memory: its block, its capacity, its points. -/
structure Ml where
  g : Nat
  cap : Nat
  ps : List Pt
instance : Inhabited Ml := ⟨⟨0, 0, []⟩⟩
def encM (l : Ml) : Value := .slice (some ⟨l.g, 0, none⟩) l.ps.length l.cap
def cmpM (a b : Ml) : Int := cmpI a.ps.length b.ps.length
theorem closM (a b : Ml) (W : World) : Calls Tryz.prog 58 #[encM a, encM b] W fun e w' => e = .returned (.int .i64 (cmpM a b)) ∧ w' = W := by
  have h1 := fun w => compareC (a.ps.length : Int) (b.ps.length : Int) w
  unfold cmpM encM
  generalize cmpI a.ps.length b.ps.length = r at h1 ⊢
  generalize a.ps.length = n at h1 ⊢
  generalize b.ps.length = m at h1 ⊢
  go_enter Tryz.func58, Tryz.ntmps58
  go_wp2_with (first | (go_at_call 59; refine (h1 _).mono ?_; rintro e w' ⟨rfl, hw'⟩; subst w') | go_in)
  go_ret
  exact ⟨rfl, rfl⟩
theorem cmpLaysM (blk off size : Nat) (w : World) : CmpLays1 Tryz.prog 58 #[] encM cmpM blk off size w := fun m os dk _ x y => (closM x y _).mono fun _ _ ⟨he, hw⟩ => ⟨he, 0, #[], by rw [hw, grow_empty]; rfl⟩
theorem ltM_is (x y : Ml) : ltOf cmpM x y = decide (x.ps.length < y.ps.length) := by
  unfold ltOf cmpM cmpI
  by_cases h1 : (x.ps.length : Int) < y.ps.length
  · have : x.ps.length < y.ps.length := by omega
    simp [h1, this]
  · have : ¬ x.ps.length < y.ps.length := by omega
    by_cases h2 : (y.ps.length : Int) < x.ps.length <;> simp [h1, h2, this]
theorem swoM : SWO (ltOf cmpM) where
  irrefl x := by rw [ltM_is]; simp
  trans x y z h1 h2 := by rw [ltM_is] at *; simp at *; omega
  ntrans x y z h1 h2 := by rw [ltM_is] at *; simp at *; omega
theorem oneM : OneCell encM := fun _ => rfl
theorem holdsM {w : World} {g : Nat} {cur : Array Value} {e : TypeId} {L : List Ml} (hb : w.heap[g]? = some (.cells cur e (0, 0))) (ht : cur.toList.take L.length = L.map encM) : Holds encM w g 0 L.toArray := by
  intro j hj
  have hj' : j < L.length := by simpa using hj
  refine ⟨?_, by simp [World.frozen?, hb]⟩
  have h1 : (cur.toList.take L.length)[j]? = (L.map encM)[j]? := by rw [ht]
  rw [List.getElem?_take_of_lt hj'] at h1
  simp only [World.cell?, hb, Nat.zero_add]
  simp only [Option.isSome_none, Bool.false_eq_true, if_false]
  rw [← Array.getElem?_toList, h1]
  simp [hj']
theorem heapM {w : World} {g n : Nat} {os : Array Obj} {cur : Array Value} {e : TypeId} {fr : Nat × Nat} (d : Array Ml) (hb : w.heap[g]? = some (.cells cur e fr)) :
    (grow (putRow encM (Sort.ahead w n) g 0 d) os).heap[g]? = some (.cells (putCells encM 0 d cur) e fr) := by
  have hg : g < w.heap.size := (Array.getElem?_eq_some_iff.1 hb).1
  rw [heap_grow_old _ _ (by simpa using hg)]
  simp [putRow, mapBlock, Sort.ahead, Array.getElem?_modify, hb, onCells]
theorem grownM {w : World} {g n : Nat} {os : Array Obj} (d : Array Ml) : w.grownBy (grow (putRow encM (Sort.ahead w n) g 0 d) os) (some g) := by
  refine ⟨rfl, rfl, rfl, by simp, fun k hk hne => ?_⟩
  rw [heap_grow_old _ _ (by simpa using hk)]
  have : g ≠ k := fun e => hne (by rw [e])
  simp [putRow, mapBlock, Sort.ahead, Array.getElem?_modify, this]
theorem takeM (cur : Array Value) (L : List Ml) (h : L.length ≤ cur.size) : (putCells encM 0 L.toArray cur).toList.take L.length = L.map encM := by
  apply List.ext_getElem?
  intro j
  by_cases hj : j < L.length
  · rw [List.getElem?_take_of_lt hj, Array.getElem?_toList]
    simp [putCells, hj, show j < cur.size by omega]
  · rw [List.getElem?_take_eq_none (by omega), List.getElem?_eq_none (by simp; omega)]
set_option maxHeartbeats 1000000 in
theorem stableC (w : World) (base g cap n : Nat) (L : List Ml) (hn : L.length = n) (h : w.ownsRow base 24 1 (.slice (some ⟨g, 0, none⟩) n cap) n (L.map encM)) (hl : n ≤ 19) :
    Calls Tryz.prog 57 #[.slice (some ⟨g, 0, none⟩) n cap, .func (.func 58) #[] #[]] w fun e w' => e = .returned (.tuple #[]) ∧ ∃ L' : List Ml, L'.Perm L ∧ w'.ownsRow base 24 1 (.slice (some ⟨g, 0, none⟩) n cap) n (L'.map encM) ∧ w.grownBy w' (some g) := by
  subst hn
  obtain ⟨hx, hh⟩ := h
  rcases hh with ⟨h0, _⟩ | ⟨g', cap', cur, hv, hbase, hb, h1, h2, h3, h4⟩
  · cases h0
  cases hv
  have hH : Holds encM w g 0 L.toArray := holdsM hb (by simpa using h4)
  have eg : ∀ args w, (callFunc 58 args).run Tryz.prog w = .ok (.enter 58 args) w := enters_of Tryz.func58 (by kernel_rfl) rfl
  have hcon := Any.insertionSortCmpFunc_s laysIns encM cmpM 58 #[] g 0 cap 0 L.toArray.size L.toArray L.toArray w w eg (cmpLaysM g 0 _ w) ⟨oneM, hH, (Array.getElem?_eq_some_iff.1 hb).1⟩ rfl (SW.start hH) (Nat.zero_le _) (Nat.le_refl _) (by simp; omega)
  change Calls Tryz.prog 89 _ _ _ at hcon
  have ez : L.toArray.size = L.length := by simp
  rw [ez] at hcon
  have hins := insertionSort_holds (lt := ltOf cmpM) swoM L.toArray 0 L.toArray.size (Nat.zero_le _) (Nat.le_refl _)
  have key : ∀ w', SW encM w g 0 (Sort.insertionSort (ltOf cmpM) L.toArray 0 L.length) w' → ∃ L' : List Ml, L'.Perm L ∧ w'.ownsRow base 24 1 (.slice (some ⟨g, 0, none⟩) L.length cap) L.length (L'.map encM) ∧ w.grownBy w' (some g) := by
    rintro w' ⟨n, os, rfl⟩
    rw [ez] at hins
    obtain ⟨d', hd'⟩ : ∃ d', Sort.insertionSort (ltOf cmpM) L.toArray 0 L.length = d' := ⟨_, rfl⟩
    rw [hd'] at hins ⊢
    obtain ⟨⟨p1, p2, p3⟩, _⟩ := hins
    have hsz : d'.size = L.length := by rw [p1, ez]
    have e1 : d'.extract 0 L.length = d' := by rw [← hsz]; exact Array.extract_size
    have e2 : L.toArray.extract 0 L.length = L.toArray := by rw [← ez]; exact Array.extract_size
    rw [e1, e2] at p3
    have p3' : d'.toList.Perm L := by simpa using p3
    have hll : d'.toList.length = L.length := by simpa using hsz
    refine ⟨d'.toList, p3', ?_, grownM _⟩
    unfold sortWorld
    refine ⟨by simp [hsz], .inr ⟨g, cap, _, rfl, hbase, heapM _ hb, h1, h2, by simp [putCells, h3], ?_⟩⟩
    have ht := takeM cur d'.toList (by rw [hll, h3]; omega)
    rw [hll] at ht
    rw [Nat.mul_one]
    simpa using ht
  have hcon2 : Calls Tryz.prog 89 _ w fun e w' => e = .returned (.tuple #[]) ∧ ∃ L' : List Ml, L'.Perm L ∧ w'.ownsRow base 24 1 (.slice (some ⟨g, 0, none⟩) L.length cap) L.length (L'.map encM) ∧ w.grownBy w' (some g) := hcon.mono (fun e w' hh => ⟨hh.1, key w' hh.2⟩)
  clear hcon key hH h4 hx eg hins ez
  obtain ⟨n, hn⟩ : ∃ n, L.length = n := ⟨_, rfl⟩
  rw [hn] at hcon2 hl ⊢
  clear hn h1 h2 h3
  have hz0 : ((0 : Nat) : Int) = 0 := rfl
  rw [hz0] at hcon2
  have b1 : ¬ (20 : Int) ≤ (n : Int) := by omega
  have b2 : ¬ (20 : Int) < (n : Int) := by omega
  have hst : Calls Tryz.prog 75 #[.slice (some ⟨g, 0, none⟩) n cap, .int .i64 n, .func (.func 58) #[] #[]] w fun e w' => e = .returned (.tuple #[]) ∧ ∃ L' : List Ml, L'.Perm L ∧ w'.ownsRow base 24 1 (.slice (some ⟨g, 0, none⟩) n cap) n (L'.map encM) ∧ w.grownBy w' (some g) := by
    go_enter Tryz.func75, Tryz.ntmps75
    go_wp2
    refine wp_loop_rounds 1 ?_
    rw [rounds_succ]
    go_wp2_with (first | (go_at_call 89; refine hcon2.mono ?_; rintro e w' ⟨rfl, hA⟩) | go_in)
    refine wp_loop_rounds 1 ?_
    rw [rounds_succ]
    go_wp2
    go_end0
    exact ⟨rfl, hA⟩
  go_enter Tryz.func57, Tryz.ntmps57
  go_wp2_with (first | (go_at_call 75; refine hst.mono ?_; rintro e w' ⟨rfl, hA⟩) | go_in)
  go_end0
  exact ⟨rfl, hA⟩
end Ln
end Go.Proofs.YtbmpiddjakdebaaGreat
