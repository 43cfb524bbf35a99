/- Keeps of a tree that may be and an order. -/
import Derived.Stop.RegionWithIn
import Derived.BigRegionIn
import Derived.Test.YteaionmjbkildabDoorQ22
import Derived.Test.YteaionmjbkildabDoorQ23a
namespace Go.Proofs.YteaionmjbkildabDoor
open Go.RowKit Go.Shelf
set_option linter.unusedVariables false
set_option linter.unusedSimpArgs false
set_option maxRecDepth 100000
attribute [local go_sem] Oper.semAt_some

/-- What a tree says of a row. -/
def ev (t : Nat → TN) (R I : Nat) (x : List Nat) : Nat := (t (goN t (fun i => x.getD i 0) R I)).st
/-- The row with its inputs in another order. -/
def px (p : Nat → Nat) (I : Nat) (x : List Nat) : List Nat := (List.range I).map fun i => x.getD (p i) 0
theorem In.below {w W : World} {sp : Option Addr} {n : Nat} {f : Nat → Int} (h : In w sp n f) (hb : Below w.heap.size w W) : In W sp n f := h.kept (r := none) ⟨hb.os, hb.tape, hb.output, hb.size, fun k hk _ => hb.block k hk⟩ (by simp)
theorem Tn.below {w W : World} {q o n : Nat} {t : Nat → TN} (h : Tn w q o n t) (hb : Below w.heap.size w W) : Tn W q o n t := h.kept ⟨hb.os, hb.tape, hb.output, hb.size, fun k hk _ => hb.block k hk⟩

theorem load1 {P : Program} {w : World} {g : Nat} {t ty : TypeId} {x : Value} {d : TypeDesc} (B : Bo w g t #[x]) (hu : P.underlying ty = some d) (hd : (match d with | .struct _ | .array _ _ => false | _ => true) = true) : (loadVar ty ⟨g, 0, none⟩).run P w = .ok x w := by
  have c := B.cell 0 (v := x) rfl
  cases d <;> first | (cases hd; done) | simp [loadVar, isAgg, run_underlying hu, go_sem, c]
theorem res_cells2 {P : Program} {fn : Func} {tmps : Array Value} {w : World} {p u : Tmp} {tp tu : TypeId} (h : fn.results = #[.cell p tp, .cell u tu]) {g g' : Nat} {t t' : TypeId} {x y : Value} {d d' : TypeDesc}
    (hp : tmps.getD p undef = .pointer (some ⟨g, 0, none⟩)) (hu : tmps.getD u undef = .pointer (some ⟨g', 0, none⟩)) (B : Bo w g t #[x]) (B' : Bo w g' t' #[y]) (h1 : P.underlying tp = some d) (h2 : P.underlying tu = some d') (hd : (match d with | .struct _ | .array _ _ => false | _ => true) = true) (hd' : (match d' with | .struct _ | .array _ _ => false | _ => true) = true) :
    (results fn tmps).run P w = .ok (.tuple #[x, y]) w := by
  have hp' : tmps[p]?.getD undef = .pointer (some ⟨g, 0, none⟩) := by simpa using hp
  have hu' : tmps[u]?.getD undef = .pointer (some ⟨g', 0, none⟩) := by simpa using hu
  simp [results, h, hp', hu', asAddr, load1 B h1 hd, load1 B' h2 hd']
theorem underBo : Tryd.prog.underlying 4 = some .bool := by kernel_rfl
theorem underEr : Tryd.prog.underlying 27 = some (.int .i64) := by kernel_rfl
/-- The boxes of the results, and all that lay ahead. -/
structure Kk0 (w W : World) : Prop where
  r : Bo W (w.heap.size + 1 + 1) 4 #[.bool false]
  e : Bo W (w.heap.size + 1 + 1 + 1) 27 #[.int .i64 0]
  b : Below w.heap.size w W
theorem Kk0.kept {w A B : World} {r : Nat} (h : Kk0 w A) (hg : A.grownBy B (some r)) (hr : w.heap.size + 4 ≤ r) : Kk0 w B :=
  ⟨h.r.kept hg (by simp; omega), h.e.kept hg (by simp; omega), h.b.grown hg h.b.size (fun k e => by cases e; omega)⟩
structure Kk (S I R q o n c : Nat) (t : Nat → TN) (p : Nat → Nat) (sp : Option Addr) (pc : Nat) (w : World) (gC : Nat) (xs : List (List Nat)) (W : World) : Prop where
  t0 : Bo W w.heap.size 24 #[.int .i64 (S : Nat), .int .i64 (I : Nat), .slice (some ⟨q, o, none⟩) n c, .int .i64 (R : Nat)]
  p0 : Bo W (w.heap.size + 1) 63 #[.slice sp I pc]
  k0 : Kk0 w W
  c0 : Bo W (gC + 1) 44 #[.slice (some ⟨gC, 0, none⟩) I I]
  cr : ∃ f, W.rowIs gC 5 I f
  ok : ∀ x ∈ xs, ev t R I x = ev t R I (px p I x)
set_option maxHeartbeats 4000000 in
theorem keepsC (S I R q o n c : Nat) (t : Nat → TN) (lv : Nat → Nat) (ht : Tok S I R n t lv) (hq : S ^ I ≤ 1048576) (sp : Option Addr) (pc : Nat) (p : Nat → Nat) (hp : Ord (fun i => (p i : Int)) I) (w : World) (hT : Tn w q o n t) (hP : In w sp I (fun i => (p i : Int))) :
    Calls Tryd.prog 31 #[.agg #[.int .i64 (S : Nat), .int .i64 (I : Nat), .slice (some ⟨q, o, none⟩) n c, .int .i64 (R : Nat)], .slice sp I pc] w fun e w' => e = .returned (.tuple #[.bool ((rws S I).all fun x => decide (ev t R I x = ev t R I (px p I x))), .int .i64 0]) ∧ w.grownBy w' none := by
  have hi16 := ht.hi
  have hs1 := ht.hs1
  have hs2 := ht.hs2
  obtain ⟨U4, hU4⟩ : ∃ U4, (((w.alloc (.cells #[.int .i64 (S : Nat), .int .i64 (I : Nat), .slice (some ⟨q, o, none⟩) n c, .int .i64 (R : Nat)] 24)).alloc (.cells #[.slice sp I pc] 63)).alloc (.cells #[.bool false] 4)).alloc (.cells #[.int .i64 0] 27) = U4 := ⟨_, rfl⟩
  have s4 : Hid (U4.heap.size = w.heap.size + 4) := (by unfold Hid; rw [← hU4]; simp)
  have g4 : w.grownBy U4 none := (by rw [← hU4]; exact gb_alloc (gb_alloc (gb_alloc (World.grownBy_alloc _ _ _) _) _) _)
  have D0 : Bo U4 w.heap.size 24 #[.int .i64 (S : Nat), .int .i64 (I : Nat), .slice (some ⟨q, o, none⟩) n c, .int .i64 (R : Nat)] := (by rw [← hU4]; exact (((Bo.new w _ _).more _).more _).more _)
  have D1 : Bo U4 (w.heap.size + 1) 63 #[.slice sp I pc] := (by rw [← hU4]; exact ((bo_at (by simp)).more _).more _)
  have D2 : Bo U4 (w.heap.size + 1 + 1) 4 #[.bool false] := (by rw [← hU4]; exact (bo_at (by simp)).more _)
  have D3 : Bo U4 (w.heap.size + 1 + 1 + 1) 27 #[.int .i64 0] := (by rw [← hU4]; exact bo_at (by simp))
  have d0 := D0.cell 0 (v := .int .i64 (S : Nat)) rfl
  have d1 := D0.cell 1 (v := .int .i64 (I : Nat)) rfl
  have d2 := D0.cell 2 (v := .slice (some ⟨q, o, none⟩) n c) rfl
  have d3 := D0.cell 3 (v := .int .i64 (R : Nat)) rfl
  have hck := checkK S I R q o n c t lv ht U4 (hT.kept g4)
  have hcg := canGoC S I hs1 hs2 hi16
  rw [decide_eq_true hq] at hcg
  have hmk := run_make_row' (P := Tryd.prog) 44 5 (.int .u8 0) 1 under8S info8 rfl .i64 .i64 I (by omega) (by omega)
  refine (callsIn_wide (n := 3)).1 ?_
  refine callsIn_of_wp_marks Tryd.func31 rfl trivial ?_ rfl
  simp only [Tryd.ntmps31, List.size_toArray, List.length_cons, List.length_nil, Nat.reduceAdd, Nat.reduceSub, Array.replicate_succ, Array.replicate_zero, List.push_toArray, List.append_toArray, List.nil_append, List.cons_append]
  gi_wp2_with (first | (refine ⟨trivial, ?_⟩; gi_at_call 20; refine (callsIn_wide.2 hck).mono ?_; rintro e w5 ⟨rfl, g5⟩; have E0 := D0.kept g5 (by simp); have E1 := D1.kept g5 (by simp); have e0 := E0.cell 0 (v := .int .i64 (S : Nat)) rfl; have e1 := E0.cell 1 (v := .int .i64 (I : Nat)) rfl; have e4 := E1.cell 0 (v := .slice sp I pc) rfl) | (refine ⟨trivial, ?_⟩; gi_at_call 56; refine (callsIn_wide.2 (isOrderY sp I pc _ hi16 hp w5 (hP.kept (gb_trans g4 g5) (by simp)))).mono ?_; rintro e w6 ⟨rfl, g6⟩; have F0 := E0.kept g6 (by simp); have F1 := E1.kept g6 (by simp); have f0 := F0.cell 0 (v := .int .i64 (S : Nat)) rfl; have f1 := F0.cell 1 (v := .int .i64 (I : Nat)) rfl; have f4 := F1.cell 0 (v := .slice sp I pc) rfl; obtain ⟨U8, hU8⟩ : ∃ U8, (w6.alloc (.cells (madeCells #[.int .u8 0] I) 5)).alloc (.cells #[.slice (some ⟨w6.heap.size, 0, none⟩) I I] 44) = U8 := ⟨_, rfl⟩; have g8 : w6.grownBy U8 none := (by rw [← hU8]; exact gb_alloc (World.grownBy_alloc _ _ _) _); have G0 := F0.kept g8 (by simp); have h0 := G0.cell 0 (v := .int .i64 (S : Nat)) rfl; have h1 := G0.cell 1 (v := .int .i64 (I : Nat)) rfl; have hr := rowsC 2 S I U8; obtain ⟨V, hV⟩ : ∃ V, (U8.alloc (.cells #[.int .i64 (S : Nat)] 3)).alloc (.cells #[.int .i64 (I : Nat)] 3) = V := ⟨_, rfl⟩; rw [hV] at hr) | (refine ⟨trivial, ?_⟩; gi_at_call 52; refine (callsIn_wide.2 (hcg _)).mono ?_; rintro e w' ⟨rfl, hw'⟩; subst w') | (refine ⟨trivial, ?_⟩; gi_at_call 57; refine hr.mono ?_; rintro e w9 ⟨rfl, hw9⟩; subst w9))
  have q4 := s4
  have gV : U8.grownBy V none := (by rw [← hV]; exact gb_alloc (World.grownBy_alloc _ _ _) _)
  have sU : Hid (U8.heap.size = w6.heap.size + 2) := (by unfold Hid; rw [← hU8]; simp)
  have sV : Hid (V.heap.size = U8.heap.size + 2) := (by unfold Hid; rw [← hV]; simp)
  have R4 : Bo V U8.heap.size 3 #[.int .i64 (S : Nat)] := (by rw [← hV]; exact (Bo.new U8 _ _).more _)
  have R5 : Bo V (U8.heap.size + 1) 3 #[.int .i64 (I : Nat)] := (by rw [← hV]; exact bo_at (by simp))
  have C8 : Bo U8 (w6.heap.size + 1) 44 #[.slice (some ⟨w6.heap.size, 0, none⟩) I I] := (by rw [← hU8]; exact bo_at (by simp))
  have C7 : U8.rowIs w6.heap.size 5 I (fun _ => .int .u8 0) := (by rw [← hU8]; exact World.rowIs.alloc (World.rowIs_made w6 (.int .u8 0) I 5) _)
  have gW : w.grownBy V none := gb_trans g4 (gb_trans g5 (gb_trans g6 (gb_trans g8 gV)))
  have g58 : U4.grownBy V none := gb_trans g5 (gb_trans g6 (gb_trans g8 gV))
  have z4 : w.heap.size + 4 ≤ w6.heap.size := by have := s4.out; have := g5.size; have := g6.size; omega
  have zU := sU.out
  have zV := sV.out
  refine rangeM (gf := 69) (lb := #[.pointer (some ⟨U8.heap.size + 1, 0, none⟩), .pointer (some ⟨U8.heap.size, 0, none⟩)]) rfl (enters_of Tryd.func69 (by kernel_rfl) rfl)
    (encs := fun _ : List Nat => #[.slice (some ⟨V.heap.size + 3, 0, none⟩) I I]) (fun _ => rfl) (V.heap.size + 3) (by omega)
    (Rx (V.heap.size + 3) I S) (fun x A o h => ⟨rowIs_kept h.1 (grownBy_putObj' A _ o) (by simp), h.2.1, h.2.2.1, by have := h.2.2.2; simpa [World.putObj] using this⟩)
    (Kr (U8.heap.size + 1) (V.heap.size + 2) (V.heap.size + 4) U8.heap.size (V.heap.size + 5) (V.heap.size + 3)) Kr.trans
    (fun A o hA k hk => World.putObj_heap_other (by rcases hk with h | h | h | h | h | h <;> omega))
    (fun xs => xs = rws S I) (fun pre => ∃ r, pre ++ r = rws S I) (S ^ I)
    (fun l J Jx W hsz hgW hJ hY h0 => by
      have e1 : W.heap.size + 1 = V.heap.size + 3 := by omega
      have e2 : W.heap.size + 1 + 1 = V.heap.size + 4 := by omega
      have e3 : W.heap.size + 1 + 1 + 1 = V.heap.size + 5 := by omega
      exact rows1C 2 l (U8.heap.size + 1) U8.heap.size S I hs2 hi16 J Jx W (R5.kept hgW (by simp)) (R4.kept hgW (by simp)) (by rw [e1]; exact hJ) (by rw [e3, e2, e1, hsz]; exact hY) h0)
    (Kk S I R q o n c t p sp pc w w6.heap.size) (fun c pre W => c = .ret ∧ Kk0 w W ∧ ∃ x ∈ pre, ev t R I x ≠ ev t R I (px p I x)) ?own ?ownx ?start
    (fun x => { tmps := #[.agg #[.int .i64 (S : Nat), .int .i64 (I : Nat), .slice (some ⟨q, o, none⟩) n c, .int .i64 (R : Nat)], .slice sp I pc, .pointer (some ⟨w.heap.size, 0, none⟩), .pointer (some ⟨w.heap.size + 1, 0, none⟩), .pointer (some ⟨w.heap.size + 1 + 1, 0, none⟩), .pointer (some ⟨w.heap.size + 1 + 1 + 1, 0, none⟩), .int .i64 0, .pointer (some ⟨w6.heap.size + 1, 0, none⟩), .slice (some ⟨V.heap.size + 3, 0, none⟩) I I, undef, undef, .agg #[.int .i64 (S : Nat), .int .i64 (I : Nat), .slice (some ⟨q, o, none⟩) n c, .int .i64 (R : Nat)], .int .i64 0, .int .i64 0, .bool false, undef, .slice sp I pc, .pointer (some ⟨w.heap.size, 1, none⟩), .int .i64 (I : Nat), .bool true, .bool false, .pointer (some ⟨w.heap.size, 0, none⟩), .int .i64 (S : Nat), .pointer (some ⟨w.heap.size, 1, none⟩), .int .i64 (I : Nat), .bool true, .bool false, .slice sp I pc, .int .i64 (I : Nat), .slice (some ⟨w6.heap.size, 0, none⟩) I I, .pointer (some ⟨w.heap.size, 0, none⟩), .int .i64 (S : Nat), .pointer (some ⟨w.heap.size, 1, none⟩), .int .i64 (I : Nat), .func (.func 69) #[] #[.pointer (some ⟨U8.heap.size + 1, 0, none⟩), .pointer (some ⟨U8.heap.size, 0, none⟩)], .slice (some ⟨V.heap.size + 3, 0, none⟩) I I, undef, undef, undef, undef, undef, undef, undef, undef, undef, undef, undef, undef, undef, undef, undef, undef, undef, undef, undef, undef, undef, undef], defers := [] }) ?assign ?body ?done ?stop
  case own =>
    rintro s A B r ⟨h1, h2, h3, h4, h5, h6⟩ hg hr
    have hr' : V.heap.size + 1 ≤ r := by rcases hr with h | h <;> omega
    refine ⟨h1.kept hg (by simp; omega), h2.kept hg (by simp; omega), h3.kept hg (by have := z4; omega), h4.kept hg (by simp; omega), ?_, h6⟩
    obtain ⟨f, hf⟩ := h5
    exact ⟨f, rowIs_kept hf hg (by simp; omega)⟩
  case ownx =>
    rintro c s A B ⟨h1, h2, h3⟩ hg
    exact ⟨h1, h2.kept hg (by omega), h3⟩
  case start =>
    refine ⟨D0.kept g58 (by simp), D1.kept g58 (by simp), ⟨D2.kept g58 (by simp), D3.kept g58 (by simp), gb_below gW⟩, C8.kept gV (by simp), ⟨_, rowIs_kept C7 gV (by simp)⟩, by simp⟩
  case assign =>
    clear zU zV
    intro l x W K hK
    gi_wp2
    exact hK
  case body =>
    clear zU zV
    rintro l pre x W ⟨h1, h2, h3, h4, ⟨f, h5⟩, h6⟩ ⟨m1, m2, m3, m4⟩ hlen
    have b4 := h2.cell 0 (v := .slice sp I pc) rfl
    have yU := sU
    have yV := sV
    gi_wp2
    gi_loopw [38] (fun i wr => ∃ j : Nat, j ≤ I ∧ i = .int .i64 j ∧ W.grownBy wr (some w6.heap.size) ∧ wr.rowIs w6.heap.size 5 I (fun i => if i < j then .int .u8 (x.getD (p i) 0 : Nat) else f i)) (fun i _ => I - (intOf i).toNat)
    case atStart => exact ⟨0, Nat.zero_le _, rfl, World.grownBy.refl _ _, World.rowIs.congr h5 (fun i hi => by simp)⟩
    case round =>
      obtain ⟨j, hj, rfl, Gj, Rj⟩ := hrel
      by_cases hlt : j < I
      · have hlt' : (j : Int) < (I : Int) := by omega
        obtain ⟨ap, rfl⟩ := hP.some (by omega)
        have hPb := hP.below h3.b
        have hapb : ap.block < w.heap.size := by have := cell_lt (hP.at (k := 0) (by omega)); rwa [add_block] at this
        have pj : wr.cell? (ap.add j) = some (.int .i64 (p j : Nat)) := Gj.cell (hPb.at hlt) (by rw [add_block]; simp; omega)
        obtain ⟨_, p2, _⟩ := hp j hlt
        have p2' : (p j : Int) < (I : Int) := p2
        have hpj : p j < I := by omega
        clear p2'
        have rX := rowIs_kept m1 Gj (by have h1 := yU.out; have h2 := yV.out; simp; omega)
        have xj := World.rowIs.cell rX (i := p j) hpj
        have cj := World.rowIs.cell Rj (i := j) hlt
        have fj := World.rowIs.frozen Rj j
        have c8 := (h4.kept Gj (by simp)).cell 0 (v := .slice (some ⟨w6.heap.size, 0, none⟩) I I) rfl
        obtain ⟨y, hy⟩ : ∃ y : Nat, x.getD (p j) 0 = y := ⟨_, rfl⟩
        have HY : Hid (x.getD (p j) 0 = y) := hy
        rw [hy] at xj
        obtain ⟨pj', hpj'⟩ : ∃ v, p j = v := ⟨_, rfl⟩
        rw [hpj'] at pj hpj xj
        have y5 : (pj' : Int) < (I : Int) := by omega
        clear hy hpj' p2
        gi_wp2
        refine tail_in 7 mixedT (by kernel_rfl) (by kernel_rfl) ?_
        simp only [List.take_succ_cons, List.take_zero, List.drop_succ_cons, List.drop_zero]
        have dr8 : wr.drew.cell? ⟨w6.heap.size + 1, 0, none⟩ = some (.slice (some ⟨w6.heap.size, 0, none⟩) I I) := c8
        have drx : wr.drew.cell? ⟨V.heap.size + 3, pj', none⟩ = some (.int .u8 (y : Nat)) := xj
        have drc : wr.drew.cell? ⟨w6.heap.size, j, none⟩ = _ := cj
        have drf : wr.drew.frozen? ⟨w6.heap.size, j, none⟩ = false := fj
        have y6 : (0 : Int) ≤ (pj' : Int) := by omega
        have y7 : ((pj' : Int)).toNat = pj' := by omega
        have y8 : (0 : Int) ≤ (j : Int) := by omega
        have y9 : ((j : Int)).toNat = j := by omega
        repeat still_step
        refine wpStill_nil ?_
        go_wp2
        refine noO_normal ?_
        gi_wp2
        go_roundw
        case rel =>
          refine ⟨j + 1, hlt, by go_num, gb_drew (gb_set Gj j _), World.rowIs.congr (World.rowIs.drew (World.rowIs.set Rj j _)) (fun i hi => ?_)⟩
          by_cases e : i = j
          · subst e; simp only [if_true, Nat.lt_add_one, HY.out]
          · have e2 : (i < j + 1) ↔ (i < j) := by omega
            simp [e, e2]
        case measure => simp [intOf]; omega
      · have hjn : j = I := by omega
        subst hjn
        have zU := sU.out
        have zV := sV.out
        have hbr : Below w.heap.size w wr := h3.b.grown Gj h3.b.size (fun k e => by cases e; omega)
        have rX := rowIs_kept m1 Gj (by simp; omega)
        have Tr := hT.below hbr
        have hx1 : ∀ i, i < j → x.getD i 0 < S := fun i hi => by
          rw [List.getD_eq_getElem?_getD, List.getElem?_eq_getElem (by omega)]
          exact m3 _ (List.getElem_mem _)
        have hpx : ∀ i, i < j → (px p j x).getD i 0 = x.getD (p i) 0 := fun i hi => by
          simp [px, List.getD_eq_getElem?_getD, hi]
        have hpi : ∀ i, i < j → p i < j := fun i hi => by
          have h : (p i : Int) < (j : Int) := (hp i hi).2.1
          omega
        have by1 : By wr (some ⟨V.heap.size + 3, 0, none⟩) j (fun i => x.getD i 0) := fun k hk => ⟨_, rfl, by rw [add_mid, Nat.zero_add]; exact World.rowIs.cell rX (i := k) hk⟩
        have by2 : By wr (some ⟨w6.heap.size, 0, none⟩) j (fun i => (px p j x).getD i 0) := fun k hk => ⟨_, rfl, by rw [add_mid, Nat.zero_add]; have h := World.rowIs.cell Rj (i := k) hk; rw [if_pos hk] at h; show wr.cell? _ = some (Value.int .u8 ((px p j x).getD k 0 : Nat)); rw [hpx k hk]; exact h⟩
        have a1 := fun (Y : World) (g : wr.grownBy Y none) => answerC S j R q o n c t lv ht (some ⟨V.heap.size + 3, 0, none⟩) j (fun i => x.getD i 0) hx1 Y (Tr.kept g) (by1.kept g (by simp))
        have a2 := fun (Y : World) (g : wr.grownBy Y none) => answerC S j R q o n c t lv ht (some ⟨w6.heap.size, 0, none⟩) j (fun i => (px p j x).getD i 0) (fun i hi => by rw [hpx i hi]; exact hx1 _ (hpi i hi)) Y (Tr.kept g) (by2.kept g (by simp))
        obtain ⟨A1, hA1⟩ : ∃ A1, (t (goN t (fun i => x.getD i 0) R j)).st = A1 := ⟨_, rfl⟩
        obtain ⟨A2, hA2⟩ : ∃ A2, (t (goN t (fun i => (px p j x).getD i 0) R j)).st = A2 := ⟨_, rfl⟩
        have H1 : Hid (ev t R j x = A1) := hA1
        have H2 : Hid (ev t R j (px p j x) = A2) := hA2
        rw [hA1] at a1
        rw [hA2] at a2
        have T0 := h1.kept Gj (by simp; omega)
        have C0 := h4.kept Gj (by simp)
        have c0 := T0.cell 0 (v := .int .i64 (S : Nat)) rfl
        have c1 := T0.cell 1 (v := .int .i64 (j : Nat)) rfl
        have c2 := T0.cell 2 (v := .slice (some ⟨q, o, none⟩) n c) rfl
        have c3 := T0.cell 3 (v := .int .i64 (R : Nat)) rfl
        have c8 := C0.cell 0 (v := .slice (some ⟨w6.heap.size, 0, none⟩) j j) rfl
        clear hA1 hA2 zU zV
        have gd : wr.grownBy wr.drew none := gb_drew (World.grownBy.refl _ _)
        obtain ⟨b, hb⟩ : ∃ b, ((A1 : Int) != (A2 : Int)) = b := ⟨_, rfl⟩
        have HB : Hid (((A1 : Int) != (A2 : Int)) = b) := hb
        gi_wp2
        refine wpIn_mono (Q := fun e a' w' => e = .normal ∧ a' = { tmps := #[.agg #[.int .i64 (S : Nat), .int .i64 (j : Nat), .slice (some ⟨q, o, none⟩) n c, .int .i64 (R : Nat)], .slice sp j pc, .pointer (some ⟨w.heap.size, 0, none⟩), .pointer (some ⟨w.heap.size + 1, 0, none⟩), .pointer (some ⟨w.heap.size + 1 + 1, 0, none⟩), .pointer (some ⟨w.heap.size + 1 + 1 + 1, 0, none⟩), .int .i64 0, .pointer (some ⟨w6.heap.size + 1, 0, none⟩), .slice (some ⟨V.heap.size + 3, 0, none⟩) j j, u9, u10, .agg #[.int .i64 (S : Nat), .int .i64 (j : Nat), .slice (some ⟨q, o, none⟩) n c, .int .i64 (R : Nat)], .int .i64 0, .int .i64 0, .bool false, undef, .slice sp j pc, .pointer (some ⟨w.heap.size, 1, none⟩), .int .i64 (j : Nat), .bool true, .bool false, .pointer (some ⟨w.heap.size, 0, none⟩), .int .i64 (S : Nat), .pointer (some ⟨w.heap.size, 1, none⟩), .int .i64 (j : Nat), .bool true, .bool false, .slice sp j pc, .int .i64 (j : Nat), .slice (some ⟨w6.heap.size, 0, none⟩) j j, .pointer (some ⟨w.heap.size, 0, none⟩), .int .i64 (S : Nat), .pointer (some ⟨w.heap.size, 1, none⟩), .int .i64 (j : Nat), .func (.func 69) #[] #[.pointer (some ⟨U8.heap.size + 1, 0, none⟩), .pointer (some ⟨U8.heap.size, 0, none⟩)], .slice (some ⟨V.heap.size + 3, 0, none⟩) j j, .slice sp j pc, .int .i64 (j : Nat), .int .i64 (j : Nat), .bool false, u40, u41, u42, u43, u44, u45, u46, u47, u48, u49, u50, .agg #[.int .i64 (S : Nat), .int .i64 (j : Nat), .slice (some ⟨q, o, none⟩) n c, .int .i64 (R : Nat)], .slice (some ⟨V.heap.size + 3, 0, none⟩) j j, .int .u8 (A1 : Nat), .agg #[.int .i64 (S : Nat), .int .i64 (j : Nat), .slice (some ⟨q, o, none⟩) n c, .int .i64 (R : Nat)], .slice (some ⟨w6.heap.size, 0, none⟩) j j, .int .u8 (A2 : Nat), .bool b], defers := [] } ∧ wr.grownBy w' none) ?reg ?rest
        case reg =>
         gi_region_with (first | (refine ⟨trivial, ?_⟩; gi_at_call 48; (fail_if_success (guard_hyp u1G)); refine (CallsIn.inRound l (callsIn_wide.2 (a1 _ gd))).mono ?_; rintro e u1 ⟨rfl, g1⟩; have u1G := gb_trans gd g1; have T1 := T0.kept u1G (by simp); have C1 := C0.kept u1G (by simp); have d0 := T1.cell 0 (v := .int .i64 (S : Nat)) rfl; have d1 := T1.cell 1 (v := .int .i64 (j : Nat)) rfl; have d2 := T1.cell 2 (v := .slice (some ⟨q, o, none⟩) n c) rfl; have d3 := T1.cell 3 (v := .int .i64 (R : Nat)) rfl; have d8 := C1.cell 0 (v := .slice (some ⟨w6.heap.size, 0, none⟩) j j) rfl) | (refine ⟨trivial, ?_⟩; gi_at_call 48; (fail_if_success (guard_hyp u2G)); refine (CallsIn.inRound l (callsIn_wide.2 (a2 _ u1G))).mono ?_; rintro e u2 ⟨rfl, g2⟩; have u2G := gb_trans u1G g2))
         all_goals exact ⟨rfl, rfl, u2G⟩
        case rest =>
          rintro e a' u ⟨rfl, rfl, gu⟩
          have GU : W.grownBy u (some w6.heap.size) := gb_none Gj gu
          clear hb
          cases b with
          | false =>
            have hne : A1 = A2 := by have h := HB.out; simp at h; omega
            gi_wp2
            have zU := sU.out
            have zV := sV.out
            refine ⟨KeepsFrom.of_grownBy GU (fun j e => by cases e; omega), fun k hk => GU.block k (by rcases hk with h | h | h | h | h | h <;> omega) (by rcases hk with h | h | h | h | h | h <;> simp <;> omega), ?_⟩
            refine ⟨h1.kept GU (by simp; omega), h2.kept GU (by simp; omega), h3.kept GU z4, h4.kept GU (by simp), ⟨_, rowIs_kept Rj gu (by simp)⟩, fun y hy => ?_⟩
            rcases List.mem_append.1 hy with hy | hy
            · exact h6 y hy
            · have e : y = x := by simpa using hy
              subst e
              rw [H1.out, H2.out, hne]
          | true =>
            have hne : A1 ≠ A2 := by have h := HB.out; simp at h; omega
            have e2 := h3.r.kept GU (by simp; omega)
            have e3 := h3.e.kept GU (by simp; omega)
            have e20 := e2.cell 0 (v := .bool false) rfl
            have e21 := e2.frozen 0
            have e22 := Bo.same e2 0 (v := .bool false) rfl
            have e30 := e3.cell 0 (v := .int .i64 0) rfl
            have e31 := e3.frozen 0
            have e32 := Bo.same e3 0 (v := .int .i64 0) rfl
            gi_wp2
            have zU := sU.out
            have zV := sV.out
            exact ⟨KeepsFrom.of_grownBy GU (fun j e => by cases e; omega), rfl, h3.kept GU z4, x, by simp, by rw [H1.out, H2.out]; exact hne⟩
  case done =>
    clear zU zV
    rintro D xs W hD rfl ⟨h1, h2, h3, h4, h5, h6⟩ hK
    have e20 := h3.r.cell 0 (v := .bool false) rfl
    have e21 := h3.r.frozen 0
    have hne : w.heap.size + 1 + 1 ≠ w.heap.size + 1 + 1 + 1 := by omega
    have B2 := h3.r.set 0 (.bool true)
    have B3 := h3.e.set2 (b := w.heap.size + 1 + 1) (i := 0) (v := .bool true) hne
    have e30 := B3.cell 0 (v := .int .i64 0) rfl
    have e31 := B3.frozen 0
    have e32 := Bo.same B3 0 (v := .int .i64 0) rfl
    gi_wp2
    have hK1 := (KeepsOthers.setCell W ⟨w.heap.size + 1 + 1, 0, none⟩ (.bool true)).same D _ hK rfl
    have zD : w.heap.size + 4 ≤ D := by have := sU.out; have := sV.out; omega
    refine ⟨by simp, .inl ⟨_, _, rfl, run_takeDeferred hK1, ?_⟩⟩
    refine ⟨_, res_cells2 (g := w.heap.size + 1 + 1) (g' := w.heap.size + 1 + 1 + 1) rfl rfl rfl (B2.kept (grownBy_putObj' _ D _) (by simp; omega)) (B3.kept (grownBy_putObj' _ D _) (by simp; omega)) underBo underEr rfl rfl, ?_, ?_⟩
    · rw [List.all_eq_true.2 (fun x hx => decide_eq_true (h6 x hx))]
    · exact gb_past (gb_new ⟨h3.b.os, h3.b.tape, h3.b.output, h3.b.size, fun k hk _ => h3.b.block k hk⟩ (by show w.heap.size ≤ w.heap.size + 1 + 1; omega) _) (grownBy_putObj' _ D _) (by omega)
  case stop =>
    clear zU zV
    rintro D c pre W hD ⟨r, hr⟩ ⟨rfl, h3, x, hx, hn⟩ hK
    gi_wp2
    have zD : w.heap.size + 4 ≤ D := by have := sU.out; have := sV.out; omega
    refine ⟨by simp, .inl ⟨_, _, rfl, run_takeDeferred hK, ?_⟩⟩
    refine ⟨_, res_cells2 (g := w.heap.size + 1 + 1) (g' := w.heap.size + 1 + 1 + 1) rfl rfl rfl (h3.r.kept (grownBy_putObj' _ D _) (by simp; omega)) (h3.e.kept (grownBy_putObj' _ D _) (by simp; omega)) underBo underEr rfl rfl, ?_, ?_⟩
    · have hall : ((rws S I).all fun x => decide (ev t R I x = ev t R I (px p I x))) = false := by
        rw [List.all_eq_false]
        exact ⟨x, by rw [← hr]; simp [hx], by simpa using hn⟩
      rw [hall]
    · exact gb_past ⟨h3.b.os, h3.b.tape, h3.b.output, h3.b.size, fun k hk _ => h3.b.block k hk⟩ (grownBy_putObj' _ D _) (by omega)
end Go.Proofs.YteaionmjbkildabDoor
