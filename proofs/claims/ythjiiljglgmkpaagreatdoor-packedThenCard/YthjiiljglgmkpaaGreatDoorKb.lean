/- framed of package ring. -/
import Derived.Test.YthjiiljglgmkpaaGreatDoorKa
import Derived.Test.YthjiiljglgmkpaaGreatDoorZb
namespace Go.Proofs.YthjiiljglgmkpaaGreatDoor
open Go.RowKit
set_option linter.unusedVariables false
set_option linter.unusedSimpArgs false
set_option maxRecDepth 100000
attribute [local go_sem] Oper.semAt_some

theorem underuS' : Tryz.prog.underlying 81 = some (.slice 5) := by kernel_rfl
theorem infou' : (Tryz.prog.info? 5).map (fun i => (i.zero, i.size, i.bytes)) = some (some (.int .u8 0), 1, 1) := by kernel_rfl
theorem with_tmps {c : Code} {F : Fence} {n : Nat} {P : Program} {Q : Exit → Act → World → Prop} {t : Array Value} {d : List Deferred} {w : World} (h : ∀ AR, AR = t → c.wpIn F n P Q { tmps := AR, defers := d } w) : c.wpIn F n P Q { tmps := t, defers := d } w := h t rfl
theorem gb_beyond {a b c : World} {q : Option Nat} (h : a.grownBy b none) (k : b.grownBy c q) (hq : ∀ i, q = some i → a.heap.size ≤ i) : a.grownBy c none := by
  cases q with
  | none => exact gb_trans h k
  | some i => exact gb_past h k (hq i rfl)
/-- What lets no panic out. -/
def noP (Q : Exit → Act → World → Prop) : Exit → Act → World → Prop
  | .panic _, _, _ => False
  | e, a, w => Q e a w
theorem noP_le {Q : Exit → Act → World → Prop} : ∀ e a w, noP Q e a w → Q e a w := fun e a w h => by
  cases e <;> first | exact h | exact h.elim
theorem noP_normal {Q : Exit → Act → World → Prop} {a : Act} {w : World} (h : Q .normal a w) : noP Q .normal a w := h
theorem run_copy_over {P : Program} (w : World) (dT sT ty elem : TypeId) (hu : P.underlying dT = some (.slice elem)) (hsz : (P.info? elem).map (·.size) = some 1)
    (ad : Addr) (n L o M dCap sCap : Nat) (t : TypeId) (d : Nat) (f0 f : Nat → Value) (h1 : ∀ k, k < n → (f k).oneCell' = true) (hg : w.rowIs d t M f0) (hle : o + n ≤ M) (hL : n ≤ L) (hn : 0 < n) (hsrc : ∀ j, j < n → w.cell? (ad.add j) = some (f j)) :
    ∃ w', (Builtin.copy_ #[dT, sT] ty #[.slice (some ⟨d, o, none⟩) L dCap, .slice (some ad) n sCap]).run P w = .ok (goInt n) w' ∧ w'.rowIs d t M (fun j => if o ≤ j ∧ j < o + n then f (j - o) else f0 j) ∧ w.grownBy w' (some d) := by
  obtain ⟨c, hc, hcn, hcv⟩ := hg
  obtain ⟨cs, hcs⟩ : ∃ cs : List Value, cs = (List.range n).map f := ⟨_, rfl⟩
  have hl : cs.length = n := by rw [hcs]; simp
  have hm : Nat.min n L = n := Nat.min_eq_left hL
  have hsrc' : ∀ j v, cs[j]? = some v → w.cell? (ad.add j) = some v := by
    intro j v hj
    have hjn : j < n := by
      obtain ⟨hlt, _⟩ := List.getElem?_eq_some_iff.1 hj
      omega
    rw [hcs, List.getElem?_map, List.getElem?_range hjn] at hj
    simp at hj
    subst hj
    exact hsrc j hjn
  have hk := run_copy_row (P := P) w dT sT ty elem d o L dCap ad n sCap c t cs hu hsz hc (by rw [hl]; exact hm.symm) hsrc' (by rw [hl, hcn]; omega) (by
    intro v hv
    rw [hcs, List.mem_map] at hv
    obtain ⟨k, hkr, rfl⟩ := hv
    exact h1 k (List.mem_range.1 hkr))
  rw [hl] at hk
  refine ⟨_, hk, ⟨_, setRow_heap w d _ _ t _ hc, by simp [hl, hcn]; omega, fun i hi => ?_⟩, ⟨rfl, rfl, rfl, by simp [World.setRow], fun k hk hne => setRow_other w d k _ (fun e => hne (by rw [e]))⟩⟩
  have hci := hcv i hi
  have hcl : c.toList.length = M := by simp [hcn]
  have hci' : c.toList[i]? = some (f0 i) := by simpa using hci
  rw [List.getElem?_toArray]
  show _ = some (if o ≤ i ∧ i < o + n then f (i - o) else f0 i)
  by_cases h1 : i < o
  · rw [if_neg (by omega), List.append_assoc, List.getElem?_append_left (by simp; omega), List.getElem?_take_of_lt h1]
    exact hci'
  · by_cases h2 : i < o + n
    · rw [if_pos (by omega), List.append_assoc, List.getElem?_append_right (by simp; omega), List.getElem?_append_left (by simp [hl, hcn]; omega)]
      have e : i - (List.take o c.toList).length = i - o := by simp [hcn]; omega
      rw [e, hcs, List.getElem?_map, List.getElem?_range (by omega)]
      rfl
    · rw [if_neg (by omega), List.getElem?_append_right (by simp [hl, hcn]; omega), List.getElem?_drop]
      have e : o + n + (i - (List.take o c.toList ++ cs).length) = i := by simp [hl, hcn]; omega
      rw [e]
      exact hci'
end Go.Proofs.YthjiiljglgmkpaaGreatDoor
namespace Go.Proofs.YthjiiljglgmkpaaGreatDoor
open Go.RowKit
set_option linter.unusedVariables false
set_option linter.unusedSimpArgs false
set_option maxRecDepth 100000
attribute [local go_sem] Oper.semAt_some

theorem underbS' : Tryz.prog.underlying 112 = some (.slice 4) := by kernel_rfl
theorem infob' : (Tryz.prog.info? 4).map (fun i => (i.zero, i.size, i.bytes)) = some (some (.bool false), 1, 1) := by kernel_rfl
/-- Does a state live? -/
def lvB (n : Nat) : Bool := decide (n ≠ 0)
set_option maxHeartbeats 1000000 in
theorem framed_b {k t z : Int} {C R : Nat} (G : Gr k t z C R) (g : Nat → Nat) (bf : Nat) (M : World → Prop) (w : World) (hM0 : M w) (hM : ∀ X Y q, M X → X.grownBy Y q → (∀ i, q = some i → w.heap.size ≤ i) → M Y)
    (hL : ∀ y, y < R → ∀ X, M X → Calls Tryz.prog 59 #[.int .i64 (y : Nat), .pointer (some ⟨bf, 0, none⟩)] X fun e Y => ∃ d, e = .returned (.slice (some ⟨d, 0, none⟩) C C) ∧ Y.rowIs d 4 C (fun x => .bool (lvB (g (y * C + x)))) ∧ X.heap.size ≤ d ∧ X.grownBy Y none) :
    Calls Tryz.prog 58 #[.agg #[.int .u8 k, .int .i64 (C : Nat), .int .i64 (R : Nat), .int .u8 t, .int .i64 z], .func (.func 59) #[] #[.pointer (some ⟨bf, 0, none⟩)]] w fun e w' => ∃ d, e = .returned (.slice (some ⟨d, 0, none⟩) ((C + 2) * (R + 2)) ((C + 2) * (R + 2))) ∧ w'.rowIs d 4 ((C + 2) * (R + 2)) (fun i => .bool (lvB (frV k t z C R g i))) ∧ w.heap.size ≤ d ∧ w.grownBy w' none := by
  have c1 := G.c1
  have r1 := G.r1
  have hnb : (C + 2) * (R + 2) ≤ 65538 * 65538 := Nat.mul_le_mul (by omega) (by omega)
  have hnz : ((C : Int) + 2) * ((R : Int) + 2) = (((C + 2) * (R + 2) : Nat) : Int) := by rw [Int.natCast_mul]; rfl
  obtain ⟨n, hn⟩ : ∃ n, (C + 2) * (R + 2) = n := ⟨_, rfl⟩
  rw [hn] at hnb hnz ⊢
  have hnw : IntKind.i64.wrap (((C : Int) + 2) * ((R : Int) + 2)) = (n : Int) := by rw [hnz, IntKind.wrap_i64]; omega
  have hmk := run_make_row' (P := Tryz.prog) 112 4 (.bool false) 1 underbS' infob' rfl .i64 .i64 n (by omega) (by omega)
  obtain ⟨W1, hW1, sz1, g1, B1⟩ := boxn w #[.int .u8 k, .int .i64 (C : Nat), .int .i64 (R : Nat), .int .u8 t, .int .i64 z] 30
  have b1_0 := B1.cell 0 (v := .int .u8 k) rfl
  have b1_1 := B1.cell 1 (v := .int .i64 (C : Nat)) rfl
  have b1_2 := B1.cell 2 (v := .int .i64 (R : Nat)) rfl
  have b1_3 := B1.cell 3 (v := .int .u8 t) rfl
  have b1_4 := B1.cell 4 (v := .int .i64 z) rfl
  obtain ⟨W2, hW2, sz2, g2, B2⟩ := boxn W1 (madeCells #[.bool false] n) 4
  have hr2 := World.rowIs_made W1 (.bool false) n 4
  rw [hW2] at hr2
  obtain ⟨W3, hW3, sz3, g3, B3⟩ := boxn W2 #[.slice (some ⟨W1.heap.size, 0, none⟩) n n] 112
  have T3 := (B1.kept g2 (by simp)).kept g3 (by simp)
  have hr3 := rowIs_kept hr2 g3 (by simp)
  have b3_1 := T3.cell 1 (v := .int .i64 (C : Nat)) rfl
  have b3_2 := T3.cell 2 (v := .int .i64 (R : Nat)) rfl
  have G3 := gb_trans g1 (gb_trans g2 g3)
  refine (callsIn_wide (n := 3)).1 ?_
  refine callsIn_of_wp_marks Tryz.func58 rfl trivial ?_ rfl
  simp only [Tryz.ntmps58, List.size_toArray, List.length_cons, List.length_nil, Nat.reduceAdd, Nat.reduceSub, Array.replicate_succ, Array.replicate_zero, List.push_toArray, List.append_toArray, List.nil_append, List.cons_append]
  gi_wp2
  have apart1 : w.heap.size ≠ W1.heap.size := by have := sz1.out; omega
  have apart2 : W2.heap.size ≠ W1.heap.size := by have := sz2.out; omega
  have le1 : w.heap.size ≤ W1.heap.size := g1.size
  gi_loopw [22] (fun i wr => ∃ y : Nat, y ≤ R ∧ i = .int .i64 (y : Nat) ∧ wr.rowIs W1.heap.size 4 n (fun i => .bool (lvB (frL C R g y i))) ∧ W3.grownBy wr (some W1.heap.size)) (fun i _ => R - (intOf i).toNat)
  case atStart => exact ⟨0, Nat.zero_le _, rfl, hr3.congr fun i _ => by rw [frL_zero]; rfl, World.grownBy.refl _ _⟩
  case round =>
    obtain ⟨y, hy, rfl, hrow, gw⟩ := hrel
    have Tr := T3.kept gw (by simpa using apart1)
    have Fr := B3.kept gw (by simpa using apart2)
    have t1 := Tr.cell 1 (v := .int .i64 (C : Nat)) rfl
    have t2 := Tr.cell 2 (v := .int .i64 (R : Nat)) rfl
    have f0 := Fr.cell 0 (v := .slice (some ⟨W1.heap.size, 0, none⟩) n n) rfl
    have Gw := gb_past G3 gw le1
    have Mw := hM _ _ _ hM0 Gw (fun i e => by cases e)
    by_cases hlt : y < R
    · have hi1 : (y : Int) < (R : Int) := by omega
      have hix := ix_lt (C := C) (R := R) (u := 0) (v := y) (by omega) (by omega)
      rw [hn] at hix
      have hxC : ixN C 0 y + C ≤ n := by
        have := ix_lt (C := C) (R := R) (u := C) (v := y) (by omega) (by omega)
        have e1 := ix_int (C := C) (u := C) (v := y) (by omega) (by omega)
        have e2 := ix_int (C := C) (u := 0) (v := y) (by omega) (by omega)
        omega
      have hcp := fun d (Y : World) (hd : Y.rowIs d 4 C (fun x => .bool (lvB (g (y * C + x))))) (hf : Y.rowIs W1.heap.size 4 n (fun i => .bool (lvB (frL C R g y i)))) => run_copy_over (P := Tryz.prog) Y 112 112 3 4 underbS' (by kernel_rfl) ⟨d, 0, none⟩ C (n - ixN C 0 y) (ixN C 0 y) n (n - ixN C 0 y) C 4 W1.heap.size _ (fun x => .bool (lvB (g (y * C + x)))) (fun _ _ => rfl) hf hxC (by omega) G.c0 (fun j hj => by rw [add_mid, Nat.zero_add]; exact hd.cell hj)
      have hst := frL_step C R g hlt
      obtain ⟨ix, hixe⟩ : ∃ ix, ixN C 0 y = ix := ⟨_, rfl⟩
      have hidx := fun w => indexC C 0 y c1 (by omega) (by omega) w
      rw [hixe] at hix hxC hcp hst hidx
      have hq1 : (0 : Int) ≤ (ix : Int) := by omega
      have hq2 : (ix : Int) ≤ (n : Int) := by omega
      have Md : M wr.drew := hM wr wr.drew none Mw (gb_drew (World.grownBy.refl wr none)) (fun i e => by cases e)
      have hLy := hL y hlt wr.drew Md
      have Trd := Tr.dr
      have Frd := Fr.dr
      have hrd : wr.drew.rowIs W1.heap.size 4 n (fun i => .bool (lvB (frL C R g y i))) := hrow
      gi_wp2
      refine wpIn_wide.2 (Code.wp_mono noP_le ?_)
      go_region_held2 (fun w' => w'.cell? ⟨w.heap.size, 1, none⟩ = some (.int .i64 (C : Nat)) ∧ w'.cell? ⟨W2.heap.size, 0, none⟩ = some (.slice (some ⟨W1.heap.size, 0, none⟩) n n)) (go_keep) (first | (go_at_call 83; refine (hidx _).mono ?_; rintro e w' ⟨rfl, hw'⟩; subst w') | (go_at_call 59; refine hLy.mono ?_; rintro e V1 ⟨d, rfl, hd, ld, gV⟩; have v1 := (Trd.kept gV (by simp)).cell 1 (v := .int .i64 (C : Nat)) rfl; have v0 := (Frd.kept gV (by simp)).cell 0 (v := .slice (some ⟨W1.heap.size, 0, none⟩) n n) rfl; have rV : V1.rowIs W1.heap.size 4 n (fun i => .bool (lvB (frL C R g y i))) := rowIs_kept hrd gV (by simp); obtain ⟨w2, e2, r2, gg2⟩ := hcp d V1 hd rV; have x1 := ((Trd.kept gV (by simp)).kept gg2 (by simpa using apart1)).cell 1 (v := .int .i64 (C : Nat)) rfl; have x0 := ((Frd.kept gV (by simp)).kept gg2 (by simpa using apart2)).cell 0 (v := .slice (some ⟨W1.heap.size, 0, none⟩) n n) rfl))
      refine noP_normal ?_
      gi_wp2
      go_roundw
      case rel =>
        refine ⟨y + 1, by omega, by go_num, r2.congr fun i hi => ?_, ?_⟩
        · show (if ix ≤ i ∧ i < ix + C then (.bool (lvB (g (y * C + (i - ix)))) : Value) else (.bool (lvB (frL C R g y i)) : Value)) = _
          rw [hst i]
          split <;> rfl
        · exact gb_trans (gb_none gw (gb_trans (gb_drew (World.grownBy.refl wr none)) gV)) gg2
      case measure => simp [intOf]; omega
    · obtain rfl : y = R := by omega
      have q0 := Tr.cell 0 (v := .int .u8 k) rfl
      have q1 := Tr.cell 1 (v := .int .i64 (C : Nat)) rfl
      have q2 := Tr.cell 2 (v := .int .i64 (y : Nat)) rfl
      have q3 := Tr.cell 3 (v := .int .u8 t) rfl
      have q4 := Tr.cell 4 (v := .int .i64 z) rfl
      have hhm := fun w => Fd.homeE k C y t z G.t0 G.chk w
      gi_wp2_with (first | (refine ⟨trivial, ?_⟩; gi_at_call 84; refine (callsIn_wide.2 (hhm _)).mono ?_; rintro e V1 ⟨rfl, g4⟩; obtain ⟨V2, hV2, sz4, g5, B5⟩ := boxn V1 #[.int .i64 (To.fi C), .int .i64 (To.fi y), .int .i64 (C : Nat), .int .i64 (y : Nat)] 131; have g45 := gb_trans g4 g5; have T5 := Tr.kept g45 (by simp); have F5 := Fr.kept g45 (by simp); have r5 := rowIs_kept hrow g45 (by simp); have u1 := T5.cell 1 (v := .int .i64 (C : Nat)) rfl; have u2 := T5.cell 2 (v := .int .i64 (y : Nat)) rfl) | (refine ⟨trivial, ?_⟩; gi_at_call 85; refine (callsIn_wide.2 (edgesC C y V2)).mono ?_; rintro e V3 ⟨rfl, hV3⟩))
      have hB6 : Bo V3 V2.heap.size 3 #[.int .i64 (C : Nat)] := by rw [hV3]; exact (Bo.new V2 _ _).more _
      have hB7 : Bo V3 (V2.heap.size + 1) 3 #[.int .i64 (y : Nat)] := by
        rw [hV3]
        have h := Bo.new (V2.alloc (.cells #[.int .i64 (C : Nat)] 3)) 3 #[.int .i64 (y : Nat)]
        simpa using h
      have g6 : V2.grownBy V3 none := by rw [hV3]; exact gb_alloc (World.grownBy_alloc _ _ none) _
      have T6 := T5.kept g6 (by simp)
      have F6 := F5.kept g6 (by simp)
      have H6 := B5.kept g6 (by simp)
      have r6 := rowIs_kept r5 g6 (by simp)
      have G6 : w.grownBy V3 none := gb_trans Gw (gb_trans g45 g6)
      have l1 := T6.lt
      have l2 := F6.lt
      have l3 := H6.lt
      have l4 := hB6.lt
      have l5 := hB7.lt
      have l6 : W1.heap.size < V3.heap.size := by
        obtain ⟨c, hc, _⟩ := r6
        exact (Array.getElem?_eq_some_iff.1 hc).1
      have l7 : W1.heap.size < V1.heap.size := by
        obtain ⟨c, hc, _⟩ := rowIs_kept hrow g4 (by simp)
        exact (Array.getElem?_eq_some_iff.1 hc).1
      have l8 : V1.heap.size ≤ V2.heap.size := g5.size
      rw [← hV3]
      refine with_tmps ?_
      intro AR hAR
      refine rangeI (gf := 111) (lb := #[.pointer (some ⟨V2.heap.size, 0, none⟩), .pointer (some ⟨V2.heap.size + 1, 0, none⟩)]) (by subst hAR; rfl) (enters_of Tryz.func111 (by kernel_rfl) rfl) (fun _ => rfl) (fun i => i = V2.heap.size ∨ i = V2.heap.size + 1) (fun i hi => by rcases hi with rfl | rfl <;> omega)
        (edges_seq (3 - 1) V2.heap.size (V2.heap.size + 1) _ C y c1 r1 (.inl rfl) (.inr rfl) V3 hB6 hB7)
        (fun pre W => W.rowIs W1.heap.size 4 n (fun i => .bool (lvB (frP k t z C y g pre i))) ∧ Bo W w.heap.size 30 #[.int .u8 k, .int .i64 (C : Nat), .int .i64 (y : Nat), .int .u8 t, .int .i64 z] ∧ Bo W W2.heap.size 112 #[.slice (some ⟨W1.heap.size, 0, none⟩) n n] ∧ Bo W V1.heap.size 131 #[.int .i64 (To.fi C), .int .i64 (To.fi y), .int .i64 (C : Nat), .int .i64 (y : Nat)] ∧ w.grownBy W none)
        (fun _ _ _ => False)
        (fun pre X Y q hs hg hr => ⟨rowIs_kept hs.1 hg (fun e => by have := hr _ e.symm; omega), hs.2.1.kept hg (fun e => by have := hr _ e.symm; omega), hs.2.2.1.kept hg (fun e => by have := hr _ e.symm; omega), hs.2.2.2.1.kept hg (fun e => by have := hr _ e.symm; omega), gb_beyond hs.2.2.2.2 hg (fun i e => by have := hr i e; have := G6.size; omega)⟩)
        (fun _ _ _ _ _ hs _ _ => hs)
        ⟨r6.congr fun i _ => by rw [frL_all G], T6, F6, H6, G6⟩
        (fun x a' X => ∃ Bp, V3.heap.size + 1 < Bp ∧ Bo X Bp 135 #[.int .i64 x.1, .int .i64 x.2] ∧ a' = { tmps := (AR.setIfInBounds 46 (.agg #[.int .i64 x.1, .int .i64 x.2])).setIfInBounds 9 (.pointer (some ⟨Bp, 0, none⟩)), defers := [] })
        (fun x a' X Y h hg => by
          obtain ⟨Bp, h1, h2, h3⟩ := h
          exact ⟨Bp, h1, h2.kept hg (by simp; omega), h3⟩)
        ?assign ?body ?done ?stop
      case assign =>
        intro l pre x X K _ hX hK
        subst hAR
        simp only [encE]
        gi_wp2
        exact hK _ _ ⟨X.heap.size, by omega, Bo.new X _ _, rfl⟩ (World.grownBy_alloc _ _ none)
      case stop =>
        rintro D c pre X hD _ h _
        exact h.elim
      case done =>
        rintro D xs X hD rfl ⟨rX, TX, FX, HX, GX⟩ hK
        subst hAR
        have fx := FX.cell 0 (v := .slice (some ⟨W1.heap.size, 0, none⟩) n n) rfl
        gi_wp2
        refine ⟨by simp, .inl ⟨_, _, rfl, run_takeDeferred hK, ?_⟩⟩
        have g9 := grownBy_putObj' X D (.deferred none)
        refine ⟨_, results_tmp rfl _ _ _, W1.heap.size, rfl, (rowIs_kept rX (grownBy_putObj' _ D _) (by simp; omega)).congr (fun i hi => by rw [frP_all k t z C y g i (by rw [hn]; exact hi)]), le1, gb_past GX (grownBy_putObj' _ D _) (by omega)⟩
      case body =>
        rintro l pre ⟨pu, pv⟩ a' X ⟨rX, TX, FX, HX, GX⟩ ⟨Bp, hBp, bP, rfl⟩ hpre
        subst hAR
        have hmem := hpre.mem
        have hbd := (rgL_mem.1 hmem).1
        dsimp only at hbd bP
        have tx0 := TX.cell 0 (v := .int .u8 k) rfl
        have tx1 := TX.cell 1 (v := .int .i64 (C : Nat)) rfl
        have tx2 := TX.cell 2 (v := .int .i64 (y : Nat)) rfl
        have tx3 := TX.cell 3 (v := .int .u8 t) rfl
        have tx4 := TX.cell 4 (v := .int .i64 z) rfl
        have hx0 := HX.cell 0 (v := .int .i64 (To.fi C)) rfl
        have hx1 := HX.cell 1 (v := .int .i64 (To.fi y)) rfl
        have hx2 := HX.cell 2 (v := .int .i64 (C : Nat)) rfl
        have hx3 := HX.cell 3 (v := .int .i64 (y : Nat)) rfl
        have fx := FX.cell 0 (v := .slice (some ⟨W1.heap.size, 0, none⟩) n n) rfl
        have bp0 := bP.cell 0 (v := .int .i64 pu) rfl
        have bp1 := bP.cell 1 (v := .int .i64 pv) rfl
        have hco := fun w => cellOfC G pu pv (by omega) (by omega) w
        cases hfc : fcB k t z C y pu pv with
        | false =>
          rw [hfc] at hco
          have hno := frP_no (g := g) (pre := pre) hmem hfc
          gi_wp2_with (first | (refine ⟨trivial, ?_⟩; gi_at_call 86; refine (CallsIn.inRound l (callsIn_wide.2 (hco _))).mono ?_; rintro e X1 ⟨⟨qa, qb, rfl, _⟩, gX⟩))
          have g7 : X.grownBy (X1.alloc (.cells #[.int .i64 qa, .int .i64 qb] 135)) none := gb_alloc gX _
          exact ⟨Kh.of g7 (fun i e => by cases e), (rowIs_kept rX g7 (by simp)).congr (fun i _ => by rw [hno]), TX.kept g7 (by simp), FX.kept g7 (by simp), HX.kept g7 (by simp), gb_trans GX g7⟩
        | true =>
          rw [hfc] at hco
          have hfb := fc_bd G (u := pu) (v := pv) (by omega) (by omega)
          have hyes := frP_yes (g := g) (pre := pre) hmem hfc
          have hcl := frP_cell G g pre hfb.1 hfb.2.1
          have hi1 := ix_lt (C := C) (R := y) (u := pu) (v := pv) (by omega) (by omega)
          have hi2 := ix_lt (C := C) (R := y) (u := (fcX k t z C y pu pv : Nat)) (v := (fcY k t z C y pu pv : Nat)) (by omega) (by omega)
          have hx1 := fun w => indexC C pu pv c1 (by omega) (by omega) w
          have hx2 := fun w => indexC C (fcX k t z C y pu pv : Nat) (fcY k t z C y pu pv : Nat) c1 (by omega) (by omega) w
          rw [hn] at hi1 hi2
          dsimp only at hyes
          obtain ⟨Px, hPx⟩ : ∃ v, fcX k t z C y pu pv = v := ⟨_, rfl⟩
          obtain ⟨Py, hPy⟩ : ∃ v, fcY k t z C y pu pv = v := ⟨_, rfl⟩
          rw [hPx, hPy] at hco hyes hcl hi2 hx2
          obtain ⟨ia, hia⟩ : ∃ v, ixN C pu pv = v := ⟨_, rfl⟩
          obtain ⟨ib, hib⟩ : ∃ v, ixN C (Px : Nat) (Py : Nat) = v := ⟨_, rfl⟩
          rw [hia] at hi1 hx1 hyes
          rw [hib] at hi2 hx2 hcl
          clear hfb hPx hPy hia hib
          gi_wp2_with (first | (refine ⟨trivial, ?_⟩; gi_at_call 86; refine (CallsIn.inRound l (callsIn_wide.2 (hco _))).mono ?_; rintro e X1 ⟨⟨qa, qb, rfl, hq⟩, gX⟩; obtain ⟨rfl, rfl⟩ := hq rfl; obtain ⟨X2, hX2, szX, gX2, BX⟩ := boxn X1 #[.int .i64 (Px : Nat), .int .i64 (Py : Nat)] 135))
          have g7 := gb_trans gX gX2
          have r7 := rowIs_kept rX g7 (by simp)
          have T7 := TX.kept g7 (by simp)
          have F7 := FX.kept g7 (by simp)
          have H7 := HX.kept g7 (by simp)
          have P7 := bP.kept g7 (by simp)
          have tx7 := T7.cell 1 (v := .int .i64 (C : Nat)) rfl
          have fx7 := F7.cell 0 (v := .slice (some ⟨W1.heap.size, 0, none⟩) n n) rfl
          have bp70 := P7.cell 0 (v := .int .i64 pu) rfl
          have bp71 := P7.cell 1 (v := .int .i64 pv) rfl
          have bx0 := BX.cell 0 (v := .int .i64 (Px : Nat)) rfl
          have bx1 := BX.cell 1 (v := .int .i64 (Py : Nat)) rfl
          have rc : X2.cell? ⟨W1.heap.size, ib, none⟩ = some (.bool (lvB (g (Py * C + Px)))) := by rw [← hcl]; exact r7.cell hi2
          have ra := r7.cell hi1
          have rf : X2.frozen? ⟨W1.heap.size, ia, none⟩ = false := by
            obtain ⟨c, hc, _⟩ := r7
            simp [World.frozen?, hc]
          have q1 : (ia : Int) < (n : Int) := by omega
          have q2 : (ib : Int) < (n : Int) := by omega
          refine tail_in 19 To.mixed (by decide) (by kernel_rfl) ?_
          simp only [List.take_succ_cons, List.take_zero, List.drop_succ_cons, List.drop_zero]
          repeat still_step
          still_call (hx1 _)
          repeat still_step
          still_call (hx2 _)
          repeat still_step
          refine wpStill_nil ?_
          go_wp2
          refine noO_normal ?_
          have g8 : X.grownBy (X2.drew.setCell ⟨W1.heap.size, ia, none⟩ (.bool (lvB (g (Py * C + Px))))) (some W1.heap.size) := gb_set (gb_none (World.grownBy.refl _ _) (gb_drew g7)) _ _
          refine ⟨Kh.of g8 (fun i e => by cases e; exact ⟨by rintro (h | h) <;> omega, l6⟩), (World.rowIs.set (w := X2.drew) r7 ia _).congr (fun i _ => ?_), TX.kept g8 (by simpa using apart1), FX.kept g8 (by simpa using apart2), HX.kept g8 (by simp; omega), gb_past GX g8 le1⟩
          show (if i = ia then (.bool (lvB (g (Py * C + Px))) : Value) else _) = _
          rw [hyes i]
          split <;> rfl
end Go.Proofs.YthjiiljglgmkpaaGreatDoor
