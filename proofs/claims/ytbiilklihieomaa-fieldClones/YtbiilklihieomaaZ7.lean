/- The outermost living cells of a row. -/
import Derived.Test.YtbiilklihieomaaZ6
namespace Go.Proofs.Ytbiilklihieomaa
open Go.RowKit Go.Shelf
set_option linter.unusedVariables false
set_option linter.unusedSimpArgs false
set_option maxRecDepth 100000
attribute [local go_sem] Oper.semAt_some

theorem then_false {c : Code} {F : Fence} {n : Nat} {P : Program} {K : Act → World → Prop} {Q : Exit → Act → World → Prop} {a : Act} {w : World} (h : c.wpIn F n P (Exit.then K (fun _ _ _ => False)) a w) : c.wpIn F n P (Exit.then K Q) a w := by
  refine wpIn_mono h ?_
  intro e a w he
  cases e <;> first | exact he | exact he.elim
theorem load_one {P : Program} {ty : TypeId} {w : World} {a : Addr} {v : Value} (h : (isAgg ty).run P w = .ok false w) (hc : w.cell? a = some v) : (loadVar ty a).run P w = .ok v w := by
  simp [loadVar, Sem.run_bind, h, hc]
theorem res_ccc {P : Program} {fn : Func} {tmps : Array Value} {w : World} {p q r : Tmp} {t u x : TypeId} (h : fn.results = #[.cell p t, .cell q u, .cell r x]) (ht : ∀ w, (isAgg t).run P w = .ok false w) (hu : ∀ w, (isAgg u).run P w = .ok false w) (hx : ∀ w, (isAgg x).run P w = .ok false w)
    {a b c : Addr} {va vb vc : Value} (hp : tmps.getD p undef = .pointer (some a)) (hq : tmps.getD q undef = .pointer (some b)) (hr : tmps.getD r undef = .pointer (some c)) (ha : w.cell? a = some va) (hb : w.cell? b = some vb) (hc : w.cell? c = some vc) :
    (results fn tmps).run P w = .ok (.tuple #[va, vb, vc]) w := by
  have hp' : tmps[p]?.getD undef = .pointer (some a) := by simpa using hp
  have hq' : tmps[q]?.getD undef = .pointer (some b) := by simpa using hq
  have hr' : tmps[r]?.getD undef = .pointer (some c) := by simpa using hr
  simp [results, h, hp', hq', hr', asAddr, load_one (ht w) ha, load_one (hu w) hb, load_one (hx w) hc]
theorem Sb.qlt {w : World} {s q C R S : Nat} {g : Nat → Nat} (h : Sb w s q C R S g) : q < w.heap.size := by
  obtain ⟨K, _, _, f0, ⟨c, hc, _⟩, _⟩ := h.cap
  exact (Array.getElem?_eq_some_iff.1 hc).1
set_option maxHeartbeats 2000000 in
theorem spanC (s q C R S : Nat) (g : Nat → Nat) (hz : Sz C R S) (y : Nat) (hy : y < R) (w : World) (h : Sb w s q C R S g) : Calls Try.prog 119 #[.pointer (some ⟨s, 0, none⟩), .int .i64 (y : Nat)] w fun e w' =>
    e = .returned (.tuple #[.int .i64 ((liv (fun x => g (y * C + x)) C).headD 0 : Nat), .int .i64 ((liv (fun x => g (y * C + x)) C).getLastD 0 : Nat), .bool (!(liv (fun x => g (y * C + x)) C).isEmpty)]) ∧ w.grownBy w' none := by
  have hs := h.slt
  have hq := h.qlt
  obtain ⟨W5, hW5⟩ : ∃ W5, (((((w.alloc (.cells #[.int .i64 0] 3)).alloc (.cells #[.int .i64 0] 3)).alloc (.cells #[.bool false] 4)).alloc (.cells #[.pointer (some ⟨s, 0, none⟩)] 108)).alloc (.cells #[.int .i64 (y : Nat)] 3)) = W5 := ⟨_, rfl⟩
  have G5 : w.grownBy W5 none := hW5 ▸ gb_alloc (gb_alloc (gb_alloc (gb_alloc (World.grownBy_alloc _ _ none) _) _) _) _
  have B1 : Bo W5 w.heap.size 3 #[.int .i64 0] := hW5 ▸ ((((Bo.new w _ _).more _).more _).more _).more _
  have B2 : Bo W5 (w.heap.size + 1) 3 #[.int .i64 0] := by
    have h := (((Bo.new (w.alloc (.cells #[.int .i64 0] 3)) 3 #[.int .i64 0]).more (.cells #[.bool false] 4)).more (.cells #[.pointer (some ⟨s, 0, none⟩)] 108)).more (.cells #[.int .i64 (y : Nat)] 3)
    rw [hW5] at h
    simpa using h
  have B3 : Bo W5 (w.heap.size + 1 + 1) 4 #[.bool false] := by
    have h := ((Bo.new ((w.alloc (.cells #[.int .i64 0] 3)).alloc (.cells #[.int .i64 0] 3)) 4 #[.bool false]).more (.cells #[.pointer (some ⟨s, 0, none⟩)] 108)).more (.cells #[.int .i64 (y : Nat)] 3)
    rw [hW5] at h
    simpa using h
  have B4 : Bo W5 (w.heap.size + 1 + 1 + 1) 108 #[.pointer (some ⟨s, 0, none⟩)] := by
    have h := (Bo.new (((w.alloc (.cells #[.int .i64 0] 3)).alloc (.cells #[.int .i64 0] 3)).alloc (.cells #[.bool false] 4)) 108 #[.pointer (some ⟨s, 0, none⟩)]).more (.cells #[.int .i64 (y : Nat)] 3)
    rw [hW5] at h
    simpa using h
  have B5 : Bo W5 (w.heap.size + 1 + 1 + 1 + 1) 3 #[.int .i64 (y : Nat)] := by
    have h := Bo.new ((((w.alloc (.cells #[.int .i64 0] 3)).alloc (.cells #[.int .i64 0] 3)).alloc (.cells #[.bool false] 4)).alloc (.cells #[.pointer (some ⟨s, 0, none⟩)] 108)) 3 #[.int .i64 (y : Nat)]
    rw [hW5] at h
    simpa using h
  have HW : Hid ((((((w.alloc (.cells #[.int .i64 0] 3)).alloc (.cells #[.int .i64 0] 3)).alloc (.cells #[.bool false] 4)).alloc (.cells #[.pointer (some ⟨s, 0, none⟩)] 108)).alloc (.cells #[.int .i64 (y : Nat)] 3)) = W5) := hW5
  clear hW5
  refine (callsIn_wide (n := 3)).1 ?_
  refine callsIn_of_wp_marks Try.func119 rfl trivial ?_ rfl
  simp only [Try.ntmps119, List.size_toArray, List.length_cons, List.length_nil, Nat.reduceAdd, Nat.reduceSub, Array.replicate_succ, Array.replicate_zero, List.push_toArray, List.append_toArray, List.nil_append, List.cons_append]
  gi_wp2_with (refine ⟨trivial, ?_⟩; gi_at_call 115; refine (callsIn_wide.2 (livingC s q C R S g hz y _)).mono ?_; rintro e V ⟨rfl, hV⟩)
  rw [HW.out]
  refine wpIn_rangeFunc_ownF rfl (by omega) (gf := 123) (lb := #[.pointer (some ⟨w.heap.size + 1 + 1 + 1, 0, none⟩), .pointer (some ⟨w.heap.size + 1 + 1 + 1 + 1, 0, none⟩)]) rfl trivial (enters_of Try.func123 (by kernel_rfl) rfl)
    (living_stops 2 (by omega) (w.heap.size + 1 + 1 + 1) (w.heap.size + 1 + 1 + 1 + 1) w.heap.size s q C R S g hz y hy hs hq W5 G5.size (B4.cell 0 rfl) (B5.cell 0 rfl) (h.kept G5)) belowK_t (belowK_b G5.size) (Below.refl _ _) (fun _ => rfl)
    (fun pre W => (Bo W w.heap.size 3 #[.int .i64 ((pre.map Fin.val).headD 0 : Nat)] ∧ Bo W (w.heap.size + 1) 3 #[.int .i64 ((pre.map Fin.val).getLastD 0 : Nat)] ∧ Bo W (w.heap.size + 1 + 1) 4 #[.bool (!pre.isEmpty)]) ∧ Below w.heap.size w W)
    (fun _ _ _ => False)
    (OwnFrom.and (Own.from (fun s A B row hs hg hr => ⟨bo_own hs.1 hg hr, bo_own hs.2.1 hg hr, bo_own hs.2.2 hg hr⟩) _) (ownFrom_below (Nat.le_refl _) G5.size))
    (fun _ _ _ _ _ hs _ _ => hs)
    ⟨⟨B1, B2, B3⟩, gb_below G5⟩
    (fun x => { tmps := #[.pointer (some ⟨s, 0, none⟩), .int .i64 (y : Nat), undef, undef, .pointer (some ⟨w.heap.size, 0, none⟩), .pointer (some ⟨w.heap.size + 1, 0, none⟩), .pointer (some ⟨w.heap.size + 1 + 1, 0, none⟩), .int .i64 (x.val : Int), .pointer (some ⟨s, 0, none⟩), .int .i64 (y : Nat), .func (.func 123) #[] #[.pointer (some ⟨w.heap.size + 1 + 1 + 1, 0, none⟩), .pointer (some ⟨w.heap.size + 1 + 1 + 1 + 1, 0, none⟩)], .int .i64 (x.val : Int), .int .u8 (g (y * C + x.val) : Nat), undef, undef, undef, undef, undef, undef, undef], defers := [] }) ?assign ?body ?done ?stop
  case assign =>
    intro l x W K hK
    gi_wp2
    exact hK
  case stop =>
    rintro D c pre W hD _ h _
    exact h.elim
  case body =>
    rintro l pre x W ⟨⟨b1, b2, b3⟩, hBel⟩ _
    have n1 : w.heap.size ≠ w.heap.size + 1 := by omega
    have n2 : w.heap.size ≠ w.heap.size + 1 + 1 := by omega
    have n3 : w.heap.size + 1 ≠ w.heap.size + 1 + 1 := by omega
    have KO : ∀ v1 v2 v3, KeepsOthers W (((W.setCell ⟨w.heap.size, 0, none⟩ v1).setCell ⟨w.heap.size + 1, 0, none⟩ v2).setCell ⟨w.heap.size + 1 + 1, 0, none⟩ v3) := fun v1 v2 v3 => ((KeepsOthers.setCell _ _ _).trans (KeepsOthers.setCell _ _ _)).trans (KeepsOthers.setCell _ _ _)
    have KO2 : ∀ v2 v3, KeepsOthers W ((W.setCell ⟨w.heap.size + 1, 0, none⟩ v2).setCell ⟨w.heap.size + 1 + 1, 0, none⟩ v3) := fun v2 v3 => (KeepsOthers.setCell _ _ _).trans (KeepsOthers.setCell _ _ _)
    have BE : ∀ v1 v2 v3, Below w.heap.size W (((W.setCell ⟨w.heap.size, 0, none⟩ v1).setCell ⟨w.heap.size + 1, 0, none⟩ v2).setCell ⟨w.heap.size + 1 + 1, 0, none⟩ v3) := fun v1 v2 v3 => (((Below.refl w.heap.size W).setCell (p := ⟨w.heap.size, 0, none⟩) (Nat.le_refl _) _).setCell (p := ⟨w.heap.size + 1, 0, none⟩) (Nat.le_succ _) _).setCell (p := ⟨w.heap.size + 1 + 1, 0, none⟩) (by show w.heap.size ≤ w.heap.size + 1 + 1; omega) _
    have BE2 : ∀ v2 v3, Below w.heap.size W ((W.setCell ⟨w.heap.size + 1, 0, none⟩ v2).setCell ⟨w.heap.size + 1 + 1, 0, none⟩ v3) := fun v2 v3 => ((Below.refl w.heap.size W).setCell (p := ⟨w.heap.size + 1, 0, none⟩) (Nat.le_succ _) _).setCell (p := ⟨w.heap.size + 1 + 1, 0, none⟩) (by show w.heap.size ≤ w.heap.size + 1 + 1; omega) _
    cases pre with
    | nil =>
      have c1 := b1.cell 0 (v := .int .i64 0) rfl
      have c2 := b2.cell 0 (v := .int .i64 0) rfl
      have c3 := b3.cell 0 (v := .bool false) rfl
      have f1 := b1.frozen 0
      have f2 := b2.frozen 0
      have f3 := b3.frozen 0
      gi_wp2
      exact ⟨KO _ _ _, BE _ _ _, ⟨((b1.set 0 _).set2 n1.symm).set2 n2.symm, ((b2.set2 n1).set 0 _).set2 n3.symm, ((b3.set2 n2).set2 n3).set 0 _⟩, hBel.trans (BE _ _ _)⟩
    | cons a pre =>
      obtain ⟨L, hL⟩ : ∃ L, ((((a :: pre).map Fin.val).getLastD 0 : Nat) : Int) = L := ⟨_, rfl⟩
      have c2 := b2.cell 0 (v := .int .i64 (((a :: pre).map Fin.val).getLastD 0 : Nat)) rfl
      rw [hL] at c2
      have c3 := b3.cell 0 (v := .bool true) rfl
      have f2 := b2.frozen 0
      have f3 := b3.frozen 0
      gi_wp2
      refine ⟨KO2 _ _, BE2 _ _, ⟨?_, ?_, ?_⟩, hBel.trans (BE2 _ _)⟩
      · exact ((b1.set2 n1.symm).set2 n2.symm)
      · have := (b2.set 0 (.int .i64 (x.val : Int))).set2 (b := w.heap.size + 1 + 1) (i := 0) (v := .bool true) n3.symm
        have e : (((a :: pre) ++ [x]).map Fin.val).getLastD 0 = x.val := by rw [List.map_append, List.map_singleton, List.getLastD_concat]
        rw [e]
        exact this
      · exact (b3.set2 n3).set 0 _
  case done =>
    rintro D ys W hD hS ⟨⟨b1, b2, b3⟩, hBel⟩ hK
    rw [hS] at b1 b2
    have hem : (!ys.isEmpty) = !(liv (fun x => g (y * C + x)) C).isEmpty := by rw [← hS]; simp
    rw [hem] at b3
    obtain ⟨Fi, hFi⟩ : ∃ Fi : Nat, (liv (fun x => g (y * C + x)) C).headD 0 = Fi := ⟨_, rfl⟩
    obtain ⟨La, hLa⟩ : ∃ La : Nat, (liv (fun x => g (y * C + x)) C).getLastD 0 = La := ⟨_, rfl⟩
    obtain ⟨Bb, hBb⟩ : ∃ Bb : Bool, (!(liv (fun x => g (y * C + x)) C).isEmpty) = Bb := ⟨_, rfl⟩
    rw [hFi] at b1
    rw [hLa] at b2
    rw [hBb] at b3
    have HF : Hid ((liv (fun x => g (y * C + x)) C).headD 0 = Fi) := hFi
    have HL : Hid ((liv (fun x => g (y * C + x)) C).getLastD 0 = La) := hLa
    have HB : Hid ((!(liv (fun x => g (y * C + x)) C).isEmpty) = Bb) := hBb
    clear hFi hLa hBb hem hS
    have c1 := b1.cell 0 (v := .int .i64 (Fi : Nat)) rfl
    have c2 := b2.cell 0 (v := .int .i64 (La : Nat)) rfl
    have c3 := b3.cell 0 (v := .bool Bb) rfl
    have n1 : w.heap.size ≠ w.heap.size + 1 := by omega
    have n2 : w.heap.size ≠ w.heap.size + 1 + 1 := by omega
    have n3 : w.heap.size + 1 ≠ w.heap.size + 1 + 1 := by omega
    have hBD : w.heap.size + 1 + 1 + 1 + 1 < D := Nat.lt_of_lt_of_le B5.lt hD
    obtain ⟨WE, hWE⟩ : ∃ WE, (((W.setCell ⟨w.heap.size, 0, none⟩ (.int .i64 (Fi : Nat))).setCell ⟨w.heap.size + 1, 0, none⟩ (.int .i64 (La : Nat))).setCell ⟨w.heap.size + 1 + 1, 0, none⟩ (.bool Bb)).drew = WE := ⟨_, rfl⟩
    have KD : WE.heap[D]? = some (.deferred (some [])) := hWE ▸ (((KeepsOthers.setCell W ⟨w.heap.size, 0, none⟩ (.int .i64 (Fi : Nat))).trans (KeepsOthers.setCell _ ⟨w.heap.size + 1, 0, none⟩ (.int .i64 (La : Nat)))).trans (KeepsOthers.setCell _ ⟨w.heap.size + 1 + 1, 0, none⟩ (.bool Bb))).same D _ hK rfl
    have k1 : Bo WE w.heap.size 3 #[.int .i64 (Fi : Nat)] := hWE ▸ ((b1.set 0 _).set2 n1.symm).set2 n2.symm
    have k2 : Bo WE (w.heap.size + 1) 3 #[.int .i64 (La : Nat)] := hWE ▸ ((b2.set2 n1).set 0 _).set2 n3.symm
    have k3 : Bo WE (w.heap.size + 1 + 1) 4 #[.bool Bb] := hWE ▸ ((b3.set2 n2).set2 n3).set 0 _
    have kb : Below w.heap.size w WE := hWE ▸ (((hBel.setCell (p := ⟨w.heap.size, 0, none⟩) (Nat.le_refl _) _).setCell (p := ⟨w.heap.size + 1, 0, none⟩) (Nat.le_succ _) _).setCell (p := ⟨w.heap.size + 1 + 1, 0, none⟩) (by show w.heap.size ≤ w.heap.size + 1 + 1; omega) _).drew
    have HWE : Hid ((((W.setCell ⟨w.heap.size, 0, none⟩ (.int .i64 (Fi : Nat))).setCell ⟨w.heap.size + 1, 0, none⟩ (.int .i64 (La : Nat))).setCell ⟨w.heap.size + 1 + 1, 0, none⟩ (.bool Bb)).drew = WE) := hWE
    clear hWE
    have e1 := (k1.kept (grownBy_putObj' _ D (.deferred none)) (by simp; omega)).cell 0 (v := .int .i64 (Fi : Nat)) rfl
    have e2 := (k2.kept (grownBy_putObj' _ D (.deferred none)) (by simp; omega)).cell 0 (v := .int .i64 (La : Nat)) rfl
    have e3 := (k3.kept (grownBy_putObj' _ D (.deferred none)) (by simp; omega)).cell 0 (v := .bool Bb) rfl
    have eb := kb.trans (belowK_b (w := w) (Nat.le_refl _) WE D _ (.deferred none) (Nat.le_trans G5.size hD) KD rfl rfl)
    have eg : Hid (w.grownBy (WE.putObj D (.deferred none)) none) := ⟨eb.os, eb.tape, eb.output, eb.size, fun k hk _ => eb.block k hk⟩
    clear eb kb k1 k2 k3 hBD
    have f1 := b1.frozen 0
    have f2 := b2.frozen 0
    have f3 := b3.frozen 0
    gi_wp2
    refine then_false ?_
    gi_region_with (fail)
    all_goals gi_wp2
    all_goals rw [HWE.out]
    all_goals refine ⟨by simp, .inl ⟨_, _, rfl, run_takeDeferred KD, ?_⟩⟩
    all_goals refine ⟨_, res_ccc (p := 4) (q := 5) (r := 6) (t := 3) (u := 3) (x := 4) rfl (fun _ => by kernel_rfl) (fun _ => by kernel_rfl) (fun _ => by kernel_rfl) rfl rfl rfl e1 e2 e3, ?_⟩
    all_goals exact ⟨by rw [HF.out, HL.out, HB.out], eg.out⟩
end Go.Proofs.Ytbiilklihieomaa
