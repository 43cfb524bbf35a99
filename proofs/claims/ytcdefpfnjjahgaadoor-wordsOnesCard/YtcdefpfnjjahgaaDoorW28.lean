/- What Turned of package words answers. -/
import Derived.Test.YtcdefpfnjjahgaaDoorW27
import Derived.Test.YtcdefpfnjjahgaaDoorW6
namespace Go.Proofs.YtcdefpfnjjahgaaDoor
open Go.RowKit Go.Shelf
set_option linter.unusedVariables false
attribute [local go_sem] Oper.semAt_some

set_option maxHeartbeats 1000000 in
theorem places_in (n : Nat) (sp : Option Addr) (len cap : Nat) (w : World) :
    CallsIn Fence.wide n Tryd.prog 31 #[.slice sp len cap] w fun e w' => e = .returned (.func (.func 42) #[] #[.pointer (some ⟨w.heap.size, 0, none⟩)]) ∧ w' = w.alloc (.cells #[.slice sp len cap] 22) := by
  refine callsIn_of_wp Tryd.func31 rfl trivial ?_ rfl
  simp only [Tryd.ntmps31, List.size_toArray, List.length_cons, List.length_nil, Nat.reduceAdd, Nat.reduceSub, Array.replicate_succ, Array.replicate_zero, List.push_toArray, List.append_toArray, List.nil_append, List.cons_append]
  gi_wp2
  go_ret
  exact ⟨rfl, rfl⟩

theorem places_stops (n : Nat) (hn : 1 ≤ n) (Bs n₀ len cap m : Nat) (sp : Option Addr) (p : Nat → Bool) (hreach : len ≤ 1025) (hG : 0 < n₀) (hsp : ∀ a, sp = some a → len ≠ 0 → a.block < n₀) (hm : ∀ j, j < 64 * len → p j = true → j < m) (w : World) (hn₀ : n₀ ≤ w.heap.size)
    (hBs : w.cell? ⟨Bs, 0, none⟩ = some (.slice sp len cap)) (hc : Wd w sp len (Pk.pack p)) (hT : Tab64 w) :
    SeqStopsK Fence.wide n Tryd.prog 42 #[.pointer (some ⟨Bs, 0, none⟩)] (fun x : Fin m => #[Value.int .i64 (x.val : Int)]) (Below n₀) (fun ys => ys.map Fin.val = come p (64 * len)) (fun pre => ∃ s, s ≤ 64 * len ∧ pre.map Fin.val = come p s) (64 * len) w := fun l J Jx W hW _ _ hY h0 => by
  have hb := cell_lt hBs
  exact places1_in n hn l Bs n₀ len cap m sp p hreach hG hsp hm J Jx hY W ((hW.cell (p := ⟨Bs, 0, none⟩) hb).trans hBs) (hc.below (hW.mono hn₀) hsp) (hT.below (hW.mono hn₀) hG) h0

/-- The row from its other end. -/
def turnQ (m : Nat) (p : Nat → Bool) (j : Nat) : Bool := decide (j < m) && p (m - 1 - j)

theorem gb_of_below {w w' : World} (h : Below w.heap.size w w') : w.grownBy w' none := ⟨h.os, h.tape, h.output, h.size, fun k hk _ => h.block k hk⟩

theorem bx_own {W W' : World} {row : Option Nat} {g : Nat} {t : TypeId} {x y : Value} (h : Bx W g t x y) (hg : W.grownBy W' row) (hr : ∀ r, row = some r → ∃ o : Obj, W.heap[r]? = some o ∧ o.isCells = false) : Bx W' g t x y :=
  h.kept hg (fun e => by
    obtain ⟨o, ho, hc⟩ := hr g e.symm
    rw [show W.heap[g]? = _ from h] at ho; cases ho; cases hc)
theorem row_own {W W' : World} {row : Option Nat} {b n : Nat} {t : TypeId} {p : Nat → Bool} (h : Row W t b n p) (hg : W.grownBy W' row) (hr : ∀ r, row = some r → ∃ o : Obj, W.heap[r]? = some o ∧ o.isCells = false) : Row W' t b n p :=
  h.kept hg (fun e => by
    obtain ⟨o, ho, hc⟩ := hr b e.symm
    obtain ⟨c, hb, _⟩ := h
    rw [hb] at ho; cases ho; cases hc)
theorem row_cells {W : World} {b n : Nat} {t : TypeId} {p : Nat → Bool} (h : Row W t b n p) (j : Nat) (o : Obj) (e : some b = some j) (ho : W.heap[j]? = some o) : o.isCells = true := by
  cases e
  obtain ⟨c, hb, _⟩ := h
  rw [hb] at ho; cases ho; rfl
theorem res_box2 {P : Program} {fn : Func} {tmps : Array Value} {w : World} {p u : Tmp} {ty : TypeId} (h : fn.results = #[.cell p ty, .tmp u]) {g : Nat} {t : TypeId} {x y : Value} {fs : Array Field}
    (hu : P.underlying ty = some (.struct fs)) (hi : (P.info? ty).map (·.size) = some 2) (hp : tmps.getD p undef = .pointer (some ⟨g, 0, none⟩)) (hg : Bx w g t x y) :
    (results fn tmps).run P w = .ok (.tuple #[.agg #[x, y], tmps.getD u undef]) w := by
  have hp' : tmps[p]?.getD undef = .pointer (some ⟨g, 0, none⟩) := by simpa using hp
  simp [results, h, hp', asAddr, run_loadVar_row w g t ty #[x, y] (0, 0) (.struct fs) hg hu rfl hi]

set_option maxRecDepth 100000 in
set_option maxHeartbeats 2000000 in
/-- **Turned of a row that may be.** -/
theorem turnedC (m n cap : Nat) (sp : Option Addr) (p : Nat → Bool) (M : MayBe m n p) (w : World) (hc : Wd w sp n (Pk.pack p)) (hT : Tab64 w) :
    Calls Tryd.prog 25 #[.agg #[.int .i64 m, .slice sp n cap]] w fun e w' => ∃ b, e = .returned (.tuple #[.agg #[.int .i64 m, .slice (some ⟨b, 0, none⟩) n n], .int .i64 0]) ∧ Row w' 52 b n (turnQ m p) ∧ w.grownBy w' none ∧ w.heap.size ≤ b := by
  obtain ⟨W1, hW, c0, c1, sz, hg1, hB⟩ := box2 w (.int .i64 m) (.slice sp n cap) 24
  obtain ⟨W2, hW2, d0, d1, sz2, hg2, hD⟩ := box2 W1 (.int .i64 0) (.slice none 0 0) 24
  have hc2 := (hc.kept hg1 (by simp)).kept hg2 (by simp)
  have hB2 := hB.kept hg2 (by simp)
  have e0 := hB2.cell0
  have e1 := hB2.cell1
  have hnl := M.len
  have ml := M.le
  have hbl := blankC m ml
  rw [← M.words] at hbl
  have mw : Hid (n = (m + 63) / 64) := M.words
  refine (callsIn_wide (n := 3)).1 ?_
  refine callsIn_of_wp_marks Tryd.func25 rfl trivial ?_ rfl
  simp only [Tryd.ntmps25, List.size_toArray, List.length_cons, List.length_nil, Nat.reduceAdd, Nat.reduceSub, Array.replicate_succ, Array.replicate_zero, List.push_toArray, List.append_toArray, List.nil_append, List.cons_append]
  gi_wp2_with (first | (refine ⟨trivial, ?_⟩; gi_at_call 28; refine (callsIn_wide.2 (validP m n cap sp p M W2 hc2)).mono ?_; rintro e w3 ⟨rfl, g3⟩; have hB3 := hB2.kept g3 (by simp); have x0 := hB3.cell0; have x1 := hB3.cell1; have hc3 := hc2.kept g3 (by simp)) | (refine ⟨trivial, ?_⟩; gi_at_call 33; refine (callsIn_wide.2 (hbl w3)).mono ?_; rintro e w4 ⟨b, rfl, hr, g4, hlt, hlt2⟩; obtain ⟨W5, hW5, y0, y1, sz5, g5, hU⟩ := box2 w4 (.int .i64 m) (.slice (some ⟨b, 0, none⟩) n n) 24; have g45 := gb_trans g4 g5; have hB5 := hB3.kept g45 (by simp); have z0 := hB5.cell0; have z1 := hB5.cell1; have hD5 := (hD.kept g3 (by simp)).kept g45 (by simp)) | (refine ⟨trivial, ?_⟩; gi_at_call 31; refine (places_in _ _ _ _ _).mono ?_; rintro e w6 ⟨rfl, hw6⟩))
  have q1 : w.heap.size < W1.heap.size := by have := sz.out; omega
  have q2 : W1.heap.size < W2.heap.size := by have := sz2.out; omega
  have q3 := g3.size
  have q4 := hlt2.out
  have q5 := g4.size
  have q6 : w4.heap.size < W5.heap.size := by have := sz5.out; omega
  have hwb : w.heap.size ≤ b := by omega
  have g6 : W5.grownBy w6 none := by rw [hw6]; exact World.grownBy_alloc _ _ _
  have s6 : W5.heap.size < w6.heap.size := by rw [hw6]; simp
  have hBs : w6.cell? ⟨W5.heap.size, 0, none⟩ = some (.slice sp n cap) := by rw [hw6]; simp [World.cell?_alloc_at]
  rw [← hw6]
  have hG : w.grownBy w6 none := gb_trans hg1 (gb_trans hg2 (gb_trans g3 (gb_trans g45 g6)))
  have hB0 := gb_below hG
  have hsp : ∀ a, sp = some a → n ≠ 0 → a.block < w.heap.size := fun a ha h0 => by
    subst ha
    have := cell_lt (hc.at (k := 0) (by omega))
    have hb0 : (a.add 0).block = a.block := rfl
    rw [hb0] at this
    exact this
  have hT0 : 0 < w.heap.size := cell_lt (hT 0 (by decide))
  refine wpIn_rangeFunc_ownF rfl (by omega) (gf := 42) (lb := #[.pointer (some ⟨W5.heap.size, 0, none⟩)]) rfl trivial (enters_of Tryd.func42 (by kernel_rfl) rfl)
    (places_stops 2 (by omega) W5.heap.size w.heap.size n cap m sp p hnl hT0 hsp (fun j _ hp => by
      by_cases h : j < m
      · exact h
      · rw [M.tail j (by omega)] at hp; cases hp) w6 hG.size hBs (hc.kept hG (by simp)) (hT.below hB0 hT0)) belowK_t (belowK_b hG.size) (Below.refl _ _) (fun _ => rfl)
    (fun pre W => (Bx W w4.heap.size 24 (.int .i64 m) (.slice (some ⟨b, 0, none⟩) n n) ∧ Bx W w.heap.size 24 (.int .i64 m) (.slice sp n cap) ∧ Bx W W1.heap.size 24 (.int .i64 0) (.slice none 0 0) ∧ Row W 52 b n (fun j => pre.any fun i => j == m - 1 - i.val)) ∧ Below w.heap.size w W)
    (fun _ _ _ => False)
    (OwnFrom.and (Own.from (fun s A B row hs hg hr => ⟨bx_own hs.1 hg hr, bx_own hs.2.1 hg hr, bx_own hs.2.2.1 hg hr, row_own hs.2.2.2 hg hr⟩) _) (ownFrom_below (Nat.le_refl _) hG.size))
    (fun _ _ _ _ _ hs _ _ => hs)
    ⟨⟨hU.kept g6 (by simp), hB5.kept g6 (by simp), hD5.kept g6 (by simp), (hr.kept g5 (by simp)).kept g6 (by simp)⟩, hB0⟩
    (fun x => { tmps := #[.agg #[.int .i64 m, .slice sp n cap], .pointer (some ⟨w.heap.size, 0, none⟩), .pointer (some ⟨W1.heap.size, 0, none⟩), .int .i64 0, .pointer (some ⟨w4.heap.size, 0, none⟩), .int .i64 (x.val : Int), .agg #[.int .i64 m, .slice sp n cap], .bool true, .bool false, undef, .pointer (some ⟨w.heap.size, 0, none⟩), .int .i64 m, .agg #[.int .i64 m, .slice (some ⟨b, 0, none⟩) n n], .pointer (some ⟨w.heap.size, 1, none⟩), .slice sp n cap, .func (.func 42) #[] #[.pointer (some ⟨W5.heap.size, 0, none⟩)], .int .i64 (x.val : Int), undef, undef, undef, undef, undef, undef, undef, undef], defers := [] }) ?assign ?body ?done ?stop
  case assign =>
    intro l x W K hK
    gi_wp2
    exact hK
  case body =>
    rintro l pre x W ⟨⟨hUx, hBx, hDx, hRx⟩, hBel⟩ _
    have u0 := hUx.cell0
    have u1 := hUx.cell1
    have v0 := hBx.cell0
    have v1 := hBx.cell1
    obtain ⟨x, hxm⟩ := x
    have hs1 : IntKind.i64.wrap ((m : Int) - 1) = (m : Int) - 1 := by rw [IntKind.wrap_i64]; omega
    have hs2 : IntKind.i64.wrap ((m : Int) - 1 - (x : Int)) = ((m - 1 - x : Nat) : Int) := by rw [IntKind.wrap_i64]; omega
    have hl64 : m - 1 - x < 64 * n := by have := mw.out; omega
    have h12 : 1 ≤ 3 - 1 - 1 := by decide
    gi_wp2_with (refine ⟨trivial, ?_⟩; gi_at_call 34; refine (CallsIn.inRound l (callsIn_wide.2 (raiseC m (m - 1 - x) b n n _ hl64 hnl W hRx))).mono ?_; rintro e W7 ⟨rfl, hR7, g7⟩)
    exact ⟨KeepsOthers.of_grownBy g7 (row_cells hRx), (Below.refl _ W).grown g7 hBel.size (fun k e => by cases e; exact hwb), ⟨hUx.kept g7 (by simp; omega), hBx.kept g7 (by simp; omega), hDx.kept g7 (by simp; omega), hR7.congr fun j hj => by simp [List.any_append]⟩, hBel.grown g7 hBel.size (fun k e => by cases e; exact hwb)⟩
  case done =>
    rintro D ys W hD hS ⟨⟨hUx, hBx, hDx, hRx⟩, hBel⟩ hK
    have u0 := hUx.cell0
    have u1 := hUx.cell1
    have v0 := hDx.cell0
    have v1 := hDx.cell1
    have v2 := hDx.free0
    have v3 := hDx.free1
    have hK1 := (KeepsOthers.setCell W ⟨W1.heap.size, 0, none⟩ (.int .i64 m)).same D _ hK rfl
    have hK2 := (KeepsOthers.setCell _ ⟨W1.heap.size, 1, none⟩ (.slice (some ⟨b, 0, none⟩) n n)).same D _ hK1 rfl
    have hbD : b ≠ W1.heap.size := by omega
    gi_wp2
    refine ⟨by simp, .inl ⟨_, _, rfl, run_takeDeferred hK2, ?_⟩⟩
    obtain ⟨fs, hfs⟩ := underR
    refine ⟨_, res_box2 (g := W1.heap.size) (t := 24) rfl hfs infoR rfl ((hDx.set _ _).kept (grownBy_putObj' _ D _) (by simp; omega)), b, rfl, ?_, ?_, hwb⟩
    · refine Row.congr (Row.kept (World.rowIs.setOther (World.rowIs.setOther hRx hbD _) hbD _) (grownBy_putObj' _ D _) (by simp; omega)) fun j hj => ?_
      unfold turnQ
      rw [Bool.eq_iff_iff]
      simp only [List.any_eq_true, Bool.and_eq_true, decide_eq_true_eq, beq_iff_eq]
      constructor
      · rintro ⟨⟨i, him⟩, hi, hji⟩
        have : i ∈ come p (64 * n) := by rw [← hS]; exact List.mem_map.2 ⟨⟨i, him⟩, hi, rfl⟩
        have := (mem_come.1 this).2
        dsimp only at hji
        have e1 : m - 1 - j = i := by omega
        exact ⟨by omega, by rw [e1]; exact this⟩
      · rintro ⟨hjm, hpj⟩
        have : m - 1 - j ∈ come p (64 * n) := mem_come.2 ⟨by have := mw.out; omega, hpj⟩
        rw [← hS] at this
        obtain ⟨i, hi, hie⟩ := List.mem_map.1 this
        exact ⟨i, hi, by omega⟩
    · exact gb_past (gb_new (gb_new (gb_of_below hBel) (Nat.le_of_lt q1) _) (Nat.le_of_lt q1) _) (grownBy_putObj' _ D _) (Nat.le_trans hG.size hD)
  case stop =>
    rintro D c pre W _ _ h _
    exact h.elim

end Go.Proofs.YtcdefpfnjjahgaaDoor
