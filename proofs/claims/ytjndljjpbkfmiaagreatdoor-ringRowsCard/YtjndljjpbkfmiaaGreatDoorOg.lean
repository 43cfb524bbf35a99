/- The table of offsets: what reads as it is laid lies in memory as Around takes it. -/
import Derived.Test.YtjndljjpbkfmiaaGreatDoorKz
import Derived.Test.YtjndljjpbkfmiaaGreatDoorRows
import Derived.LaidLaws
import Derived.ChangeArms
import Derived.OpenShut
import Derived.Deep.SlicePairs
import Derived.Test.YtjndljjpbkfmiaaGreatDoorZ3
import Derived.Test.YtjndljjpbkfmiaaGreatDoorChecked
import Derived.ChangeSlices
import Derived.ProofKit
import Derived.SizedLaws
namespace Go.Proofs.YtjndljjpbkfmiaaGreatDoor
open Go
set_option linter.unusedVariables false

theorem underOP : ∃ f0 f1, Tryz.prog.underlying 60 = some (.struct #[f0, f1]) ∧ f0.offset = 0 ∧ f1.offset = 1 ∧ f0.type = 3 ∧ f1.type = 3 := ⟨_, _, by first | exact Tryz.underlying60 | kernel_rfl, rfl, rfl, rfl, rfl⟩
theorem underOS : Tryz.prog.underlying 96 = some (.slice 60) := by first | exact Tryz.underlying96 | kernel_rfl
theorem underOA : Tryz.prog.underlying 101 = some (.array 4 96) := by first | exact Tryz.underlying101 | kernel_rfl
theorem underOI : Tryz.prog.underlying 3 = some (.int .i64) := by first | exact Tryz.underlying3 | kernel_rfl
theorem cellsOP : Tryz.prog.cellsOf 60 = 2 := by kernel_rfl
theorem cellsOS : Tryz.prog.cellsOf 96 = 1 := by kernel_rfl
theorem cellsOI : Tryz.prog.cellsOf 3 = 1 := by kernel_rfl
theorem spot_none {w : World} {a : Addr} {v : Value} (h : w.cell? a = some v) : a = ⟨a.block, a.off, none⟩ := by
  obtain ⟨b, o, sp⟩ := a
  cases sp with
  | none => rfl
  | some x =>
    unfold World.cell? at h
    split at h
    · simp at h
    · cases h
/-- A list of points as it is laid. -/
def ptD {H : Type} (p : Int × Int) : DataW H := .agg [.lit (.int .i64 p.1), .lit (.int .i64 p.2)]
theorem tab_row {H : Type} {enc : TypeId × Value → H} {w : World} {base : Nat} {spare : Nat → Bool} {held : Bool} {fuel : Nat} {cs : List Value} {x : DataW H × List MemPlace} (l : List (Int × Int)) (hl : 0 < l.length)
    (hx : DataW.trod enc Tryz.prog w base spare held fuel 96 cs = some x) (e : x.1 = .slice (l.map ptD) []) : ∃ b o c, cs = [.slice (some ⟨b, o, none⟩) l.length c] ∧ ∀ i, i < l.length → w.cell? ⟨b, o + i * 2, none⟩ = some (.int .i64 (l.getD i (0, 0)).1) ∧ w.cell? ⟨b, o + i * 2 + 1, none⟩ = some (.int .i64 (l.getD i (0, 0)).2) := by
  obtain ⟨f0, f1, u1, u2, u3, u4, u5⟩ := underOP
  rcases Go.Deep.open_slice_pairs underOS u1 cellsOP u2 u3 (by rw [u4]; exact cellsOI) (by rw [u5]; exact cellsOI) hx with ⟨_, h0⟩ | ⟨a, len, cap, m, n, V0, V1, D0, D1, P0, P1, rfl, hb, hle, hcap, hm, hxx, hcell⟩
  · rw [h0] at e; cases e
  · subst hxx
    have e1 : (List.range len).map (fun i => DataW.agg [D0 i, D1 i]) = l.map ptD := by
      have := DataW.slice.inj e
      exact this.1
    have hlen : len = l.length := by simpa using congrArg List.length e1
    subst hlen
    have hlm : l.length ≤ m := by rw [hm]; split <;> omega
    have hv : ∀ i, i < l.length → V0 i = .int .i64 (l.getD i (0, 0)).1 ∧ V1 i = .int .i64 (l.getD i (0, 0)).2 := fun i hi => by
      have e2 := congrArg (fun q => q[i]?) e1
      simp only [List.getElem?_map, List.getElem?_range hi, Option.map_some] at e2
      rw [List.getElem?_eq_getElem hi, Option.map_some] at e2
      have e3 := DataW.agg.inj (Option.some.inj e2)
      have e4 : D0 i = .lit (.int .i64 (l[i]).1) ∧ D1 i = .lit (.int .i64 (l[i]).2) := by simpa using e3
      obtain ⟨_, _, t0, t1⟩ := hcell i (by omega)
      rw [u4] at t0
      rw [u5] at t1
      obtain ⟨z0, a0, b0, _⟩ := DataW.trod_int underOI t0
      obtain ⟨z1, a1, b1, _⟩ := DataW.trod_int underOI t1
      have c0 : D0 i = .lit (.int .i64 z0) := congrArg Prod.fst b0
      have c1 : D1 i = .lit (.int .i64 z1) := congrArg Prod.fst b1
      have d0 : V0 i = .int .i64 z0 := by simpa using a0
      have d1 : V1 i = .int .i64 z1 := by simpa using a1
      have g0 : z0 = (l[i]).1 := by
        have := c0.symm.trans e4.1
        simpa using this
      have g1 : z1 = (l[i]).2 := by
        have := c1.symm.trans e4.2
        simpa using this
      rw [List.getD_eq_getElem?_getD, List.getElem?_eq_getElem hi, Option.getD_some, d0, d1, g0, g1]
      exact ⟨rfl, rfl⟩
    have ha := spot_none (hcell 0 (by omega)).1
    have ha' : a = ⟨a.block, a.off, none⟩ := ha
    refine ⟨a.block, a.off, cap, by rw [← ha'], fun i hi => ?_⟩
    have hc := hcell i (by omega)
    rw [ha', add_mid, add_mid] at hc
    rw [(hv i hi).1, (hv i hi).2] at hc
    exact ⟨hc.1, hc.2.1⟩
theorem ofL1 : ofL 1 = [(0, -1), (1, -1), (1, 0), (1, 1), (0, 1), (-1, 1), (-1, 0), (-1, -1)] := rfl
theorem gTab : Tryz.prog.globalNamed "vivarium/ring.offsets" = some 0 := by kernel_rfl
theorem gTabType : (Tryz.prog.globals[0]?).map (·.type) = some 101 := by kernel_rfl
theorem laidT : (Rows.laid_vivarium_ring_offsets (H := Unit)) = .agg [.nil, .slice ((ofL 1).map ptD) [], .slice ((ofL 2).map ptD) [], .slice ((ofL 3).map ptD) []] := rfl
/-- What the list gives the walk: the table of offsets. -/
theorem tab_of {W : World} {cs : Array Value} {fuel : Nat} {p : List MemPlace} {enc : TypeId × Value → Unit} {base : Nat} {spare : Nat → Bool} {held : Bool} (hvar : W.var? Tryz.prog "vivarium/ring.offsets" = some cs) (hd : DataW.trod enc Tryz.prog W base spare held fuel 101 cs.toList = some (Rows.laid_vivarium_ring_offsets, p)) : Tab W := by
  obtain ⟨xs, m, _, hx, hl, hxs, hi⟩ := DataW.trod_array underOA hd
  rw [laidT] at hx
  have hx1 : [.nil, .slice ((ofL 1).map ptD) [], .slice ((ofL 2).map ptD) [], .slice ((ofL 3).map ptD) []] = xs.map (·.1) := DataW.agg.inj (congrArg Prod.fst hx)
  simp only [World.var?, gTab, Option.bind_some] at hvar
  split at hvar
  · rename_i c t fr hb
    obtain rfl := Option.some.inj hvar
    refine ⟨fun h h1 h3 => ?_⟩
    have hxh : ∃ y, xs[h]? = some y ∧ y.1 = .slice ((ofL h).map ptD) [] := by
      have e := congrArg (fun q => q[h]?) hx1
      simp only [List.getElem?_map] at e
      cases hy : xs[h]? with
      | none =>
        rw [hy] at e
        obtain rfl | rfl | rfl : h = 1 ∨ h = 2 ∨ h = 3 := by omega
        all_goals simp at e
      | some y =>
        rw [hy] at e
        refine ⟨y, rfl, ?_⟩
        obtain rfl | rfl | rfl : h = 1 ∨ h = 2 ∨ h = 3 := by omega
        all_goals exact (Option.some.inj e).symm
    obtain ⟨y, hy, hy1⟩ := hxh
    have ht := (hi h (by omega)).trans hy
    rw [cellsOS, Nat.mul_one] at ht
    obtain ⟨b, o, k, e1, e2⟩ := tab_row (ofL h) (by obtain rfl | rfl | rfl : h = 1 ∨ h = 2 ∨ h = 3 := by omega
                                                    all_goals decide) ht hy1
    refine ⟨b, o, k, ?_, e2⟩
    have e3 : c.toList[h]? = some (.slice (some ⟨b, o, none⟩) (ofN h) k) := by
      have := congrArg (fun q => q[0]?) e1
      simpa [ofN] using this
    simp only [World.cell?, hb]
    simpa using e3
  · cases hvar
end Go.Proofs.YtjndljjpbkfmiaaGreatDoor
namespace Go.Proofs.YtjndljjpbkfmiaaGreatDoor
open Go.ChangeShapes Go.WideShapes Go.RowKit Go.ChangeAt Go.Deep
set_option linter.unusedVariables false
set_option linter.unusedSimpArgs false

theorem u8Cells : Tryz.prog.cellsOf 5 = 1 := by kernel_rfl
theorem u8Bytes : Tryz.prog.bytesOf 5 = 1 := by kernel_rfl
theorem u8S : Tryz.prog.underlying 24 = some (.slice 5) := by kernel_rfl
theorem uU : Tryz.prog.underlying 5 = some (.int .u8) := by kernel_rfl
theorem uI : Tryz.prog.underlying 3 = some (.int .i64) := by kernel_rfl
theorem bdu {x : Int} (h : (Lit.int .u8 x).wf = true) : 0 ≤ x ∧ x < 256 := by
  simp [Lit.wf, IntKind.min, IntKind.max, IntKind.signed, IntKind.bits] at h
  omega
theorem bd64 {x : Int} (h : (Lit.int .i64 x).wf = true) : -9223372036854775808 ≤ x ∧ x ≤ 9223372036854775807 := by
  simp [Lit.wf, IntKind.min, IntKind.max, IntKind.signed, IntKind.bits] at h
  omega
theorem reach_is : reachBytes = 140737488351232 := by decide
set_option maxRecDepth 100000 in
set_option maxHeartbeats 2000000 in
theorem openBy {H : Type} {enc : TypeId × Value → H} {W : World} {fuel : Nat} {V : Value} {x : DataW H × List MemPlace} (h : DataW.trod enc Tryz.prog W 0 (fun _ => true) true fuel 24 [V] = some x) (hw : ∀ y ∈ x.1.weights Tryz.prog 24, y ≤ reachBytes) :
    ∃ sa m ca f, V = .slice sa m ca ∧ (sa = none → m = 0 ∧ ca = 0) ∧ By W sa m f ∧ (∀ i, f i < 256) ∧ m ≤ 140737488351232 := by
  rcases open_ints u8S uU u8Cells h with ⟨hcs, _⟩ | ⟨a, len, cap, zs, hcs, _, hl, hm, hz, hxe, hcell, hwf⟩
  · obtain rfl : V = .slice none 0 0 := by simpa using hcs
    exact ⟨none, 0, 0, fun _ => 0, rfl, fun _ => ⟨rfl, rfl⟩, fun k hk => absurd hk (Nat.not_lt_zero _), fun _ => by show 0 < 256; decide, by decide⟩
  · obtain rfl : V = .slice (some a) len cap := by simpa using hcs
    simp only [if_true] at hz
    have hb : ∀ k, 0 ≤ zs.getD k 0 ∧ zs.getD k 0 < 256 := fun k => by
      by_cases hk : k < zs.length
      · have e : zs.getD k 0 = zs[k] := by simp [hk]
        rw [e]
        exact bdu (hwf _ (List.getElem_mem hk))
      · have e : zs.getD k 0 = 0 := by simp [hk]
        rw [e]; decide
    refine ⟨some a, len, cap, fun k => (zs.getD k 0).toNat, rfl, (fun h => by cases h), fun k hk => ⟨a, rfl, ?_⟩, fun k => ?_, ?_⟩
    · rw [hcell k (by omega), Int.toNat_of_nonneg (hb k).1]
    · have := hb k; show (zs.getD k 0).toNat < 256; omega
    · subst hxe
      have h8 := hw (((lits IntKind.u8 (zs.take len) : List (DataW H)).length + (lits IntKind.u8 (zs.drop len) : List (DataW H)).length) * Tryz.prog.bytesOf 5) (by simp [DataW.weights, u8S])
      rw [u8Bytes, reach_is] at h8
      simp [lits] at h8
      omega
set_option maxRecDepth 100000
/-- One field of a struct of one-cell fields, an integer of kind k: the cell there is a number that fits. -/
theorem field_int {H : Type} {enc : TypeId × Value → H} {P : Program} {W : World} {base n i : Nat} {spare : Nat → Bool} {held : Bool} {f : Field} {cs : List Value} {y : Option (DataW H × List MemPlace)} {k : IntKind} {c : Value}
    (ht : P.underlying f.type = some (.int k)) (ho : f.offset = i ∧ P.cellsOf f.type = 1) (hc : cs[i]? = some c) (hy : y.isSome = true)
    (h : DataW.trod enc P W base spare held n f.type ((cs.drop f.offset).take (P.cellsOf f.type)) = y) : ∃ x, c = .int k x ∧ (Lit.int k x).wf = true := by
  obtain ⟨y', rfl⟩ := Option.isSome_iff_exists.1 hy
  obtain ⟨x, h1, _, h3⟩ := DataW.trod_int ht h
  rw [ho.1, ho.2] at h1
  obtain ⟨hi, he⟩ := List.getElem?_eq_some_iff.1 hc
  have : (cs.drop i).take 1 = [cs[i]] := by rw [List.drop_eq_getElem_cons hi]; rfl
  rw [this] at h1
  refine ⟨x, ?_, h3⟩
  rw [← he]
  simpa using h1
theorem bu8 {x : Int} (h : (Lit.int .u8 x).wf = true) : 0 ≤ x ∧ x ≤ 255 := by simpa [Lit.wf, IntKind.min, IntKind.max, IntKind.signed, IntKind.bits] using h

theorem cellsGrid : Tryz.prog.cellsOf 55 = 5 := by kernel_rfl
theorem arrGrid {α : Type} {cs : Array α} (h : cs.size = 5) : ∃ c0 c1 c2 c3 c4, cs = #[c0, c1, c2, c3, c4] := by
  obtain ⟨l⟩ := cs
  match l, h with
  | [c0, c1, c2, c3, c4], _ => exact ⟨c0, c1, c2, c3, c4, rfl⟩
theorem openGrid {H : Type} {enc : TypeId × Value → H} {W : World} {r : Reach} {b0 base : Nat} {spare : Nat → Bool} {held : Bool} {v : Value} {d : DataW H} {p : List MemPlace}
    (hv : Value.okWide Tryz.prog W r b0 55 v) (h : DataW.Trod enc Tryz.prog W base spare held 55 v d p) :
    ∃ x0 x1 x2 x3 x4 : Int, v = .agg #[.int .i64 x0, .int .i64 x1, .int .i64 x2, .int .i64 x3, .int .i64 x4] ∧ (-9223372036854775808 ≤ x0 ∧ x0 ≤ 9223372036854775807) ∧ (-9223372036854775808 ≤ x1 ∧ x1 ≤ 9223372036854775807) ∧ (-9223372036854775808 ≤ x2 ∧ x2 ≤ 9223372036854775807) ∧ (-9223372036854775808 ≤ x3 ∧ x3 ≤ 9223372036854775807) ∧ (-9223372036854775808 ≤ x4 ∧ x4 ≤ 9223372036854775807) := by
  obtain ⟨cs, rfl, hsz⟩ := okWide_struct Tryz.underlying55 hv
  obtain ⟨c0, c1, c2, c3, c4, rfl⟩ := arrGrid (hsz.trans cellsGrid)
  obtain ⟨fuel, hf⟩ := h
  obtain ⟨xs, n, _, _, _, hlen, hfs⟩ := DataW.trod_struct Tryz.underlying55 hf
  have hl : xs.length = 5 := hlen
  have g0 := hfs 0 _ rfl
  obtain ⟨x0, rfl, q0⟩ := field_int Tryz.underlying3 (i := 0) (c := c0) ⟨rfl, by kernel_rfl⟩ rfl (by rw [List.getElem?_eq_getElem (show 0 < xs.length by rw [hl]; decide)]; rfl) g0
  have g1 := hfs 1 _ rfl
  obtain ⟨x1, rfl, q1⟩ := field_int Tryz.underlying3 (i := 1) (c := c1) ⟨rfl, by kernel_rfl⟩ rfl (by rw [List.getElem?_eq_getElem (show 1 < xs.length by rw [hl]; decide)]; rfl) g1
  have g2 := hfs 2 _ rfl
  obtain ⟨x2, rfl, q2⟩ := field_int Tryz.underlying3 (i := 2) (c := c2) ⟨rfl, by kernel_rfl⟩ rfl (by rw [List.getElem?_eq_getElem (show 2 < xs.length by rw [hl]; decide)]; rfl) g2
  have g3 := hfs 3 _ rfl
  obtain ⟨x3, rfl, q3⟩ := field_int Tryz.underlying3 (i := 3) (c := c3) ⟨rfl, by kernel_rfl⟩ rfl (by rw [List.getElem?_eq_getElem (show 3 < xs.length by rw [hl]; decide)]; rfl) g3
  have g4 := hfs 4 _ rfl
  obtain ⟨x4, rfl, q4⟩ := field_int Tryz.underlying3 (i := 4) (c := c4) ⟨rfl, by kernel_rfl⟩ rfl (by rw [List.getElem?_eq_getElem (show 4 < xs.length by rw [hl]; decide)]; rfl) g4
  exact ⟨x0, x1, x2, x3, x4, rfl, bd64 q0, bd64 q1, bd64 q2, bd64 q3, bd64 q4⟩

theorem cellsTopo : Tryz.prog.cellsOf 23 = 5 := by kernel_rfl
theorem arrTopo {α : Type} {cs : Array α} (h : cs.size = 5) : ∃ c0 c1 c2 c3 c4, cs = #[c0, c1, c2, c3, c4] := by
  obtain ⟨l⟩ := cs
  match l, h with
  | [c0, c1, c2, c3, c4], _ => exact ⟨c0, c1, c2, c3, c4, rfl⟩
theorem openTopo {H : Type} {enc : TypeId × Value → H} {W : World} {r : Reach} {b0 base : Nat} {spare : Nat → Bool} {held : Bool} {v : Value} {d : DataW H} {p : List MemPlace}
    (hv : Value.okWide Tryz.prog W r b0 23 v) (h : DataW.Trod enc Tryz.prog W base spare held 23 v d p) :
    ∃ x0 x1 x2 x3 x4 : Int, v = .agg #[.int .u8 x0, .int .i64 x1, .int .i64 x2, .int .u8 x3, .int .i64 x4] ∧ (0 ≤ x0 ∧ x0 ≤ 255) ∧ (-9223372036854775808 ≤ x1 ∧ x1 ≤ 9223372036854775807) ∧ (-9223372036854775808 ≤ x2 ∧ x2 ≤ 9223372036854775807) ∧ (0 ≤ x3 ∧ x3 ≤ 255) ∧ (-9223372036854775808 ≤ x4 ∧ x4 ≤ 9223372036854775807) := by
  obtain ⟨cs, rfl, hsz⟩ := okWide_struct Tryz.underlying23 hv
  obtain ⟨c0, c1, c2, c3, c4, rfl⟩ := arrTopo (hsz.trans cellsTopo)
  obtain ⟨fuel, hf⟩ := h
  obtain ⟨xs, n, _, _, _, hlen, hfs⟩ := DataW.trod_struct Tryz.underlying23 hf
  have hl : xs.length = 5 := hlen
  have g0 := hfs 0 _ rfl
  obtain ⟨x0, rfl, q0⟩ := field_int Tryz.underlying5 (i := 0) (c := c0) ⟨rfl, by kernel_rfl⟩ rfl (by rw [List.getElem?_eq_getElem (show 0 < xs.length by rw [hl]; decide)]; rfl) g0
  have g1 := hfs 1 _ rfl
  obtain ⟨x1, rfl, q1⟩ := field_int Tryz.underlying3 (i := 1) (c := c1) ⟨rfl, by kernel_rfl⟩ rfl (by rw [List.getElem?_eq_getElem (show 1 < xs.length by rw [hl]; decide)]; rfl) g1
  have g2 := hfs 2 _ rfl
  obtain ⟨x2, rfl, q2⟩ := field_int Tryz.underlying3 (i := 2) (c := c2) ⟨rfl, by kernel_rfl⟩ rfl (by rw [List.getElem?_eq_getElem (show 2 < xs.length by rw [hl]; decide)]; rfl) g2
  have g3 := hfs 3 _ rfl
  obtain ⟨x3, rfl, q3⟩ := field_int Tryz.underlying5 (i := 3) (c := c3) ⟨rfl, by kernel_rfl⟩ rfl (by rw [List.getElem?_eq_getElem (show 3 < xs.length by rw [hl]; decide)]; rfl) g3
  have g4 := hfs 4 _ rfl
  obtain ⟨x4, rfl, q4⟩ := field_int Tryz.underlying3 (i := 4) (c := c4) ⟨rfl, by kernel_rfl⟩ rfl (by rw [List.getElem?_eq_getElem (show 4 < xs.length by rw [hl]; decide)]; rfl) g4
  exact ⟨x0, x1, x2, x3, x4, rfl, bu8 q0, bd64 q1, bd64 q2, bu8 q3, bd64 q4⟩

theorem kpCells : Tryz.prog.cellsOf 26 = 5 := by kernel_rfl
theorem kpFields : ∃ f0 f1 f2 f3 f4, Tryz.prog.underlying 26 = some (.struct #[f0, f1, f2, f3, f4]) ∧ (f0.offset = 0 ∧ f0.type = 3) ∧ (f1.offset = 1 ∧ f1.type = 3) ∧ (f2.offset = 2 ∧ f2.type = 3) ∧ (f3.offset = 3 ∧ f3.type = 4) ∧ (f4.offset = 4 ∧ f4.type = 24) := ⟨_, _, _, _, _, by first | exact Tryz.underlying26 | kernel_rfl, ⟨rfl, rfl⟩, ⟨rfl, rfl⟩, ⟨rfl, rfl⟩, ⟨rfl, rfl⟩, ⟨rfl, rfl⟩⟩
theorem kpI : Tryz.prog.cellsOf 3 = 1 := by kernel_rfl
theorem kpB : Tryz.prog.cellsOf 4 = 1 := by kernel_rfl
theorem kpS : Tryz.prog.cellsOf 24 = 1 := by kernel_rfl
theorem uB : Tryz.prog.underlying 4 = some .bool := by kernel_rfl
theorem array5 {α : Type} {cs : Array α} (h : cs.size = 5) : ∃ c0 c1 c2 c3 c4, cs = #[c0, c1, c2, c3, c4] := by
  obtain ⟨l⟩ := cs
  match l, h with
  | [c0, c1, c2, c3, c4], _ => exact ⟨c0, c1, c2, c3, c4, rfl⟩
set_option maxRecDepth 100000 in
set_option maxHeartbeats 2000000 in
theorem openKept {H : Type} {enc : TypeId × Value → H} {W : World} {r : Reach} {b0 : Nat} {v : Value} {d : DataW H} {p : List MemPlace}
    (hv : Value.okWide Tryz.prog W r b0 26 v) (h : DataW.Trod enc Tryz.prog W 0 (fun _ => true) true 26 v d p) (hw : ∀ y ∈ d.weights Tryz.prog 26, y ≤ reachBytes) :
    ∃ (x y s : Int) (pk : Bool) (sp : Option Addr) (n c : Nat) (f : Nat → Nat), v = .agg #[.int .i64 x, .int .i64 y, .int .i64 s, .bool pk, .slice sp n c] ∧ (-9223372036854775808 ≤ x ∧ x ≤ 9223372036854775807) ∧ (-9223372036854775808 ≤ y ∧ y ≤ 9223372036854775807) ∧ (sp = none → n = 0 ∧ c = 0) ∧ By W sp n f ∧ (∀ i, f i < 256) ∧ n ≤ 140737488351232 := by
  obtain ⟨f0, f1, f2, f3, f4, hu, ⟨o0, t0⟩, ⟨o1, t1⟩, ⟨o2, t2⟩, ⟨o3, t3⟩, ⟨o4, t4⟩⟩ := kpFields
  obtain ⟨cs, rfl, hsz⟩ := okWide_struct hu hv
  obtain ⟨c0, c1, c2, c3, c4, rfl⟩ := array5 (hsz.trans kpCells)
  obtain ⟨fuel, hf⟩ := h
  obtain ⟨xs, n, _, hx, _, hlen, hfs⟩ := DataW.trod_struct hu hf
  have hl5 : xs.length = 5 := hlen
  obtain ⟨x0, x1, x2, x3, x4, rfl⟩ : ∃ x0 x1 x2 x3 x4, xs = [x0, x1, x2, x3, x4] := by
    match xs, hl5 with
    | [x0, x1, x2, x3, x4], _ => exact ⟨x0, x1, x2, x3, x4, rfl⟩
  have g0 := hfs 0 f0 rfl
  have g1 := hfs 1 f1 rfl
  have g2 := hfs 2 f2 rfl
  have g3 := hfs 3 f3 rfl
  have g4 := hfs 4 f4 rfl
  rw [o0, t0, kpI] at g0
  rw [o1, t1, kpI] at g1
  rw [o2, t2, kpI] at g2
  rw [o3, t3, kpB] at g3
  rw [o4, t4, kpS] at g4
  have g0' : DataW.trod enc Tryz.prog W 0 (fun _ => true) true n 3 [c0] = some x0 := g0
  have g1' : DataW.trod enc Tryz.prog W 0 (fun _ => true) true n 3 [c1] = some x1 := g1
  have g2' : DataW.trod enc Tryz.prog W 0 (fun _ => true) true n 3 [c2] = some x2 := g2
  have g3' : DataW.trod enc Tryz.prog W 0 (fun _ => true) true n 4 [c3] = some x3 := g3
  have g4' : DataW.trod enc Tryz.prog W 0 (fun _ => true) true n 24 [c4] = some x4 := g4
  obtain ⟨z0, a0, _, q0⟩ := DataW.trod_int uI g0'
  obtain ⟨z1, a1, _, q1⟩ := DataW.trod_int uI g1'
  obtain ⟨z2, a2, _, _⟩ := DataW.trod_int uI g2'
  obtain ⟨z3, a3, _⟩ := DataW.trod_bool uB g3'
  obtain rfl : c0 = .int .i64 z0 := by simpa using a0
  obtain rfl : c1 = .int .i64 z1 := by simpa using a1
  obtain rfl : c2 = .int .i64 z2 := by simpa using a2
  obtain rfl : c3 = .bool z3 := by simpa using a3
  injection hx with hd _
  have hw4 : ∀ y ∈ x4.1.weights Tryz.prog 24, y ≤ reachBytes := fun y hy => by
    refine hw y ?_
    rw [hd]
    simp only [DataW.weights, hu]
    exact DataW.weights_mem_each (j := 4) (t := 24) (d := x4.1) (by rw [← t4]; rfl) rfl y hy
  obtain ⟨sa, m, ca, f, rfl, e1, e2, e3, e4⟩ := openBy g4' hw4
  exact ⟨z0, z1, z2, z3, sa, m, ca, f, rfl, bd64 q0, bd64 q1, e1, e2, e3, e4⟩
end Go.Proofs.YtjndljjpbkfmiaaGreatDoor
