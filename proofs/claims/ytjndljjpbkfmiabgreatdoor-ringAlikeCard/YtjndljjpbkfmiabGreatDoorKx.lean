/- The table of offsets: what reads as it is laid lies in memory as Around takes it. -/
import Derived.Test.YtjndljjpbkfmiabGreatDoorK9
import Derived.Test.YtjndljjpbkfmiabGreatDoorRows
import Derived.LaidLaws
import Derived.ChangeArms
import Derived.OpenShut
import Derived.Deep.SlicePairs
namespace Go.Proofs.YtjndljjpbkfmiabGreatDoor
open Go
set_option linter.unusedVariables false

theorem underOP : ∃ f0 f1, Tryz.prog.underlying 86 = some (.struct #[f0, f1]) ∧ f0.offset = 0 ∧ f1.offset = 1 ∧ f0.type = 3 ∧ f1.type = 3 := ⟨_, _, by first | exact Tryz.underlying86 | kernel_rfl, rfl, rfl, rfl, rfl⟩
theorem underOS : Tryz.prog.underlying 83 = some (.slice 86) := by first | exact Tryz.underlying83 | kernel_rfl
theorem underOA : Tryz.prog.underlying 84 = some (.array 4 83) := by first | exact Tryz.underlying84 | kernel_rfl
theorem underOI : Tryz.prog.underlying 3 = some (.int .i64) := by first | exact Tryz.underlying3 | kernel_rfl
theorem cellsOP : Tryz.prog.cellsOf 86 = 2 := by kernel_rfl
theorem cellsOS : Tryz.prog.cellsOf 83 = 1 := by kernel_rfl
theorem cellsOI : Tryz.prog.cellsOf 3 = 1 := by kernel_rfl
theorem spot_none {w : World} {a : Addr} {v : Value} (h : w.cell? a = some v) : a = ⟨a.block, a.off, none⟩ := by
  obtain ⟨b, o, sp⟩ := a
  cases sp with
  | none => rfl
  | some x =>
    unfold World.cell? at h
    split at h
    · simp at h
    · cases h
/-- A list of points as it is laid. -/
def ptD {H : Type} (p : Int × Int) : DataW H := .agg [.lit (.int .i64 p.1), .lit (.int .i64 p.2)]
theorem tab_row {H : Type} {enc : TypeId × Value → H} {w : World} {base : Nat} {spare : Nat → Bool} {held : Bool} {fuel : Nat} {cs : List Value} {x : DataW H × List MemPlace} (l : List (Int × Int)) (hl : 0 < l.length)
    (hx : DataW.trod enc Tryz.prog w base spare held fuel 83 cs = some x) (e : x.1 = .slice (l.map ptD) []) : ∃ b o c, cs = [.slice (some ⟨b, o, none⟩) l.length c] ∧ ∀ i, i < l.length → w.cell? ⟨b, o + i * 2, none⟩ = some (.int .i64 (l.getD i (0, 0)).1) ∧ w.cell? ⟨b, o + i * 2 + 1, none⟩ = some (.int .i64 (l.getD i (0, 0)).2) := by
  obtain ⟨f0, f1, u1, u2, u3, u4, u5⟩ := underOP
  rcases Go.Deep.open_slice_pairs underOS u1 cellsOP u2 u3 (by rw [u4]; exact cellsOI) (by rw [u5]; exact cellsOI) hx with ⟨_, h0⟩ | ⟨a, len, cap, m, n, V0, V1, D0, D1, P0, P1, rfl, hb, hle, hcap, hm, hxx, hcell⟩
  · rw [h0] at e; cases e
  · subst hxx
    have e1 : (List.range len).map (fun i => DataW.agg [D0 i, D1 i]) = l.map ptD := by
      have := DataW.slice.inj e
      exact this.1
    have hlen : len = l.length := by simpa using congrArg List.length e1
    subst hlen
    have hlm : l.length ≤ m := by rw [hm]; split <;> omega
    have hv : ∀ i, i < l.length → V0 i = .int .i64 (l.getD i (0, 0)).1 ∧ V1 i = .int .i64 (l.getD i (0, 0)).2 := fun i hi => by
      have e2 := congrArg (fun q => q[i]?) e1
      simp only [List.getElem?_map, List.getElem?_range hi, Option.map_some] at e2
      rw [List.getElem?_eq_getElem hi, Option.map_some] at e2
      have e3 := DataW.agg.inj (Option.some.inj e2)
      have e4 : D0 i = .lit (.int .i64 (l[i]).1) ∧ D1 i = .lit (.int .i64 (l[i]).2) := by simpa using e3
      obtain ⟨_, _, t0, t1⟩ := hcell i (by omega)
      rw [u4] at t0
      rw [u5] at t1
      obtain ⟨z0, a0, b0, _⟩ := DataW.trod_int underOI t0
      obtain ⟨z1, a1, b1, _⟩ := DataW.trod_int underOI t1
      have c0 : D0 i = .lit (.int .i64 z0) := congrArg Prod.fst b0
      have c1 : D1 i = .lit (.int .i64 z1) := congrArg Prod.fst b1
      have d0 : V0 i = .int .i64 z0 := by simpa using a0
      have d1 : V1 i = .int .i64 z1 := by simpa using a1
      have g0 : z0 = (l[i]).1 := by
        have := c0.symm.trans e4.1
        simpa using this
      have g1 : z1 = (l[i]).2 := by
        have := c1.symm.trans e4.2
        simpa using this
      rw [List.getD_eq_getElem?_getD, List.getElem?_eq_getElem hi, Option.getD_some, d0, d1, g0, g1]
      exact ⟨rfl, rfl⟩
    have ha := spot_none (hcell 0 (by omega)).1
    have ha' : a = ⟨a.block, a.off, none⟩ := ha
    refine ⟨a.block, a.off, cap, by rw [← ha'], fun i hi => ?_⟩
    have hc := hcell i (by omega)
    rw [ha', add_mid, add_mid] at hc
    rw [(hv i hi).1, (hv i hi).2] at hc
    exact ⟨hc.1, hc.2.1⟩
theorem ofL1 : ofL 1 = [(0, -1), (1, -1), (1, 0), (1, 1), (0, 1), (-1, 1), (-1, 0), (-1, -1)] := rfl
theorem gTab : Tryz.prog.globalNamed "vivarium/ring.offsets" = some 0 := by kernel_rfl
theorem gTabType : (Tryz.prog.globals[0]?).map (·.type) = some 84 := by kernel_rfl
theorem laidT : (Rows.laid_vivarium_ring_offsets (H := Unit)) = .agg [.nil, .slice ((ofL 1).map ptD) [], .slice ((ofL 2).map ptD) [], .slice ((ofL 3).map ptD) []] := rfl
/-- What the list gives the walk: the table of offsets. -/
theorem tab_of {W : World} {cs : Array Value} {fuel : Nat} {p : List MemPlace} {enc : TypeId × Value → Unit} {base : Nat} {spare : Nat → Bool} {held : Bool} (hvar : W.var? Tryz.prog "vivarium/ring.offsets" = some cs) (hd : DataW.trod enc Tryz.prog W base spare held fuel 84 cs.toList = some (Rows.laid_vivarium_ring_offsets, p)) : Tab W := by
  obtain ⟨xs, m, _, hx, hl, hxs, hi⟩ := DataW.trod_array underOA hd
  rw [laidT] at hx
  have hx1 : [.nil, .slice ((ofL 1).map ptD) [], .slice ((ofL 2).map ptD) [], .slice ((ofL 3).map ptD) []] = xs.map (·.1) := DataW.agg.inj (congrArg Prod.fst hx)
  simp only [World.var?, gTab, Option.bind_some] at hvar
  split at hvar
  · rename_i c t fr hb
    obtain rfl := Option.some.inj hvar
    refine ⟨fun h h1 h3 => ?_⟩
    have hxh : ∃ y, xs[h]? = some y ∧ y.1 = .slice ((ofL h).map ptD) [] := by
      have e := congrArg (fun q => q[h]?) hx1
      simp only [List.getElem?_map] at e
      cases hy : xs[h]? with
      | none =>
        rw [hy] at e
        obtain rfl | rfl | rfl : h = 1 ∨ h = 2 ∨ h = 3 := by omega
        all_goals simp at e
      | some y =>
        rw [hy] at e
        refine ⟨y, rfl, ?_⟩
        obtain rfl | rfl | rfl : h = 1 ∨ h = 2 ∨ h = 3 := by omega
        all_goals exact (Option.some.inj e).symm
    obtain ⟨y, hy, hy1⟩ := hxh
    have ht := (hi h (by omega)).trans hy
    rw [cellsOS, Nat.mul_one] at ht
    obtain ⟨b, o, k, e1, e2⟩ := tab_row (ofL h) (by obtain rfl | rfl | rfl : h = 1 ∨ h = 2 ∨ h = 3 := by omega
                                                    all_goals decide) ht hy1
    refine ⟨b, o, k, ?_, e2⟩
    have e3 : c.toList[h]? = some (.slice (some ⟨b, o, none⟩) (ofN h) k) := by
      have := congrArg (fun q => q[0]?) e1
      simpa [ofN] using this
    simp only [World.cell?, hb]
    simpa using e3
  · cases hvar
end Go.Proofs.YtjndljjpbkfmiabGreatDoor
