/- A table of arrays and structs of whole numbers: what reads as it holds its numbers, cell by cell. Nothing of the program in it. -/
import Derived.Test.YthjiiljglgmkpaaGreatDoorRows
import Derived.LaidLaws
import Derived.ChangeArms
import Derived.OpenShut
import Derived.WalkKit
import Derived.ProofKit
import Derived.Test.YthjiiljglgmkpaaGreatDoorX13
import Derived.Test.YthjiiljglgmkpaaGreatDoorChecked
import Derived.Deep.Slices
import Derived.Deep.SlicePairs
import Derived.ChangeSlices
import Derived.SizedLaws
namespace Go.Proofs.YthjiiljglgmkpaaGreatDoor
open Go
set_option linter.unusedVariables false

mutual
def flat {H : Type} : DataW H → List Value
  | .lit (.int k z) => [.int k z]
  | .agg ds => flats ds
  | _ => []
def flats {H : Type} : List (DataW H) → List Value
  | [] => []
  | d :: r => flat d ++ flats r
end
def contigN : Nat → List (Nat × Nat) → Nat → Bool
  | o, [], e => o == e
  | o, p :: r, e => p.1 == o && contigN (o + p.2) r e
/-- A type of whole numbers, arrays and structs of such, without gaps. -/
def plainT (P : Program) : Nat → TypeId → Bool
  | 0, _ => false
  | n + 1, t => match P.underlying t with
    | some (.int _) => true
    | some (.array m e) => plainT P n e && P.cellsOf t == m * P.cellsOf e
    | some (.struct fs) => contigN 0 (fs.toList.map fun f => (f.offset, P.cellsOf f.type)) (P.cellsOf t) && fs.toList.all fun f => plainT P n f.type
    | _ => false
theorem pieces {H : Type} (cs : List Value) : ∀ (xs : List (DataW H × List MemPlace)) (os : List (Nat × Nat)) (o : Nat), xs.length = os.length → (∀ (i : Nat) (x : DataW H × List MemPlace) (p : Nat × Nat), xs[i]? = some x → os[i]? = some p → (cs.drop p.1).take p.2 = flat x.1) → contigN o os cs.length = true → cs.drop o = flats (xs.map (·.1))
  | [], [], o, _, _, h => by
    have h' : o = cs.length := by simpa [contigN] using h
    rw [h', List.drop_length]; rfl
  | x :: xs, p :: os, o, hl, hp, h => by
    simp only [contigN, Bool.and_eq_true, beq_iff_eq] at h
    obtain ⟨h1, h2⟩ := h
    have e1 := hp 0 x p rfl rfl
    have e2 := pieces cs xs os (o + p.2) (by simpa using hl) (fun i y q hy hq => hp (i + 1) y q (by simpa using hy) (by simpa using hq)) h2
    rw [h1] at e1
    show cs.drop o = flat x.1 ++ flats (xs.map (·.1))
    rw [← e1, ← e2, ← List.drop_drop, List.take_append_drop]
  | [], _ :: _, _, hl, _, _ => by simp at hl
  | _ :: _, [], _, hl, _, _ => by simp at hl
theorem contig_range (c : Nat) : ∀ (n k : Nat), contigN (k * c) ((List.range' k n).map fun i => (i * c, c)) ((k + n) * c) = true
  | 0, k => by simp [contigN]
  | n + 1, k => by
    rw [List.range'_succ, List.map_cons]
    simp only [contigN, Bool.and_eq_true, beq_iff_eq, true_and]
    have := contig_range c n (k + 1)
    rw [show k * c + c = (k + 1) * c by rw [Nat.add_mul, Nat.one_mul], show k + (n + 1) = k + 1 + n by omega]
    exact this
/-- What reads as the datum holds its numbers. -/
theorem flat_of {H : Type} {enc : TypeId × Value → H} {P : Program} {w : World} {base : Nat} {spare : Nat → Bool} {held : Bool} : ∀ (n fuel : Nat) (t : TypeId) (cs : List Value) (x : DataW H × List MemPlace), plainT P n t = true → DataW.trod enc P w base spare held fuel t cs = some x → cs = flat x.1
  | 0, _, _, _, _, h, _ => by simp [plainT] at h
  | n + 1, fuel, t, cs, x, h, hx => by
    unfold plainT at h
    split at h
    · rename_i k ht
      obtain ⟨z, h1, h2, _⟩ := DataW.trod_int ht hx
      rw [h1, h2]; rfl
    · rename_i m e ht
      simp only [Bool.and_eq_true, beq_iff_eq] at h
      obtain ⟨xs, fl, _, rfl, hl, hxs, hi⟩ := DataW.trod_array ht hx
      have hc := contig_range (P.cellsOf e) m 0
      rw [Nat.zero_mul, Nat.zero_add, ← List.range_eq_range', ← h.2, ← hl] at hc
      have := pieces cs xs ((List.range m).map fun i => (i * P.cellsOf e, P.cellsOf e)) 0 (by simpa using hxs) (fun i y p hy hp => by
        have him : i < m := by rw [← hxs]; exact (List.getElem?_eq_some_iff.1 hy).1
        have hp' : p = (i * P.cellsOf e, P.cellsOf e) := by
          rw [List.getElem?_map, List.getElem?_range him] at hp
          exact (Option.some.inj hp).symm
        subst hp'
        exact flat_of n fl e _ y h.1 ((hi i him).trans hy)) hc
      rw [List.drop_zero] at this
      exact this
    · rename_i fs ht
      simp only [Bool.and_eq_true] at h
      obtain ⟨xs, fl, _, rfl, hl, hxs, hi⟩ := DataW.trod_struct ht hx
      have := pieces cs xs (fs.toList.map fun f => (f.offset, P.cellsOf f.type)) 0 (by simpa using hxs) (fun i y p hy hp => by
        rw [List.getElem?_map, Option.map_eq_some_iff] at hp
        obtain ⟨f, hf, rfl⟩ := hp
        have hm : f ∈ fs.toList := List.mem_of_getElem? hf
        have hf' : fs[i]? = some f := by simpa using hf
        exact flat_of n fl f.type _ y (List.all_eq_true.1 h.2 f hm) ((hi i f hf').trans hy)) (by rw [hl]; exact h.1)
      rw [List.drop_zero] at this
      exact this
    · cases h
end Go.Proofs.YthjiiljglgmkpaaGreatDoor
namespace Go.Proofs.YthjiiljglgmkpaaGreatDoor
open Go.ChangeShapes Go.WideShapes Go.ChangeAt Go.RowKit
set_option linter.unusedVariables false
set_option maxRecDepth 100000

/-- One field of a struct of one-cell fields, an integer of kind k: the cell there is a number that fits. -/
theorem field_int {H : Type} {enc : TypeId × Value → H} {P : Program} {W : World} {base n i : Nat} {spare : Nat → Bool} {held : Bool} {f : Field} {cs : List Value} {y : Option (DataW H × List MemPlace)} {k : IntKind} {c : Value}
    (ht : P.underlying f.type = some (.int k)) (ho : f.offset = i ∧ P.cellsOf f.type = 1) (hc : cs[i]? = some c) (hy : y.isSome = true)
    (h : DataW.trod enc P W base spare held n f.type ((cs.drop f.offset).take (P.cellsOf f.type)) = y) : ∃ x, c = .int k x ∧ (Lit.int k x).wf = true := by
  obtain ⟨y', rfl⟩ := Option.isSome_iff_exists.1 hy
  obtain ⟨x, h1, _, h3⟩ := DataW.trod_int ht h
  rw [ho.1, ho.2] at h1
  obtain ⟨hi, he⟩ := List.getElem?_eq_some_iff.1 hc
  have : (cs.drop i).take 1 = [cs[i]] := by rw [List.drop_eq_getElem_cons hi]; rfl
  rw [this] at h1
  refine ⟨x, ?_, h3⟩
  rw [← he]
  simpa using h1
theorem bu8 {x : Int} (h : (Lit.int .u8 x).wf = true) : 0 ≤ x ∧ x ≤ 255 := by simpa [Lit.wf, IntKind.min, IntKind.max, IntKind.signed, IntKind.bits] using h
theorem bu16 {x : Int} (h : (Lit.int .u16 x).wf = true) : 0 ≤ x ∧ x ≤ 65535 := by simpa [Lit.wf, IntKind.min, IntKind.max, IntKind.signed, IntKind.bits] using h
theorem bd64 {x : Int} (h : (Lit.int .i64 x).wf = true) : -9223372036854775808 ≤ x ∧ x ≤ 9223372036854775807 := by simpa [Lit.wf, IntKind.min, IntKind.max, IntKind.signed, IntKind.bits] using h

theorem cellsLife : Tryz.prog.cellsOf 28 = 3 := by kernel_rfl
theorem arrLife {α : Type} {cs : Array α} (h : cs.size = 3) : ∃ c0 c1 c2, cs = #[c0, c1, c2] := by
  obtain ⟨l⟩ := cs
  match l, h with
  | [c0, c1, c2], _ => exact ⟨c0, c1, c2, rfl⟩
theorem openLife {H : Type} {enc : TypeId × Value → H} {W : World} {r : Reach} {b0 base : Nat} {spare : Nat → Bool} {held : Bool} {v : Value} {d : DataW H} {p : List MemPlace}
    (hv : Value.okWide Tryz.prog W r b0 28 v) (h : DataW.Trod enc Tryz.prog W base spare held 28 v d p) :
    ∃ x0 x1 x2 : Int, v = .agg #[.int .u8 x0, .int .u16 x1, .int .u16 x2] ∧ (0 ≤ x0 ∧ x0 ≤ 255) ∧ (0 ≤ x1 ∧ x1 ≤ 65535) ∧ (0 ≤ x2 ∧ x2 ≤ 65535) := by
  obtain ⟨cs, rfl, hsz⟩ := okWide_struct Tryz.underlying28 hv
  obtain ⟨c0, c1, c2, rfl⟩ := arrLife (hsz.trans cellsLife)
  obtain ⟨fuel, hf⟩ := h
  obtain ⟨xs, n, _, _, _, hlen, hfs⟩ := DataW.trod_struct Tryz.underlying28 hf
  have hl : xs.length = 3 := hlen
  have g0 := hfs 0 _ rfl
  obtain ⟨x0, rfl, q0⟩ := field_int Tryz.underlying5 (i := 0) (c := c0) ⟨rfl, by kernel_rfl⟩ rfl (by rw [List.getElem?_eq_getElem (show 0 < xs.length by rw [hl]; decide)]; rfl) g0
  have g1 := hfs 1 _ rfl
  obtain ⟨x1, rfl, q1⟩ := field_int Tryz.underlying26 (i := 1) (c := c1) ⟨rfl, by kernel_rfl⟩ rfl (by rw [List.getElem?_eq_getElem (show 1 < xs.length by rw [hl]; decide)]; rfl) g1
  have g2 := hfs 2 _ rfl
  obtain ⟨x2, rfl, q2⟩ := field_int Tryz.underlying26 (i := 2) (c := c2) ⟨rfl, by kernel_rfl⟩ rfl (by rw [List.getElem?_eq_getElem (show 2 < xs.length by rw [hl]; decide)]; rfl) g2
  exact ⟨x0, x1, x2, rfl, bu8 q0, bu16 q1, bu16 q2⟩

theorem cellsTopo : Tryz.prog.cellsOf 30 = 5 := by kernel_rfl
theorem arrTopo {α : Type} {cs : Array α} (h : cs.size = 5) : ∃ c0 c1 c2 c3 c4, cs = #[c0, c1, c2, c3, c4] := by
  obtain ⟨l⟩ := cs
  match l, h with
  | [c0, c1, c2, c3, c4], _ => exact ⟨c0, c1, c2, c3, c4, rfl⟩
theorem openTopo {H : Type} {enc : TypeId × Value → H} {W : World} {r : Reach} {b0 base : Nat} {spare : Nat → Bool} {held : Bool} {v : Value} {d : DataW H} {p : List MemPlace}
    (hv : Value.okWide Tryz.prog W r b0 30 v) (h : DataW.Trod enc Tryz.prog W base spare held 30 v d p) :
    ∃ x0 x1 x2 x3 x4 : Int, v = .agg #[.int .u8 x0, .int .i64 x1, .int .i64 x2, .int .u8 x3, .int .i64 x4] ∧ (0 ≤ x0 ∧ x0 ≤ 255) ∧ (-9223372036854775808 ≤ x1 ∧ x1 ≤ 9223372036854775807) ∧ (-9223372036854775808 ≤ x2 ∧ x2 ≤ 9223372036854775807) ∧ (0 ≤ x3 ∧ x3 ≤ 255) ∧ (-9223372036854775808 ≤ x4 ∧ x4 ≤ 9223372036854775807) := by
  obtain ⟨cs, rfl, hsz⟩ := okWide_struct Tryz.underlying30 hv
  obtain ⟨c0, c1, c2, c3, c4, rfl⟩ := arrTopo (hsz.trans cellsTopo)
  obtain ⟨fuel, hf⟩ := h
  obtain ⟨xs, n, _, _, _, hlen, hfs⟩ := DataW.trod_struct Tryz.underlying30 hf
  have hl : xs.length = 5 := hlen
  have g0 := hfs 0 _ rfl
  obtain ⟨x0, rfl, q0⟩ := field_int Tryz.underlying5 (i := 0) (c := c0) ⟨rfl, by kernel_rfl⟩ rfl (by rw [List.getElem?_eq_getElem (show 0 < xs.length by rw [hl]; decide)]; rfl) g0
  have g1 := hfs 1 _ rfl
  obtain ⟨x1, rfl, q1⟩ := field_int Tryz.underlying3 (i := 1) (c := c1) ⟨rfl, by kernel_rfl⟩ rfl (by rw [List.getElem?_eq_getElem (show 1 < xs.length by rw [hl]; decide)]; rfl) g1
  have g2 := hfs 2 _ rfl
  obtain ⟨x2, rfl, q2⟩ := field_int Tryz.underlying3 (i := 2) (c := c2) ⟨rfl, by kernel_rfl⟩ rfl (by rw [List.getElem?_eq_getElem (show 2 < xs.length by rw [hl]; decide)]; rfl) g2
  have g3 := hfs 3 _ rfl
  obtain ⟨x3, rfl, q3⟩ := field_int Tryz.underlying5 (i := 3) (c := c3) ⟨rfl, by kernel_rfl⟩ rfl (by rw [List.getElem?_eq_getElem (show 3 < xs.length by rw [hl]; decide)]; rfl) g3
  have g4 := hfs 4 _ rfl
  obtain ⟨x4, rfl, q4⟩ := field_int Tryz.underlying3 (i := 4) (c := c4) ⟨rfl, by kernel_rfl⟩ rfl (by rw [List.getElem?_eq_getElem (show 4 < xs.length by rw [hl]; decide)]; rfl) g4
  exact ⟨x0, x1, x2, x3, x4, rfl, bu8 q0, bd64 q1, bd64 q2, bu8 q3, bd64 q4⟩
end Go.Proofs.YthjiiljglgmkpaaGreatDoor
namespace Go.Proofs.YthjiiljglgmkpaaGreatDoor
open Go.ChangeShapes Go.WideShapes Go.RowKit Go.ChangeAt Go.Deep
set_option linter.unusedVariables false
set_option linter.unusedSimpArgs false

theorem kCellsC : Tryz.prog.cellsOf 87 = 3 := by kernel_rfl
theorem kBytesC : Tryz.prog.bytesOf 87 = 24 := by kernel_rfl
theorem kUCS : Tryz.prog.underlying 39 = some (.slice 87) := by kernel_rfl
theorem kReach : reachBytes = 140737488351232 := by decide
theorem kUI : Tryz.prog.underlying 3 = some (.int .i64) := by kernel_rfl
theorem kUU : Tryz.prog.underlying 5 = some (.int .u8) := by kernel_rfl
theorem kUB : Tryz.prog.underlying 4 = some .bool := by kernel_rfl
set_option maxRecDepth 100000 in
set_option maxHeartbeats 2000000 in
theorem openCells {H : Type} {enc : TypeId × Value → H} {W : World} {fuel : Nat} {V : Value} {x : DataW H × List MemPlace} (h : DataW.trod enc Tryz.prog W 0 (fun _ => true) true fuel 39 [V] = some x) (hw : ∀ y ∈ x.1.weights Tryz.prog 39, y ≤ reachBytes) :
    ∃ sp n c, ∃ f : Nat → Int × Int × Nat, V = .slice sp n c ∧ n ≤ 8796093021952 ∧ (∀ j, j < n → (f j).2.2 < 256) ∧ Pd.Ce W sp n f := by
  rcases open_slice kUCS h with ⟨hcs, _⟩ | ⟨aa, len, cap, m, n, DD, Pl, hcs, _, hl, hm, hmm, rfl, hx⟩
  · obtain rfl : V = .slice none 0 0 := by simpa using hcs
    exact ⟨none, 0, 0, fun _ => (0, 0, 0), rfl, by decide, fun j hj => absurd hj (Nat.not_lt_zero _), fun j hj => absurd hj (Nat.not_lt_zero _)⟩
  · obtain rfl : V = .slice (some aa) len cap := by simpa using hcs
    simp only [if_true] at hmm
    subst hmm
    have hlen : len ≤ 8796093021952 := by
      have h8 := hw ((((List.range len).map DD).length + ((List.range (m - len)).map fun j => DD (len + j)).length) * Tryz.prog.bytesOf 87) (by simp [DataW.weights, kUCS])
      rw [kBytesC, kReach] at h8
      simp at h8
      omega
    have each : ∀ k, k < len → ∃ q : Int × Int × Nat, q.2.2 < 256 ∧ W.cell? (aa.add (k * 3)) = some (.int .i64 q.1) ∧ W.cell? (aa.add (k * 3 + 1)) = some (.int .i64 q.2.1) ∧ W.cell? (aa.add (k * 3 + 2)) = some (.int .u8 (q.2.2 : Nat)) := by
      intro k hk
      obtain ⟨cs', h1, h2⟩ := hx k (by omega)
      rw [kCellsC] at h1
      obtain ⟨_, hlen', hcell⟩ := World.cells?_some h1
      obtain ⟨xs, k', hk', hxy, _, hxl, hfs⟩ := DataW.trod_struct Tryz.underlying87 h2
      have hl3 : xs.length = 3 := hxl
      match cs', hlen' with
      | [v0, v1, v2], _ =>
        have g0 := hfs 0 _ rfl
        obtain ⟨x0, rfl, q0⟩ := field_int Tryz.underlying3 (i := 0) (c := v0) ⟨rfl, by kernel_rfl⟩ rfl (by rw [List.getElem?_eq_getElem (show 0 < xs.length by rw [hl3]; decide)]; rfl) g0
        have e0 := hcell 0 (by omega)
        rw [add_add] at e0
        have g1 := hfs 1 _ rfl
        obtain ⟨x1, rfl, q1⟩ := field_int Tryz.underlying3 (i := 1) (c := v1) ⟨rfl, by kernel_rfl⟩ rfl (by rw [List.getElem?_eq_getElem (show 1 < xs.length by rw [hl3]; decide)]; rfl) g1
        have e1 := hcell 1 (by omega)
        rw [add_add] at e1
        have g2 := hfs 2 _ rfl
        obtain ⟨x2, rfl, q2⟩ := field_int Tryz.underlying5 (i := 2) (c := v2) ⟨rfl, by kernel_rfl⟩ rfl (by rw [List.getElem?_eq_getElem (show 2 < xs.length by rw [hl3]; decide)]; rfl) g2
        have e2 := hcell 2 (by omega)
        rw [add_add] at e2
        have b2 := bu8 q2
        refine ⟨(x0, x1, x2.toNat), by show x2.toNat < 256; omega, by simpa using e0, by simpa using e1, ?_⟩
        show W.cell? (aa.add (k * 3 + 2)) = some (.int .u8 (x2.toNat : Int))
        rw [Int.toNat_of_nonneg b2.1]
        simpa using e2
    obtain ⟨q, hq⟩ := choose_lt each
    exact ⟨some aa, len, _, q, rfl, hlen, fun j hj => (hq j hj).1, fun j hj => ⟨aa, rfl, (hq j hj).2.1, (hq j hj).2.2.1, (hq j hj).2.2.2⟩⟩
theorem gdCells : Tryz.prog.cellsOf 41 = 5 := by kernel_rfl
theorem gdFields : ∃ f0 f1 f2 f3 f4, Tryz.prog.underlying 41 = some (.struct #[f0, f1, f2, f3, f4]) ∧ (f0.offset = 0 ∧ f0.type = 3) ∧ (f1.offset = 1 ∧ f1.type = 3) ∧ (f2.offset = 2 ∧ f2.type = 3) ∧ (f3.offset = 3 ∧ f3.type = 4) ∧ (f4.offset = 4 ∧ f4.type = 39) := ⟨_, _, _, _, _, by first | exact Tryz.underlying41 | kernel_rfl, ⟨rfl, rfl⟩, ⟨rfl, rfl⟩, ⟨rfl, rfl⟩, ⟨rfl, rfl⟩, ⟨rfl, rfl⟩⟩
theorem gdI : Tryz.prog.cellsOf 3 = 1 := by kernel_rfl
theorem gdB : Tryz.prog.cellsOf 4 = 1 := by kernel_rfl
theorem gdS : Tryz.prog.cellsOf 39 = 1 := by kernel_rfl
set_option maxRecDepth 100000 in
set_option maxHeartbeats 2000000 in
theorem openGrid {H : Type} {enc : TypeId × Value → H} {W : World} {r : Reach} {b0 : Nat} {v : Value} {d : DataW H} {p : List MemPlace}
    (hv : Value.okWide Tryz.prog W r b0 41 v) (h : DataW.Trod enc Tryz.prog W 0 (fun _ => true) true 41 v d p) (hw : ∀ y ∈ d.weights Tryz.prog 41, y ≤ reachBytes) :
    ∃ (x y s : Int) (pk : Bool) (sp : Option Addr) (n c : Nat) (f : Nat → Int × Int × Nat), v = .agg #[.int .i64 x, .int .i64 y, .int .i64 s, .bool pk, .slice sp n c] ∧ n ≤ 8796093021952 ∧ (∀ j, j < n → (f j).2.2 < 256) ∧ Pd.Ce W sp n f := by
  obtain ⟨f0, f1, f2, f3, f4, hu, ⟨o0, t0⟩, ⟨o1, t1⟩, ⟨o2, t2⟩, ⟨o3, t3⟩, ⟨o4, t4⟩⟩ := gdFields
  obtain ⟨cs, rfl, hsz⟩ := okWide_struct hu hv
  obtain ⟨c0, c1, c2, c3, c4, rfl⟩ := arrTopo (hsz.trans gdCells)
  obtain ⟨fuel, hf⟩ := h
  obtain ⟨xs, n, _, hx, _, hlen, hfs⟩ := DataW.trod_struct hu hf
  have hl5 : xs.length = 5 := hlen
  obtain ⟨x0, x1, x2, x3, x4, rfl⟩ : ∃ x0 x1 x2 x3 x4, xs = [x0, x1, x2, x3, x4] := by
    match xs, hl5 with
    | [x0, x1, x2, x3, x4], _ => exact ⟨x0, x1, x2, x3, x4, rfl⟩
  have g0 := hfs 0 f0 rfl
  rw [o0, t0, gdI] at g0
  have g0' : DataW.trod enc Tryz.prog W 0 (fun _ => true) true n 3 [c0] = some x0 := g0
  have g1 := hfs 1 f1 rfl
  rw [o1, t1, gdI] at g1
  have g1' : DataW.trod enc Tryz.prog W 0 (fun _ => true) true n 3 [c1] = some x1 := g1
  have g2 := hfs 2 f2 rfl
  rw [o2, t2, gdI] at g2
  have g2' : DataW.trod enc Tryz.prog W 0 (fun _ => true) true n 3 [c2] = some x2 := g2
  have g3 := hfs 3 f3 rfl
  rw [o3, t3, gdB] at g3
  have g3' : DataW.trod enc Tryz.prog W 0 (fun _ => true) true n 4 [c3] = some x3 := g3
  have g4 := hfs 4 f4 rfl
  rw [o4, t4, gdS] at g4
  have g4' : DataW.trod enc Tryz.prog W 0 (fun _ => true) true n 39 [c4] = some x4 := g4
  obtain ⟨z0, a0, _, _⟩ := DataW.trod_int kUI g0'
  obtain rfl : c0 = .int .i64 z0 := by simpa using a0
  obtain ⟨z1, a1, _, _⟩ := DataW.trod_int kUI g1'
  obtain rfl : c1 = .int .i64 z1 := by simpa using a1
  obtain ⟨z2, a2, _, _⟩ := DataW.trod_int kUI g2'
  obtain rfl : c2 = .int .i64 z2 := by simpa using a2
  obtain ⟨z3, a3, _⟩ := DataW.trod_bool kUB g3'
  obtain rfl : c3 = .bool z3 := by simpa using a3
  injection hx with hd _
  have hw4 : ∀ y ∈ x4.1.weights Tryz.prog 39, y ≤ reachBytes := fun y hy => by
    refine hw y ?_
    rw [hd]
    simp only [DataW.weights, hu]
    exact DataW.weights_mem_each (j := 4) (t := 39) (d := x4.1) (by rw [← t4]; rfl) rfl y hy
  obtain ⟨sa, m, ca, f, rfl, e1, e2, e3⟩ := openCells g4' hw4
  exact ⟨z0, z1, z2, z3, sa, m, ca, f, rfl, e1, e2, e3⟩
end Go.Proofs.YthjiiljglgmkpaaGreatDoor
