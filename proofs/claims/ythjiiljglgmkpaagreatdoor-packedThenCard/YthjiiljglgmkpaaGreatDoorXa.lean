/- A field of bits: what it is in memory; its methods. -/
import Derived.Test.YthjiiljglgmkpaaGreatDoorZc
import Derived.Test.YthjiiljglgmkpaaGreatDoorWa
import Derived.Lib.SliceRun
import Derived.Lib.LazyBuf
import Derived.Deep.RegionHeld2
namespace Go.Proofs.YthjiiljglgmkpaaGreatDoor.Tt
open Go.RowKit
set_option linter.unusedVariables false
set_option linter.unusedSimpArgs false
set_option maxRecDepth 100000

/-- How many words hold so many bits. -/
def nw (m : Nat) : Nat := (m + 63) / 64
/-- The bits of a row. -/
def bt (C : Nat) (g : Nat → Nat) (i x : Nat) : Bool := decide (x < C) && decide (g (i * C + x) ≠ 0)
/-- The cells of a list of rows: lengths and words. -/
structure Rw (w : World) (r C R : Nat) (wb : Nat → Nat) (K : Nat) : Prop where
  le : R ≤ K
  row : ∃ f0, w.rowIs r 33 (2 * K) f0 ∧ ∀ i, i < R → f0 (i * 2) = .int .i64 (C : Nat) ∧ ∃ cp, f0 (i * 2 + 1) = .slice (some ⟨wb i, 0, none⟩) (nw C) cp
/-- The words of each row. -/
structure Ws (w : World) (C R : Nat) (wb : Nat → Nat) (g : Nat → Nat) : Prop where
  row : ∀ i, i < R → ∃ K f0, w.rowIs (wb i) 37 K f0 ∧ nw C ≤ K ∧ ∀ k, k < nw C → f0 k = .int .u64 (Pk.pack (bt C g i) k)
  inj : ∀ i j, i < R → j < R → wb i = wb j → i = j
/-- A store of bits: its block, its rows', its words'. -/
structure Sb (w : World) (s : Nat) (q : Nat × (Nat → Nat)) (C R S : Nat) (g : Nat → Nat) : Prop where
  two : S = 2
  low : ∀ k, k < C * R → g k < 2
  cap : ∃ K, Bo w s 187 #[.int .i64 (C : Nat), .int .i64 (R : Nat), .int .i64 (S : Nat), .slice (some ⟨q.1, 0, none⟩) R K] ∧ Rw w q.1 C R q.2 K
  wrd : Ws w C R q.2 g
/-- A field of bits. -/
structure Fb (w : World) (b s : Nat) (q : Nat × (Nat → Nat)) (C R S : Nat) (g : Nat → Nat) : Prop where
  fld : Bo w b 57 #[.iface 163 (.pointer (some ⟨s, 0, none⟩))]
  st : Sb w s q C R S g
theorem Rw.kept {w w' : World} {r C R K : Nat} {wb : Nat → Nat} {o : Option Nat} (h : Rw w r C R wb K) (hg : w.grownBy w' o) (hne : some r ≠ o) : Rw w' r C R wb K :=
  let ⟨f0, h1, h2⟩ := h.row
  ⟨h.le, f0, rowIs_kept h1 hg hne, h2⟩
theorem Ws.kept {w w' : World} {C R : Nat} {wb g : Nat → Nat} {o : Option Nat} (h : Ws w C R wb g) (hg : w.grownBy w' o) (hne : ∀ i, i < R → some (wb i) ≠ o) : Ws w' C R wb g :=
  ⟨fun i hi => let ⟨K, f0, h1, h2⟩ := h.row i hi; ⟨K, f0, rowIs_kept h1 hg (hne i hi), h2⟩, h.inj⟩
theorem Ws.congr {w : World} {C R : Nat} {wb g g' : Nat → Nat} (h : Ws w C R wb g) (e : ∀ k, k < C * R → g k = g' k) : Ws w C R wb g' :=
  ⟨fun i hi => by
    obtain ⟨K, f0, h1, h2, h3⟩ := h.row i hi
    refine ⟨K, f0, h1, h2, fun k hk => ?_⟩
    rw [h3 k hk, Pk.pack_congr (p := bt C g i) (q := bt C g' i) fun j hj => ?_]
    unfold bt
    by_cases hx : 64 * k + j < C
    · rw [e _ (by have := row_le (C := C) hi; omega)]
    · simp [hx], h.inj⟩
theorem Sb.kept {w w2 : World} {s : Nat} {q : Nat × (Nat → Nat)} {C R S : Nat} {g : Nat → Nat} (h : Sb w s q C R S g) (hg : w.grownBy w2 none) : Sb w2 s q C R S g :=
  let ⟨K, h1, h2⟩ := h.cap
  ⟨h.two, h.low, ⟨K, h1.kept hg (by simp), h2.kept hg (by simp)⟩, h.wrd.kept hg (by simp)⟩
theorem Sb.keptX {w w2 : World} {s : Nat} {q : Nat × (Nat → Nat)} {C R S : Nat} {g : Nat → Nat} (h : Sb w s q C R S g) {o : Option Nat} (hg : w.grownBy w2 o) (ho : ∀ i, o = some i → s ≠ i ∧ q.1 ≠ i ∧ ∀ j, j < R → q.2 j ≠ i) : Sb w2 s q C R S g :=
  let ⟨K, h1, h2⟩ := h.cap
  ⟨h.two, h.low, ⟨K, h1.kept hg (fun e => (ho _ e.symm).1 rfl), h2.kept hg (fun e => (ho _ e.symm).2.1 rfl)⟩, h.wrd.kept hg (fun j hj e => (ho _ e.symm).2.2 j hj rfl)⟩
theorem Sb.congr {w : World} {s : Nat} {q : Nat × (Nat → Nat)} {C R S : Nat} {g : Nat → Nat} (h : Sb w s q C R S g) {g' : Nat → Nat} (e : ∀ k, k < C * R → g k = g' k) : Sb w s q C R S g' :=
  ⟨h.two, fun k hk => by rw [← e k hk]; exact h.low k hk, h.cap, h.wrd.congr e⟩
theorem Sb.blk {w : World} {s : Nat} {q : Nat × (Nat → Nat)} {C R S : Nat} {g : Nat → Nat} (h : Sb w s q C R S g) : ∃ v, Bo w s 187 #[.int .i64 (C : Nat), .int .i64 (R : Nat), .int .i64 (S : Nat), v] :=
  let ⟨K, h1, _⟩ := h.cap
  ⟨_, h1⟩
theorem Sb.slt {w : World} {s : Nat} {q : Nat × (Nat → Nat)} {C R S : Nat} {g : Nat → Nat} (h : Sb w s q C R S g) : s < w.heap.size :=
  let ⟨_, h1⟩ := h.blk
  h1.lt
theorem Fb.kept {w w2 : World} {b s : Nat} {q : Nat × (Nat → Nat)} {C R S : Nat} {g : Nat → Nat} (h : Fb w b s q C R S g) (hg : w.grownBy w2 none) : Fb w2 b s q C R S g :=
  ⟨h.fld.kept hg (by simp), h.st.kept hg⟩
theorem Fb.keptX {w w2 : World} {b s : Nat} {q : Nat × (Nat → Nat)} {C R S : Nat} {g : Nat → Nat} (h : Fb w b s q C R S g) {o : Option Nat} (hg : w.grownBy w2 o) (ho : ∀ i, o = some i → b ≠ i ∧ s ≠ i ∧ q.1 ≠ i ∧ ∀ j, j < R → q.2 j ≠ i) : Fb w2 b s q C R S g :=
  ⟨h.fld.kept hg (fun e => (ho _ e.symm).1 rfl), h.st.keptX hg (fun i e => (ho i e).2)⟩
theorem Fb.congr {w : World} {b s : Nat} {q : Nat × (Nat → Nat)} {C R S : Nat} {g : Nat → Nat} (h : Fb w b s q C R S g) {g' : Nat → Nat} (e : ∀ k, k < C * R → g k = g' k) : Fb w b s q C R S g' := ⟨h.fld, h.st.congr e⟩
theorem Fb.cell {w : World} {b s : Nat} {q : Nat × (Nat → Nat)} {C R S : Nat} {g : Nat → Nat} (h : Fb w b s q C R S g) : w.cell? ⟨b, 0, none⟩ = some (.iface 163 (.pointer (some ⟨s, 0, none⟩))) := h.fld.cell 0 rfl
theorem Ws.lt {w : World} {C R : Nat} {wb g : Nat → Nat} (h : Ws w C R wb g) {i : Nat} (hi : i < R) : wb i < w.heap.size := by
  obtain ⟨K, f0, ⟨c, hc, _⟩, _⟩ := h.row i hi
  exact (Array.getElem?_eq_some_iff.1 hc).1
theorem Rw.lt {w : World} {r C R K : Nat} {wb : Nat → Nat} (h : Rw w r C R wb K) : r < w.heap.size := by
  obtain ⟨f0, ⟨c, hc, _⟩, _⟩ := h.row
  exact (Array.getElem?_eq_some_iff.1 hc).1
theorem Fb.lts {w : World} {b s : Nat} {q : Nat × (Nat → Nat)} {C R S : Nat} {g : Nat → Nat} (h : Fb w b s q C R S g) : b < w.heap.size ∧ s < w.heap.size ∧ q.1 < w.heap.size ∧ ∀ j, j < R → q.2 j < w.heap.size := by
  obtain ⟨K, h1, h2⟩ := h.st.cap
  exact ⟨h.fld.lt, h1.lt, h2.lt, fun j hj => h.st.wrd.lt hj⟩
/-- The blocks are apart: their cells are of unlike types. -/
theorem apart_bw {w : World} {b k m : Nat} {t n : TypeId} {cs : Array Value} {f0 : Nat → Value} (h1 : Bo w b t cs) (h2 : w.rowIs k n m f0) (hn : t ≠ n) : b ≠ k := by
  rintro rfl
  obtain ⟨c, hc, _⟩ := h2
  unfold Bo at h1
  rw [h1] at hc
  simp [hn] at hc
theorem apart_ww {w : World} {b k m m' : Nat} {t n : TypeId} {f f0 : Nat → Value} (h1 : w.rowIs b t m' f) (h2 : w.rowIs k n m f0) (hn : t ≠ n) : b ≠ k := by
  rintro rfl
  obtain ⟨c, hc, _⟩ := h2
  obtain ⟨d, hd, _⟩ := h1
  rw [hd] at hc
  simp [hn] at hc
theorem Sb.apart {w : World} {s : Nat} {q : Nat × (Nat → Nat)} {C R S : Nat} {g : Nat → Nat} (h : Sb w s q C R S g) {y : Nat} (hy : y < R) : s ≠ q.2 y := by
  obtain ⟨K, h1, _⟩ := h.cap
  obtain ⟨K2, f0, h2, _⟩ := h.wrd.row y hy
  exact apart_bw h1 h2 (by decide)
theorem Fb.apart {w : World} {b s : Nat} {q : Nat × (Nat → Nat)} {C R S : Nat} {g : Nat → Nat} (h : Fb w b s q C R S g) {y : Nat} (hy : y < R) : b ≠ q.2 y := by
  obtain ⟨K2, f0, h2, _⟩ := h.st.wrd.row y hy
  exact apart_bw h.fld h2 (by decide)
theorem Sb.apartR {w : World} {s : Nat} {q : Nat × (Nat → Nat)} {C R S : Nat} {g : Nat → Nat} (h : Sb w s q C R S g) {y : Nat} (hy : y < R) : q.1 ≠ q.2 y := by
  obtain ⟨K, _, _, f1, h1, _⟩ := h.cap
  obtain ⟨K2, f0, h2, _⟩ := h.wrd.row y hy
  exact apart_ww h1 h2 (by decide)
/-- The words of one row are written. -/
theorem Sb.put {w w2 : World} {s : Nat} {q : Nat × (Nat → Nat)} {C R S : Nat} {g : Nat → Nat} (h : Sb w s q C R S g) {y : Nat} (hy : y < R) (hg : w.grownBy w2 (some (q.2 y))) {g' : Nat → Nat} (hl : ∀ k, k < C * R → g' k < 2) (he : ∀ i, i < R → i ≠ y → ∀ x, x < C → g' (i * C + x) = g (i * C + x)) (hr : ∃ K f0, w2.rowIs (q.2 y) 37 K f0 ∧ nw C ≤ K ∧ ∀ k, k < nw C → f0 k = .int .u64 (Pk.pack (bt C g' y) k)) : Sb w2 s q C R S g' := by
  obtain ⟨K, h1, h2⟩ := h.cap
  refine ⟨h.two, hl, ⟨K, h1.kept hg (fun e => by cases e; exact h.apart hy rfl), h2.kept hg (fun e => h.apartR hy (by simpa using e))⟩, ⟨fun i hi => ?_, h.wrd.inj⟩⟩
  by_cases hiy : i = y
  · subst hiy; exact hr
  · obtain ⟨K2, f0, k1, k2, k3⟩ := h.wrd.row i hi
    refine ⟨K2, f0, rowIs_kept k1 hg (fun e => hiy (h.wrd.inj i y hi hy (by simpa using e))), k2, fun k hk => ?_⟩
    rw [k3 k hk, Pk.pack_congr (p := bt C g i) (q := bt C g' i) fun j hj => ?_]
    unfold bt
    by_cases hx : 64 * k + j < C
    · rw [he i hi hiy _ hx]
    · simp [hx]
theorem Sb.mayBe {w : World} {s : Nat} {q : Nat × (Nat → Nat)} {C R S : Nat} {g : Nat → Nat} (h : Sb w s q C R S g) (hC : C ≤ 65536) (i : Nat) : MayBe C (nw C) (bt C g i) := ⟨by omega, rfl, fun x hx => by unfold bt; simp; omega⟩
theorem Sb.wd {w : World} {s : Nat} {q : Nat × (Nat → Nat)} {C R S : Nat} {g : Nat → Nat} (h : Sb w s q C R S g) {y : Nat} (hy : y < R) : Wd w (some ⟨q.2 y, 0, none⟩) (nw C) (Pk.pack (bt C g y)) := fun k hk => by
  obtain ⟨K, f0, h1, h2, h3⟩ := h.wrd.row y hy
  exact ⟨_, rfl, by rw [add_mid, Nat.zero_add, h1.cell (by omega), h3 k hk]⟩
theorem Sb.frz {w : World} {s : Nat} {q : Nat × (Nat → Nat)} {C R S : Nat} {g : Nat → Nat} (h : Sb w s q C R S g) {y : Nat} (hy : y < R) (k : Nat) : w.frozen? ⟨q.2 y, k, none⟩ = false := by
  obtain ⟨K, f0, h1, _⟩ := h.wrd.row y hy
  exact h1.frozen k
theorem Sb.rowc {w : World} {s : Nat} {q : Nat × (Nat → Nat)} {C R S : Nat} {g : Nat → Nat} (h : Sb w s q C R S g) {y : Nat} (hy : y < R) : ∃ K cp, w.cell? ⟨s, 3, none⟩ = some (.slice (some ⟨q.1, 0, none⟩) R K) ∧ R ≤ K ∧ w.cell? ⟨q.1, y * 2, none⟩ = some (.int .i64 (C : Nat)) ∧ w.cell? ⟨q.1, y * 2 + 1, none⟩ = some (.slice (some ⟨q.2 y, 0, none⟩) (nw C) cp) := by
  obtain ⟨K, h1, h2, f0, h3, h4⟩ := h.cap
  obtain ⟨h5, cp, h6⟩ := h4 y hy
  exact ⟨K, cp, h1.cell 3 rfl, h2, by rw [h3.cell (by omega), h5], by rw [h3.cell (by omega), h6]⟩

theorem follow_sz (s : Nat) (w : World) : (follow [⟨187, 0, true⟩] 163 (.val (.pointer (some ⟨s, 0, none⟩)))).run Tryz.prog w = .ok (98, .var ⟨s, 0, none⟩) w := by kernel_rfl
theorem load_sz {w : World} {s : Nat} {q : Nat × (Nat → Nat)} {C R S : Nat} {g : Nat → Nat} (h : Sb w s q C R S g) : (loadVar 98 ⟨s, 0, none⟩).run Tryz.prog w = .ok (.agg #[.int .i64 C, .int .i64 R, .int .i64 S]) w := by
  obtain ⟨fs, hfs⟩ : ∃ fs, Tryz.prog.underlying 98 = some (.struct fs) := ⟨_, Tryz.underlying98⟩
  refine run_loadVar_mid w s 0 98 [.int .i64 C, .int .i64 R, .int .i64 S] (.struct fs) (fun j v hj => ?_) hfs rfl (by kernel_rfl)
  rw [Nat.zero_add]
  obtain ⟨v0, hv0⟩ := h.blk
  refine hv0.cell j ?_
  match j, hj with
  | 0, hj => exact hj
  | 1, hj => exact hj
  | 2, hj => exact hj
theorem meth_sz {w : World} {s : Nat} {q : Nat × (Nat → Nat)} {C R S : Nat} {g : Nat → Nat} (h : Sb w s q C R S g) (nm : String) (k : Nat)
    (hm : ((Tryz.prog.info? 163).bind (fun i => i.methods.find? (·.name == nm))).map (fun m => (m.func, m.path)) = some (some (k, false), #[⟨187, 0, true⟩])) :
    (method 355 163 (.pointer (some ⟨s, 0, none⟩)) nm).run Tryz.prog w = .ok (k, .agg #[.int .i64 C, .int .i64 R, .int .i64 S]) w := by
  cases h1 : Tryz.prog.info? 163 with
  | none => rw [h1] at hm; cases hm
  | some i =>
    rw [h1] at hm
    cases h2 : i.methods.find? (·.name == nm) with
    | none => simp [h2] at hm
    | some m =>
      simp only [Option.bind_some, h2, Option.map_some, Option.some.injEq, Prod.mk.injEq] at hm
      obtain ⟨h3, h4⟩ := hm
      have hti : (typeInfo 163).run Tryz.prog w = .ok i w := by simp [typeInfo, h1]
      rw [method]
      simp only [Sem.run_bind, hti, Result.andThen_ok, h2, h3, h4, follow_sz, Sem.run_pure]
      rw [if_neg (by decide), rec_sz, load_sz h]
      rfl
theorem m_measure {w : World} {s : Nat} {q : Nat × (Nat → Nat)} {C R S : Nat} {g : Nat → Nat} (h : Sb w s q C R S g) : (method 355 163 (.pointer (some ⟨s, 0, none⟩)) "vivarium/field.measure").run Tryz.prog w = .ok (176, .agg #[.int .i64 C, .int .i64 R, .int .i64 S]) w := meth_sz h _ _ (by kernel_rfl)
theorem m_fitsBits {w : World} {s : Nat} {q : Nat × (Nat → Nat)} {C R S : Nat} {g : Nat → Nat} (h : Sb w s q C R S g) : (method 355 163 (.pointer (some ⟨s, 0, none⟩)) "vivarium/field.fitsBits").run Tryz.prog w = .ok (96, .agg #[.int .i64 C, .int .i64 R, .int .i64 S]) w := meth_sz h _ _ (by kernel_rfl)
theorem m_hasPlace {w : World} {s : Nat} {q : Nat × (Nat → Nat)} {C R S : Nat} {g : Nat → Nat} (h : Sb w s q C R S g) : (method 355 163 (.pointer (some ⟨s, 0, none⟩)) "vivarium/field.hasPlace").run Tryz.prog w = .ok (173, .agg #[.int .i64 C, .int .i64 R, .int .i64 S]) w := meth_sz h _ _ (by kernel_rfl)
theorem m_hasRow {w : World} {s : Nat} {q : Nat × (Nat → Nat)} {C R S : Nat} {g : Nat → Nat} (h : Sb w s q C R S g) : (method 355 163 (.pointer (some ⟨s, 0, none⟩)) "vivarium/field.hasRow").run Tryz.prog w = .ok (174, .agg #[.int .i64 C, .int .i64 R, .int .i64 S]) w := meth_sz h _ _ (by kernel_rfl)
theorem m_hasState {w : World} {s : Nat} {q : Nat × (Nat → Nat)} {C R S : Nat} {g : Nat → Nat} (h : Sb w s q C R S g) : (method 355 163 (.pointer (some ⟨s, 0, none⟩)) "vivarium/field.hasState").run Tryz.prog w = .ok (175, .agg #[.int .i64 C, .int .i64 R, .int .i64 S]) w := meth_sz h _ _ (by kernel_rfl)
theorem m_checkLine {w : World} {s : Nat} {q : Nat × (Nat → Nat)} {C R S : Nat} {g : Nat → Nat} (h : Sb w s q C R S g) : (method 355 163 (.pointer (some ⟨s, 0, none⟩)) "vivarium/field.checkLine").run Tryz.prog w = .ok (172, .agg #[.int .i64 C, .int .i64 R, .int .i64 S]) w := meth_sz h _ _ (by kernel_rfl)
theorem m_packed (s : Nat) (w : World) : (method 355 163 (.pointer (some ⟨s, 0, none⟩)) "vivarium/field.packed").run Tryz.prog w = .ok (182, .pointer (some ⟨s, 0, none⟩)) w := by kernel_rfl
theorem m_get (s : Nat) (w : World) : (method 355 163 (.pointer (some ⟨s, 0, none⟩)) "vivarium/field.get").run Tryz.prog w = .ok (179, .pointer (some ⟨s, 0, none⟩)) w := by kernel_rfl
theorem m_set (s : Nat) (w : World) : (method 355 163 (.pointer (some ⟨s, 0, none⟩)) "vivarium/field.set").run Tryz.prog w = .ok (184, .pointer (some ⟨s, 0, none⟩)) w := by kernel_rfl
theorem m_read (s : Nat) (w : World) : (method 355 163 (.pointer (some ⟨s, 0, none⟩)) "vivarium/field.read").run Tryz.prog w = .ok (183, .pointer (some ⟨s, 0, none⟩)) w := by kernel_rfl
theorem m_lay (s : Nat) (w : World) : (method 355 163 (.pointer (some ⟨s, 0, none⟩)) "vivarium/field.lay").run Tryz.prog w = .ok (180, .pointer (some ⟨s, 0, none⟩)) w := by kernel_rfl
theorem m_wipe (s : Nat) (w : World) : (method 355 163 (.pointer (some ⟨s, 0, none⟩)) "vivarium/field.wipe").run Tryz.prog w = .ok (186, .pointer (some ⟨s, 0, none⟩)) w := by kernel_rfl
theorem m_count (s : Nat) (w : World) : (method 355 163 (.pointer (some ⟨s, 0, none⟩)) "vivarium/field.count").run Tryz.prog w = .ok (178, .pointer (some ⟨s, 0, none⟩)) w := by kernel_rfl
theorem m_span (s : Nat) (w : World) : (method 355 163 (.pointer (some ⟨s, 0, none⟩)) "vivarium/field.span").run Tryz.prog w = .ok (185, .pointer (some ⟨s, 0, none⟩)) w := by kernel_rfl
theorem m_living (s : Nat) (w : World) : (method 355 163 (.pointer (some ⟨s, 0, none⟩)) "vivarium/field.living").run Tryz.prog w = .ok (181, .pointer (some ⟨s, 0, none⟩)) w := by kernel_rfl
theorem m_copied (s : Nat) (w : World) : (method 355 163 (.pointer (some ⟨s, 0, none⟩)) "vivarium/field.copied").run Tryz.prog w = .ok (177, .pointer (some ⟨s, 0, none⟩)) w := by kernel_rfl
end Go.Proofs.YthjiiljglgmkpaaGreatDoor.Tt
namespace Go.Proofs.YthjiiljglgmkpaaGreatDoor.Tt
open Go.RowKit
set_option linter.unusedVariables false
set_option linter.unusedSimpArgs false
set_option maxRecDepth 100000

theorem mixed : Tryz.prog.follows .mixedOrders = true := by kernel_rfl
theorem andNot_nat (x y : Nat) (hx : x < 18446744073709551616) (hl : y < 18446744073709551616) : bits .andNot .u64 (x : Int) (y : Int) = ((x &&& (18446744073709551615 ^^^ y) : Nat) : Int) := by
  have hy : x &&& (18446744073709551615 ^^^ y) < 18446744073709551616 := Nat.lt_of_le_of_lt Nat.and_le_left hx
  unfold bits
  simp only [BitVec.ofInt_natCast]
  have hb : (BitVec.ofNat 64 x &&& ~~~ BitVec.ofNat 64 y).toNat = x &&& (18446744073709551615 ^^^ y) := by
    rw [BitVec.toNat_and, BitVec.toNat_ofNat, Nat.mod_eq_of_lt hx, BitVec.not_def, BitVec.toNat_xor, BitVec.toNat_ofNat, Nat.mod_eq_of_lt hl]
    rfl
  have hf : IntKind.u64.wrap (((BitVec.ofNat 64 x &&& ~~~ BitVec.ofNat 64 y).toNat : Nat) : Int) = ((x &&& (18446744073709551615 ^^^ y) : Nat) : Int) := by
    rw [hb, IntKind.wrap_u64]
    omega
  exact hf
theorem bt_val (p : Nat → Bool) (x : Nat) : (Pk.pack p (x / 64)).testBit (x % 64) = p x := by
  rw [Pk.testBit_pack]
  have h1 : 64 * (x / 64) + x % 64 = x := by omega
  have h2 : x % 64 < 64 := by omega
  simp [h1, h2]
/-- A place's bit is written. -/
theorem pack_put (p : Nat → Bool) (x u : Nat) (hu : u < 2) : (Pk.pack p (x / 64) &&& (18446744073709551615 ^^^ Pk.one x)) ||| (u * Pk.one x) = Pk.pack (fun i => if i = x then decide (u ≠ 0) else p i) (x / 64) := by
  apply Nat.eq_of_testBit_eq
  intro j
  have e : (18446744073709551615 : Nat) = 2 ^ 64 - 1 := by decide
  have hm : x % 64 < 64 := by omega
  have hu' : u = 0 ∨ u = 1 := by omega
  rw [Nat.testBit_or, Nat.testBit_and, Nat.testBit_xor, e, Pk.testBit_pack, Pk.testBit_pack, Nat.testBit_two_pow_sub_one]
  unfold Pk.one
  by_cases hj : j < 64
  · by_cases he : 64 * (x / 64) + j = x
    · have h1 : x % 64 = j := by omega
      rcases hu' with rfl | rfl
      · simp [hj, he, h1, Nat.testBit_two_pow]
      · simp [hj, he, h1, Nat.testBit_two_pow]
    · have h1 : ¬ x % 64 = j := by omega
      rcases hu' with rfl | rfl
      · simp [hj, he, h1, Nat.testBit_two_pow]
      · simp [hj, he, h1, Nat.testBit_two_pow]
  · have h1 : ¬ x % 64 = j := by omega
    rcases hu' with rfl | rfl
    · simp [hj, h1, Nat.testBit_two_pow]
    · simp [hj, h1, Nat.testBit_two_pow]
/-- A place's bit is raised, or not. -/
theorem pack_or1 (p : Nat → Bool) (x u : Nat) (hu : u < 2) : Pk.pack p (x / 64) ||| (u * Pk.one x) = Pk.pack (fun i => p i || (decide (i = x) && decide (u ≠ 0))) (x / 64) := by
  have hu' : u = 0 ∨ u = 1 := by omega
  rcases hu' with rfl | rfl
  · simp
  · have := Pk.pack_raise p x (x / 64)
    rw [if_pos rfl] at this
    rw [Nat.one_mul, this]
    refine Pk.pack_congr fun j _ => ?_
    by_cases he : 64 * (x / 64) + j = x
    · simp [he]
    · simp [he]
theorem one_le (x u : Nat) (hu : u < 2) : u * Pk.one x < 18446744073709551616 := by
  have := Pk.one_lt x
  have hu' : u = 0 ∨ u = 1 := by omega
  rcases hu' with rfl | rfl <;> omega
theorem wrap_sh (x u : Nat) (hu : u < 2) : IntKind.u64.wrap ((u : Int) * 2 ^ (x % 64)) = ((u * Pk.one x : Nat) : Int) := by
  have h := one_le x u hu
  rw [IntKind.wrap_u64]
  have e : (u : Int) * 2 ^ (x % 64) = ((u * Pk.one x : Nat) : Int) := by unfold Pk.one; simp
  rw [e]
  omega
theorem wrap_one (x : Nat) : IntKind.u64.wrap (2 ^ (x % 64)) = (Pk.one x : Int) := by
  have h := Pk.one_lt x
  rw [IntKind.wrap_u64]
  have e : (2 : Int) ^ (x % 64) = (Pk.one x : Int) := by unfold Pk.one; simp
  rw [e]
  omega
theorem nw_lt {C x : Nat} (hx : x < C) : x / 64 < nw C := by unfold nw; omega
theorem nw_le {C : Nat} (h : C ≤ 65536) : nw C ≤ 1024 := by unfold nw; omega

theorem getC (s : Nat) (q : Nat × (Nat → Nat)) (C R S : Nat) (g : Nat → Nat) (hz : Sz C R S) (x y : Nat) (hx : x < C) (hy : y < R) (w : World) (h : Sb w s q C R S g) : Calls Tryz.prog 179 #[.pointer (some ⟨s, 0, none⟩), .int .i64 (x : Nat), .int .i64 (y : Nat)] w fun e w' => e = .returned (.int .u8 (g (y * C + x) : Nat)) ∧ w.grownBy w' none := by
  obtain ⟨K, cp, c3, hRK, r0, r1⟩ := h.rowc hy
  have hy' : (y : Int) < (R : Int) := by omega
  have hr1 := hz.r1
  have hl := h.low (y * C + x) (by have := row_le (C := C) hy; omega)
  have hgt := fun cap w hc => Wo.getC C (nw C) cap (some ⟨q.2 y, 0, none⟩) (bt C g y) (h.mayBe hz.c1 y) (x : Int) w hc
  have hb : Wo.getB C (bt C g y) (x : Int) = decide (g (y * C + x) ≠ 0) := by
    unfold Wo.getB bt
    simp [hx]
  rw [hb] at hgt
  have hw := h.wd hy
  obtain ⟨u, hu⟩ : ∃ u, g (y * C + x) = u := ⟨_, rfl⟩
  rw [hu] at hgt hl ⊢
  clear hb hu
  by_cases h0 : u = 0
  · subst h0
    simp only [ne_eq, not_true_eq_false, decide_false] at hgt
    go_enter Tryz.func179, Tryz.ntmps179
    go_wp2_with (go_at_call 23; refine (hgt _ w hw).mono ?_; rintro e V ⟨rfl, gV⟩)
    go_ret
    exact ⟨rfl, gV⟩
  · obtain rfl : u = 1 := by omega
    simp only [ne_eq, Nat.one_ne_zero, not_false_eq_true, decide_true] at hgt
    go_enter Tryz.func179, Tryz.ntmps179
    go_wp2_with (go_at_call 23; refine (hgt _ w hw).mono ?_; rintro e V ⟨rfl, gV⟩)
    go_ret
    exact ⟨rfl, gV⟩

/-- What stands in a row behind a cell's setting. -/
theorem bt_set (C : Nat) (g : Nat → Nat) (x y u : Nat) (hx : x < C) (i : Nat) : (if i = x then decide (u ≠ 0) else bt C g y i) = bt C (fun k => if k = y * C + x then u else g k) y i := by
  unfold bt
  dsimp only
  by_cases h1 : i = x
  · subst h1
    simp [hx]
  · have h2 : ¬ y * C + i = y * C + x := by omega
    simp only [if_neg h1, if_neg h2]
theorem setC (s : Nat) (q : Nat × (Nat → Nat)) (C R S : Nat) (g : Nat → Nat) (hz : Sz C R S) (x y u : Nat) (hx : x < C) (hy : y < R) (hu : u < S) (w : World) (h : Sb w s q C R S g) : Calls Tryz.prog 184 #[.pointer (some ⟨s, 0, none⟩), .int .i64 (x : Nat), .int .i64 (y : Nat), .int .u8 (u : Nat)] w fun e w' => e = .returned (.tuple #[]) ∧ Sb w' s q C R S (fun k => if k = y * C + x then u else g k) ∧ w.grownBy w' (some (q.2 y)) := by
  obtain ⟨K, cp, c3, hRK, r0, r1⟩ := h.rowc hy
  have hy' : (y : Int) < (R : Int) := by omega
  have hr1 := hz.r1
  have hc1 := hz.c1
  have hu2 : u < 2 := by have := h.two; omega
  have hk := nw_lt hx
  have hc := (h.wd hy).at (k := x / 64) hk
  rw [add_mid, Nat.zero_add] at hc
  have hf := h.frz hy (x / 64)
  have hd : IntKind.i64.wrap ((x : Int) / 64) = ((x / 64 : Nat) : Int) := by rw [IntKind.wrap_i64]; omega
  have ht : ((x : Int) / 64).toNat = x / 64 := by omega
  have hbi : (x : Int) / 64 < (nw C : Nat) := by omega
  have hi0 : (0 : Int) ≤ (x : Int) / 64 := by omega
  have hand := andNot_nat (Pk.pack (bt C g y) (x / 64)) (Pk.one x) (Pk.pack_lt _ _) (Pk.one_lt x)
  have hor := bits_or_u64_nat (Pk.pack (bt C g y) (x / 64) &&& (18446744073709551615 ^^^ Pk.one x)) (u * Pk.one x) (Pk.and_lt (Pk.pack_lt _ _)) (one_le x u hu2)
  have hpp := pack_put (bt C g y) x u hu2
  have hw1 := wrap_one x
  have hw2 := wrap_sh x u hu2
  have hfin : ∀ X, w.grownBy X (some (q.2 y)) → (∃ K f0, X.rowIs (q.2 y) 37 K f0 ∧ nw C ≤ K ∧ ∀ k, k < nw C → f0 k = .int .u64 (Pk.pack (fun i => if i = x then decide (u ≠ 0) else bt C g y i) k)) → Sb X s q C R S (fun k => if k = y * C + x then u else g k) := by
    rintro X hX ⟨K, f0, k1, k2, k3⟩
    refine h.put hy hX (fun k hk => ?_) (fun i hi hiy j hj => ?_) ⟨K, f0, k1, k2, fun k hk => ?_⟩
    · split
      · exact hu2
      · exact h.low k hk
    · rw [if_neg]
      intro e
      rcases Nat.lt_or_gt_of_ne hiy with h1 | h1
      · have := Nat.mul_le_mul_right C (show i + 1 ≤ y from h1)
        rw [Nat.succ_mul] at this
        omega
      · have := Nat.mul_le_mul_right C (show y + 1 ≤ i from h1)
        rw [Nat.succ_mul] at this
        omega
    · rw [k3 k hk, Pk.pack_congr (q := bt C (fun k => if k = y * C + x then u else g k) y) fun j _ => bt_set C g x y u hx _]
  obtain ⟨KW, fW, w1, w2, w3⟩ := h.wrd.row y hy
  have hmin : min (x % 64) 64 = x % 64 := by omega
  have htm : Int.tmod (x : Int) 64 = ((x % 64 : Nat) : Int) := by rw [Int.tmod_eq_emod_of_nonneg (Int.natCast_nonneg _)]; omega
  rw [hpp] at hor
  have HP2 : Hid (∀ k, k < nw C → (fun j => if j = x / 64 then Value.int .u64 (Pk.pack (fun i => if i = x then decide (u ≠ 0) else bt C g y i) (x / 64) : Nat) else fW j) k = .int .u64 (Pk.pack (fun i => if i = x then decide (u ≠ 0) else bt C g y i) k)) := fun k hk => by
    by_cases hkx : k = x / 64
    · subst hkx; simp
    · simp only [if_neg hkx]
      rw [w3 k hk]
      refine congrArg (fun v : Nat => Value.int .u64 (v : Int)) (Pk.pack_congr fun j hj => ?_)
      rw [if_neg (by omega)]
  have hu8 : u < 256 := by omega
  clear hpp
  go_enter Tryz.func184, Tryz.ntmps184
  go_wp2
  refine region_tail 8 mixed (by kernel_rfl) ?_
  simp only [List.take_succ_cons, List.take_zero, List.drop_succ_cons, List.drop_zero]
  repeat still_step
  refine wpStill_nil ?_
  go_wp2
  refine region_tail 10 mixed (by kernel_rfl) ?_
  simp only [List.take_succ_cons, List.take_zero, List.drop_succ_cons, List.drop_zero]
  repeat still_step
  refine wpStill_nil ?_
  go_wp2
  go_end0
  rw [hw2, hor]
  have gF := gb_drew (gb_drew (gb_set (gb_set (World.grownBy.refl w (some (q.2 y))) (x / 64) (.int .u64 ((Pk.pack (bt C g y) (x / 64) &&& (18446744073709551615 ^^^ Pk.one x) : Nat) : Int))) (x / 64) (.int .u64 (Pk.pack (fun i => if i = x then decide (u ≠ 0) else bt C g y i) (x / 64) : Nat))))
  refine ⟨rfl, hfin _ gF ⟨KW, _, (World.rowIs.set (World.rowIs.set w1 (x / 64) (.int .u64 ((Pk.pack (bt C g y) (x / 64) &&& (18446744073709551615 ^^^ Pk.one x) : Nat) : Int))) (x / 64) (.int .u64 (Pk.pack (fun i => if i = x then decide (u ≠ 0) else bt C g y i) (x / 64) : Nat))).congr (fun j hj => ?_), w2, HP2.out⟩, gF⟩
  by_cases hjx : j = x / 64
  · simp [hjx]
  · simp [hjx]

/-- A row's state, read off its word. -/
theorem rd_val (C : Nat) (g : Nat → Nat) (y x : Nat) (hx : x < C) (hl : g (y * C + x) < 2) : Pk.pack (bt C g y) (x / 64) / 2 ^ (x % 64) % 2 = g (y * C + x) := by
  rw [Pk.bit_div, bt_val]
  unfold bt
  by_cases h0 : g (y * C + x) = 0
  · simp [h0]
  · have h1 : g (y * C + x) = 1 := by omega
    simp [hx, h1]
theorem and_one (v m : Nat) (hv : v < 18446744073709551616) : bits .and .u64 ((v : Int) / 2 ^ m) 1 % 256 = ((v / 2 ^ m % 2 : Nat) : Int) := by
  have e : (v : Int) / 2 ^ m = ((v / 2 ^ m : Nat) : Int) := by simp
  have hl : v / 2 ^ m < 18446744073709551616 := Nat.lt_of_le_of_lt (Nat.div_le_self _ _) hv
  have h := bits_and_u64_nat (v / 2 ^ m) 1 hl (by decide)
  rw [e]
  have h' : bits .and .u64 ((v / 2 ^ m : Nat) : Int) 1 = ((v / 2 ^ m &&& 1 : Nat) : Int) := h
  rw [h', Nat.and_one_is_mod]
  omega
theorem readC (s : Nat) (q : Nat × (Nat → Nat)) (C R S : Nat) (g : Nat → Nat) (hz : Sz C R S) (y : Nat) (hy : y < R) (d cap : Nat) (f0 : Nat → Value) (w : World) (h : Sb w s q C R S g) (hd : w.rowIs d 5 C f0) : Calls Tryz.prog 183 #[.pointer (some ⟨s, 0, none⟩), .int .i64 (y : Nat), .slice (some ⟨d, 0, none⟩) C cap] w fun e w' => e = .returned (.tuple #[]) ∧ w'.rowIs d 5 C (fun x => .int .u8 (g (y * C + x) : Nat)) ∧ w.grownBy w' (some d) := by
  obtain ⟨K, cp, c3, hRK, r0, r1⟩ := h.rowc hy
  have hy' : (y : Int) < (R : Int) := by omega
  have hr1 := hz.r1
  have hc1 := hz.c1
  have hwd := h.wd hy
  have hne : d ≠ q.2 y := by
    obtain ⟨K2, f1, h2, _⟩ := h.wrd.row y hy
    exact apart_ww hd h2 (by decide)
  go_enter Tryz.func183, Tryz.ntmps183
  go_wp2
  go_loopw [18] (fun i wr => ∃ k : Nat, k ≤ C ∧ i = .int .i64 k ∧ wr.rowIs d 5 C (fun x => if x < k then .int .u8 (g (y * C + x) : Nat) else f0 x) ∧ w.grownBy wr (some d)) (fun i _ => C - (intOf i).toNat)
  case atStart => exact ⟨0, Nat.zero_le _, rfl, hd.congr (fun x _ => by rw [if_neg (by omega)]), World.grownBy.refl _ _⟩
  case round =>
    obtain ⟨k, hk, rfl, hrow, Gk⟩ := hrel
    by_cases hlt : k < C
    · have hlt' : (k : Int) < (C : Int) := by omega
      have hkc := Gk.cell ((hwd.at (k := k / 64) (nw_lt hlt))) (by rw [add_mid]; simp; exact fun e => hne e.symm)
      rw [add_mid, Nat.zero_add] at hkc
      have hdc := hrow.cell hlt
      have hdf := hrow.frozen k
      have hbi : (k : Int) / 64 < (nw C : Nat) := by have := nw_lt hlt; omega
      have hi0 : (0 : Int) ≤ (k : Int) / 64 := by omega
      have ht : ((k : Int) / 64).toNat = k / 64 := by omega
      have hdv : IntKind.i64.wrap ((k : Int) / 64) = ((k / 64 : Nat) : Int) := by rw [IntKind.wrap_i64]; omega
      have hmin : min (k % 64) 64 = k % 64 := by omega
      have htm : Int.tmod (k : Int) 64 = ((k % 64 : Nat) : Int) := by rw [Int.tmod_eq_emod_of_nonneg (Int.natCast_nonneg _)]; omega
      have hrv := rd_val C g y k hlt (h.low _ (by have := row_le (C := C) hy; omega))
      have hao := and_one (Pk.pack (bt C g y) (k / 64)) (k % 64) (Pk.pack_lt _ _)
      rw [hrv] at hao
      go_wp2
      go_roundw
      case rel =>
        refine ⟨k + 1, hlt, by go_num, (hrow.set k _).congr (fun x _ => ?_), gb_set Gk _ _⟩
        by_cases hx : x = k
        · subst hx
          rw [if_pos rfl, if_pos (by omega)]
        · rw [if_neg hx]
          by_cases h4 : x < k
          · rw [if_pos h4, if_pos (by omega)]
          · rw [if_neg h4, if_neg (by omega)]
      case measure => simp [intOf]; omega
    · obtain rfl : k = C := by omega
      go_wp2
      go_end0
      exact ⟨rfl, hrow.congr (fun x hx => by rw [if_pos hx]), Gk⟩
theorem gb_cells (b : Nat) : ∀ (vs : List Value) (o : Nat) (w w' : World), w.grownBy w' (some b) → w.grownBy (w'.setCells b o vs) (some b)
  | [], _, _, _, h => h
  | v :: r, o, w, w', h => gb_cells b r (o + 1) w _ (gb_set h o v)
theorem underWS : Tryz.prog.underlying 31 = some (.slice 37) := by kernel_rfl
/-- A row's words, all made 0. -/
theorem clear_row (w : World) (b n K : Nat) (f0 : Nat → Value) (f : Nat → Nat) (h0 : 0 < n) (hK : n ≤ K) (h : w.rowIs b 37 K f0) (hf : ∀ k, k < n → f0 k = .int .u64 (f k : Nat)) : ∃ W2, (∀ cap, (Builtin.clear_ #[31] 0 #[.slice (some ⟨b, 0, none⟩) n cap]).run Tryz.prog w = .ok (.tuple #[]) W2) ∧ W2.rowIs b 37 K (fun k => if k < n then .int .u64 0 else f0 k) ∧ w.grownBy W2 (some b) := by
  refine ⟨w.setCells b 0 (List.replicate n (.int .u64 0)), fun cap => Lib.run_clear_slice (P := Tryz.prog) w 31 37 0 (.int .u64 0) underWS (fun _ => by kernel_rfl) rfl rfl b 0 n cap h0 (fun j hj => by rw [Nat.zero_add, h.cell (by omega)]; rfl) (fun j hj => by rw [Nat.zero_add]; exact h.frozen j), (rowIs_setCells (List.replicate n (Value.int .u64 0)) 0 w f0 h).congr fun k _ => ?_, gb_cells b _ 0 w w (World.grownBy.refl _ _)⟩
  simp only [List.length_replicate, Nat.zero_add, Nat.zero_le, true_and, Nat.sub_zero]
  by_cases hk : k < n
  · rw [if_pos hk, if_pos hk]; simp [hk]
  · rw [if_neg hk, if_neg hk]
/-- The bits of the first k states of a line. -/
def lb (f : Nat → Nat) (k i : Nat) : Bool := decide (i < k) && decide (f i ≠ 0)
theorem lb_step (f : Nat → Nat) (k : Nat) (i : Nat) : (lb f k i || (decide (i = k) && decide (f k ≠ 0))) = lb f (k + 1) i := by
  unfold lb
  by_cases h1 : i = k
  · subst h1; simp
  · by_cases h2 : i < k
    · simp [h1, h2, show i < k + 1 by omega]
    · simp [h1, h2, show ¬ i < k + 1 by omega]
theorem layC (s : Nat) (q : Nat × (Nat → Nat)) (C R S : Nat) (g : Nat → Nat) (hz : Sz C R S) (y : Nat) (hy : y < R) (sp : Option Addr) (c : Nat) (f : Nat → Nat) (hS : ∀ k, k < C → f k < S) (w : World) (h : Sb w s q C R S g) (hb : By w sp C f) (hsp : ∀ a, sp = some a → a.block ≠ q.2 y) : Calls Tryz.prog 180 #[.pointer (some ⟨s, 0, none⟩), .int .i64 (y : Nat), .slice sp C c] w fun e w' => e = .returned (.tuple #[]) ∧ Sb w' s q C R S (fun j => if y * C ≤ j ∧ j < y * C + C then f (j - y * C) else g j) ∧ w.grownBy w' (some (q.2 y)) := by
  obtain ⟨K, cp, c3, hRK, r0, r1⟩ := h.rowc hy
  have hy' : (y : Int) < (R : Int) := by omega
  have hr1 := hz.r1
  have hc1 := hz.c1
  have hc0 := hz.c0
  have htwo := h.two
  obtain ⟨a, rfl⟩ := hb.some hc0
  have hne := hsp a rfl
  obtain ⟨KW, fW, w1, w2, w3⟩ := h.wrd.row y hy
  obtain ⟨W2, hcl, rW2, gW2⟩ := clear_row w (q.2 y) (nw C) KW fW _ (by unfold nw; omega) w2 w1 w3
  have HS : Hid (∀ k, k < C → f k < 2) := fun k hk => by have := hS k hk; omega
  clear hS
  have hfin : ∀ X, w.grownBy X (some (q.2 y)) → X.rowIs (q.2 y) 37 KW (fun j => if j < nw C then .int .u64 (Pk.pack (lb f C) j : Nat) else fW j) → Sb X s q C R S (fun j => if y * C ≤ j ∧ j < y * C + C then f (j - y * C) else g j) := by
    intro X hX hr
    refine h.put hy hX (fun k hk => ?_) (fun i hi hiy j hj => ?_) ⟨KW, _, hr, w2, fun k hk => ?_⟩
    · split
      · exact HS.out _ (by omega)
      · exact h.low k hk
    · rw [if_neg]
      intro e
      rcases Nat.lt_or_gt_of_ne hiy with h1 | h1
      · have := Nat.mul_le_mul_right C (show i + 1 ≤ y from h1)
        rw [Nat.succ_mul] at this
        omega
      · have := Nat.mul_le_mul_right C (show y + 1 ≤ i from h1)
        rw [Nat.succ_mul] at this
        omega
    · rw [if_pos hk, Pk.pack_congr (p := lb f C) (q := bt C (fun j => if y * C ≤ j ∧ j < y * C + C then f (j - y * C) else g j) y) fun j _ => ?_]
      unfold lb bt
      by_cases h1 : 64 * k + j < C
      · have h2 : y * C ≤ y * C + (64 * k + j) ∧ y * C + (64 * k + j) < y * C + C := by omega
        have h3 : y * C + (64 * k + j) - y * C = 64 * k + j := by omega
        simp only [if_pos h2, h3]
      · simp [h1]
  go_enter Tryz.func180, Tryz.ntmps180
  go_wp2
  go_loopw [20] (fun i wr => ∃ k : Nat, k ≤ C ∧ i = .int .i64 k ∧ wr.rowIs (q.2 y) 37 KW (fun j => if j < nw C then .int .u64 (Pk.pack (lb f k) j : Nat) else fW j) ∧ w.grownBy wr (some (q.2 y))) (fun i _ => C - (intOf i).toNat)
  case atStart =>
    refine ⟨0, Nat.zero_le _, rfl, rW2.congr (fun j _ => ?_), gW2⟩
    by_cases hj : j < nw C
    · rw [if_pos hj, if_pos hj, Pk.pack_congr (p := lb f 0) (q := fun _ => false) (fun i _ => by unfold lb; simp), Pk.pack_zero]
      rfl
    · rw [if_neg hj, if_neg hj]
  case round =>
    obtain ⟨k, hk, rfl, hrow, Gk⟩ := hrel
    by_cases hlt : k < C
    · have hlt' : (k : Int) < (C : Int) := by omega
      have hba := Gk.cell (hb.at hlt) (by
        have e : (a.add k).block = a.block := by unfold Addr.add; split <;> simp_all
        rw [e]; simpa using hne)
      have hfk := HS.out k hlt
      have hnw := nw_lt hlt
      have hkc := hrow.cell (i := k / 64) (by omega)
      rw [if_pos hnw] at hkc
      have hkf := hrow.frozen (k / 64)
      have hbi : (k : Int) / 64 < (nw C : Nat) := by omega
      have hi0 : (0 : Int) ≤ (k : Int) / 64 := by omega
      have ht : ((k : Int) / 64).toNat = k / 64 := by omega
      have hdv : IntKind.i64.wrap ((k : Int) / 64) = ((k / 64 : Nat) : Int) := by rw [IntKind.wrap_i64]; omega
      have hmin : min (k % 64) 64 = k % 64 := by omega
      have htm : Int.tmod (k : Int) 64 = ((k % 64 : Nat) : Int) := by rw [Int.tmod_eq_emod_of_nonneg (Int.natCast_nonneg _)]; omega
      have hor := bits_or_u64_nat (Pk.pack (lb f k) (k / 64)) (f k * Pk.one k) (Pk.pack_lt _ _) (one_le k (f k) hfk)
      have hw2 := wrap_sh k (f k) hfk
      have hpo := pack_or1 (lb f k) k (f k) hfk
      rw [hpo, Pk.pack_congr (p := fun i => lb f k i || (decide (i = k) && decide (f k ≠ 0))) (q := lb f (k + 1)) fun j _ => lb_step f k _] at hor
      have RR : Hid ((wr.setCell ⟨q.2 y, k / 64, none⟩ (.int .u64 (Pk.pack (lb f (k + 1)) (k / 64) : Nat))).rowIs (q.2 y) 37 KW (fun j => if j < nw C then .int .u64 (Pk.pack (lb f (k + 1)) j : Nat) else fW j)) := (hrow.set (k / 64) _).congr fun j _ => by
        by_cases hjk : j = k / 64
        · subst hjk; rw [if_pos rfl, if_pos hnw]
        · rw [if_neg hjk]
          by_cases hj : j < nw C
          · rw [if_pos hj, if_pos hj, Pk.pack_congr (p := lb f k) (q := lb f (k + 1)) fun i _ => ?_]
            unfold lb
            by_cases h1 : 64 * j + i < k
            · simp [h1, show 64 * j + i < k + 1 by omega]
            · simp [h1, show ¬ 64 * j + i < k + 1 by omega]
          · rw [if_neg hj, if_neg hj]
      clear hpo
      generalize f k = fk at hba hfk hor hw2
      go_wp2
      refine region_tail 12 mixed (by kernel_rfl) ?_
      simp only [List.take_succ_cons, List.take_zero, List.drop_succ_cons, List.drop_zero]
      repeat still_step
      refine wpStill_nil ?_
      go_wp2
      rw [← Int.natCast_mul, hor]
      go_roundw
      case rel => exact ⟨k + 1, hlt, by go_num, RR.out, gb_drew (gb_set Gk _ _)⟩
      case measure => simp [intOf]; omega
    · obtain rfl : k = C := by omega
      go_wp2
      go_end0
      exact ⟨rfl, hfin _ Gk hrow, Gk⟩
end Go.Proofs.YthjiiljglgmkpaaGreatDoor.Tt
namespace Go.Proofs.YthjiiljglgmkpaaGreatDoor.Tt
open Go.RowKit
set_option linter.unusedVariables false
set_option linter.unusedSimpArgs false
set_option maxRecDepth 100000

theorem underRS : Tryz.prog.underlying 67 = some (.slice 33) := by first | exact Tryz.underlying67 | kernel_rfl
theorem infoRW : (Tryz.prog.info? 33).map (fun i => (i.zero, i.size, i.bytes)) = some (some (.agg #[.int .i64 0, .slice none 0 0]), 2, 32) := by kernel_rfl
/-- The cells of a list of rows, of which the first q are laid. -/
def rwC (m : Nat) (wb : Nat → Nat) (q c : Nat) : Value := if c / 2 < q then (if c % 2 = 0 then .int .i64 (m : Nat) else .slice (some ⟨wb (c / 2), 0, none⟩) (nw m) (nw m)) else (if c % 2 = 0 then .int .i64 0 else .slice none 0 0)
theorem rwC_step (m : Nat) (wb : Nat → Nat) (q b' c : Nat) : (if c = q * 2 + 1 then (.slice (some ⟨b', 0, none⟩) (nw m) (nw m) : Value) else if c = q * 2 then .int .i64 (m : Nat) else rwC m wb q c) = rwC m (fun j => if j = q then b' else wb j) (q + 1) c := by
  unfold rwC
  dsimp only
  by_cases h1 : c = q * 2 + 1
  · rw [if_pos h1, if_pos (show c / 2 < q + 1 by omega), if_neg (show ¬ c % 2 = 0 by omega), if_pos (show c / 2 = q by omega)]
  · rw [if_neg h1]
    by_cases h2 : c = q * 2
    · rw [if_pos h2, if_pos (show c / 2 < q + 1 by omega), if_pos (show c % 2 = 0 by omega)]
    · rw [if_neg h2]
      by_cases h3 : c / 2 < q
      · rw [if_pos h3, if_pos (show c / 2 < q + 1 by omega), if_neg (show ¬ c / 2 = q by omega)]
      · rw [if_neg h3, if_neg (show ¬ c / 2 < q + 1 by omega)]
theorem make2 (n : Nat) (hn : n ≤ 65538) (w : World) : (Instr.makeSlice 67 (.int .i64 (n : Int)) (.int .i64 (n : Int))).run Tryz.prog w = .ok (.slice (some ⟨w.heap.size, 0, none⟩) n n) (w.alloc (.cells (madeCells #[.int .i64 0, .slice none 0 0] (n * 2)) 33)) := by
  obtain ⟨i, hi, hzz⟩ := Option.map_eq_some_iff.1 infoRW
  simp only [Prod.mk.injEq] at hzz
  obtain ⟨hz, hs, hb⟩ := hzz
  have hr := run_make (P := Tryz.prog) w 67 33 i _ underRS hi hz .i64 .i64 n n (by omega) (Int.le_refl _) (by rw [hb]; omega) (by omega)
  simp only [Int.toNat_natCast, hs] at hr
  exact hr
theorem made2 (w : World) (n m : Nat) (wb : Nat → Nat) : (w.alloc (.cells (madeCells #[.int .i64 0, .slice none 0 0] (n * 2)) 33)).rowIs w.heap.size 33 (2 * n) (rwC m wb 0) := by
  refine ⟨_, heap_alloc_new _ _, by rw [size_madeCells]; omega, fun i hi => ?_⟩
  unfold rwC
  rw [if_neg (by omega)]
  have h1 : i < n * 2 := by omega
  rcases Nat.mod_two_eq_zero_or_one i with h | h
  · simp [madeCells, h1, h]
  · simp [madeCells, h1, h]
set_option maxHeartbeats 1000000 in
theorem blankBitsC (C R : Nat) (hz : Sz C R 2) (w : World) : Calls Tryz.prog 97 #[.agg #[.int .i64 (C : Nat), .int .i64 (R : Nat), .int .i64 2]] w fun e w' => ∃ s q, e = .returned (.pointer (some ⟨s, 0, none⟩)) ∧ Sb w' s q C R 2 (fun _ => 0) ∧ w.heap.size ≤ s ∧ w.heap.size ≤ q.1 ∧ (∀ j, j < R → w.heap.size ≤ q.2 j) ∧ w.grownBy w' none := by
  obtain ⟨W1, hW1, sz1, g1, B1⟩ := boxn w #[.int .i64 (C : Nat), .int .i64 (R : Nat), .int .i64 2] 98
  have c0 := B1.cell 0 (v := .int .i64 (C : Nat)) rfl
  have c1 := B1.cell 1 (v := .int .i64 (R : Nat)) rfl
  have c2 := B1.cell 2 (v := .int .i64 2) rfl
  have hC1 := hz.c1
  have hR1 := hz.r1
  have hmk := fun w => make2 R (by omega) w
  obtain ⟨W2, hW2, sz2, g2, B2⟩ := boxn W1 (madeCells #[.int .i64 0, .slice none 0 0] (R * 2)) 33
  have B12 := B1.kept g2 (by simp)
  have d0 := B12.cell 0 (v := .int .i64 (C : Nat)) rfl
  have d1 := B12.cell 1 (v := .int .i64 (R : Nat)) rfl
  have d2 := B12.cell 2 (v := .int .i64 2) rfl
  have hm0 := made2 W1 R C (fun _ => 0)
  rw [hW2] at hm0
  obtain ⟨W3, hW3, sz3, g3, B3⟩ := boxn W2 #[.int .i64 (C : Nat), .int .i64 (R : Nat), .int .i64 2, .slice (some ⟨W1.heap.size, 0, none⟩) R R] 187
  have B13 := B12.kept g3 (by simp)
  have e3 := B3.cell 3 (v := .slice (some ⟨W1.heap.size, 0, none⟩) R R) rfl
  have m3 := rowIs_kept hm0 g3 (by simp)
  have G3 := gb_trans g1 (gb_trans g2 g3)
  have l1 := B1.lt
  have l2 := B2.lt
  have l3 := B3.lt
  have hne1 : W1.heap.size ≠ w.heap.size := by omega
  have hne2 : W1.heap.size ≠ W2.heap.size := by omega
  have hnw := Wo.newC C (by omega)
  go_enter Tryz.func97, Tryz.ntmps97
  go_wp2
  go_region
  go_wp2
  go_loopw [16] (fun i wr => ∃ (k : Nat) (wb : Nat → Nat), k ≤ R ∧ i = .int .i64 (k : Nat) ∧ wr.rowIs W1.heap.size 33 (2 * R) (rwC C wb k) ∧ (∀ i, i < k → W3.heap.size ≤ wb i ∧ Row wr 37 (wb i) (nw C) (fun _ => false)) ∧ (∀ i j, i < k → j < k → wb i = wb j → i = j) ∧ W3.grownBy wr (some W1.heap.size)) (fun i _ => R - (intOf i).toNat)
  case atStart => exact ⟨0, fun _ => 0, Nat.zero_le _, rfl, m3, fun i hi => absurd hi (Nat.not_lt_zero _), fun i j hi => absurd hi (Nat.not_lt_zero _), gb_drew (World.grownBy.refl _ _)⟩
  case round =>
    obtain ⟨k, wb, hk, rfl, hrow, hws, hinj, gw⟩ := hrel
    have Bq := B13.kept gw (by simp; omega)
    have q0 := Bq.cell 0 (v := .int .i64 (C : Nat)) rfl
    have S3 := B3.kept gw (by simp; omega)
    have s3 := S3.cell 3 (v := .slice (some ⟨W1.heap.size, 0, none⟩) R R) rfl
    by_cases hlt : k < R
    · have hlt' : (k : Int) < (R : Int) := by omega
      go_wp2
      go_region_held2 (fun w' => w'.cell? ⟨w.heap.size, 0, none⟩ = some (.int .i64 (C : Nat)) ∧ w'.cell? ⟨W2.heap.size, 3, none⟩ = some (.slice (some ⟨W1.heap.size, 0, none⟩) R R)) (go_keep) (first | (go_at_call 90; refine (hnw wr.drew).mono ?_; rintro e X1 ⟨b', rfl, hR, gX0, lX⟩; have gX : wr.grownBy X1 none := gb_trans (gb_drew (World.grownBy.refl _ _)) gX0; have Bx := Bq.kept gX (by simp); have x0 := Bx.cell 0 (v := .int .i64 (C : Nat)) rfl; have Sx := S3.kept gX (by simp); have x3 := Sx.cell 3 (v := .slice (some ⟨W1.heap.size, 0, none⟩) R R) rfl; have rX := rowIs_kept hrow gX (by simp); have z0 := rX.cell (i := k * 2) (by omega); have z1 := rX.cell (i := k * 2 + 1) (by omega); have y0 := rX.frozen (k * 2); have y1 := rX.frozen (k * 2 + 1)))
      go_wp2
      go_roundw
      case rel =>
        have gs := gw.size
        have lX2 : wr.heap.size ≤ b' := lX
        have hb' : b' ≠ W1.heap.size := by omega
        refine ⟨k + 1, fun j => if j = k then b' else wb j, hlt, by go_num, ((rX.set (k * 2) _).set (k * 2 + 1) _).congr (fun c hc => ?_), fun i hi => ?_, fun i j hi hj he => ?_, gb_set (gb_set (gb_none gw gX) _ _) _ _⟩
        · exact rwC_step C wb k b' c
        · dsimp only
          by_cases h1 : i = k
          · subst h1
            rw [if_pos rfl]
            exact ⟨by omega, World.rowIs.setOther (World.rowIs.setOther hR hb' _) hb' _⟩
          · rw [if_neg h1]
            obtain ⟨h2, h3⟩ := hws i (by omega)
            have h4 : wb i ≠ W1.heap.size := by omega
            exact ⟨h2, World.rowIs.setOther (World.rowIs.setOther (h3.kept gX (by simp)) h4 _) h4 _⟩
        · dsimp only at he
          have hbw : ∀ i, i < k → wb i < wr.heap.size := fun i hi => by
            obtain ⟨c, hc, _⟩ := (hws i hi).2
            exact (Array.getElem?_eq_some_iff.1 hc).1
          by_cases h1 : i = k
          · by_cases h2 : j = k
            · omega
            · rw [if_pos h1, if_neg h2] at he
              have := hbw j (by omega)
              omega
          · by_cases h2 : j = k
            · rw [if_neg h1, if_pos h2] at he
              have := hbw i (by omega)
              omega
            · rw [if_neg h1, if_neg h2] at he
              exact hinj i j (by omega) (by omega) he
      case measure => simp [intOf]; omega
    · obtain rfl : k = R := by omega
      go_wp2
      go_ret
      have lw : w.heap.size ≤ W1.heap.size := g1.size
      refine ⟨W2.heap.size, (W1.heap.size, wb), rfl, ⟨rfl, fun _ _ => by decide, ⟨k, S3, Nat.le_refl _, _, hrow, fun i hi => ?_⟩, fun i hi => ⟨nw C, _, (hws i hi).2, Nat.le_refl _, fun j hj => ?_⟩, hinj⟩, by omega, lw, fun j hj => by have := (hws j hj).1; show w.heap.size ≤ wb j; omega, gb_past G3 gw lw⟩
      · unfold rwC
        refine ⟨?_, nw C, ?_⟩
        · rw [if_pos (by omega), if_pos (by omega)]
        · rw [if_pos (by omega), if_neg (by omega), show (i * 2 + 1) / 2 = i by omega]
      · refine congrArg (fun v : Nat => Value.int .u64 (v : Int)) (Pk.pack_congr fun x _ => ?_)
        unfold bt
        simp
end Go.Proofs.YthjiiljglgmkpaaGreatDoor.Tt
namespace Go.Proofs.YthjiiljglgmkpaaGreatDoor.Tt
open Go.RowKit
set_option linter.unusedVariables false
set_option linter.unusedSimpArgs false
set_option maxRecDepth 100000

theorem lacksN (b s : Nat) (q : Nat × (Nat → Nat)) (C R S : Nat) (g : Nat → Nat) (w : World) (h : Fb w b s q C R S g) : Calls Tryz.prog 46 #[.pointer (some ⟨b, 0, none⟩)] w fun e w' => e = .returned (.bool false) ∧ w' = w := by
  have h0 := h.cell
  go_enter Tryz.func46, Tryz.ntmps46
  go_wp2
  go_ret
  exact ⟨rfl, rfl⟩

theorem fW (b s : Nat) (q : Nat × (Nat → Nat)) (C R S : Nat) (g : Nat → Nat) (w : World) (h : Fb w b s q C R S g) : Calls Tryz.prog 42 #[.pointer (some ⟨b, 0, none⟩)] w fun e w' => e = .returned (.int .i64 (C : Nat)) ∧ w.grownBy w' none := by
  have h0 := h.cell
  have hm := m_measure h.st
  have hfl := fun (C R S : Value) (w : World) => fld_C C R S w
  go_enter Tryz.func42, Tryz.ntmps42
  go_wp2_with (first | (go_at_call 46; refine (lacksN b s q C R S g w h).mono ?_; rintro e V ⟨rfl, hV⟩; subst V) | (go_at_call 176; refine (measureC C R S w).mono ?_; rintro e V ⟨rfl, gV⟩))
  go_ret
  exact ⟨rfl, gV⟩

theorem fH (b s : Nat) (q : Nat × (Nat → Nat)) (C R S : Nat) (g : Nat → Nat) (w : World) (h : Fb w b s q C R S g) : Calls Tryz.prog 43 #[.pointer (some ⟨b, 0, none⟩)] w fun e w' => e = .returned (.int .i64 (R : Nat)) ∧ w.grownBy w' none := by
  have h0 := h.cell
  have hm := m_measure h.st
  have hfl := fun (C R S : Value) (w : World) => fld_R C R S w
  go_enter Tryz.func43, Tryz.ntmps43
  go_wp2_with (first | (go_at_call 46; refine (lacksN b s q C R S g w h).mono ?_; rintro e V ⟨rfl, hV⟩; subst V) | (go_at_call 176; refine (measureC C R S w).mono ?_; rintro e V ⟨rfl, gV⟩))
  go_ret
  exact ⟨rfl, gV⟩

theorem fStates (b s : Nat) (q : Nat × (Nat → Nat)) (C R S : Nat) (g : Nat → Nat) (w : World) (h : Fb w b s q C R S g) : Calls Tryz.prog 44 #[.pointer (some ⟨b, 0, none⟩)] w fun e w' => e = .returned (.int .i64 (S : Nat)) ∧ w.grownBy w' none := by
  have h0 := h.cell
  have hm := m_measure h.st
  have hfl := fun (C R S : Value) (w : World) => fld_S C R S w
  go_enter Tryz.func44, Tryz.ntmps44
  go_wp2_with (first | (go_at_call 46; refine (lacksN b s q C R S g w h).mono ?_; rintro e V ⟨rfl, hV⟩; subst V) | (go_at_call 176; refine (measureC C R S w).mono ?_; rintro e V ⟨rfl, gV⟩))
  go_ret
  exact ⟨rfl, gV⟩

theorem fGetY (b s : Nat) (q : Nat × (Nat → Nat)) (C R S : Nat) (g : Nat → Nat) (hz : Sz C R S) (x y : Nat) (hx : x < C) (hy : y < R) (w : World) (h : Fb w b s q C R S g) : Calls Tryz.prog 16 #[.pointer (some ⟨b, 0, none⟩), .int .i64 (x : Nat), .int .i64 (y : Nat)] w fun e w' => e = .returned (.tuple #[.int .u8 (g (y * C + x) : Nat), .int .i64 0]) ∧ w.grownBy w' none := by
  have h0 := h.cell
  have hm := m_hasPlace h.st
  have hd : decide (0 ≤ (x : Int) ∧ (x : Int) < (C : Int) ∧ 0 ≤ (y : Int) ∧ (y : Int) < (R : Int)) = true := decide_eq_true (by omega)
  have hpl := fun w => hasPlaceC C R S x y w
  rw [hd] at hpl
  have hgt := fun w => m_get s w
  go_enter Tryz.func16, Tryz.ntmps16
  go_wp2_with (first | (go_at_call 46; refine (lacksN b s q C R S g w h).mono ?_; rintro e V ⟨rfl, hV⟩; subst V) | (go_at_call 173; refine (hpl w).mono ?_; rintro e V ⟨rfl, gV⟩; have hV := h.kept gV; have v0 := hV.cell) | (go_at_call 179; refine (getC s q C R S g hz x y hx hy V hV.st).mono ?_; rintro e V2 ⟨rfl, gV2⟩))
  go_ret2
  exact ⟨rfl, gb_trans gV gV2⟩
theorem fGetN (b s : Nat) (q : Nat × (Nat → Nat)) (C R S : Nat) (g : Nat → Nat) (hz : Sz C R S) (x y : Int) (hn : ¬ (0 ≤ x ∧ x < C ∧ 0 ≤ y ∧ y < R)) (w : World) (h : Fb w b s q C R S g) : Calls Tryz.prog 16 #[.pointer (some ⟨b, 0, none⟩), .int .i64 x, .int .i64 y] w fun e w' => e = .returned (.tuple #[.int .u8 0, .int .i64 130]) ∧ w.grownBy w' none := by
  have h0 := h.cell
  have hm := m_hasPlace h.st
  have hpl := fun w => hasPlaceC C R S x y w
  rw [decide_eq_false hn] at hpl
  go_enter Tryz.func16, Tryz.ntmps16
  go_wp2_with (first | (go_at_call 46; refine (lacksN b s q C R S g w h).mono ?_; rintro e V ⟨rfl, hV⟩; subst V) | (go_at_call 173; refine (hpl w).mono ?_; rintro e V ⟨rfl, gV⟩))
  go_ret2
  exact ⟨rfl, gV⟩
theorem fSetY (b s : Nat) (q : Nat × (Nat → Nat)) (C R S : Nat) (g : Nat → Nat) (hz : Sz C R S) (x y u : Nat) (hx : x < C) (hy : y < R) (hu : u < S) (w : World) (h : Fb w b s q C R S g) : Calls Tryz.prog 17 #[.pointer (some ⟨b, 0, none⟩), .int .i64 (x : Nat), .int .i64 (y : Nat), .int .u8 (u : Nat)] w fun e w' => e = .returned (.int .i64 0) ∧ Fb w' b s q C R S (fun k => if k = y * C + x then u else g k) ∧ w.grownBy w' (some (q.2 y)) := by
  have h0 := h.cell
  have hm := m_hasPlace h.st
  have hd : decide (0 ≤ (x : Int) ∧ (x : Int) < (C : Int) ∧ 0 ≤ (y : Int) ∧ (y : Int) < (R : Int)) = true := decide_eq_true (by omega)
  have hpl := fun w => hasPlaceC C R S x y w
  rw [hd] at hpl
  have hd2 : decide ((u : Int) < (S : Int)) = true := decide_eq_true (by omega)
  have hst := fun w => hasStateC C R S u (by have := hz.s1; omega) w
  rw [hd2] at hst
  have hgt := fun w => m_set s w
  go_enter Tryz.func17, Tryz.ntmps17
  go_wp2_with (first | (go_at_call 46; refine (lacksN b s q C R S g w h).mono ?_; rintro e V ⟨rfl, hV⟩; subst V) | (go_at_call 173; refine (hpl w).mono ?_; rintro e V ⟨rfl, gV⟩; have hV := h.kept gV; have v0 := hV.cell; have hm1 := m_hasState hV.st) | (go_at_call 175; refine (hst V).mono ?_; rintro e V2 ⟨rfl, gV2⟩; have hV2 := hV.kept gV2; have v20 := hV2.cell) | (go_at_call 184; refine (setC s q C R S g hz x y u hx hy hu V2 hV2.st).mono ?_; rintro e V3 ⟨rfl, hS3, g3⟩))
  go_ret
  refine ⟨rfl, ⟨hV2.fld.kept g3 (fun e => ?_), hS3⟩, gb_trans (gb_none (World.grownBy.refl _ _) (gb_trans gV gV2)) g3⟩
  exact hV2.apart hy (by simpa using e)
theorem fSetN (b s : Nat) (q : Nat × (Nat → Nat)) (C R S : Nat) (g : Nat → Nat) (hz : Sz C R S) (x y u : Int) (hn : ¬ (0 ≤ x ∧ x < C ∧ 0 ≤ y ∧ y < R)) (w : World) (h : Fb w b s q C R S g) : Calls Tryz.prog 17 #[.pointer (some ⟨b, 0, none⟩), .int .i64 x, .int .i64 y, .int .u8 u] w fun e w' => e = .returned (.int .i64 130) ∧ w.grownBy w' none := by
  have h0 := h.cell
  have hm := m_hasPlace h.st
  have hpl := fun w => hasPlaceC C R S x y w
  rw [decide_eq_false hn] at hpl
  go_enter Tryz.func17, Tryz.ntmps17
  go_wp2_with (first | (go_at_call 46; refine (lacksN b s q C R S g w h).mono ?_; rintro e V ⟨rfl, hV⟩; subst V) | (go_at_call 173; refine (hpl w).mono ?_; rintro e V ⟨rfl, gV⟩))
  go_ret
  exact ⟨rfl, gV⟩
theorem fSetS (b s : Nat) (q : Nat × (Nat → Nat)) (C R S : Nat) (g : Nat → Nat) (hz : Sz C R S) (x y u : Nat) (hx : x < C) (hy : y < R) (hu8 : u < 256) (hu : ¬ u < S) (w : World) (h : Fb w b s q C R S g) : Calls Tryz.prog 17 #[.pointer (some ⟨b, 0, none⟩), .int .i64 (x : Nat), .int .i64 (y : Nat), .int .u8 (u : Nat)] w fun e w' => e = .returned (.int .i64 7) ∧ w.grownBy w' none := by
  have h0 := h.cell
  have hm := m_hasPlace h.st
  have hd : decide (0 ≤ (x : Int) ∧ (x : Int) < (C : Int) ∧ 0 ≤ (y : Int) ∧ (y : Int) < (R : Int)) = true := decide_eq_true (by omega)
  have hpl := fun w => hasPlaceC C R S x y w
  rw [hd] at hpl
  have hd2 : decide ((u : Int) < (S : Int)) = false := decide_eq_false (by omega)
  have hst := fun w => hasStateC C R S u hu8 w
  rw [hd2] at hst
  go_enter Tryz.func17, Tryz.ntmps17
  go_wp2_with (first | (go_at_call 46; refine (lacksN b s q C R S g w h).mono ?_; rintro e V ⟨rfl, hV⟩; subst V) | (go_at_call 173; refine (hpl w).mono ?_; rintro e V ⟨rfl, gV⟩; have hV := h.kept gV; have v0 := hV.cell; have hm1 := m_hasState hV.st) | (go_at_call 175; refine (hst V).mono ?_; rintro e V2 ⟨rfl, gV2⟩))
  go_ret
  exact ⟨rfl, gb_trans gV gV2⟩
theorem fLineY (b s : Nat) (q : Nat × (Nat → Nat)) (C R S : Nat) (g : Nat → Nat) (hz : Sz C R S) (y : Nat) (hy : y < R) (w : World) (h : Fb w b s q C R S g) : Calls Tryz.prog 35 #[.pointer (some ⟨b, 0, none⟩), .int .i64 (y : Nat)] w fun e w' => ∃ d, e = .returned (.tuple #[.slice (some ⟨d, 0, none⟩) C C, .int .i64 0]) ∧ w'.rowIs d 5 C (fun x => .int .u8 (g (y * C + x) : Nat)) ∧ w.heap.size ≤ d ∧ w.grownBy w' none := by
  have h0 := h.cell
  have hm := m_hasRow h.st
  have hd : decide (0 ≤ (y : Int) ∧ (y : Int) < (R : Int)) = true := decide_eq_true (by omega)
  have hpl := fun w => hasRowC C R S y w
  rw [hd] at hpl
  have hrd := fun w => m_read s w
  have hc1 := hz.c1
  have hmk := run_make_row' (P := Tryz.prog) 81 5 (.int .u8 0) 1 under8S info8 rfl .i64 .i64 C (by omega) (by omega)
  go_enter Tryz.func35, Tryz.ntmps35
  go_wp2_with (first | (go_at_call 46; refine (lacksN b s q C R S g w h).mono ?_; rintro e V ⟨rfl, hV⟩; subst V) | (go_at_call 174; refine (hpl w).mono ?_; rintro e V ⟨rfl, gV⟩; have hV := h.kept gV; have v0 := hV.cell) | (go_at_call 42; refine (fW b s q C R S g V hV).mono ?_; rintro e V2 ⟨rfl, gV2⟩; obtain ⟨W3, hW3, sz3, g3, B3⟩ := boxn V2 (madeCells #[.int .u8 0] C) 5; have hr3 := World.rowIs_made V2 (.int .u8 0) C 5; rw [hW3] at hr3; have h3 := (hV.kept gV2).kept g3; have v3 := h3.cell) | (go_at_call 183; refine (readC s q C R S g hz y hy V2.heap.size C _ W3 h3.st hr3).mono ?_; rintro e V4 ⟨rfl, r4, g4⟩))
  go_ret2
  exact ⟨V2.heap.size, rfl, r4, (gb_trans gV gV2).size, gb_past (gb_trans (gb_trans gV gV2) g3) g4 (gb_trans gV gV2).size⟩
theorem fLineN (b s : Nat) (q : Nat × (Nat → Nat)) (C R S : Nat) (g : Nat → Nat) (hz : Sz C R S) (y : Int) (hn : ¬ (0 ≤ y ∧ y < R)) (w : World) (h : Fb w b s q C R S g) : Calls Tryz.prog 35 #[.pointer (some ⟨b, 0, none⟩), .int .i64 y] w fun e w' => e = .returned (.tuple #[.slice none 0 0, .int .i64 130]) ∧ w.grownBy w' none := by
  have h0 := h.cell
  have hm := m_hasRow h.st
  have hpl := fun w => hasRowC C R S y w
  rw [decide_eq_false hn] at hpl
  go_enter Tryz.func35, Tryz.ntmps35
  go_wp2_with (first | (go_at_call 46; refine (lacksN b s q C R S g w h).mono ?_; rintro e V ⟨rfl, hV⟩; subst V) | (go_at_call 174; refine (hpl w).mono ?_; rintro e V ⟨rfl, gV⟩))
  go_ret2
  exact ⟨rfl, gV⟩
theorem fLayY (b s : Nat) (q : Nat × (Nat → Nat)) (C R S : Nat) (g : Nat → Nat) (hz : Sz C R S) (y : Nat) (hy : y < R) (sp : Option Addr) (c : Nat) (f : Nat → Nat) (h256 : ∀ k, f k < 256) (hS : ∀ k, k < C → f k < S) (w : World) (h : Fb w b s q C R S g) (hb : By w sp C f) (hsp : ∀ a, sp = some a → a.block ≠ q.2 y) : Calls Tryz.prog 34 #[.pointer (some ⟨b, 0, none⟩), .int .i64 (y : Nat), .slice sp C c] w fun e w' => e = .returned (.int .i64 0) ∧ Fb w' b s q C R S (fun j => if y * C ≤ j ∧ j < y * C + C then f (j - y * C) else g j) ∧ w.grownBy w' (some (q.2 y)) := by
  have h0 := h.cell
  have hm := m_hasRow h.st
  have hd : decide (0 ≤ (y : Int) ∧ (y : Int) < (R : Int)) = true := decide_eq_true (by omega)
  have hpl := fun w => hasRowC C R S y w
  rw [hd] at hpl
  have hly := fun w => m_lay s w
  have hck := fun V hV => checkLineG C R S c hz.c1 sp f h256 0 (.inl ⟨hS, rfl⟩) V hV
  have hlc := fun V hV hb2 => layC s q C R S g hz y hy sp c f hS V hV hb2 hsp
  clear h256 hS hsp
  go_enter Tryz.func34, Tryz.ntmps34
  go_wp2_with (first | (go_at_call 46; refine (lacksN b s q C R S g w h).mono ?_; rintro e V ⟨rfl, hV⟩; subst V) | (go_at_call 174; refine (hpl w).mono ?_; rintro e V ⟨rfl, gV⟩; have hV := h.kept gV; have v0 := hV.cell; have hm1 := m_checkLine hV.st) | (go_at_call 172; refine (hck V (hb.kept gV (by simp))).mono ?_; rintro e V2 ⟨rfl, gV2⟩; have hV2 := hV.kept gV2; have v20 := hV2.cell) | (go_at_call 180; refine (hlc V2 hV2.st (hb.kept (gb_trans gV gV2) (by simp))).mono ?_; rintro e V3 ⟨rfl, hS3, g3⟩))
  go_ret
  refine ⟨rfl, ⟨hV2.fld.kept g3 (fun e => ?_), hS3⟩, gb_trans (gb_none (World.grownBy.refl _ _) (gb_trans gV gV2)) g3⟩
  exact hV2.apart hy (by simpa using e)
theorem fLayL (b s : Nat) (q : Nat × (Nat → Nat)) (C R S : Nat) (g : Nat → Nat) (hz : Sz C R S) (y : Nat) (hy : y < R) (sp : Option Addr) (n c : Nat) (hn : n ≠ C) (w : World) (h : Fb w b s q C R S g) : Calls Tryz.prog 34 #[.pointer (some ⟨b, 0, none⟩), .int .i64 (y : Nat), .slice sp n c] w fun e w' => e = .returned (.int .i64 131) ∧ w.grownBy w' none := by
  have h0 := h.cell
  have hm := m_hasRow h.st
  have hd : decide (0 ≤ (y : Int) ∧ (y : Int) < (R : Int)) = true := decide_eq_true (by omega)
  have hpl := fun w => hasRowC C R S y w
  rw [hd] at hpl
  have hck := fun V => checkLineL C R S n c sp hn V
  go_enter Tryz.func34, Tryz.ntmps34
  go_wp2_with (first | (go_at_call 46; refine (lacksN b s q C R S g w h).mono ?_; rintro e V ⟨rfl, hV⟩; subst V) | (go_at_call 174; refine (hpl w).mono ?_; rintro e V ⟨rfl, gV⟩; have hV := h.kept gV; have v0 := hV.cell; have hm1 := m_checkLine hV.st) | (go_at_call 172; refine (hck V).mono ?_; rintro e V2 ⟨rfl, gV2⟩))
  go_ret
  exact ⟨rfl, gb_trans gV gV2⟩
theorem fLayS (b s : Nat) (q : Nat × (Nat → Nat)) (C R S : Nat) (g : Nat → Nat) (hz : Sz C R S) (y : Nat) (hy : y < R) (sp : Option Addr) (c : Nat) (f : Nat → Nat) (h256 : ∀ k, f k < 256) (hS : ∃ k, k < C ∧ ¬ f k < S) (w : World) (h : Fb w b s q C R S g) (hb : By w sp C f) : Calls Tryz.prog 34 #[.pointer (some ⟨b, 0, none⟩), .int .i64 (y : Nat), .slice sp C c] w fun e w' => e = .returned (.int .i64 7) ∧ w.grownBy w' none := by
  have h0 := h.cell
  have hm := m_hasRow h.st
  have hd : decide (0 ≤ (y : Int) ∧ (y : Int) < (R : Int)) = true := decide_eq_true (by omega)
  have hpl := fun w => hasRowC C R S y w
  rw [hd] at hpl
  have hck := fun V hV => checkLineG C R S c hz.c1 sp f h256 7 (.inr ⟨hS, rfl⟩) V hV
  clear h256 hS
  go_enter Tryz.func34, Tryz.ntmps34
  go_wp2_with (first | (go_at_call 46; refine (lacksN b s q C R S g w h).mono ?_; rintro e V ⟨rfl, hV⟩; subst V) | (go_at_call 174; refine (hpl w).mono ?_; rintro e V ⟨rfl, gV⟩; have hV := h.kept gV; have v0 := hV.cell; have hm1 := m_checkLine hV.st) | (go_at_call 172; refine (hck V (hb.kept gV (by simp))).mono ?_; rintro e V2 ⟨rfl, gV2⟩))
  go_ret
  exact ⟨rfl, gb_trans gV gV2⟩
theorem fLayN (b s : Nat) (q : Nat × (Nat → Nat)) (C R S : Nat) (g : Nat → Nat) (hz : Sz C R S) (y : Int) (hn : ¬ (0 ≤ y ∧ y < R)) (sp : Option Addr) (n c : Nat) (w : World) (h : Fb w b s q C R S g) : Calls Tryz.prog 34 #[.pointer (some ⟨b, 0, none⟩), .int .i64 y, .slice sp n c] w fun e w' => e = .returned (.int .i64 130) ∧ w.grownBy w' none := by
  have h0 := h.cell
  have hm := m_hasRow h.st
  have hpl := fun w => hasRowC C R S y w
  rw [decide_eq_false hn] at hpl
  go_enter Tryz.func34, Tryz.ntmps34
  go_wp2_with (first | (go_at_call 46; refine (lacksN b s q C R S g w h).mono ?_; rintro e V ⟨rfl, hV⟩; subst V) | (go_at_call 174; refine (hpl w).mono ?_; rintro e V ⟨rfl, gV⟩))
  go_ret
  exact ⟨rfl, gV⟩
theorem packedC (s : Nat) (w : World) : Calls Tryz.prog 182 #[.pointer (some ⟨s, 0, none⟩)] w fun e w' => e = .returned (.bool true) ∧ w' = w := by
  go_enter Tryz.func182, Tryz.ntmps182
  go_wp2
  go_ret
  exact ⟨rfl, rfl⟩
theorem fPacked (b s : Nat) (q : Nat × (Nat → Nat)) (C R S : Nat) (g : Nat → Nat) (w : World) (h : Fb w b s q C R S g) : Calls Tryz.prog 20 #[.pointer (some ⟨b, 0, none⟩)] w fun e w' => e = .returned (.bool true) ∧ w' = w := by
  have h0 := h.cell
  have hm := fun w => m_packed s w
  go_enter Tryz.func20, Tryz.ntmps20
  go_wp2_with (first | (go_at_call 46; refine (lacksN b s q C R S g w h).mono ?_; rintro e V ⟨rfl, hV⟩; subst V) | (go_at_call 182; refine (packedC s w).mono ?_; rintro e V ⟨rfl, hV⟩; subst V))
  go_ret
  exact ⟨rfl, rfl⟩
theorem blankC (C R : Nat) (hz : Sz C R 2) (w : World) : Calls Tryz.prog 67 #[.agg #[.int .i64 (C : Nat), .int .i64 (R : Nat), .int .i64 2], .bool true] w fun e w' => ∃ s q, e = .returned (.iface 163 (.pointer (some ⟨s, 0, none⟩))) ∧ Sb w' s q C R 2 (fun _ => 0) ∧ w.heap.size ≤ s ∧ w.heap.size ≤ q.1 ∧ (∀ j, j < R → w.heap.size ≤ q.2 j) ∧ w.grownBy w' none := by
  obtain ⟨W1, hW1, sz1, g1, B1⟩ := boxn w #[.int .i64 (C : Nat), .int .i64 (R : Nat), .int .i64 2] 98
  have c0 := B1.cell 0 (v := .int .i64 (C : Nat)) rfl
  have c1 := B1.cell 1 (v := .int .i64 (R : Nat)) rfl
  have c2 := B1.cell 2 (v := .int .i64 2) rfl
  go_enter Tryz.func67, Tryz.ntmps67
  go_wp2_with (go_at_call 97; refine (blankBitsC C R hz W1).mono ?_; rintro e V ⟨s, q, rfl, hS, l1, l2, l3, gV⟩)
  go_ret
  exact ⟨s, q, rfl, hS, Nat.le_trans g1.size l1, Nat.le_trans g1.size l2, fun j hj => Nat.le_trans g1.size (l3 j hj), gb_trans g1 gV⟩
theorem newY (C R : Nat) (hz : Sz C R 2) (w : World) : Calls Tryz.prog 33 #[.int .i64 (C : Nat), .int .i64 (R : Nat), .int .i64 2, .bool true] w fun e w' => ∃ b s q, e = .returned (.tuple #[.pointer (some ⟨b, 0, none⟩), .int .i64 0]) ∧ Fb w' b s q C R 2 (fun _ => 0) ∧ w.heap.size ≤ b ∧ w.heap.size ≤ s ∧ w.heap.size ≤ q.1 ∧ (∀ j, j < R → w.heap.size ≤ q.2 j) ∧ w.grownBy w' none := by
  have he : ckE C R 2 true = 0 := by
    obtain ⟨h1, h2, h3, h4, h5, h6, h7⟩ := hz
    rw [ckE, if_pos (by omega), if_neg (by simp), if_neg (by rw [← Int.natCast_mul]; omega)]
  have hck := fun w => checkC C R 2 true w
  rw [he] at hck
  go_enter Tryz.func33, Tryz.ntmps33
  go_wp2_with (first | (go_at_call 66; refine (hck (w.alloc (.cells #[.int .i64 (C : Nat), .int .i64 (R : Nat), .int .i64 2] 98))).mono ?_; rintro e V ⟨rfl, gV⟩; have BV := (Bo.new w 98 #[.int .i64 (C : Nat), .int .i64 (R : Nat), .int .i64 2]).kept gV (by simp); have c0 := BV.cell 0 (v := .int .i64 (C : Nat)) rfl; have c1 := BV.cell 1 (v := .int .i64 (R : Nat)) rfl; have c2 := BV.cell 2 (v := .int .i64 2) rfl) | (go_at_call 67; refine (blankC C R hz V).mono ?_; rintro e V2 ⟨s, q, rfl, hS, l1, l2, l3, gV2⟩))
  go_ret2
  have g0 : w.grownBy V2 none := gb_trans (gb_trans (World.grownBy_alloc _ _ none) gV) gV2
  have g9 : V2.grownBy (V2.alloc (.cells #[.iface 163 (.pointer (some ⟨s, 0, none⟩))] 57)) none := World.grownBy_alloc _ _ none
  have lV : w.heap.size ≤ V.heap.size := (gb_trans (World.grownBy_alloc w _ none) gV).size
  exact ⟨V2.heap.size, s, q, rfl, ⟨Bo.new V2 _ _, hS.kept g9⟩, g0.size, Nat.le_trans lV l1, Nat.le_trans lV l2, fun j hj => Nat.le_trans lV (l3 j hj), gb_trans g0 g9⟩
end Go.Proofs.YthjiiljglgmkpaaGreatDoor.Tt
