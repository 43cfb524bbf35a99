/- A field of bytes: what it is in memory; its sizes. -/
import Derived.Test.YthjiiljglgmkpaaGreatDoorZa
import Derived.Deep.MidRow
import Derived.Laws.CopyRow
import Derived.Laws.IdiomCopy
namespace Go.Proofs.YthjiiljglgmkpaaGreatDoor
open Go.RowKit
set_option linter.unusedVariables false
set_option linter.unusedSimpArgs false
set_option maxRecDepth 100000

/-- A store of bytes: its block, its cells'. -/
structure Sb (w : World) (s q C R S : Nat) (g : Nat → Nat) : Prop where
  cap : ∃ K, Bo w s 189 #[.int .i64 (C : Nat), .int .i64 (R : Nat), .int .i64 (S : Nat), .slice (some ⟨q, 0, none⟩) (C * R) K] ∧ C * R ≤ K ∧ ∃ f0, w.rowIs q 5 K f0 ∧ ∀ k, k < C * R → f0 k = .int .u8 (g k : Nat)
/-- A field of bytes: its own block, its store's, its cells'. -/
structure Fb (w : World) (b s q C R S : Nat) (g : Nat → Nat) : Prop where
  fld : Bo w b 57 #[.iface 165 (.pointer (some ⟨s, 0, none⟩))]
  st : Sb w s q C R S g
/-- Sizes that may be. -/
structure Sz (C R S : Nat) : Prop where
  c0 : 0 < C
  c1 : C ≤ 65536
  r0 : 0 < R
  r1 : R ≤ 65536
  s0 : 2 ≤ S
  s1 : S ≤ 256
  all : C * R ≤ 1048576
theorem Sb.kept {w w' : World} {s q C R S : Nat} {g : Nat → Nat} (h : Sb w s q C R S g) (hg : w.grownBy w' none) : Sb w' s q C R S g :=
  let ⟨K, h1, h2, f0, h3, h4⟩ := h.cap
  ⟨K, h1.kept hg (by simp), h2, f0, rowIs_kept h3 hg (by simp), h4⟩
theorem Sb.blk {w : World} {s q C R S : Nat} {g : Nat → Nat} (h : Sb w s q C R S g) : ∃ v, Bo w s 189 #[.int .i64 (C : Nat), .int .i64 (R : Nat), .int .i64 (S : Nat), v] :=
  let ⟨K, h1, _⟩ := h.cap
  ⟨_, h1⟩
theorem Sb.slt {w : World} {s q C R S : Nat} {g : Nat → Nat} (h : Sb w s q C R S g) : s < w.heap.size :=
  let ⟨_, h1⟩ := h.blk
  h1.lt
theorem Fb.kept {w w' : World} {b s q C R S : Nat} {g : Nat → Nat} (h : Fb w b s q C R S g) (hg : w.grownBy w' none) : Fb w' b s q C R S g :=
  ⟨h.fld.kept hg (by simp), h.st.kept hg⟩
theorem Fb.cell {w : World} {b s q C R S : Nat} {g : Nat → Nat} (h : Fb w b s q C R S g) : w.cell? ⟨b, 0, none⟩ = some (.iface 165 (.pointer (some ⟨s, 0, none⟩))) := h.fld.cell 0 rfl

theorem follow_sz (s : Nat) (w : World) : (follow [⟨189, 0, true⟩] 165 (.val (.pointer (some ⟨s, 0, none⟩)))).run Tryz.prog w = .ok (98, .var ⟨s, 0, none⟩) w := by kernel_rfl
theorem rec_sz (s : Nat) (w : World) : (receiverAt 98 (.var ⟨s, 0, none⟩) false none).run Tryz.prog w = (loadVar 98 ⟨s, 0, none⟩).run Tryz.prog w := by kernel_rfl
theorem load_sz {w : World} {s q C R S : Nat} {g : Nat → Nat} (h : Sb w s q C R S g) : (loadVar 98 ⟨s, 0, none⟩).run Tryz.prog w = .ok (.agg #[.int .i64 C, .int .i64 R, .int .i64 S]) w := by
  obtain ⟨fs, hfs⟩ : ∃ fs, Tryz.prog.underlying 98 = some (.struct fs) := ⟨_, Tryz.underlying98⟩
  refine run_loadVar_mid w s 0 98 [.int .i64 C, .int .i64 R, .int .i64 S] (.struct fs) (fun j v hj => ?_) hfs rfl (by kernel_rfl)
  rw [Nat.zero_add]
  obtain ⟨v0, hv0⟩ := h.blk
  refine hv0.cell j ?_
  match j, hj with
  | 0, hj => exact hj
  | 1, hj => exact hj
  | 2, hj => exact hj
/-- A method of the sizes, called of the store. -/
theorem meth_sz {w : World} {s q C R S : Nat} {g : Nat → Nat} (h : Sb w s q C R S g) (nm : String) (k : Nat)
    (hm : ((Tryz.prog.info? 165).bind (fun i => i.methods.find? (·.name == nm))).map (fun m => (m.func, m.path)) = some (some (k, false), #[⟨189, 0, true⟩])) :
    (method 355 165 (.pointer (some ⟨s, 0, none⟩)) nm).run Tryz.prog w = .ok (k, .agg #[.int .i64 C, .int .i64 R, .int .i64 S]) w := by
  cases h1 : Tryz.prog.info? 165 with
  | none => rw [h1] at hm; cases hm
  | some i =>
    rw [h1] at hm
    cases h2 : i.methods.find? (·.name == nm) with
    | none => simp [h2] at hm
    | some m =>
      simp only [Option.bind_some, h2, Option.map_some, Option.some.injEq, Prod.mk.injEq] at hm
      obtain ⟨h3, h4⟩ := hm
      have hti : (typeInfo 165).run Tryz.prog w = .ok i w := by simp [typeInfo, h1]
      rw [method]
      simp only [Sem.run_bind, hti, Result.andThen_ok, h2, h3, h4, follow_sz, Sem.run_pure]
      rw [if_neg (by decide), rec_sz, load_sz h]
      rfl
theorem m_measure {w : World} {s q C R S : Nat} {g : Nat → Nat} (h : Sb w s q C R S g) : (method 355 165 (.pointer (some ⟨s, 0, none⟩)) "vivarium/field.measure").run Tryz.prog w = .ok (176, .agg #[.int .i64 C, .int .i64 R, .int .i64 S]) w := meth_sz h _ _ (by kernel_rfl)
theorem m_fitsBits {w : World} {s q C R S : Nat} {g : Nat → Nat} (h : Sb w s q C R S g) : (method 355 165 (.pointer (some ⟨s, 0, none⟩)) "vivarium/field.fitsBits").run Tryz.prog w = .ok (96, .agg #[.int .i64 C, .int .i64 R, .int .i64 S]) w := meth_sz h _ _ (by kernel_rfl)
theorem m_hasPlace {w : World} {s q C R S : Nat} {g : Nat → Nat} (h : Sb w s q C R S g) : (method 355 165 (.pointer (some ⟨s, 0, none⟩)) "vivarium/field.hasPlace").run Tryz.prog w = .ok (173, .agg #[.int .i64 C, .int .i64 R, .int .i64 S]) w := meth_sz h _ _ (by kernel_rfl)
theorem m_hasRow {w : World} {s q C R S : Nat} {g : Nat → Nat} (h : Sb w s q C R S g) : (method 355 165 (.pointer (some ⟨s, 0, none⟩)) "vivarium/field.hasRow").run Tryz.prog w = .ok (174, .agg #[.int .i64 C, .int .i64 R, .int .i64 S]) w := meth_sz h _ _ (by kernel_rfl)
theorem m_hasState {w : World} {s q C R S : Nat} {g : Nat → Nat} (h : Sb w s q C R S g) : (method 355 165 (.pointer (some ⟨s, 0, none⟩)) "vivarium/field.hasState").run Tryz.prog w = .ok (175, .agg #[.int .i64 C, .int .i64 R, .int .i64 S]) w := meth_sz h _ _ (by kernel_rfl)
theorem m_checkLine {w : World} {s q C R S : Nat} {g : Nat → Nat} (h : Sb w s q C R S g) : (method 355 165 (.pointer (some ⟨s, 0, none⟩)) "vivarium/field.checkLine").run Tryz.prog w = .ok (172, .agg #[.int .i64 C, .int .i64 R, .int .i64 S]) w := meth_sz h _ _ (by kernel_rfl)
theorem m_packed (s : Nat) (w : World) : (method 355 165 (.pointer (some ⟨s, 0, none⟩)) "vivarium/field.packed").run Tryz.prog w = .ok (196, .pointer (some ⟨s, 0, none⟩)) w := by kernel_rfl
theorem m_get (s : Nat) (w : World) : (method 355 165 (.pointer (some ⟨s, 0, none⟩)) "vivarium/field.get").run Tryz.prog w = .ok (193, .pointer (some ⟨s, 0, none⟩)) w := by kernel_rfl
theorem m_set (s : Nat) (w : World) : (method 355 165 (.pointer (some ⟨s, 0, none⟩)) "vivarium/field.set").run Tryz.prog w = .ok (198, .pointer (some ⟨s, 0, none⟩)) w := by kernel_rfl
theorem m_read (s : Nat) (w : World) : (method 355 165 (.pointer (some ⟨s, 0, none⟩)) "vivarium/field.read").run Tryz.prog w = .ok (197, .pointer (some ⟨s, 0, none⟩)) w := by kernel_rfl
theorem m_lay (s : Nat) (w : World) : (method 355 165 (.pointer (some ⟨s, 0, none⟩)) "vivarium/field.lay").run Tryz.prog w = .ok (194, .pointer (some ⟨s, 0, none⟩)) w := by kernel_rfl
theorem m_wipe (s : Nat) (w : World) : (method 355 165 (.pointer (some ⟨s, 0, none⟩)) "vivarium/field.wipe").run Tryz.prog w = .ok (200, .pointer (some ⟨s, 0, none⟩)) w := by kernel_rfl
theorem m_count (s : Nat) (w : World) : (method 355 165 (.pointer (some ⟨s, 0, none⟩)) "vivarium/field.count").run Tryz.prog w = .ok (192, .pointer (some ⟨s, 0, none⟩)) w := by kernel_rfl
theorem m_span (s : Nat) (w : World) : (method 355 165 (.pointer (some ⟨s, 0, none⟩)) "vivarium/field.span").run Tryz.prog w = .ok (199, .pointer (some ⟨s, 0, none⟩)) w := by kernel_rfl
theorem m_living (s : Nat) (w : World) : (method 355 165 (.pointer (some ⟨s, 0, none⟩)) "vivarium/field.living").run Tryz.prog w = .ok (195, .pointer (some ⟨s, 0, none⟩)) w := by kernel_rfl
theorem m_copied (s : Nat) (w : World) : (method 355 165 (.pointer (some ⟨s, 0, none⟩)) "vivarium/field.copied").run Tryz.prog w = .ok (191, .pointer (some ⟨s, 0, none⟩)) w := by kernel_rfl

theorem fld_C (C R S : Value) (w : World) : (Instr.field 98 (.agg #[C, R, S]) 0).run Tryz.prog w = .ok C w := by kernel_rfl
theorem fld_R (C R S : Value) (w : World) : (Instr.field 98 (.agg #[C, R, S]) 1).run Tryz.prog w = .ok R w := by kernel_rfl
theorem fld_S (C R S : Value) (w : World) : (Instr.field 98 (.agg #[C, R, S]) 2).run Tryz.prog w = .ok S w := by kernel_rfl

theorem lacksN (b s q C R S : Nat) (g : Nat → Nat) (w : World) (h : Fb w b s q C R S g) : Calls Tryz.prog 46 #[.pointer (some ⟨b, 0, none⟩)] w fun e w' => e = .returned (.bool false) ∧ w' = w := by
  have h0 := h.cell
  go_enter Tryz.func46, Tryz.ntmps46
  go_wp2
  go_ret
  exact ⟨rfl, rfl⟩

theorem measureC (C R S : Int) (w : World) : Calls Tryz.prog 176 #[.agg #[.int .i64 C, .int .i64 R, .int .i64 S]] w fun e w' => e = .returned (.agg #[.int .i64 C, .int .i64 R, .int .i64 S]) ∧ w.grownBy w' none := by
  go_enter Tryz.func176, Tryz.ntmps176
  go_wp2
  obtain ⟨fs, hfs⟩ : ∃ fs, Tryz.prog.underlying 98 = some (.struct fs) := ⟨_, Tryz.underlying98⟩
  have B := Bo.new (w.alloc (.cells #[.int .i64 C, .int .i64 R, .int .i64 S] 98)) 98 #[.int .i64 C, .int .i64 R, .int .i64 S]
  rw [World.size_alloc] at B
  refine ret_c1 (g := w.heap.size + 1) (t := 98) (cs := #[.int .i64 C, .int .i64 R, .int .i64 S]) rfl hfs (by kernel_rfl) rfl B rfl ?_
  exact ⟨rfl, gb_alloc (World.grownBy_alloc _ _ none) _⟩

theorem fW (b s q C R S : Nat) (g : Nat → Nat) (w : World) (h : Fb w b s q C R S g) : Calls Tryz.prog 42 #[.pointer (some ⟨b, 0, none⟩)] w fun e w' => e = .returned (.int .i64 (C : Nat)) ∧ w.grownBy w' none := by
  have h0 := h.cell
  have hm := m_measure h.st
  have hfl := fun (C R S : Value) (w : World) => fld_C C R S w
  go_enter Tryz.func42, Tryz.ntmps42
  go_wp2_with (first | (go_at_call 46; refine (lacksN b s q C R S g w h).mono ?_; rintro e V ⟨rfl, hV⟩; subst V) | (go_at_call 176; refine (measureC C R S w).mono ?_; rintro e V ⟨rfl, gV⟩))
  go_ret
  exact ⟨rfl, gV⟩

theorem fH (b s q C R S : Nat) (g : Nat → Nat) (w : World) (h : Fb w b s q C R S g) : Calls Tryz.prog 43 #[.pointer (some ⟨b, 0, none⟩)] w fun e w' => e = .returned (.int .i64 (R : Nat)) ∧ w.grownBy w' none := by
  have h0 := h.cell
  have hm := m_measure h.st
  have hfl := fun (C R S : Value) (w : World) => fld_R C R S w
  go_enter Tryz.func43, Tryz.ntmps43
  go_wp2_with (first | (go_at_call 46; refine (lacksN b s q C R S g w h).mono ?_; rintro e V ⟨rfl, hV⟩; subst V) | (go_at_call 176; refine (measureC C R S w).mono ?_; rintro e V ⟨rfl, gV⟩))
  go_ret
  exact ⟨rfl, gV⟩

theorem fStates (b s q C R S : Nat) (g : Nat → Nat) (w : World) (h : Fb w b s q C R S g) : Calls Tryz.prog 44 #[.pointer (some ⟨b, 0, none⟩)] w fun e w' => e = .returned (.int .i64 (S : Nat)) ∧ w.grownBy w' none := by
  have h0 := h.cell
  have hm := m_measure h.st
  have hfl := fun (C R S : Value) (w : World) => fld_S C R S w
  go_enter Tryz.func44, Tryz.ntmps44
  go_wp2_with (first | (go_at_call 46; refine (lacksN b s q C R S g w h).mono ?_; rintro e V ⟨rfl, hV⟩; subst V) | (go_at_call 176; refine (measureC C R S w).mono ?_; rintro e V ⟨rfl, gV⟩))
  go_ret
  exact ⟨rfl, gV⟩

theorem hasRowC (C R S y : Int) (w : World) : Calls Tryz.prog 174 #[.agg #[.int .i64 C, .int .i64 R, .int .i64 S], .int .i64 y] w fun e w' => e = .returned (.bool (decide (0 ≤ y ∧ y < R))) ∧ w.grownBy w' none := by
  obtain ⟨W1, hW1, sz1, g1, B1⟩ := boxn w #[.int .i64 C, .int .i64 R, .int .i64 S] 98
  have c1 := B1.cell 1 (v := .int .i64 R) rfl
  by_cases h1 : 0 ≤ y
  · by_cases h2 : y < R
    · have h3 : 0 ≤ y ∧ y < R := ⟨h1, h2⟩
      go_enter Tryz.func174, Tryz.ntmps174
      go_wp2
      go_ret
      exact ⟨by simp [h1, h2], g1⟩
    · have h3 : ¬ (0 ≤ y ∧ y < R) := fun h => h2 h.2
      go_enter Tryz.func174, Tryz.ntmps174
      go_wp2
      go_ret
      exact ⟨by simp [h1, h2], g1⟩
  · have h3 : ¬ (0 ≤ y ∧ y < R) := fun h => h1 h.1
    go_enter Tryz.func174, Tryz.ntmps174
    go_wp2
    go_ret
    exact ⟨by simp [h1], g1⟩

theorem hasPlaceC (C R S x y : Int) (w : World) : Calls Tryz.prog 173 #[.agg #[.int .i64 C, .int .i64 R, .int .i64 S], .int .i64 x, .int .i64 y] w fun e w' => e = .returned (.bool (decide (0 ≤ x ∧ x < C ∧ 0 ≤ y ∧ y < R))) ∧ w.grownBy w' none := by
  obtain ⟨W1, hW1, sz1, g1, B1⟩ := boxn w #[.int .i64 C, .int .i64 R, .int .i64 S] 98
  have c0 := B1.cell 0 (v := .int .i64 C) rfl
  have c1 := B1.cell 1 (v := .int .i64 R) rfl
  have c2 := B1.cell 2 (v := .int .i64 S) rfl
  by_cases h1 : 0 ≤ x
  · by_cases h2 : x < C
    · have e : decide (0 ≤ x ∧ x < C ∧ 0 ≤ y ∧ y < R) = decide (0 ≤ y ∧ y < R) := by simp [h1, h2]
      go_enter Tryz.func173, Tryz.ntmps173
      go_wp2_with (go_at_call 174; refine (hasRowC C R S y W1).mono ?_; rintro e V ⟨rfl, gV⟩)
      go_ret
      exact ⟨by simp [h1, h2], gb_trans g1 gV⟩
    · have h3 : ¬ (0 ≤ x ∧ x < C ∧ 0 ≤ y ∧ y < R) := fun h => h2 h.2.1
      go_enter Tryz.func173, Tryz.ntmps173
      go_wp2
      go_ret
      exact ⟨by simp [h1]; intros; omega, g1⟩
  · have h3 : ¬ (0 ≤ x ∧ x < C ∧ 0 ≤ y ∧ y < R) := fun h => h1 h.1
    go_enter Tryz.func173, Tryz.ntmps173
    go_wp2
    go_ret
    exact ⟨by simp [h1], g1⟩

theorem hasStateC (C R S : Int) (u : Nat) (hu : u < 256) (w : World) : Calls Tryz.prog 175 #[.agg #[.int .i64 C, .int .i64 R, .int .i64 S], .int .u8 (u : Nat)] w fun e w' => e = .returned (.bool (decide ((u : Int) < S))) ∧ w.grownBy w' none := by
  obtain ⟨W1, hW1, sz1, g1, B1⟩ := boxn w #[.int .i64 C, .int .i64 R, .int .i64 S] 98
  have c2 := B1.cell 2 (v := .int .i64 S) rfl
  go_enter Tryz.func175, Tryz.ntmps175
  go_wp2
  go_ret
  exact ⟨rfl, g1⟩
end Go.Proofs.YthjiiljglgmkpaaGreatDoor
namespace Go.Proofs.YthjiiljglgmkpaaGreatDoor
open Go.RowKit
set_option linter.unusedVariables false
set_option linter.unusedSimpArgs false
set_option maxRecDepth 100000

theorem Sb.sp {w : World} {s q C R S : Nat} {g : Nat → Nat} (h : Sb w s q C R S g) {k : Nat} (hk : k < C * R) : w.cell? ⟨q, k, none⟩ = some (.int .u8 (g k : Nat)) := by
  obtain ⟨K, _, h2, f0, h3, h4⟩ := h.cap
  rw [h3.cell (by omega), h4 k hk]
theorem row_le {C R y : Nat} (h : y < R) : y * C + C ≤ C * R := by
  have := Nat.mul_le_mul_left C (show y + 1 ≤ R from h)
  rw [Nat.mul_add, Nat.mul_one, Nat.mul_comm C y] at this
  exact this

/-- How many are not 0. -/
def cnt (f : Nat → Nat) : Nat → Nat
  | 0 => 0
  | n + 1 => cnt f n + if f n = 0 then 0 else 1
theorem cnt_le (f : Nat → Nat) : ∀ n, cnt f n ≤ n
  | 0 => Nat.le_refl _
  | n + 1 => by have := cnt_le f n; rw [cnt]; split <;> omega
theorem Sb.apart {w : World} {s q C R S : Nat} {g : Nat → Nat} (h : Sb w s q C R S g) : s ≠ q := by
  rintro rfl
  obtain ⟨K, h1, _, f0, ⟨c, hc, _⟩, _⟩ := h.cap
  unfold Bo at h1
  rw [h1] at hc
  simp at hc
theorem Sb.set {w : World} {s q C R S m : Nat} {g : Nat → Nat} (h : Sb w s q C R S g) (k u : Nat) : Sb ((w.drewN m).setCell ⟨q, k, none⟩ (.int .u8 (u : Nat))) s q C R S (fun j => if j = k then u else g j) :=
  let ⟨K, h1, h2, f0, h3, h4⟩ := h.cap
  ⟨K, Bo.set2 (w := w.drewN m) h1 (fun e => h.apart e.symm), h2, _, World.rowIs.set (w := w.drewN m) h3 k _, fun j hj => by
    by_cases e : j = k
    · simp [e]
    · simp [e, h4 j hj]⟩
theorem Sb.frz {w : World} {s q C R S : Nat} {g : Nat → Nat} (h : Sb w s q C R S g) (k : Nat) : w.frozen? ⟨q, k, none⟩ = false := by
  obtain ⟨K, _, _, f0, h3, _⟩ := h.cap
  exact h3.frozen k
theorem rowC (s q C R S : Nat) (g : Nat → Nat) (hz : Sz C R S) (y : Nat) (hy : y < R) (w : World) (h : Sb w s q C R S g) : Calls Tryz.prog 202 #[.pointer (some ⟨s, 0, none⟩), .int .i64 (y : Nat)] w fun e w' => ∃ cp, e = .returned (.slice (some ⟨q, y * C, none⟩) C cp) ∧ ∃ m, w' = w.drewN m := by
  obtain ⟨K, hK, hKle, _⟩ := h.cap
  have c0 := hK.cell 0 (v := .int .i64 (C : Nat)) rfl
  have c3 := hK.cell 3 (v := .slice (some ⟨q, 0, none⟩) (C * R) K) rfl
  have hl := row_le (C := C) hy
  have hmx := hz.all
  have w1 : IntKind.i64.wrap ((y : Int) * (C : Int)) = ((y * C : Nat) : Int) := by rw [← Int.natCast_mul, IntKind.wrap_i64]; omega
  have w2 : IntKind.i64.wrap ((y : Int) + 1) = ((y + 1 : Nat) : Int) := by rw [IntKind.wrap_i64]; have := hz.r1; omega
  have w3 : IntKind.i64.wrap (((y : Int) + 1) * (C : Int)) = ((y * C : Nat) : Int) + (C : Int) := by
    have e : ((y : Int) + 1) * (C : Int) = ((y * C : Nat) : Int) + (C : Int) := by rw [Int.add_mul, Int.one_mul, Int.natCast_mul]
    rw [e, IntKind.wrap_i64]; omega
  have r1 := hz.r1
  obtain ⟨a, ha⟩ : ∃ a, y * C = a := ⟨_, rfl⟩
  obtain ⟨n, hn⟩ : ∃ n, C * R = n := ⟨_, rfl⟩
  rw [ha] at hl w1 w3 ⊢
  rw [hn] at hl hmx c3 hKle
  have x1 : (a : Int) + (C : Int) ≤ (n : Int) := by omega
  have x0 : 0 ≤ (a : Int) + (C : Int) := by omega
  have x2 : ((a : Int) + (C : Int)).toNat = a + C := by omega
  have x3 : a + C - a = C := by omega
  have x4 : ¬ n = a := by have := hz.c0; omega
  have x5 : ¬ K = a := by have := hz.c0; omega
  have x6 : (a : Int) + (C : Int) ≤ (K : Int) := by omega
  clear ha hn h hK
  go_enter Tryz.func202, Tryz.ntmps202
  go_wp2
  go_quiet (fail)
  go_wp2
  go_ret
  exact ⟨_, rfl, nq, rfl⟩

theorem Sb.dr {w : World} {s q C R S m : Nat} {g : Nat → Nat} (h : Sb w s q C R S g) : Sb (w.drewN m) s q C R S g := ⟨h.cap⟩
theorem getC (s q C R S : Nat) (g : Nat → Nat) (hz : Sz C R S) (x y : Nat) (hx : x < C) (hy : y < R) (w : World) (h : Sb w s q C R S g) : Calls Tryz.prog 193 #[.pointer (some ⟨s, 0, none⟩), .int .i64 (x : Nat), .int .i64 (y : Nat)] w fun e w' => e = .returned (.int .u8 (g (y * C + x) : Nat)) ∧ ∃ m, w' = w.drewN m := by
  have hl := row_le (C := C) hy
  have hc := h.sp (k := y * C + x) (by omega)
  have hx' : (x : Int) < (C : Int) := by omega
  go_enter Tryz.func193, Tryz.ntmps193
  go_wp2_with (go_at_call 202; refine (rowC s q C R S g hz y hy w h).mono ?_; rintro e V ⟨cp, rfl, m, rfl⟩)
  go_ret
  exact ⟨rfl, m, rfl⟩
theorem setC (s q C R S : Nat) (g : Nat → Nat) (hz : Sz C R S) (x y u : Nat) (hx : x < C) (hy : y < R) (w : World) (h : Sb w s q C R S g) : Calls Tryz.prog 198 #[.pointer (some ⟨s, 0, none⟩), .int .i64 (x : Nat), .int .i64 (y : Nat), .int .u8 (u : Nat)] w fun e w' => e = .returned (.tuple #[]) ∧ Sb w' s q C R S (fun k => if k = y * C + x then u else g k) ∧ w.grownBy w' (some q) := by
  have hl := row_le (C := C) hy
  have hc := h.sp (k := y * C + x) (by omega)
  have hx' : (x : Int) < (C : Int) := by omega
  have hfz := h.frz (y * C + x)
  have hqs : s ≠ q := h.apart
  go_enter Tryz.func198, Tryz.ntmps198
  go_wp2_with (go_at_call 202; refine (rowC s q C R S g hz y hy w h).mono ?_; rintro e V ⟨cp, rfl, m, rfl⟩)
  go_end0
  exact ⟨rfl, h.set (m := m) _ _, gb_set (gb_drewN (World.grownBy.refl _ _) m) _ _⟩
theorem countC (s q C R S : Nat) (g : Nat → Nat) (hz : Sz C R S) (y : Nat) (hy : y < R) (w : World) (h : Sb w s q C R S g) : Calls Tryz.prog 192 #[.pointer (some ⟨s, 0, none⟩), .int .i64 (y : Nat)] w fun e w' => e = .returned (.int .i64 (cnt (fun x => g (y * C + x)) C : Nat)) ∧ ∃ m, w' = w.drewN m := by
  have hl := row_le (C := C) hy
  go_enter Tryz.func192, Tryz.ntmps192
  go_wp2_with (go_at_call 202; refine (rowC s q C R S g hz y hy w h).mono ?_; rintro e V ⟨cp, rfl, m, rfl⟩)
  go_loopw [5, 12] (fun n i wr => ∃ k : Nat, k ≤ C ∧ i = .int .i64 k ∧ n = .int .i64 (cnt (fun x => g (y * C + x)) k : Nat) ∧ wr = w.drewN m) (fun _ i _ => C - (intOf i).toNat)
  case atStart => exact ⟨0, Nat.zero_le _, rfl, rfl, rfl⟩
  case round =>
    obtain ⟨k, hk, rfl, rfl, rfl⟩ := hrel
    have hcl := cnt_le (fun x => g (y * C + x)) k
    by_cases hlt : k < C
    · have hlt' : (k : Int) < (C : Int) := by omega
      have ck := h.sp (k := y * C + k) (by omega)
      have hc1 := hz.c1
      obtain ⟨c, hc⟩ : ∃ c, cnt (fun x => g (y * C + x)) k = c := ⟨_, rfl⟩
      obtain ⟨u, hu⟩ : ∃ u, g (y * C + k) = u := ⟨_, rfl⟩
      have hnx : Hid (cnt (fun x => g (y * C + x)) (k + 1) = c + if u = 0 then 0 else 1) := by unfold Hid; rw [cnt, hc, hu]
      rw [hc] at hcl ⊢
      rw [hu] at ck
      clear hc hu
      by_cases hu0 : u = 0
      · subst hu0
        go_wp2
        go_roundw
        case rel => exact ⟨k + 1, hlt, by go_num, by rw [hnx.out]; simp, trivial⟩
        case measure => simp [intOf]; omega
      · have hu1 : ((u : Int) != 0) = true := by simp; omega
        go_wp2
        go_roundw
        case rel => exact ⟨k + 1, hlt, by go_num, by rw [hnx.out, if_neg hu0]; go_num, trivial⟩
        case measure => simp [intOf]; omega
    · have hkn : ¬ ((k : Int) < (C : Int)) := by omega
      have hkc : k = C := by omega
      subst hkc
      go_wp2
      go_ret
      exact ⟨rfl, m, rfl⟩
end Go.Proofs.YthjiiljglgmkpaaGreatDoor
namespace Go.Proofs.YthjiiljglgmkpaaGreatDoor
open Go.RowKit
set_option linter.unusedVariables false
set_option linter.unusedSimpArgs false
set_option maxRecDepth 100000

/-- Values copied into a row, from a place on. -/
theorem run_copy_vals {P : Program} (w : World) (dT sT ty elem : TypeId) (hu : P.underlying dT = some (.slice elem)) (hsz : (P.info? elem).map (·.size) = some 1)
    (ad : Addr) (n o M dCap sCap : Nat) (t : TypeId) (d : Nat) (f0 f : Nat → Value) (h1 : ∀ k, k < n → (f k).oneCell' = true) (hg : w.rowIs d t M f0) (hle : o + n ≤ M) (hn : 0 < n) (hsrc : ∀ j, j < n → w.cell? (ad.add j) = some (f j)) :
    ∃ w', (Builtin.copy_ #[dT, sT] ty #[.slice (some ⟨d, o, none⟩) n dCap, .slice (some ad) n sCap]).run P w = .ok (goInt n) w' ∧ w'.rowIs d t M (fun j => if o ≤ j ∧ j < o + n then f (j - o) else f0 j) ∧ w.grownBy w' (some d) := by
  obtain ⟨c, hc, hcn, hcv⟩ := hg
  obtain ⟨cs, hcs⟩ : ∃ cs : List Value, cs = (List.range n).map f := ⟨_, rfl⟩
  have hl : cs.length = n := by rw [hcs]; simp
  have hm : Nat.min n n = n := Nat.min_self n
  have hsrc' : ∀ j v, cs[j]? = some v → w.cell? (ad.add j) = some v := by
    intro j v hj
    have hjn : j < n := by
      obtain ⟨hlt, _⟩ := List.getElem?_eq_some_iff.1 hj
      omega
    rw [hcs, List.getElem?_map, List.getElem?_range hjn] at hj
    simp at hj
    subst hj
    exact hsrc j hjn
  have hk := run_copy_row (P := P) w dT sT ty elem d o n dCap ad n sCap c t cs hu hsz hc (by rw [hl, hm]) hsrc' (by rw [hl, hcn]; omega) (by
    intro v hv
    rw [hcs, List.mem_map] at hv
    obtain ⟨k, hkr, rfl⟩ := hv
    exact h1 k (List.mem_range.1 hkr))
  rw [hl] at hk
  refine ⟨_, hk, ⟨_, setRow_heap w d _ _ t _ hc, by simp [hl, hcn]; omega, fun i hi => ?_⟩, ⟨rfl, rfl, rfl, by simp [World.setRow], fun k hk hne => setRow_other w d k _ (fun e => hne (by rw [e]))⟩⟩
  have hci := hcv i hi
  have hcl : c.toList.length = M := by simp [hcn]
  have hci' : c.toList[i]? = some (f0 i) := by simpa using hci
  rw [List.getElem?_toArray]
  show _ = some (if o ≤ i ∧ i < o + n then f (i - o) else f0 i)
  by_cases h1 : i < o
  · rw [if_neg (by omega), List.append_assoc, List.getElem?_append_left (by simp; omega), List.getElem?_take_of_lt h1]
    exact hci'
  · by_cases h2 : i < o + n
    · rw [if_pos (by omega), List.append_assoc, List.getElem?_append_right (by simp; omega), List.getElem?_append_left (by simp [hl, hcn]; omega)]
      have e : i - (List.take o c.toList).length = i - o := by simp [hcn]; omega
      rw [e, hcs, List.getElem?_map, List.getElem?_range (by omega)]
      rfl
    · rw [if_neg (by omega), List.getElem?_append_right (by simp [hl, hcn]; omega), List.getElem?_drop]
      have e : o + n + (i - (List.take o c.toList ++ cs).length) = i := by simp [hl, hcn]; omega
      rw [e]
      exact hci'

theorem readC (s q C R S : Nat) (g : Nat → Nat) (hz : Sz C R S) (y : Nat) (hy : y < R) (d cap : Nat) (f0 : Nat → Value) (w : World) (h : Sb w s q C R S g) (hd : w.rowIs d 5 C f0) : Calls Tryz.prog 197 #[.pointer (some ⟨s, 0, none⟩), .int .i64 (y : Nat), .slice (some ⟨d, 0, none⟩) C cap] w fun e w' => e = .returned (.tuple #[]) ∧ w'.rowIs d 5 C (fun x => .int .u8 (g (y * C + x) : Nat)) ∧ w.grownBy w' (some d) := by
  have hl := row_le (C := C) hy
  have hcp := fun cp m => run_copy_vals (P := Tryz.prog) (w.drewN m) 81 81 3 5 under8S (by kernel_rfl) ⟨q, y * C, none⟩ C 0 C cap cp 5 d f0 (fun x => .int .u8 (g (y * C + x) : Nat)) (fun _ _ => rfl) hd (by omega) hz.c0 (fun j hj => by rw [add_mid]; exact h.sp (by omega))
  go_enter Tryz.func197, Tryz.ntmps197
  go_wp2_with (go_at_call 202; refine (rowC s q C R S g hz y hy w h).mono ?_; rintro e V ⟨cp, rfl, m, rfl⟩; obtain ⟨w2, e2, r2, g2⟩ := hcp cp m)
  go_end0
  refine ⟨rfl, r2.congr fun x hx => ?_, ?_⟩
  · show (if 0 ≤ x ∧ x < 0 + C then Value.int .u8 (g (y * C + (x - 0)) : Nat) else f0 x) = _
    rw [if_pos (by omega)]
    rfl
  · exact gb_trans (gb_drewN (World.grownBy.refl _ _) m) g2

theorem fLineY (b : Nat) (s q C R S : Nat) (g : Nat → Nat) (hz : Sz C R S) (y : Nat) (hy : y < R) (w : World) (h : Fb w b s q C R S g) : Calls Tryz.prog 35 #[.pointer (some ⟨b, 0, none⟩), .int .i64 (y : Nat)] w fun e w' => ∃ d, e = .returned (.tuple #[.slice (some ⟨d, 0, none⟩) C C, .int .i64 0]) ∧ w'.rowIs d 5 C (fun x => .int .u8 (g (y * C + x) : Nat)) ∧ w.heap.size ≤ d ∧ w.grownBy w' none := by
  have h0 := h.cell
  have hm := m_hasRow h.st
  have hd : decide (0 ≤ (y : Int) ∧ (y : Int) < (R : Int)) = true := decide_eq_true (by omega)
  have hpl := fun w => hasRowC C R S y w
  rw [hd] at hpl
  have hrd := fun w => m_read s w
  have hc1 := hz.c1
  have hmk := run_make_row' (P := Tryz.prog) 81 5 (.int .u8 0) 1 under8S info8 rfl .i64 .i64 C (by omega) (by omega)
  go_enter Tryz.func35, Tryz.ntmps35
  go_wp2_with (first | (go_at_call 46; refine (lacksN b s q C R S g w h).mono ?_; rintro e V ⟨rfl, hV⟩; subst V) | (go_at_call 174; refine (hpl w).mono ?_; rintro e V ⟨rfl, gV⟩; have hV := h.kept gV; have v0 := hV.cell) | (go_at_call 42; refine (fW b s q C R S g V hV).mono ?_; rintro e V2 ⟨rfl, gV2⟩; obtain ⟨W3, hW3, sz3, g3, B3⟩ := boxn V2 (madeCells #[.int .u8 0] C) 5; have hr3 := World.rowIs_made V2 (.int .u8 0) C 5; rw [hW3] at hr3; have h3 := (hV.kept gV2).kept g3; have v3 := h3.cell) | (go_at_call 197; refine (readC s q C R S g hz y hy V2.heap.size C _ W3 h3.st hr3).mono ?_; rintro e V4 ⟨rfl, r4, g4⟩))
  go_ret2
  exact ⟨V2.heap.size, rfl, r4, (gb_trans gV gV2).size, gb_past (gb_trans (gb_trans gV gV2) g3) g4 (gb_trans gV gV2).size⟩

theorem fLineN (b : Nat) (s q C R S : Nat) (g : Nat → Nat) (hz : Sz C R S) (y : Int) (hn : ¬ (0 ≤ y ∧ y < R)) (w : World) (h : Fb w b s q C R S g) : Calls Tryz.prog 35 #[.pointer (some ⟨b, 0, none⟩), .int .i64 y] w fun e w' => e = .returned (.tuple #[.slice none 0 0, .int .i64 130]) ∧ w.grownBy w' none := by
  have h0 := h.cell
  have hm := m_hasRow h.st
  have hpl := fun w => hasRowC C R S y w
  rw [decide_eq_false hn] at hpl
  go_enter Tryz.func35, Tryz.ntmps35
  go_wp2_with (first | (go_at_call 46; refine (lacksN b s q C R S g w h).mono ?_; rintro e V ⟨rfl, hV⟩; subst V) | (go_at_call 174; refine (hpl w).mono ?_; rintro e V ⟨rfl, gV⟩))
  go_ret2
  exact ⟨rfl, gV⟩
end Go.Proofs.YthjiiljglgmkpaaGreatDoor
namespace Go.Proofs.YthjiiljglgmkpaaGreatDoor
open Go.RowKit
set_option linter.unusedVariables false
set_option linter.unusedSimpArgs false
set_option maxRecDepth 100000

theorem bysV_at {w : World} {a : Addr} {n : Nat} {f : Nat → Nat} (h : By w (some a) n f) (j : Nat) (u : Value) (hu : (bysV f n)[j]? = some u) : w.cell? (a.add j) = some u := by
  have hj : j < n := by
    have := (List.getElem?_eq_some_iff.1 hu).1
    rwa [bysV_len] at this
  simp [bysV, hj] at hu
  rw [← hu]
  exact h.at hj
theorem bysV_one (f : Nat → Nat) (n : Nat) (u : Value) (hu : u ∈ bysV f n) : u.oneCell' = true := by
  simp only [bysV, List.mem_map] at hu
  obtain ⟨i, _, rfl⟩ := hu
  rfl
theorem cloneC (a : Addr) (n c : Nat) (f : Nat → Nat) (hn : 0 < n) (hb : n ≤ 140737488351232) (w : World) (h : By w (some a) n f) : Calls Tryz.prog 201 #[.slice (some a) n c] w fun e w' => ∃ q K, e = .returned (.slice (some ⟨q, 0, none⟩) n K) ∧ w'.ownsRow w.heap.size 5 1 (.slice (some ⟨q, 0, none⟩) n K) n (bysV f n) ∧ w.grownBy w' none := by
  have qT : ∀ (w : World) (a : Option Addr) (n c n' c' : Nat), (binOp .eql 81 (.slice a n c) (.slice none n' c')).run Tryz.prog w = .ok (.bool a.isNone) w := fun w a n c n' c' => Lib.run_eql_slice_nil w _ _ a n c n' c' Tryz.underlying81
  obtain ⟨W1, hW1, sz1, g1, B1⟩ := boxn w #[] 5
  obtain ⟨i0, h1, h2, h3, h4⟩ := info_parts info8
  have HI := And.intro h1 (And.intro h2 (And.intro h3 h4))
  have HH : Hid _ := HI
  clear h1 h2 h3 h4 HI
  have own0 : W1.ownsRow w.heap.size 5 1 (.slice (some ⟨w.heap.size, 0, none⟩) 0 0) 0 [] := ⟨rfl, .inr ⟨w.heap.size, 0, #[], rfl, Nat.le_refl _, B1, Nat.le_refl _, by decide, rfl, rfl⟩⟩
  have hb1 := h.kept g1 (by simp)
  go_enter Tryz.func201, Tryz.ntmps201
  go_wp2_with (at_builtin; refine wpList_append_own _ rfl _ _ 81 rfl w.heap.size 5 i0 (.int .u8 0) 1 1 under8S HH.out.1 HH.out.2.1 HH.out.2.2.1 HH.out.2.2.2 rfl (by decide) _ 0 [] rfl own0 a n c (bysV f n) rfl (by rw [bysV_len]; omega) (bysV_at hb1) (bysV_one f n) (by unfold maxLen; omega) (by omega) g1.size ?_; intro v' w2 own2 gg2 _)
  go_ret
  rw [Nat.zero_add, List.nil_append] at own2
  rcases own2.2 with ⟨_, e2⟩ | ⟨q, K, cur, e1, e2⟩
  · omega
  · subst e1
    exact ⟨q, K, rfl, own2, gb_past g1 gg2 (Nat.le_refl _)⟩

theorem own_row {w : World} {B q K n : Nat} {g : Nat → Nat} (h : w.ownsRow B 5 1 (.slice (some ⟨q, 0, none⟩) n K) n (bysV g n)) : n ≤ K ∧ ∃ f0, w.rowIs q 5 K f0 ∧ (∀ k, k < n → f0 k = .int .u8 (g k : Nat)) ∧ B ≤ q := by
  rcases h.2 with ⟨e, _⟩ | ⟨q', K', cur, e, h1, h2, h3, h4, h5, h6⟩
  · cases e
  · cases e
    refine ⟨h3, fun k => cur[k]?.getD undef, ⟨cur, h2, by omega, fun i hi => ?_⟩, fun k hk => ?_, h1⟩
    · have : i < cur.size := by omega
      simp [this]
    · have hb : (bysV g n)[k]? = some (.int .u8 (g k : Nat)) := by simp [bysV, hk]
      rw [← h6, List.getElem?_take_of_lt (by omega)] at hb
      have hb' : cur[k]? = some (.int .u8 (g k : Nat)) := by simpa using hb
      simp only [hb', Option.getD_some]
theorem copiedC (s q C R S : Nat) (g : Nat → Nat) (hz : Sz C R S) (w : World) (h : Sb w s q C R S g) : Calls Tryz.prog 191 #[.pointer (some ⟨s, 0, none⟩)] w fun e w' => ∃ s2 q2, e = .returned (.iface 165 (.pointer (some ⟨s2, 0, none⟩))) ∧ Sb w' s2 q2 C R S g ∧ w.heap.size ≤ s2 ∧ w.heap.size ≤ q2 ∧ w.grownBy w' none := by
  obtain ⟨K, k1, k2, f0, k3, k4⟩ := h.cap
  have c0 := k1.cell 0 (v := .int .i64 (C : Nat)) rfl
  have c1 := k1.cell 1 (v := .int .i64 (R : Nat)) rfl
  have c2 := k1.cell 2 (v := .int .i64 (S : Nat)) rfl
  have c3 := k1.cell 3 (v := .slice (some ⟨q, 0, none⟩) (C * R) K) rfl
  have hall := hz.all
  have hpos : 0 < C * R := Nat.mul_pos hz.c0 hz.r0
  have hby : By w (some ⟨q, 0, none⟩) (C * R) g := fun k hk => ⟨_, rfl, by rw [add_mid, Nat.zero_add]; exact h.sp hk⟩
  have hcl := cloneC ⟨q, 0, none⟩ (C * R) K g hpos (by omega) w.drew hby
  obtain ⟨n, hn⟩ : ∃ n, C * R = n := ⟨_, rfl⟩
  rw [hn] at hcl c3
  have HN : Hid (C * R = n) := hn
  have k1' : Bo w.drew s 189 #[.int .i64 (C : Nat), .int .i64 (R : Nat), .int .i64 (S : Nat), .slice (some ⟨q, 0, none⟩) (C * R) K] := k1
  clear hn hby k1 k2 k3 k4 h hall hpos
  go_enter Tryz.func191, Tryz.ntmps191
  go_wp2
  go_region_with (first | (go_at_call 201; refine hcl.mono ?_; rintro e w2 ⟨q2, K2, rfl, own2, g2⟩; obtain ⟨o1, f2, o2, o3, o4⟩ := own_row own2; clear own2; have k2' := k1'.kept g2 (by simp); have d0 := k2'.cell 0 (v := .int .i64 (C : Nat)) rfl; have d1 := k2'.cell 1 (v := .int .i64 (R : Nat)) rfl; have d2 := k2'.cell 2 (v := .int .i64 (S : Nat)) rfl))
  all_goals go_wp2
  all_goals go_ret
  all_goals exact ⟨w2.heap.size, q2, rfl, ⟨K2, (HN.out.symm ▸ Bo.new w2 189 #[.int .i64 (C : Nat), .int .i64 (R : Nat), .int .i64 (S : Nat), .slice (some ⟨q2, 0, none⟩) n K2]), HN.out.symm ▸ o1, f2, rowIs_kept o2 (World.grownBy_alloc _ _ none) (by simp), fun k hk => o3 k (HN.out ▸ hk)⟩, g2.size, o4, gb_alloc (gb_trans (gb_drew (World.grownBy.refl _ _)) g2) _⟩
end Go.Proofs.YthjiiljglgmkpaaGreatDoor
