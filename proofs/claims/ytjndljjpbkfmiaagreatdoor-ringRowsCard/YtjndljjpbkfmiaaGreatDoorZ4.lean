/- A field of bytes: what it is in memory; its sizes. -/
import Derived.Test.YtjndljjpbkfmiaaGreatDoorZ3
import Derived.Deep.MidRow
namespace Go.Proofs.YtjndljjpbkfmiaaGreatDoor
open Go.RowKit
set_option linter.unusedVariables false
set_option linter.unusedSimpArgs false
set_option maxRecDepth 100000

/-- A store of bytes: its block, its cells'. -/
structure Sb (w : World) (s q C R S : Nat) (g : Nat → Nat) : Prop where
  cap : ∃ K, Bo w s 174 #[.int .i64 (C : Nat), .int .i64 (R : Nat), .int .i64 (S : Nat), .slice (some ⟨q, 0, none⟩) (C * R) K] ∧ C * R ≤ K ∧ ∃ f0, w.rowIs q 5 K f0 ∧ ∀ k, k < C * R → f0 k = .int .u8 (g k : Nat)
/-- A field of bytes: its own block, its store's, its cells'. -/
structure Fb (w : World) (b s q C R S : Nat) (g : Nat → Nat) : Prop where
  fld : Bo w b 117 #[.iface 154 (.pointer (some ⟨s, 0, none⟩))]
  st : Sb w s q C R S g
/-- Sizes that may be. -/
structure Sz (C R S : Nat) : Prop where
  c0 : 0 < C
  c1 : C ≤ 65536
  r0 : 0 < R
  r1 : R ≤ 65536
  s0 : 2 ≤ S
  s1 : S ≤ 256
  all : C * R ≤ 1048576
theorem Sb.kept {w w' : World} {s q C R S : Nat} {g : Nat → Nat} (h : Sb w s q C R S g) (hg : w.grownBy w' none) : Sb w' s q C R S g :=
  let ⟨K, h1, h2, f0, h3, h4⟩ := h.cap
  ⟨K, h1.kept hg (by simp), h2, f0, rowIs_kept h3 hg (by simp), h4⟩
theorem Sb.blk {w : World} {s q C R S : Nat} {g : Nat → Nat} (h : Sb w s q C R S g) : ∃ v, Bo w s 174 #[.int .i64 (C : Nat), .int .i64 (R : Nat), .int .i64 (S : Nat), v] :=
  let ⟨K, h1, _⟩ := h.cap
  ⟨_, h1⟩
theorem Sb.slt {w : World} {s q C R S : Nat} {g : Nat → Nat} (h : Sb w s q C R S g) : s < w.heap.size :=
  let ⟨_, h1⟩ := h.blk
  h1.lt
theorem Fb.kept {w w' : World} {b s q C R S : Nat} {g : Nat → Nat} (h : Fb w b s q C R S g) (hg : w.grownBy w' none) : Fb w' b s q C R S g :=
  ⟨h.fld.kept hg (by simp), h.st.kept hg⟩
theorem Fb.cell {w : World} {b s q C R S : Nat} {g : Nat → Nat} (h : Fb w b s q C R S g) : w.cell? ⟨b, 0, none⟩ = some (.iface 154 (.pointer (some ⟨s, 0, none⟩))) := h.fld.cell 0 rfl

theorem follow_sz (s : Nat) (w : World) : (follow [⟨174, 0, true⟩] 154 (.val (.pointer (some ⟨s, 0, none⟩)))).run Tryz.prog w = .ok (120, .var ⟨s, 0, none⟩) w := by kernel_rfl
theorem rec_sz (s : Nat) (w : World) : (receiverAt 120 (.var ⟨s, 0, none⟩) false none).run Tryz.prog w = (loadVar 120 ⟨s, 0, none⟩).run Tryz.prog w := by kernel_rfl
theorem load_sz {w : World} {s q C R S : Nat} {g : Nat → Nat} (h : Sb w s q C R S g) : (loadVar 120 ⟨s, 0, none⟩).run Tryz.prog w = .ok (.agg #[.int .i64 C, .int .i64 R, .int .i64 S]) w := by
  obtain ⟨fs, hfs⟩ : ∃ fs, Tryz.prog.underlying 120 = some (.struct fs) := ⟨_, Tryz.underlying120⟩
  refine run_loadVar_mid w s 0 120 [.int .i64 C, .int .i64 R, .int .i64 S] (.struct fs) (fun j v hj => ?_) hfs rfl (by kernel_rfl)
  rw [Nat.zero_add]
  obtain ⟨v0, hv0⟩ := h.blk
  refine hv0.cell j ?_
  match j, hj with
  | 0, hj => exact hj
  | 1, hj => exact hj
  | 2, hj => exact hj
/-- A method of the sizes, called of the store. -/
theorem meth_sz {w : World} {s q C R S : Nat} {g : Nat → Nat} (h : Sb w s q C R S g) (nm : String) (k : Nat)
    (hm : ((Tryz.prog.info? 154).bind (fun i => i.methods.find? (·.name == nm))).map (fun m => (m.func, m.path)) = some (some (k, false), #[⟨174, 0, true⟩])) :
    (method 316 154 (.pointer (some ⟨s, 0, none⟩)) nm).run Tryz.prog w = .ok (k, .agg #[.int .i64 C, .int .i64 R, .int .i64 S]) w := by
  cases h1 : Tryz.prog.info? 154 with
  | none => rw [h1] at hm; cases hm
  | some i =>
    rw [h1] at hm
    cases h2 : i.methods.find? (·.name == nm) with
    | none => simp [h2] at hm
    | some m =>
      simp only [Option.bind_some, h2, Option.map_some, Option.some.injEq, Prod.mk.injEq] at hm
      obtain ⟨h3, h4⟩ := hm
      have hti : (typeInfo 154).run Tryz.prog w = .ok i w := by simp [typeInfo, h1]
      rw [method]
      simp only [Sem.run_bind, hti, Result.andThen_ok, h2, h3, h4, follow_sz, Sem.run_pure]
      rw [if_neg (by decide), rec_sz, load_sz h]
      rfl
theorem m_measure {w : World} {s q C R S : Nat} {g : Nat → Nat} (h : Sb w s q C R S g) : (method 316 154 (.pointer (some ⟨s, 0, none⟩)) "vivarium/field.measure").run Tryz.prog w = .ok (147, .agg #[.int .i64 C, .int .i64 R, .int .i64 S]) w := meth_sz h _ _ (by kernel_rfl)
theorem m_fitsBits {w : World} {s q C R S : Nat} {g : Nat → Nat} (h : Sb w s q C R S g) : (method 316 154 (.pointer (some ⟨s, 0, none⟩)) "vivarium/field.fitsBits").run Tryz.prog w = .ok (80, .agg #[.int .i64 C, .int .i64 R, .int .i64 S]) w := meth_sz h _ _ (by kernel_rfl)
theorem m_hasPlace {w : World} {s q C R S : Nat} {g : Nat → Nat} (h : Sb w s q C R S g) : (method 316 154 (.pointer (some ⟨s, 0, none⟩)) "vivarium/field.hasPlace").run Tryz.prog w = .ok (144, .agg #[.int .i64 C, .int .i64 R, .int .i64 S]) w := meth_sz h _ _ (by kernel_rfl)
theorem m_hasRow {w : World} {s q C R S : Nat} {g : Nat → Nat} (h : Sb w s q C R S g) : (method 316 154 (.pointer (some ⟨s, 0, none⟩)) "vivarium/field.hasRow").run Tryz.prog w = .ok (145, .agg #[.int .i64 C, .int .i64 R, .int .i64 S]) w := meth_sz h _ _ (by kernel_rfl)
theorem m_hasState {w : World} {s q C R S : Nat} {g : Nat → Nat} (h : Sb w s q C R S g) : (method 316 154 (.pointer (some ⟨s, 0, none⟩)) "vivarium/field.hasState").run Tryz.prog w = .ok (146, .agg #[.int .i64 C, .int .i64 R, .int .i64 S]) w := meth_sz h _ _ (by kernel_rfl)
theorem m_checkLine {w : World} {s q C R S : Nat} {g : Nat → Nat} (h : Sb w s q C R S g) : (method 316 154 (.pointer (some ⟨s, 0, none⟩)) "vivarium/field.checkLine").run Tryz.prog w = .ok (143, .agg #[.int .i64 C, .int .i64 R, .int .i64 S]) w := meth_sz h _ _ (by kernel_rfl)
theorem m_packed (s : Nat) (w : World) : (method 316 154 (.pointer (some ⟨s, 0, none⟩)) "vivarium/field.packed").run Tryz.prog w = .ok (169, .pointer (some ⟨s, 0, none⟩)) w := by kernel_rfl
theorem m_get (s : Nat) (w : World) : (method 316 154 (.pointer (some ⟨s, 0, none⟩)) "vivarium/field.get").run Tryz.prog w = .ok (166, .pointer (some ⟨s, 0, none⟩)) w := by kernel_rfl
theorem m_set (s : Nat) (w : World) : (method 316 154 (.pointer (some ⟨s, 0, none⟩)) "vivarium/field.set").run Tryz.prog w = .ok (171, .pointer (some ⟨s, 0, none⟩)) w := by kernel_rfl
theorem m_read (s : Nat) (w : World) : (method 316 154 (.pointer (some ⟨s, 0, none⟩)) "vivarium/field.read").run Tryz.prog w = .ok (170, .pointer (some ⟨s, 0, none⟩)) w := by kernel_rfl
theorem m_lay (s : Nat) (w : World) : (method 316 154 (.pointer (some ⟨s, 0, none⟩)) "vivarium/field.lay").run Tryz.prog w = .ok (167, .pointer (some ⟨s, 0, none⟩)) w := by kernel_rfl
theorem m_wipe (s : Nat) (w : World) : (method 316 154 (.pointer (some ⟨s, 0, none⟩)) "vivarium/field.wipe").run Tryz.prog w = .ok (173, .pointer (some ⟨s, 0, none⟩)) w := by kernel_rfl
theorem m_count (s : Nat) (w : World) : (method 316 154 (.pointer (some ⟨s, 0, none⟩)) "vivarium/field.count").run Tryz.prog w = .ok (165, .pointer (some ⟨s, 0, none⟩)) w := by kernel_rfl
theorem m_span (s : Nat) (w : World) : (method 316 154 (.pointer (some ⟨s, 0, none⟩)) "vivarium/field.span").run Tryz.prog w = .ok (172, .pointer (some ⟨s, 0, none⟩)) w := by kernel_rfl
theorem m_living (s : Nat) (w : World) : (method 316 154 (.pointer (some ⟨s, 0, none⟩)) "vivarium/field.living").run Tryz.prog w = .ok (168, .pointer (some ⟨s, 0, none⟩)) w := by kernel_rfl
theorem m_copied (s : Nat) (w : World) : (method 316 154 (.pointer (some ⟨s, 0, none⟩)) "vivarium/field.copied").run Tryz.prog w = .ok (164, .pointer (some ⟨s, 0, none⟩)) w := by kernel_rfl

theorem fld_C (C R S : Value) (w : World) : (Instr.field 120 (.agg #[C, R, S]) 0).run Tryz.prog w = .ok C w := by kernel_rfl
theorem fld_R (C R S : Value) (w : World) : (Instr.field 120 (.agg #[C, R, S]) 1).run Tryz.prog w = .ok R w := by kernel_rfl
theorem fld_S (C R S : Value) (w : World) : (Instr.field 120 (.agg #[C, R, S]) 2).run Tryz.prog w = .ok S w := by kernel_rfl

theorem lacksN (b s q C R S : Nat) (g : Nat → Nat) (w : World) (h : Fb w b s q C R S g) : Calls Tryz.prog 61 #[.pointer (some ⟨b, 0, none⟩)] w fun e w' => e = .returned (.bool false) ∧ w' = w := by
  have h0 := h.cell
  go_enter Tryz.func61, Tryz.ntmps61
  go_wp2
  go_ret
  exact ⟨rfl, rfl⟩

theorem measureC (C R S : Int) (w : World) : Calls Tryz.prog 147 #[.agg #[.int .i64 C, .int .i64 R, .int .i64 S]] w fun e w' => e = .returned (.agg #[.int .i64 C, .int .i64 R, .int .i64 S]) ∧ w.grownBy w' none := by
  go_enter Tryz.func147, Tryz.ntmps147
  go_wp2
  obtain ⟨fs, hfs⟩ : ∃ fs, Tryz.prog.underlying 120 = some (.struct fs) := ⟨_, Tryz.underlying120⟩
  have B := Bo.new (w.alloc (.cells #[.int .i64 C, .int .i64 R, .int .i64 S] 120)) 120 #[.int .i64 C, .int .i64 R, .int .i64 S]
  rw [World.size_alloc] at B
  refine ret_c1 (g := w.heap.size + 1) (t := 120) (cs := #[.int .i64 C, .int .i64 R, .int .i64 S]) rfl hfs (by kernel_rfl) rfl B rfl ?_
  exact ⟨rfl, gb_alloc (World.grownBy_alloc _ _ none) _⟩

theorem fW (b s q C R S : Nat) (g : Nat → Nat) (w : World) (h : Fb w b s q C R S g) : Calls Tryz.prog 41 #[.pointer (some ⟨b, 0, none⟩)] w fun e w' => e = .returned (.int .i64 (C : Nat)) ∧ w.grownBy w' none := by
  have h0 := h.cell
  have hm := m_measure h.st
  have hfl := fun (C R S : Value) (w : World) => fld_C C R S w
  go_enter Tryz.func41, Tryz.ntmps41
  go_wp2_with (first | (go_at_call 61; refine (lacksN b s q C R S g w h).mono ?_; rintro e V ⟨rfl, hV⟩; subst V) | (go_at_call 147; refine (measureC C R S w).mono ?_; rintro e V ⟨rfl, gV⟩))
  go_ret
  exact ⟨rfl, gV⟩

theorem fH (b s q C R S : Nat) (g : Nat → Nat) (w : World) (h : Fb w b s q C R S g) : Calls Tryz.prog 42 #[.pointer (some ⟨b, 0, none⟩)] w fun e w' => e = .returned (.int .i64 (R : Nat)) ∧ w.grownBy w' none := by
  have h0 := h.cell
  have hm := m_measure h.st
  have hfl := fun (C R S : Value) (w : World) => fld_R C R S w
  go_enter Tryz.func42, Tryz.ntmps42
  go_wp2_with (first | (go_at_call 61; refine (lacksN b s q C R S g w h).mono ?_; rintro e V ⟨rfl, hV⟩; subst V) | (go_at_call 147; refine (measureC C R S w).mono ?_; rintro e V ⟨rfl, gV⟩))
  go_ret
  exact ⟨rfl, gV⟩

theorem fStates (b s q C R S : Nat) (g : Nat → Nat) (w : World) (h : Fb w b s q C R S g) : Calls Tryz.prog 43 #[.pointer (some ⟨b, 0, none⟩)] w fun e w' => e = .returned (.int .i64 (S : Nat)) ∧ w.grownBy w' none := by
  have h0 := h.cell
  have hm := m_measure h.st
  have hfl := fun (C R S : Value) (w : World) => fld_S C R S w
  go_enter Tryz.func43, Tryz.ntmps43
  go_wp2_with (first | (go_at_call 61; refine (lacksN b s q C R S g w h).mono ?_; rintro e V ⟨rfl, hV⟩; subst V) | (go_at_call 147; refine (measureC C R S w).mono ?_; rintro e V ⟨rfl, gV⟩))
  go_ret
  exact ⟨rfl, gV⟩

theorem hasRowC (C R S y : Int) (w : World) : Calls Tryz.prog 145 #[.agg #[.int .i64 C, .int .i64 R, .int .i64 S], .int .i64 y] w fun e w' => e = .returned (.bool (decide (0 ≤ y ∧ y < R))) ∧ w.grownBy w' none := by
  obtain ⟨W1, hW1, sz1, g1, B1⟩ := boxn w #[.int .i64 C, .int .i64 R, .int .i64 S] 120
  have c1 := B1.cell 1 (v := .int .i64 R) rfl
  by_cases h1 : 0 ≤ y
  · by_cases h2 : y < R
    · have h3 : 0 ≤ y ∧ y < R := ⟨h1, h2⟩
      go_enter Tryz.func145, Tryz.ntmps145
      go_wp2
      go_ret
      exact ⟨by simp [h1, h2], g1⟩
    · have h3 : ¬ (0 ≤ y ∧ y < R) := fun h => h2 h.2
      go_enter Tryz.func145, Tryz.ntmps145
      go_wp2
      go_ret
      exact ⟨by simp [h1, h2], g1⟩
  · have h3 : ¬ (0 ≤ y ∧ y < R) := fun h => h1 h.1
    go_enter Tryz.func145, Tryz.ntmps145
    go_wp2
    go_ret
    exact ⟨by simp [h1], g1⟩

theorem hasPlaceC (C R S x y : Int) (w : World) : Calls Tryz.prog 144 #[.agg #[.int .i64 C, .int .i64 R, .int .i64 S], .int .i64 x, .int .i64 y] w fun e w' => e = .returned (.bool (decide (0 ≤ x ∧ x < C ∧ 0 ≤ y ∧ y < R))) ∧ w.grownBy w' none := by
  obtain ⟨W1, hW1, sz1, g1, B1⟩ := boxn w #[.int .i64 C, .int .i64 R, .int .i64 S] 120
  have c0 := B1.cell 0 (v := .int .i64 C) rfl
  have c1 := B1.cell 1 (v := .int .i64 R) rfl
  have c2 := B1.cell 2 (v := .int .i64 S) rfl
  by_cases h1 : 0 ≤ x
  · by_cases h2 : x < C
    · have e : decide (0 ≤ x ∧ x < C ∧ 0 ≤ y ∧ y < R) = decide (0 ≤ y ∧ y < R) := by simp [h1, h2]
      go_enter Tryz.func144, Tryz.ntmps144
      go_wp2_with (go_at_call 145; refine (hasRowC C R S y W1).mono ?_; rintro e V ⟨rfl, gV⟩)
      go_ret
      exact ⟨by simp [h1, h2], gb_trans g1 gV⟩
    · have h3 : ¬ (0 ≤ x ∧ x < C ∧ 0 ≤ y ∧ y < R) := fun h => h2 h.2.1
      go_enter Tryz.func144, Tryz.ntmps144
      go_wp2
      go_ret
      exact ⟨by simp [h1]; intros; omega, g1⟩
  · have h3 : ¬ (0 ≤ x ∧ x < C ∧ 0 ≤ y ∧ y < R) := fun h => h1 h.1
    go_enter Tryz.func144, Tryz.ntmps144
    go_wp2
    go_ret
    exact ⟨by simp [h1], g1⟩

theorem hasStateC (C R S : Int) (u : Nat) (hu : u < 256) (w : World) : Calls Tryz.prog 146 #[.agg #[.int .i64 C, .int .i64 R, .int .i64 S], .int .u8 (u : Nat)] w fun e w' => e = .returned (.bool (decide ((u : Int) < S))) ∧ w.grownBy w' none := by
  obtain ⟨W1, hW1, sz1, g1, B1⟩ := boxn w #[.int .i64 C, .int .i64 R, .int .i64 S] 120
  have c2 := B1.cell 2 (v := .int .i64 S) rfl
  go_enter Tryz.func146, Tryz.ntmps146
  go_wp2
  go_ret
  exact ⟨rfl, g1⟩
end Go.Proofs.YtjndljjpbkfmiaaGreatDoor
