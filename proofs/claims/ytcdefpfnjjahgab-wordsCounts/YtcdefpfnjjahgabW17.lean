/- Count of package words, of rows that may be and are of one length. -/
import Derived.Test.YtcdefpfnjjahgabW16
import Derived.LoopN
namespace Go.Proofs.Ytcdefpfnjjahgab
open Go.RowKit
set_option linter.unusedVariables false

/-- What was there is as it was, but for the blocks S. -/
structure Gs (S : Nat → Prop) (w w' : World) : Prop where
  os : w'.os = w.os
  tape : w'.tape = w.tape
  output : w'.output = w.output
  size : w.heap.size ≤ w'.heap.size
  block : ∀ k, k < w.heap.size → ¬ S k → w'.heap[k]? = w.heap[k]?
theorem Gs.refl (S : Nat → Prop) (w : World) : Gs S w w := ⟨rfl, rfl, rfl, Nat.le_refl _, fun _ _ _ => rfl⟩
theorem Gs.gb {S : Nat → Prop} {a b c : World} (h : Gs S a b) (k : b.grownBy c none) : Gs S a c :=
  ⟨k.os.trans h.os, k.tape.trans h.tape, k.output.trans h.output, Nat.le_trans h.size k.size, fun i hi hn => (k.block i (Nat.lt_of_lt_of_le hi h.size) (by simp)).trans (h.block i hi hn)⟩
theorem Gs.set {S : Nat → Prop} {a b : World} (h : Gs S a b) (x : Addr) (hx : S x.block) (v : Value) : Gs S a (b.setCell x v) :=
  ⟨h.os, h.tape, h.output, by simpa [World.setCell] using h.size, fun i hi hn => (Below.heap_setCell _ _ _ _ (fun e => hn (by rw [e]; exact hx))).trans (h.block i hi hn)⟩
theorem Gs.past {S : Nat → Prop} {w a b : World} (h : w.grownBy a none) (k : Gs S a b) (hs : ∀ i, S i → w.heap.size ≤ i) : w.grownBy b none :=
  ⟨k.os.trans h.os, k.tape.trans h.tape, k.output.trans h.output, Nat.le_trans h.size k.size, fun i hi hn => (k.block i (Nat.lt_of_lt_of_le hi h.size) (fun e => by have := hs i e; omega)).trans (h.block i hi hn)⟩

theorem infoC : (Try.prog.info? 36).map (·.size) = some 8 := by kernel_rfl
theorem underC : Try.prog.underlying 36 = some (.array 4 31) := by kernel_rfl

/-- A box of eight cells. -/
def B8 (w : World) (g : Nat) (t : TypeId) (x0 x1 x2 x3 x4 x5 x6 x7 : Value) : Prop := w.heap[g]? = some (.cells #[x0, x1, x2, x3, x4, x5, x6, x7] t (0, 0))
theorem B8.lt {w : World} {g : Nat} {t : TypeId} {x0 x1 x2 x3 x4 x5 x6 x7 : Value} (h : B8 w g t x0 x1 x2 x3 x4 x5 x6 x7) : g < w.heap.size := (Array.getElem?_eq_some_iff.1 h).1
theorem box8 (w : World) (t : TypeId) (x0 x1 x2 x3 x4 x5 x6 x7 : Value) : ∃ W1, w.alloc (.cells #[x0, x1, x2, x3, x4, x5, x6, x7] t) = W1 ∧ B8 W1 w.heap.size t x0 x1 x2 x3 x4 x5 x6 x7 ∧ Hid (W1.heap.size = w.heap.size + 1) ∧ w.grownBy W1 none :=
  ⟨_, rfl, heap_alloc_new w _, by unfold Hid; simp, World.grownBy_alloc _ _ _⟩
theorem B8.c0 {w : World} {g : Nat} {t : TypeId} {x0 x1 x2 x3 x4 x5 x6 x7 : Value} (h : B8 w g t x0 x1 x2 x3 x4 x5 x6 x7) : w.cell? ⟨g, 0, none⟩ = some x0 := by unfold B8 at h; simp [World.cell?, h]
theorem B8.f0 {w : World} {g : Nat} {t : TypeId} {x0 x1 x2 x3 x4 x5 x6 x7 : Value} (h : B8 w g t x0 x1 x2 x3 x4 x5 x6 x7) : w.frozen? ⟨g, 0, none⟩ = false := by unfold B8 at h; simp [World.frozen?, h]
theorem B8.c1 {w : World} {g : Nat} {t : TypeId} {x0 x1 x2 x3 x4 x5 x6 x7 : Value} (h : B8 w g t x0 x1 x2 x3 x4 x5 x6 x7) : w.cell? ⟨g, 1, none⟩ = some x1 := by unfold B8 at h; simp [World.cell?, h]
theorem B8.f1 {w : World} {g : Nat} {t : TypeId} {x0 x1 x2 x3 x4 x5 x6 x7 : Value} (h : B8 w g t x0 x1 x2 x3 x4 x5 x6 x7) : w.frozen? ⟨g, 1, none⟩ = false := by unfold B8 at h; simp [World.frozen?, h]
theorem B8.c2 {w : World} {g : Nat} {t : TypeId} {x0 x1 x2 x3 x4 x5 x6 x7 : Value} (h : B8 w g t x0 x1 x2 x3 x4 x5 x6 x7) : w.cell? ⟨g, 2, none⟩ = some x2 := by unfold B8 at h; simp [World.cell?, h]
theorem B8.f2 {w : World} {g : Nat} {t : TypeId} {x0 x1 x2 x3 x4 x5 x6 x7 : Value} (h : B8 w g t x0 x1 x2 x3 x4 x5 x6 x7) : w.frozen? ⟨g, 2, none⟩ = false := by unfold B8 at h; simp [World.frozen?, h]
theorem B8.c3 {w : World} {g : Nat} {t : TypeId} {x0 x1 x2 x3 x4 x5 x6 x7 : Value} (h : B8 w g t x0 x1 x2 x3 x4 x5 x6 x7) : w.cell? ⟨g, 3, none⟩ = some x3 := by unfold B8 at h; simp [World.cell?, h]
theorem B8.f3 {w : World} {g : Nat} {t : TypeId} {x0 x1 x2 x3 x4 x5 x6 x7 : Value} (h : B8 w g t x0 x1 x2 x3 x4 x5 x6 x7) : w.frozen? ⟨g, 3, none⟩ = false := by unfold B8 at h; simp [World.frozen?, h]
theorem B8.c4 {w : World} {g : Nat} {t : TypeId} {x0 x1 x2 x3 x4 x5 x6 x7 : Value} (h : B8 w g t x0 x1 x2 x3 x4 x5 x6 x7) : w.cell? ⟨g, 4, none⟩ = some x4 := by unfold B8 at h; simp [World.cell?, h]
theorem B8.f4 {w : World} {g : Nat} {t : TypeId} {x0 x1 x2 x3 x4 x5 x6 x7 : Value} (h : B8 w g t x0 x1 x2 x3 x4 x5 x6 x7) : w.frozen? ⟨g, 4, none⟩ = false := by unfold B8 at h; simp [World.frozen?, h]
theorem B8.c5 {w : World} {g : Nat} {t : TypeId} {x0 x1 x2 x3 x4 x5 x6 x7 : Value} (h : B8 w g t x0 x1 x2 x3 x4 x5 x6 x7) : w.cell? ⟨g, 5, none⟩ = some x5 := by unfold B8 at h; simp [World.cell?, h]
theorem B8.f5 {w : World} {g : Nat} {t : TypeId} {x0 x1 x2 x3 x4 x5 x6 x7 : Value} (h : B8 w g t x0 x1 x2 x3 x4 x5 x6 x7) : w.frozen? ⟨g, 5, none⟩ = false := by unfold B8 at h; simp [World.frozen?, h]
theorem B8.c6 {w : World} {g : Nat} {t : TypeId} {x0 x1 x2 x3 x4 x5 x6 x7 : Value} (h : B8 w g t x0 x1 x2 x3 x4 x5 x6 x7) : w.cell? ⟨g, 6, none⟩ = some x6 := by unfold B8 at h; simp [World.cell?, h]
theorem B8.f6 {w : World} {g : Nat} {t : TypeId} {x0 x1 x2 x3 x4 x5 x6 x7 : Value} (h : B8 w g t x0 x1 x2 x3 x4 x5 x6 x7) : w.frozen? ⟨g, 6, none⟩ = false := by unfold B8 at h; simp [World.frozen?, h]
theorem B8.c7 {w : World} {g : Nat} {t : TypeId} {x0 x1 x2 x3 x4 x5 x6 x7 : Value} (h : B8 w g t x0 x1 x2 x3 x4 x5 x6 x7) : w.cell? ⟨g, 7, none⟩ = some x7 := by unfold B8 at h; simp [World.cell?, h]
theorem B8.f7 {w : World} {g : Nat} {t : TypeId} {x0 x1 x2 x3 x4 x5 x6 x7 : Value} (h : B8 w g t x0 x1 x2 x3 x4 x5 x6 x7) : w.frozen? ⟨g, 7, none⟩ = false := by unfold B8 at h; simp [World.frozen?, h]

theorem B8.kept {w w' : World} {g : Nat} {t : TypeId} {x0 x1 x2 x3 x4 x5 x6 x7 : Value} (h : B8 w g t x0 x1 x2 x3 x4 x5 x6 x7) (hg : w.grownBy w' none) : B8 w' g t x0 x1 x2 x3 x4 x5 x6 x7 := (hg.block g h.lt (by simp)).trans h
theorem B8.keptS {S : Nat → Prop} {w w' : World} {g : Nat} {t : TypeId} {x0 x1 x2 x3 x4 x5 x6 x7 : Value} (h : B8 w g t x0 x1 x2 x3 x4 x5 x6 x7) (hg : Gs S w w') (hn : ¬ S g) : B8 w' g t x0 x1 x2 x3 x4 x5 x6 x7 := (hg.block g h.lt hn).trans h
theorem B8.set {w : World} {g : Nat} {t : TypeId} {x0 x1 x2 x3 x4 x5 x6 x7 : Value} (h : B8 w g t x0 x1 x2 x3 x4 x5 x6 x7) (y0 y1 y2 y3 y4 y5 y6 y7 : Value) :
    B8 ((((((((w.setCell ⟨g, 0, none⟩ y0).setCell ⟨g, 1, none⟩ y1).setCell ⟨g, 2, none⟩ y2).setCell ⟨g, 3, none⟩ y3).setCell ⟨g, 4, none⟩ y4).setCell ⟨g, 5, none⟩ y5).setCell ⟨g, 6, none⟩ y6).setCell ⟨g, 7, none⟩ y7) g t y0 y1 y2 y3 y4 y5 y6 y7 := by
  unfold B8 at h ⊢
  simp [World.setCell, Array.getElem?_modify, h]

theorem ret_box8 {P : Program} {fn : Func} {R : Ending → World → Prop} {a : Act} {w : World} {p u : Tmp} {ty e : TypeId} {l : Nat} (h : fn.results = #[.cell p ty, .tmp u]) {g : Nat} {t : TypeId} {x0 x1 x2 x3 x4 x5 x6 x7 : Value}
    (hu : P.underlying ty = some (.array l e)) (hi : (P.info? ty).map (·.size) = some 8) (hp : a.tmps.getD p undef = .pointer (some ⟨g, 0, none⟩)) (hg : B8 w g t x0 x1 x2 x3 x4 x5 x6 x7) (hdf : a.defers = []) (hR : R (.returned (.tuple #[.agg #[x0, x1, x2, x3, x4, x5, x6, x7], a.tmps.getD u undef])) w) :
    bodyPost P fn R .ret a w := by
  refine bodyPost_ret ?_ hdf hR
  have hp' : a.tmps[p]?.getD undef = .pointer (some ⟨g, 0, none⟩) := by simpa using hp
  simp [results, h, hp', asAddr, run_loadVar_row w g t ty #[x0, x1, x2, x3, x4, x5, x6, x7] (0, 0) (.array l e) hg hu rfl hi]

theorem Row.far8 {w : World} {t : TypeId} {b n g : Nat} {p : Nat → Bool} (h : Row w t b n p) (hne : b ≠ g) (y0 y1 y2 y3 y4 y5 y6 y7 : Value) :
    Row ((((((((w.setCell ⟨g, 0, none⟩ y0).setCell ⟨g, 1, none⟩ y1).setCell ⟨g, 2, none⟩ y2).setCell ⟨g, 3, none⟩ y3).setCell ⟨g, 4, none⟩ y4).setCell ⟨g, 5, none⟩ y5).setCell ⟨g, 6, none⟩ y6).setCell ⟨g, 7, none⟩ y7) t b n p :=
  World.rowIs.setOther (World.rowIs.setOther (World.rowIs.setOther (World.rowIs.setOther (World.rowIs.setOther (World.rowIs.setOther (World.rowIs.setOther (World.rowIs.setOther h hne _) hne _) hne _) hne _) hne _) hne _) hne _) hne _
theorem gb_new8 {w w' : World} {g : Nat} (h : w.grownBy w' none) (hb : w.heap.size ≤ g) (y0 y1 y2 y3 y4 y5 y6 y7 : Value) :
    w.grownBy ((((((((w'.setCell ⟨g, 0, none⟩ y0).setCell ⟨g, 1, none⟩ y1).setCell ⟨g, 2, none⟩ y2).setCell ⟨g, 3, none⟩ y3).setCell ⟨g, 4, none⟩ y4).setCell ⟨g, 5, none⟩ y5).setCell ⟨g, 6, none⟩ y6).setCell ⟨g, 7, none⟩ y7) none :=
  gb_new (gb_new (gb_new (gb_new (gb_new (gb_new (gb_new (gb_new h hb _) hb _) hb _) hb _) hb _) hb _) hb _) hb _

theorem ix0 (x0 x1 x2 x3 : Value) (w : World) : (Instr.index 73 (.agg #[x0, x1, x2, x3]) (.int .i64 0)).run Try.prog w = .ok x0 w := by kernel_rfl
theorem ix1 (x0 x1 x2 x3 : Value) (w : World) : (Instr.index 73 (.agg #[x0, x1, x2, x3]) (.int .i64 1)).run Try.prog w = .ok x1 w := by kernel_rfl
theorem ix2 (x0 x1 x2 x3 : Value) (w : World) : (Instr.index 73 (.agg #[x0, x1, x2, x3]) (.int .i64 2)).run Try.prog w = .ok x2 w := by kernel_rfl
theorem ix3 (x0 x1 x2 x3 : Value) (w : World) : (Instr.index 73 (.agg #[x0, x1, x2, x3]) (.int .i64 3)).run Try.prog w = .ok x3 w := by kernel_rfl

/-- Digit d of the count, up to word i. -/
def upTo (P : Nat → Nat → Bool) (k d i t : Nat) : Bool := if t < 64 * i then dgF P k d t else false

set_option maxHeartbeats 1000000 in
theorem countC (P : Nat → Nat → Bool) (q k cap n m : Nat) (sp : Option Addr) (caps : Nat → Nat) (sps : Nat → Option Addr) (hsp : 0 < k → sp = some ⟨q, 0, none⟩) (hk : k ≤ 15) (hm : m ≤ 65538) (hn : n = (m + 63) / 64) (hk0 : k = 0 → m = 0) (M : ∀ j, j < k → MayBe m n (P j)) (w : World) (h : Rws w q k (fun j => ⟨m, sps j, n, caps j, Pk.pack (P j)⟩)) :
    Calls Try.prog 13 #[.slice sp k cap] w fun e w' => ∃ b0 b1 b2 b3, e = .returned (.tuple #[.agg #[.int .i64 m, .slice (some ⟨b0, 0, none⟩) n n, .int .i64 m, .slice (some ⟨b1, 0, none⟩) n n, .int .i64 m, .slice (some ⟨b2, 0, none⟩) n n, .int .i64 m, .slice (some ⟨b3, 0, none⟩) n n], .int .i64 0]) ∧ Row w' 22 b0 n (dgF P k 0) ∧ Row w' 22 b1 n (dgF P k 1) ∧ Row w' 22 b2 n (dgF P k 2) ∧ Row w' 22 b3 n (dgF P k 3) ∧ w.grownBy w' none ∧ w.heap.size ≤ b0 ∧ w.heap.size ≤ b1 ∧ w.heap.size ≤ b2 ∧ w.heap.size ≤ b3 ∧ b0 < b1 ∧ b1 < b2 ∧ b2 < b3 := by
  obtain ⟨W1, hW1, hR1, sz1, g1⟩ := box8 w 36 (.int .i64 0) (.slice none 0 0) (.int .i64 0) (.slice none 0 0) (.int .i64 0) (.slice none 0 0) (.int .i64 0) (.slice none 0 0)
  have hak := alikeC q k cap _ sp hsp (by omega) W1 (h.kept g1)
  have hz : alikeZ (fun j => (⟨m, sps j, n, caps j, Pk.pack (P j)⟩ : RD)) k = 0 := by
    unfold alikeZ
    rw [allV_yes (r := fun j => (⟨m, sps j, n, caps j, Pk.pack (P j)⟩ : RD)) (fun j hj => validB_may (M j hj)), allN_yes (r := fun j => (⟨m, sps j, n, caps j, Pk.pack (P j)⟩ : RD)) (fun j hj => rfl)]
    rfl
  rw [hz] at hak
  have hbl := blankC m hm
  have hwf := wordsForC m (by omega)
  rw [← hn] at hbl hwf
  have hnl : n ≤ 1025 := by omega
  have hkl : (k : Int) ≤ 15 := by omega
  have hkd : decide ((15 : Int) < (k : Int)) = false := by simp; omega
  have i0 := ix0
  have i1 := ix1
  have i2 := ix2
  have i3 := ix3
  clear hz M
  have HN : Hid (n = (m + 63) / 64) := hn
  clear hn
  have q1 : w.heap.size < W1.heap.size := by have := sz1.out; omega
  by_cases hk1 : k = 0
  · have hm0 := hk0 hk1
    subst hm0
    have hn0 : n = 0 := HN.out
    subst hn0
    subst hk1
    go_enter Try.func13, Try.ntmps13
    go_wp2_with (first | (go_at_call 34; refine hak.mono ?_; rintro e w2 ⟨rfl, g2⟩) | (go_at_call 35; (fail_if_success (guard_hyp w3)); refine (hbl w2).mono ?_; rintro e w3 ⟨b0, rfl, r0, g3, l0, m0⟩) | (go_at_call 35; (fail_if_success (guard_hyp w4)); refine (hbl w3).mono ?_; rintro e w4 ⟨b1, rfl, r1, g4, l1, m1⟩) | (go_at_call 35; (fail_if_success (guard_hyp w5)); refine (hbl w4).mono ?_; rintro e w5 ⟨b2, rfl, r2, g5, l2, m2⟩) | (go_at_call 35; refine (hbl w5).mono ?_; rintro e w6 ⟨b3, rfl, r3, g6, l3, m3⟩; obtain ⟨W7, hW7, hB7, sz7, g7⟩ := box8 w6 36 (.int .i64 0) (.slice (some ⟨b0, 0, none⟩) 0 0) (.int .i64 0) (.slice (some ⟨b1, 0, none⟩) 0 0) (.int .i64 0) (.slice (some ⟨b2, 0, none⟩) 0 0) (.int .i64 0) (.slice (some ⟨b3, 0, none⟩) 0 0)) | (go_at_call 36; refine (hwf W7).mono ?_; rintro e w' ⟨rfl, hw'⟩; subst w'))
    refine wp_loop_rounds 1 ?_
    rw [rounds_succ]
    have hRi := hR1.kept (gb_trans g2 (gb_trans g3 (gb_trans g4 (gb_trans g5 (gb_trans g6 g7)))))
    have G7 : w.grownBy W7 none := gb_trans g1 (gb_trans g2 (gb_trans g3 (gb_trans g4 (gb_trans g5 (gb_trans g6 g7)))))
    have r07 := (((r0.kept g4 (by simp)).kept g5 (by simp)).kept g6 (by simp)).kept g7 (by simp)
    have r17 := ((r1.kept g5 (by simp)).kept g6 (by simp)).kept g7 (by simp)
    have r27 := (r2.kept g6 (by simp)).kept g7 (by simp)
    have r37 := r3.kept g7 (by simp)
    have z2 := g2.size
    have z3 := g3.size
    have z4 := g4.size
    have z5 := g5.size
    have u0 := m0.out
    have u1 := m1.out
    have u2 := m2.out
    have t0 := hB7.c0
    have y0 := hRi.c0
    have x0 := hRi.f0
    have t1 := hB7.c1
    have y1 := hRi.c1
    have x1 := hRi.f1
    have t2 := hB7.c2
    have y2 := hRi.c2
    have x2 := hRi.f2
    have t3 := hB7.c3
    have y3 := hRi.c3
    have x3 := hRi.f3
    have t4 := hB7.c4
    have y4 := hRi.c4
    have x4 := hRi.f4
    have t5 := hB7.c5
    have y5 := hRi.c5
    have x5 := hRi.f5
    have t6 := hB7.c6
    have y6 := hRi.c6
    have x6 := hRi.f6
    have t7 := hB7.c7
    have y7 := hRi.c7
    have x7 := hRi.f7
    go_wp2
    refine ret_box8 (g := w.heap.size) (t := 36) rfl underC infoC rfl (hRi.set _ _ _ _ _ _ _ _) rfl ?_
    have N0 : b0 ≠ w.heap.size := by omega
    have N1 : b1 ≠ w.heap.size := by omega
    have N2 : b2 ≠ w.heap.size := by omega
    have N3 : b3 ≠ w.heap.size := by omega
    exact ⟨b0, b1, b2, b3, rfl, (Row.far8 (r07.congr (fun t ht => by omega)) N0 _ _ _ _ _ _ _ _), (Row.far8 (r17.congr (fun t ht => by omega)) N1 _ _ _ _ _ _ _ _), (Row.far8 (r27.congr (fun t ht => by omega)) N2 _ _ _ _ _ _ _ _), (Row.far8 (r37.congr (fun t ht => by omega)) N3 _ _ _ _ _ _ _ _), gb_new8 G7 (Nat.le_refl _) _ _ _ _ _ _ _ _, by omega, by omega, by omega, by omega, by omega, by omega, by omega⟩
  · obtain rfl := hsp (by omega)
    have hkp : (0 : Int) < (k : Int) := by omega
    go_enter Try.func13, Try.ntmps13
    go_wp2_with (first | (go_at_call 34; refine hak.mono ?_; rintro e w2 ⟨rfl, g2⟩; have y0 := ((h.kept (gb_trans g1 g2)) 0 (by omega)).1; rw [Nat.zero_mul] at y0) | (go_at_call 35; (fail_if_success (guard_hyp w3)); refine (hbl w2).mono ?_; rintro e w3 ⟨b0, rfl, r0, g3, l0, m0⟩) | (go_at_call 35; (fail_if_success (guard_hyp w4)); refine (hbl w3).mono ?_; rintro e w4 ⟨b1, rfl, r1, g4, l1, m1⟩) | (go_at_call 35; (fail_if_success (guard_hyp w5)); refine (hbl w4).mono ?_; rintro e w5 ⟨b2, rfl, r2, g5, l2, m2⟩) | (go_at_call 35; refine (hbl w5).mono ?_; rintro e w6 ⟨b3, rfl, r3, g6, l3, m3⟩; obtain ⟨W7, hW7, hB7, sz7, g7⟩ := box8 w6 36 (.int .i64 m) (.slice (some ⟨b0, 0, none⟩) n n) (.int .i64 m) (.slice (some ⟨b1, 0, none⟩) n n) (.int .i64 m) (.slice (some ⟨b2, 0, none⟩) n n) (.int .i64 m) (.slice (some ⟨b3, 0, none⟩) n n)) | (go_at_call 36; refine (hwf W7).mono ?_; rintro e w' ⟨rfl, hw'⟩; subst w'))
    have v0 := l0
    have sB : Hid (w6.heap.size < W7.heap.size) := by have := sz7.out; unfold Hid; omega
    have u0 := m0.out
    have u1 := m1.out
    have u2 := m2.out
    have u3 := m3.out
    have z2 := g2.size
    have z3 := g3.size
    have z4 := g4.size
    have z5 := g5.size
    have z6 := g6.size
    have n01 : b0 ≠ b1 := by omega
    have n02 : b0 ≠ b2 := by omega
    have n03 : b0 ≠ b3 := by omega
    have n12 : b1 ≠ b2 := by omega
    have n13 : b1 ≠ b3 := by omega
    have n23 : b2 ≠ b3 := by omega
    have nB0 : w6.heap.size ≠ b0 := by omega
    have nB1 : w6.heap.size ≠ b1 := by omega
    have nB2 : w6.heap.size ≠ b2 := by omega
    have nB3 : w6.heap.size ≠ b3 := by omega
    have G7 : w.grownBy W7 none := gb_trans g1 (gb_trans g2 (gb_trans g3 (gb_trans g4 (gb_trans g5 (gb_trans g6 g7)))))
    have r07 := (((r0.kept g4 (by simp)).kept g5 (by simp)).kept g6 (by simp)).kept g7 (by simp)
    have r17 := ((r1.kept g5 (by simp)).kept g6 (by simp)).kept g7 (by simp)
    have r27 := (r2.kept g6 (by simp)).kept g7 (by simp)
    have r37 := r3.kept g7 (by simp)
    have hS : ∀ i, (i = b0 ∨ i = b1 ∨ i = b2 ∨ i = b3) → w.heap.size ≤ i := by intro i hi; omega
    clear r0 r1 r2 r3
    have E : ∀ i d, Pk.pack (dgF P k d) i = Pk.pack (upTo P k d (i + 1)) i := fun i d => Pk.pack_congr fun j hj => by unfold upTo; rw [if_pos (by omega)]
    have F : ∀ i d t, t < 64 * n → t / 64 ≠ i → upTo P k d i t = upTo P k d (i + 1) t := fun i d t ht hne => by
      unfold upTo
      by_cases h : t < 64 * i
      · rw [if_pos h, if_pos (by omega)]
      · rw [if_neg h, if_neg (by omega)]
    have EF : Hid ((∀ i d, Pk.pack (dgF P k d) i = Pk.pack (upTo P k d (i + 1)) i) ∧ ∀ i d t, t < 64 * n → t / 64 ≠ i → upTo P k d i t = upTo P k d (i + 1) t) := ⟨E, F⟩
    clear E F
    go_loopw [38] (fun x wr => ∃ i : Nat, i ≤ n ∧ x = .int .i64 i ∧ Row wr 22 b0 n (upTo P k 0 i) ∧ Row wr 22 b1 n (upTo P k 1 i) ∧ Row wr 22 b2 n (upTo P k 2 i) ∧ Row wr 22 b3 n (upTo P k 3 i) ∧ Gs (fun j => j = b0 ∨ j = b1 ∨ j = b2 ∨ j = b3) W7 wr) (fun x _ => n - (intOf x).toNat)
    case atStart => exact ⟨0, Nat.zero_le _, rfl, r07.congr fun t ht => by simp [upTo], r17.congr fun t ht => by simp [upTo], r27.congr fun t ht => by simp [upTo], r37.congr fun t ht => by simp [upTo], Gs.refl _ _⟩
    case round =>
      obtain ⟨i, hi, rfl, p0, p1, p2, p3, hgi⟩ := hrel
      have hGi : w.grownBy wr none := Gs.past G7 hgi hS
      have hBi := hB7.keptS hgi (by omega)
      by_cases hlt : i < n
      · have hlt' : (i : Int) < (n : Int) := by omega
        have hsa := sumAtC P q k cap n i m (some ⟨q, 0, none⟩) caps sps (fun _ => rfl) hk hnl hlt wr (h.kept hGi)
        go_wp2_with (first | (go_at_call 37; refine hsa.mono ?_; rintro e w8 ⟨rfl, g8⟩; have hB8 := hBi.kept g8; have c1 := hB8.c1; have c3 := hB8.c3; have c5 := hB8.c5; have c7 := hB8.c7; have s0 := p0.kept g8 (by simp); have s1 := p1.kept g8 (by simp); have s2 := p2.kept g8 (by simp); have s3 := p3.kept g8 (by simp); have d0 := World.rowIs.cell s0 hlt; have d1 := World.rowIs.cell s1 hlt; have d2 := World.rowIs.cell s2 hlt; have d3 := World.rowIs.cell s3 hlt; have f0 := World.rowIs.frozen s0 i; have f1 := World.rowIs.frozen s1 i; have f2 := World.rowIs.frozen s2 i; have f3 := World.rowIs.frozen s3 i))
        refine wp_loop_rounds 5 ?_
        rw [rounds_succ]
        go_wp2
        rw [rounds_succ]
        go_wp2
        rw [rounds_succ]
        go_wp2
        rw [rounds_succ]
        go_wp2
        rw [rounds_succ]
        go_wp2
        go_roundw
        case rel =>
          obtain ⟨E, F⟩ := EF.out
          exact ⟨i + 1, by omega, by go_num, (World.rowIs.setOther (World.rowIs.setOther (World.rowIs.setOther (Row.set (q := upTo P k 0 (i + 1)) s0 (E i 0) (F i 0)) n01 _) n02 _) n03 _), (World.rowIs.setOther (World.rowIs.setOther (Row.set (q := upTo P k 1 (i + 1)) (World.rowIs.setOther s1 (Ne.symm n01) _) (E i 1) (F i 1)) n12 _) n13 _), (World.rowIs.setOther (Row.set (q := upTo P k 2 (i + 1)) (World.rowIs.setOther (World.rowIs.setOther s2 (Ne.symm n02) _) (Ne.symm n12) _) (E i 2) (F i 2)) n23 _), (Row.set (q := upTo P k 3 (i + 1)) (World.rowIs.setOther (World.rowIs.setOther (World.rowIs.setOther s3 (Ne.symm n03) _) (Ne.symm n13) _) (Ne.symm n23) _) (E i 3) (F i 3)), (((((hgi.gb g8).set ⟨b0, i, none⟩ (.inl rfl) _).set ⟨b1, i, none⟩ (.inr (.inl rfl)) _).set ⟨b2, i, none⟩ (.inr (.inr (.inl rfl))) _).set ⟨b3, i, none⟩ (.inr (.inr (.inr rfl))) _)⟩
        case measure => simp [intOf]; omega
      · have hlt' : ¬ (i : Int) < (n : Int) := by omega
        have t0 := hBi.c0
        have t1 := hBi.c1
        have t2 := hBi.c2
        have t3 := hBi.c3
        have t4 := hBi.c4
        have t5 := hBi.c5
        have t6 := hBi.c6
        have t7 := hBi.c7
        have hRi := (hR1.kept (gb_trans g2 (gb_trans g3 (gb_trans g4 (gb_trans g5 (gb_trans g6 g7)))))).keptS hgi (by omega)
        have y0 := hRi.c0
        have y1 := hRi.c1
        have y2 := hRi.c2
        have y3 := hRi.c3
        have y4 := hRi.c4
        have y5 := hRi.c5
        have y6 := hRi.c6
        have y7 := hRi.c7
        have x0 := hRi.f0
        have x1 := hRi.f1
        have x2 := hRi.f2
        have x3 := hRi.f3
        have x4 := hRi.f4
        have x5 := hRi.f5
        have x6 := hRi.f6
        have x7 := hRi.f7
        go_wp2
        refine ret_box8 (g := w.heap.size) (t := 36) rfl underC infoC rfl (hRi.set _ _ _ _ _ _ _ _) rfl ?_
        have hin : i = n := by omega
        have N0 : b0 ≠ w.heap.size := by omega
        have N1 : b1 ≠ w.heap.size := by omega
        have N2 : b2 ≠ w.heap.size := by omega
        have N3 : b3 ≠ w.heap.size := by omega
        have fin : ∀ d t, t < 64 * n → upTo P k d i t = dgF P k d t := fun d t ht => by unfold upTo; rw [if_pos (by omega)]
        exact ⟨b0, b1, b2, b3, rfl, (Row.far8 (p0.congr (fin 0)) N0 _ _ _ _ _ _ _ _), (Row.far8 (p1.congr (fin 1)) N1 _ _ _ _ _ _ _ _), (Row.far8 (p2.congr (fin 2)) N2 _ _ _ _ _ _ _ _), (Row.far8 (p3.congr (fin 3)) N3 _ _ _ _ _ _ _ _), gb_new8 hGi (Nat.le_refl _) _ _ _ _ _ _ _ _, by omega, by omega, by omega, by omega, by omega, by omega, by omega⟩

end Go.Proofs.Ytcdefpfnjjahgab
