/- The walk of FoldGlue. -/
import Derived.Test.YtgiiaokkmnjckaaF36
import Derived.Maps.AppendAt
namespace Go.Proofs.Ytgiiaokkmnjckaa
open Go.RowKit
open Fl
set_option linter.unusedVariables false
set_option linter.unusedSimpArgs false
set_option maxRecDepth 100000

theorem gl_form {w : World} {base n : Nat} {v : Value} {L : List (Nat × Int × Int)} (hn : L.length = n) (h : Gl w base v L) : ∃ sp c, v = .slice sp n c ∧ (0 < n → ∃ g, sp = some ⟨g, 0, none⟩) := by
  subst hn
  exact own_form h.choose_spec.1
theorem Gl.lt {w : World} {base : Nat} {v : Value} {L : List (Nat × Int × Int)} (h : Gl w base v L) : ∀ b, v.ownBlock = some b → base ≤ b ∧ b < w.heap.size := h.choose_spec.1.lt
theorem infoJz : (Try.prog.info? 41).map (fun i => (i.zero, i.size, i.bytes)) = some (some (.agg #[.complex .f64 0 0, .bool false, .complex .f64 0 0]), 3, 40) := by kernel_rfl
theorem underJS : Try.prog.underlying 35 = some (.slice 41) := by kernel_rfl
theorem infoJp {P : Program} {t : TypeId} {z : Value} {a b : Nat} (h : (P.info? t).map (fun i => (i.zero, i.size, i.bytes)) = some (some z, a, b)) : ∃ i, P.info? t = some i ∧ i.zero = some z ∧ i.size = a ∧ i.bytes = b := by
  obtain ⟨i, h1, h2⟩ := Option.map_eq_some_iff.1 h
  simp only [Prod.mk.injEq] at h2
  exact ⟨i, h1, h2⟩
theorem newJ (w : World) (a b c : Value) (t : TypeId) : ∀ j u, [a, b, c][j]? = some u → (w.alloc (.cells #[a, b, c] t)).cell? ((⟨w.heap.size, 0, none⟩ : Addr).add j) = some u :=
  World.news_of_block (cs := #[a, b, c]) (heap_alloc_new w _)
theorem onesJ (a b c d : Nat) (f : Bool) : ∀ u ∈ [Value.complex .f64 a b, .bool f, .complex .f64 c d], u.oneCell' = true := by
  intro u hu
  simp at hu
  rcases hu with rfl | rfl | rfl <;> rfl
theorem gb_row2 {a b c : World} {r v : Option Nat} (h : a.grownBy b r) (k : b.grownBy c v) (hv : v = r ∨ ∃ g, v = some g ∧ a.heap.size ≤ g) : a.grownBy c r :=
  ⟨k.os.trans h.os, k.tape.trans h.tape, k.output.trans h.output, Nat.le_trans h.size k.size, fun i hi hne => (k.block i (Nat.lt_of_lt_of_le hi h.size) (fun e => by
    rcases hv with e' | ⟨g, e', hg⟩
    · exact hne (e.trans e')
    · rw [e'] at e; cases e; omega)).trans (h.block i hi hne)⟩
theorem gb_rowJ {a b c : World} {v : Option Nat} (h : a.grownBy b none) (k : b.grownBy c v) (hv : ∀ i, v = some i → a.heap.size ≤ i) : a.grownBy c none :=
  ⟨k.os.trans h.os, k.tape.trans h.tape, k.output.trans h.output, Nat.le_trans h.size k.size, fun i hi _ => (k.block i (Nat.lt_of_lt_of_le hi h.size) (fun e => by have := hv i e.symm; omega)).trans (h.block i hi (by simp))⟩
set_option maxHeartbeats 1000000 in
theorem glue_core (k x y t z k2 x2 y2 t2 z2 : Int) (aw : ∀ w, Calls Try.prog 9 #[] w fun e w' => e = .returned (.bool true) ∧ w.grownBy w' none) (L1 L2 : List (Nat × Int × Int)) (E1 E2 : Int) (hL1 : L1.length ≤ 2) (hL2 : L2.length ≤ 2)
    (h1 : ∀ w, Calls Try.prog 17 #[.agg #[.int .u8 k, .int .i64 x, .int .i64 y, .int .u8 t, .int .i64 z]] w fun e w' => ∃ v, e = .returned (.tuple #[v, .int .i64 E1]) ∧ Gl w' w.heap.size v L1 ∧ w.grownBy w' none) (r1 : ∀ w, Calls Try.prog 16 #[.agg #[.int .u8 k, .int .i64 x, .int .i64 y, .int .u8 t, .int .i64 z]] w fun e w' => ∃ v, e = .returned (.tuple #[v, .int .i64 E1]) ∧ Gl w' w.heap.size v L1 ∧ w.grownBy w' none)
    (h2 : ∀ w, Calls Try.prog 17 #[.agg #[.int .u8 k2, .int .i64 x2, .int .i64 y2, .int .u8 t2, .int .i64 z2]] w fun e w' => ∃ v, e = .returned (.tuple #[v, .int .i64 E2]) ∧ Gl w' w.heap.size v L2 ∧ w.grownBy w' none) (r2 : ∀ w, Calls Try.prog 16 #[.agg #[.int .u8 k2, .int .i64 x2, .int .i64 y2, .int .u8 t2, .int .i64 z2]] w fun e w' => ∃ v, e = .returned (.tuple #[v, .int .i64 E2]) ∧ Gl w' w.heap.size v L2 ∧ w.grownBy w' none) (w : World) :
    Calls Try.prog 5 #[.agg #[.int .u8 k, .int .i64 x, .int .i64 y, .int .u8 t, .int .i64 z], .agg #[.int .u8 k2, .int .i64 x2, .int .i64 y2, .int .u8 t2, .int .i64 z2]] w fun e w' => e = .returned (.bool true) ∧ w.grownBy w' none := by
  obtain ⟨n, hn⟩ : ∃ n, Hid (L1.length = n) := ⟨_, rfl⟩
  have hn2 : n ≤ 2 := by have := hn.out; omega
  have st := stC
  obtain ⟨W1, hW1, sz1, g1, B1⟩ := boxn w #[.int .u8 k, .int .i64 x, .int .i64 y, .int .u8 t, .int .i64 z] 23
  obtain ⟨W2, hW2, sz2, g2, B2⟩ := boxn W1 #[.int .u8 k2, .int .i64 x2, .int .i64 y2, .int .u8 t2, .int .i64 z2] 23
  have G2 := gb_trans g1 g2
  have B1x := B1.kept g2 (by simp)
  have b1_2_0 := B1x.cell 0 (v := .int .u8 k) rfl
  have b1_2_1 := B1x.cell 1 (v := .int .i64 x) rfl
  have b1_2_2 := B1x.cell 2 (v := .int .i64 y) rfl
  have b1_2_3 := B1x.cell 3 (v := .int .u8 t) rfl
  have b1_2_4 := B1x.cell 4 (v := .int .i64 z) rfl
  have b2_2_0 := B2.cell 0 (v := .int .u8 k2) rfl
  have b2_2_1 := B2.cell 1 (v := .int .i64 x2) rfl
  have b2_2_2 := B2.cell 2 (v := .int .i64 y2) rfl
  have b2_2_3 := B2.cell 3 (v := .int .u8 t2) rfl
  have b2_2_4 := B2.cell 4 (v := .int .i64 z2) rfl
  go_enter Try.func5, Try.ntmps5
  go_wp2_with (first | (go_at_call 9; (fail_if_success (guard_hyp g3)); refine (aw _).mono ?_; rintro e w3 ⟨rfl, g3⟩; have G3 := gb_trans G2 g3; have B1xx := B1x.kept g3 (by simp); have B2x := B2.kept g3 (by simp); clear b1_2_0 b1_2_1 b1_2_2 b1_2_3 b1_2_4 b2_2_0 b2_2_1 b2_2_2 b2_2_3 b2_2_4; have b1_3_0 := B1xx.cell 0 (v := .int .u8 k) rfl; have b1_3_1 := B1xx.cell 1 (v := .int .i64 x) rfl; have b1_3_2 := B1xx.cell 2 (v := .int .i64 y) rfl; have b1_3_3 := B1xx.cell 3 (v := .int .u8 t) rfl; have b1_3_4 := B1xx.cell 4 (v := .int .i64 z) rfl; have b2_3_0 := B2x.cell 0 (v := .int .u8 k2) rfl; have b2_3_1 := B2x.cell 1 (v := .int .i64 x2) rfl; have b2_3_2 := B2x.cell 2 (v := .int .i64 y2) rfl; have b2_3_3 := B2x.cell 3 (v := .int .u8 t2) rfl; have b2_3_4 := B2x.cell 4 (v := .int .i64 z2) rfl) | (go_at_call 16; (fail_if_success (guard_hyp g4)); refine (r1 _).mono ?_; rintro e w4 ⟨v4, rfl, l4, g4⟩; have G4 := gb_trans G3 g4; have B1xxx := B1xx.kept g4 (by simp); have B2xx := B2x.kept g4 (by simp); clear b1_3_0 b1_3_1 b1_3_2 b1_3_3 b1_3_4 b2_3_0 b2_3_1 b2_3_2 b2_3_3 b2_3_4; have b1_4_0 := B1xxx.cell 0 (v := .int .u8 k) rfl; have b1_4_1 := B1xxx.cell 1 (v := .int .i64 x) rfl; have b1_4_2 := B1xxx.cell 2 (v := .int .i64 y) rfl; have b1_4_3 := B1xxx.cell 3 (v := .int .u8 t) rfl; have b1_4_4 := B1xxx.cell 4 (v := .int .i64 z) rfl; have b2_4_0 := B2xx.cell 0 (v := .int .u8 k2) rfl; have b2_4_1 := B2xx.cell 1 (v := .int .i64 x2) rfl; have b2_4_2 := B2xx.cell 2 (v := .int .i64 y2) rfl; have b2_4_3 := B2xx.cell 3 (v := .int .u8 t2) rfl; have b2_4_4 := B2xx.cell 4 (v := .int .i64 z2) rfl) | (go_at_call 16; (fail_if_success (guard_hyp g5)); refine (r2 _).mono ?_; rintro e w5 ⟨v5, rfl, l5, g5⟩; have G5 := gb_trans G4 g5; have B1xxxx := B1xxx.kept g5 (by simp); have B2xxx := B2xx.kept g5 (by simp); clear b1_4_0 b1_4_1 b1_4_2 b1_4_3 b1_4_4 b2_4_0 b2_4_1 b2_4_2 b2_4_3 b2_4_4; have b1_5_0 := B1xxxx.cell 0 (v := .int .u8 k) rfl; have b1_5_1 := B1xxxx.cell 1 (v := .int .i64 x) rfl; have b1_5_2 := B1xxxx.cell 2 (v := .int .i64 y) rfl; have b1_5_3 := B1xxxx.cell 3 (v := .int .u8 t) rfl; have b1_5_4 := B1xxxx.cell 4 (v := .int .i64 z) rfl; have b2_5_0 := B2xxx.cell 0 (v := .int .u8 k2) rfl; have b2_5_1 := B2xxx.cell 1 (v := .int .i64 x2) rfl; have b2_5_2 := B2xxx.cell 2 (v := .int .i64 y2) rfl; have b2_5_3 := B2xxx.cell 3 (v := .int .u8 t2) rfl; have b2_5_4 := B2xxx.cell 4 (v := .int .i64 z2) rfl; have l4x := l4.kept g5 (by simp)) | (go_at_call 17; (fail_if_success (guard_hyp g6)); refine (h1 _).mono ?_; rintro e w6 ⟨v6, rfl, l6, g6⟩; have G6 := gb_trans G5 g6; have B1xxxxx := B1xxxx.kept g6 (by simp); have B2xxxx := B2xxx.kept g6 (by simp); clear b1_5_0 b1_5_1 b1_5_2 b1_5_3 b1_5_4 b2_5_0 b2_5_1 b2_5_2 b2_5_3 b2_5_4; have b1_6_0 := B1xxxxx.cell 0 (v := .int .u8 k) rfl; have b1_6_1 := B1xxxxx.cell 1 (v := .int .i64 x) rfl; have b1_6_2 := B1xxxxx.cell 2 (v := .int .i64 y) rfl; have b1_6_3 := B1xxxxx.cell 3 (v := .int .u8 t) rfl; have b1_6_4 := B1xxxxx.cell 4 (v := .int .i64 z) rfl; have b2_6_0 := B2xxxx.cell 0 (v := .int .u8 k2) rfl; have b2_6_1 := B2xxxx.cell 1 (v := .int .i64 x2) rfl; have b2_6_2 := B2xxxx.cell 2 (v := .int .i64 y2) rfl; have b2_6_3 := B2xxxx.cell 3 (v := .int .u8 t2) rfl; have b2_6_4 := B2xxxx.cell 4 (v := .int .i64 z2) rfl; have l4xx := l4x.kept g6 (by simp); have l5x := l5.kept g6 (by simp); obtain ⟨s6, c6, rfl, fa⟩ := gl_form hn.out l6) | (go_at_call 17; (fail_if_success (guard_hyp g7)); refine (h2 _).mono ?_; rintro e w7 ⟨v7, rfl, l7, g7⟩; have G7 := gb_trans G6 g7; have B1xxxxxx := B1xxxxx.kept g7 (by simp); have B2xxxxx := B2xxxx.kept g7 (by simp); clear b1_6_0 b1_6_1 b1_6_2 b1_6_3 b1_6_4 b2_6_0 b2_6_1 b2_6_2 b2_6_3 b2_6_4; have b1_7_0 := B1xxxxxx.cell 0 (v := .int .u8 k) rfl; have b1_7_1 := B1xxxxxx.cell 1 (v := .int .i64 x) rfl; have b1_7_2 := B1xxxxxx.cell 2 (v := .int .i64 y) rfl; have b1_7_3 := B1xxxxxx.cell 3 (v := .int .u8 t) rfl; have b1_7_4 := B1xxxxxx.cell 4 (v := .int .i64 z) rfl; have b2_7_0 := B2xxxxx.cell 0 (v := .int .u8 k2) rfl; have b2_7_1 := B2xxxxx.cell 1 (v := .int .i64 x2) rfl; have b2_7_2 := B2xxxxx.cell 2 (v := .int .i64 y2) rfl; have b2_7_3 := B2xxxxx.cell 3 (v := .int .u8 t2) rfl; have b2_7_4 := B2xxxxx.cell 4 (v := .int .i64 z2) rfl; have l4xxx := l4xx.kept g7 (by simp); have l5xx := l5x.kept g7 (by simp); have l6x := l6.kept g7 (by simp)) | (go_at_call 18; (fail_if_success (guard_hyp g8)); refine (sameIsosC L1 hL1 _ _ _ _ _ l6x l4xxx).mono ?_; rintro e w8 ⟨rfl, g8⟩; have G8 := gb_trans G7 g8; have B1xxxxxxx := B1xxxxxx.kept g8 (by simp); have B2xxxxxx := B2xxxxx.kept g8 (by simp); clear b1_7_0 b1_7_1 b1_7_2 b1_7_3 b1_7_4 b2_7_0 b2_7_1 b2_7_2 b2_7_3 b2_7_4; have b1_8_0 := B1xxxxxxx.cell 0 (v := .int .u8 k) rfl; have b1_8_1 := B1xxxxxxx.cell 1 (v := .int .i64 x) rfl; have b1_8_2 := B1xxxxxxx.cell 2 (v := .int .i64 y) rfl; have b1_8_3 := B1xxxxxxx.cell 3 (v := .int .u8 t) rfl; have b1_8_4 := B1xxxxxxx.cell 4 (v := .int .i64 z) rfl; have b2_8_0 := B2xxxxxx.cell 0 (v := .int .u8 k2) rfl; have b2_8_1 := B2xxxxxx.cell 1 (v := .int .i64 x2) rfl; have b2_8_2 := B2xxxxxx.cell 2 (v := .int .i64 y2) rfl; have b2_8_3 := B2xxxxxx.cell 3 (v := .int .u8 t2) rfl; have b2_8_4 := B2xxxxxx.cell 4 (v := .int .i64 z2) rfl; have l4xxxx := l4xxx.kept g8 (by simp); have l5xxx := l5xx.kept g8 (by simp); have l6xx := l6x.kept g8 (by simp); have l7x := l7.kept g8 (by simp)))
  obtain ⟨xs0, own0, _⟩ := id l6xx
  rw [hn.out] at own0
  obtain ⟨i0, hi⟩ := infoJp infoJz
  have HI : Hid (Try.prog.info? 41 = some i0 ∧ i0.zero = some (.agg #[.complex .f64 0 0, .bool false, .complex .f64 0 0]) ∧ i0.size = 3 ∧ i0.bytes = 40) := hi
  clear hi
  have q4 := g4.size; have q5 := g5.size; have q6 := g6.size; have q7 := g7.size; have q8 := g8.size
  have q3 : w.heap.size < w3.heap.size := by have := B1.lt; have := g2.size; have := g3.size; omega
  have q3' : W1.heap.size < w3.heap.size := by have := B2.lt; have := g3.size; omega
  have la : ∀ b, (Value.slice s6 n c6).ownBlock = some b → w5.heap.size ≤ b ∧ b < w6.heap.size := l6.lt
  go_loopw [15] (fun x wr => ∃ (k : Nat) (xs : List Value), k ≤ n ∧ x = .int .i64 k ∧ wr.ownsRow w5.heap.size 41 3 (.slice s6 n c6) n xs ∧ w8.grownBy wr (Value.slice s6 n c6).ownBlock) (fun x _ => n - (intOf x).toNat)
  case atStart => exact ⟨0, _, by omega, rfl, own0, World.grownBy.refl _ _⟩
  case round =>
    obtain ⟨j, xs, hk, rfl, own, hg⟩ := hrel
    by_cases hlt : j < n
    · have hlt' : (j : Int) < (n : Int) := by omega
      obtain ⟨p6, rfl⟩ := fa (by omega)
      have hl := own.1
      have e0 := (own.cellAt (j * 3) (by omega)).trans (List.getElem?_eq_getElem (by omega))
      have e1 := (own.cellAt (j * 3 + 1) (by omega)).trans (List.getElem?_eq_getElem (by omega))
      have e2 := (own.cellAt (j * 3 + 2) (by omega)).trans (List.getElem?_eq_getElem (by omega))
      have f0 := own.frozenAt (j * 3)
      have f1 := own.frozenAt (j * 3 + 1)
      have f2 := own.frozenAt (j * 3 + 2)
      have ownS := (((own.stored (j * 3) (.complex .f64 4619567317775286272 0)).1.stored (j * 3 + 1) (.bool false)).1.stored (j * 3 + 2) (.complex .f64 0 0)).1
      have gS := gb_set (gb_set (gb_set hg (j * 3) (.complex .f64 4619567317775286272 0)) (j * 3 + 1) (.bool false)) (j * 3 + 2) (.complex .f64 0 0)
      go_wp2
      first
        | (refine ⟨⟨j + 1, _, by omega, by go_num, ownS, gS⟩, ?_⟩; simp [intOf]; omega)
        | (go_roundw; (case rel => exact ⟨j + 1, _, by omega, by go_num, ownS, gS⟩); (case measure => (simp [intOf]; omega)))
    · have hlt' : ¬ (j : Int) < (n : Int) := by omega
      go_wp2
      clear hlt' hlt
      go_loopw [10, 16] (fun v x wr => ∃ (j : Nat) (xs : List Value) (v' : Value), j ≤ 8 ∧ v' = v ∧ x = .int .i64 j ∧ wr.ownsRow w5.heap.size 41 3 v' (n + j) xs ∧ w8.grownBy wr (Value.slice s6 n c6).ownBlock ∧ (v'.ownBlock = (Value.slice s6 n c6).ownBlock ∨ ∃ g, v'.ownBlock = some g ∧ w8.heap.size ≤ g)) (fun _ x _ => 8 - (intOf x).toNat)
      case atStart => exact ⟨0, _, _, by omega, rfl, rfl, own, hg, .inl rfl⟩
      case round =>
        clear own hg hk
        obtain ⟨j, xs, v, hk, rfl, rfl, own, hg, hb⟩ := hrel
        by_cases hlt : j < 8
        · have hlt' : (j : Int) < 8 := by omega
          obtain ⟨X, hX, szX, gX, BX⟩ := boxn wr #[.complex .f64 0 0, .bool false, .complex .f64 4620693217682128896 0] 41
          have ownX := own.kept gX (by cases v.ownBlock <;> simp)
          have hgX : w8.grownBy X (Value.slice s6 n c6).ownBlock := gb_none hg gX
          have hbX : w5.heap.size ≤ X.heap.size := by have := hgX.size; omega
          have nw := newJ wr (.complex .f64 0 0) (.bool false) (.complex .f64 4620693217682128896 0) 41
          rw [hX] at nw
          go_wp2_with (at_builtin; refine wpList_append_own_at X rfl _ _ 35 rfl w5.heap.size 41 i0 _ 3 40 underJS HI.out.1 HI.out.2.1 HI.out.2.2.1 HI.out.2.2.2 rfl (by decide) v (n + j) xs rfl ownX ⟨wr.heap.size, 0, none⟩ 1 1 _ rfl rfl nw (onesJ _ _ _ _ _) (by unfold maxLen; omega) (by omega) hbX ?_; intro v' w' own' g' _ hblk)
          have hgV := gb_row2 hgX g' hb
          have hb' : v'.ownBlock = (Value.slice s6 n c6).ownBlock ∨ ∃ g, v'.ownBlock = some g ∧ w8.heap.size ≤ g := by
            rcases hblk with e | e
            · rw [e]; exact hb
            · exact .inr ⟨_, e, hgX.size⟩
          first
            | (refine ⟨⟨j + 1, _, v', by omega, rfl, by go_num, own', hgV, hb'⟩, ?_⟩; simp [intOf]; omega)
            | (go_roundw; (case rel => exact ⟨j + 1, _, v', by omega, rfl, by go_num, own', hgV, hb'⟩); (case measure => (simp [intOf]; omega)))
        · have hlt' : ¬ (j : Int) < 8 := by omega
          have m4 := l4xxxx.kept hg (fun b e e' => by have := la b e; have := l4.lt b e'; omega)
          have m5 := l5xxx.kept hg (fun b e e' => by have := la b e; have := l5.lt b e'; omega)
          have m7 := l7x.kept hg (fun b e e' => by have := la b e; have := l7.lt b e'; omega)
          have Z1 := B1xxxxxxx.kept hg (fun e => by have := la _ e.symm; omega)
          have Z2 := B2xxxxxx.kept hg (fun e => by have := la _ e.symm; omega)
          have GZ := gb_rowJ G8 hg (fun i e => by have := la i e; omega)
          have q1_20_0 := Z1.cell 0 (v := .int .u8 k) rfl
          have q1_20_1 := Z1.cell 1 (v := .int .i64 x) rfl
          have q1_20_2 := Z1.cell 2 (v := .int .i64 y) rfl
          have q1_20_3 := Z1.cell 3 (v := .int .u8 t) rfl
          have q1_20_4 := Z1.cell 4 (v := .int .i64 z) rfl
          have q2_20_0 := Z2.cell 0 (v := .int .u8 k2) rfl
          have q2_20_1 := Z2.cell 1 (v := .int .i64 x2) rfl
          have q2_20_2 := Z2.cell 2 (v := .int .i64 y2) rfl
          have q2_20_3 := Z2.cell 3 (v := .int .u8 t2) rfl
          have q2_20_4 := Z2.cell 4 (v := .int .i64 z2) rfl
          go_wp2_with (first | (go_at_call 17; (fail_if_success (guard_hyp g21)); refine (h1 _).mono ?_; rintro e w21 ⟨v21, rfl, l21, g21⟩; have G21 := gb_trans GZ g21; have Z1x := Z1.kept g21 (by simp); have Z2x := Z2.kept g21 (by simp); clear q1_20_0 q1_20_1 q1_20_2 q1_20_3 q1_20_4 q2_20_0 q2_20_1 q2_20_2 q2_20_3 q2_20_4; have q1_21_0 := Z1x.cell 0 (v := .int .u8 k) rfl; have q1_21_1 := Z1x.cell 1 (v := .int .i64 x) rfl; have q1_21_2 := Z1x.cell 2 (v := .int .i64 y) rfl; have q1_21_3 := Z1x.cell 3 (v := .int .u8 t) rfl; have q1_21_4 := Z1x.cell 4 (v := .int .i64 z) rfl; have q2_21_0 := Z2x.cell 0 (v := .int .u8 k2) rfl; have q2_21_1 := Z2x.cell 1 (v := .int .i64 x2) rfl; have q2_21_2 := Z2x.cell 2 (v := .int .i64 y2) rfl; have q2_21_3 := Z2x.cell 3 (v := .int .u8 t2) rfl; have q2_21_4 := Z2x.cell 4 (v := .int .i64 z2) rfl; have m4x := m4.kept g21 (by simp); have m5x := m5.kept g21 (by simp); have m7x := m7.kept g21 (by simp)) | (go_at_call 18; (fail_if_success (guard_hyp g22)); refine (sameIsosC L2 hL2 _ _ _ _ _ m7x m5x).mono ?_; rintro e w22 ⟨rfl, g22⟩; have G22 := gb_trans G21 g22; have Z1xx := Z1x.kept g22 (by simp); have Z2xx := Z2x.kept g22 (by simp); clear q1_21_0 q1_21_1 q1_21_2 q1_21_3 q1_21_4 q2_21_0 q2_21_1 q2_21_2 q2_21_3 q2_21_4; have q1_22_0 := Z1xx.cell 0 (v := .int .u8 k) rfl; have q1_22_1 := Z1xx.cell 1 (v := .int .i64 x) rfl; have q1_22_2 := Z1xx.cell 2 (v := .int .i64 y) rfl; have q1_22_3 := Z1xx.cell 3 (v := .int .u8 t) rfl; have q1_22_4 := Z1xx.cell 4 (v := .int .i64 z) rfl; have q2_22_0 := Z2xx.cell 0 (v := .int .u8 k2) rfl; have q2_22_1 := Z2xx.cell 1 (v := .int .i64 x2) rfl; have q2_22_2 := Z2xx.cell 2 (v := .int .i64 y2) rfl; have q2_22_3 := Z2xx.cell 3 (v := .int .u8 t2) rfl; have q2_22_4 := Z2xx.cell 4 (v := .int .i64 z2) rfl; have m4xx := m4x.kept g22 (by simp); have m5xx := m5x.kept g22 (by simp); have m7xx := m7x.kept g22 (by simp); have l21x := l21.kept g22 (by simp)) | (go_at_call 18; (fail_if_success (guard_hyp g23)); refine (sameIsosC L1 hL1 _ _ _ _ _ l21x m4xx).mono ?_; rintro e w23 ⟨rfl, g23⟩; have G23 := gb_trans G22 g23; have Z1xxx := Z1xx.kept g23 (by simp); have Z2xxx := Z2xx.kept g23 (by simp); clear q1_22_0 q1_22_1 q1_22_2 q1_22_3 q1_22_4 q2_22_0 q2_22_1 q2_22_2 q2_22_3 q2_22_4; have q1_23_0 := Z1xxx.cell 0 (v := .int .u8 k) rfl; have q1_23_1 := Z1xxx.cell 1 (v := .int .i64 x) rfl; have q1_23_2 := Z1xxx.cell 2 (v := .int .i64 y) rfl; have q1_23_3 := Z1xxx.cell 3 (v := .int .u8 t) rfl; have q1_23_4 := Z1xxx.cell 4 (v := .int .i64 z) rfl; have q2_23_0 := Z2xxx.cell 0 (v := .int .u8 k2) rfl; have q2_23_1 := Z2xxx.cell 1 (v := .int .i64 x2) rfl; have q2_23_2 := Z2xxx.cell 2 (v := .int .i64 y2) rfl; have q2_23_3 := Z2xxx.cell 3 (v := .int .u8 t2) rfl; have q2_23_4 := Z2xxx.cell 4 (v := .int .i64 z2) rfl; have m4xxx := m4xx.kept g23 (by simp); have m5xxx := m5xx.kept g23 (by simp); have m7xxx := m7xx.kept g23 (by simp); have l21xx := l21x.kept g23 (by simp)))
          go_ret
          exact ⟨rfl, G23⟩
end Go.Proofs.Ytgiiaokkmnjckaa
