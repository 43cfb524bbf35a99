/- A count's four rows, put into the book. -/
import Derived.Lib.Hide
import Derived.Test.YtcdefpfnjjahgabV1
import Derived.Test.YtcdefpfnjjahgabW18
import Derived.Test.YtcdefpfnjjahgabBo
import Derived.LoopN
import Derived.Deep.RegionHeld2
namespace Go.Proofs.Ytcdefpfnjjahgab
open Go.RowKit
set_option linter.unusedVariables false
set_option linter.unusedSimpArgs false
set_option maxRecDepth 100000

theorem Bo.gb {w w' : World} {g : Nat} {t : TypeId} {cs : Array Value} {L : Nat → Prop} (h : Bo w g t cs) (hg : Gb L w w') (hn : ¬ L g) : Bo w' g t cs := (hg.block g h.lt hn).trans h

set_option maxHeartbeats 2000000 in
theorem fourC (B base k : Nat) (An : Nat → Ans) (sg sw : Nat → Option Addr) (hk : k ≤ 900) (a : Nat → Ans) (he : ∀ d, d < 4 → (a d).e = (a 0).e) (hc : ∀ d, d < 4 → (a d).c ≤ 1025) (s q : Nat → Option Addr) (L : Nat → Prop) (w : World) (h : Book w B base k An sg sw L) (hl : ∀ j, L j → j < w.heap.size)
    (h1 : ∀ d, d < 4 → Gr w (s d) (a d).c (a d).f) (h2 : ∀ d, d < 4 → Gr w (q d) (a d).c (a d).f) (hf : ∀ d, d < 4 → ∀ x, s d = some x → base ≤ x.block ∧ ∀ i, i < k → ∀ y, sg i = some y → x.block ≠ y.block) (hap : Apart 4 s) (hq : ∀ d, d < 4 → ∀ x, q d = some x → base ≤ x.block) :
    Calls Try.prog 14 #[.pointer (some ⟨B, 0, none⟩), .agg #[.int .i64 (a 0).N, .slice (s 0) (a 0).c (a 0).c, .int .i64 (a 1).N, .slice (s 1) (a 1).c (a 1).c, .int .i64 (a 2).N, .slice (s 2) (a 2).c (a 2).c, .int .i64 (a 3).N, .slice (s 3) (a 3).c (a 3).c], .int .i64 (a 0).e, .agg #[.int .i64 (a 0).N, .slice (q 0) (a 0).c (a 0).c, .int .i64 (a 1).N, .slice (q 1) (a 1).c (a 1).c, .int .i64 (a 2).N, .slice (q 2) (a 2).c (a 2).c, .int .i64 (a 3).N, .slice (q 3) (a 3).c (a 3).c], .int .i64 (a 0).e] w fun e w' => e = .returned (.tuple #[]) ∧ ∃ An' sg' sw' L', Book w' B base (k + 4) An' sg' sw' L' ∧ Jn base L L' w w' := by
  obtain ⟨W1, hW1, sz1, g1, C1⟩ := boxn w #[.int .i64 (a 0).N, .slice (s 0) (a 0).c (a 0).c, .int .i64 (a 1).N, .slice (s 1) (a 1).c (a 1).c, .int .i64 (a 2).N, .slice (s 2) (a 2).c (a 2).c, .int .i64 (a 3).N, .slice (s 3) (a 3).c (a 3).c] 36
  obtain ⟨W2, hW2, sz2, g2, D2⟩ := boxn W1 #[.int .i64 (a 0).N, .slice (q 0) (a 0).c (a 0).c, .int .i64 (a 1).N, .slice (q 1) (a 1).c (a 1).c, .int .i64 (a 2).N, .slice (q 2) (a 2).c (a 2).c, .int .i64 (a 3).N, .slice (q 3) (a 3).c (a 3).c] 36
  have C2 := C1.kept g2 (by simp)
  have G2 := gb_trans g1 g2
  have hB2 := h.kept G2
  have hl2 : ∀ j, L j → j < W2.heap.size := fun j hj => Nat.lt_of_lt_of_le (hl j hj) G2.size
  have nC : ¬ L w.heap.size := fun hh => Nat.lt_irrefl _ (hl _ hh)
  have nD : ¬ L W1.heap.size := fun hh => by have := hl _ hh; have := g1.size; omega
  have hadd0 : ∀ (V : World) (L1 : Nat → Prop), Book V B base k An sg sw L1 → Jn base L L1 W2 V → Calls Try.prog 20 #[.pointer (some ⟨B, 0, none⟩), .agg #[.int .i64 (a 0).N, .slice (s 0) (a 0).c (a 0).c], .int .i64 (a 0).e, .agg #[.int .i64 (a 0).N, .slice (q 0) (a 0).c (a 0).c], .int .i64 (a 0).e] V fun e w' => e = .returned (.tuple #[]) ∧ ∃ L2, Book w' B base (k + 1) (ext k (a 0) An) (ext k (s 0) sg) (ext k (q 0) sw) L2 ∧ Jn base L L2 W2 w' := fun V L1 bk J => by
    have hc := bookAdds B base k An sg sw (by omega) (a 0) (hc 0 (by decide)) (s 0) (q 0) L1 V bk (((h1 0 (by decide)).kept G2).nr J.nr) (((h2 0 (by decide)).kept G2).nr J.nr) (fun x e => ⟨(hf 0 (by decide) x e).1, fun i hi y e' => by
      exact (hf 0 (by decide) x e).2 i hi y e'⟩) (hq 0 (by decide))
    rw [he 0 (by decide)] at hc
    refine hc.mono ?_
    rintro e w' ⟨h1', h2', h3', h4', h5'⟩
    exact ⟨h1', _, h2', J.adds h3' h4' h5'⟩
  have hadd1 : ∀ (V : World) (L1 : Nat → Prop), Book V B base (k + 1) (ext k (a 0) An) (ext k (s 0) sg) (ext k (q 0) sw) L1 → Jn base L L1 W2 V → Calls Try.prog 20 #[.pointer (some ⟨B, 0, none⟩), .agg #[.int .i64 (a 1).N, .slice (s 1) (a 1).c (a 1).c], .int .i64 (a 0).e, .agg #[.int .i64 (a 1).N, .slice (q 1) (a 1).c (a 1).c], .int .i64 (a 0).e] V fun e w' => e = .returned (.tuple #[]) ∧ ∃ L2, Book w' B base (k + 2) (ext (k + 1) (a 1) (ext k (a 0) An)) (ext (k + 1) (s 1) (ext k (s 0) sg)) (ext (k + 1) (q 1) (ext k (q 0) sw)) L2 ∧ Jn base L L2 W2 w' := fun V L1 bk J => by
    have hc := bookAdds B base (k + 1) (ext k (a 0) An) (ext k (s 0) sg) (ext k (q 0) sw) (by omega) (a 1) (hc 1 (by decide)) (s 1) (q 1) L1 V bk (((h1 1 (by decide)).kept G2).nr J.nr) (((h2 1 (by decide)).kept G2).nr J.nr) (fun x e => ⟨(hf 1 (by decide) x e).1, fun i hi y e' => by
      rcases (show i < k ∨ i = k by omega) with hik | rfl
      · rw [ext_old _ _ (by omega)] at e'
        exact (hf 1 (by decide) x e).2 i hik y e'
      · rw [ext_at] at e'
        exact hap 1 0 (by decide) (by decide) (by decide) x y e e'⟩) (hq 1 (by decide))
    rw [he 1 (by decide)] at hc
    refine hc.mono ?_
    rintro e w' ⟨h1', h2', h3', h4', h5'⟩
    exact ⟨h1', _, h2', J.adds h3' h4' h5'⟩
  have hadd2 : ∀ (V : World) (L1 : Nat → Prop), Book V B base (k + 2) (ext (k + 1) (a 1) (ext k (a 0) An)) (ext (k + 1) (s 1) (ext k (s 0) sg)) (ext (k + 1) (q 1) (ext k (q 0) sw)) L1 → Jn base L L1 W2 V → Calls Try.prog 20 #[.pointer (some ⟨B, 0, none⟩), .agg #[.int .i64 (a 2).N, .slice (s 2) (a 2).c (a 2).c], .int .i64 (a 0).e, .agg #[.int .i64 (a 2).N, .slice (q 2) (a 2).c (a 2).c], .int .i64 (a 0).e] V fun e w' => e = .returned (.tuple #[]) ∧ ∃ L2, Book w' B base (k + 3) (ext (k + 2) (a 2) (ext (k + 1) (a 1) (ext k (a 0) An))) (ext (k + 2) (s 2) (ext (k + 1) (s 1) (ext k (s 0) sg))) (ext (k + 2) (q 2) (ext (k + 1) (q 1) (ext k (q 0) sw))) L2 ∧ Jn base L L2 W2 w' := fun V L1 bk J => by
    have hc := bookAdds B base (k + 2) (ext (k + 1) (a 1) (ext k (a 0) An)) (ext (k + 1) (s 1) (ext k (s 0) sg)) (ext (k + 1) (q 1) (ext k (q 0) sw)) (by omega) (a 2) (hc 2 (by decide)) (s 2) (q 2) L1 V bk (((h1 2 (by decide)).kept G2).nr J.nr) (((h2 2 (by decide)).kept G2).nr J.nr) (fun x e => ⟨(hf 2 (by decide) x e).1, fun i hi y e' => by
      rcases (show i < k ∨ i = k ∨ i = k + 1 by omega) with hik | rfl | rfl
      · rw [ext_old _ _ (by omega), ext_old _ _ (by omega)] at e'
        exact (hf 2 (by decide) x e).2 i hik y e'
      · rw [ext_old _ _ (by omega), ext_at] at e'
        exact hap 2 0 (by decide) (by decide) (by decide) x y e e'
      · rw [ext_at] at e'
        exact hap 2 1 (by decide) (by decide) (by decide) x y e e'⟩) (hq 2 (by decide))
    rw [he 2 (by decide)] at hc
    refine hc.mono ?_
    rintro e w' ⟨h1', h2', h3', h4', h5'⟩
    exact ⟨h1', _, h2', J.adds h3' h4' h5'⟩
  have hadd3 : ∀ (V : World) (L1 : Nat → Prop), Book V B base (k + 3) (ext (k + 2) (a 2) (ext (k + 1) (a 1) (ext k (a 0) An))) (ext (k + 2) (s 2) (ext (k + 1) (s 1) (ext k (s 0) sg))) (ext (k + 2) (q 2) (ext (k + 1) (q 1) (ext k (q 0) sw))) L1 → Jn base L L1 W2 V → Calls Try.prog 20 #[.pointer (some ⟨B, 0, none⟩), .agg #[.int .i64 (a 3).N, .slice (s 3) (a 3).c (a 3).c], .int .i64 (a 0).e, .agg #[.int .i64 (a 3).N, .slice (q 3) (a 3).c (a 3).c], .int .i64 (a 0).e] V fun e w' => e = .returned (.tuple #[]) ∧ ∃ L2, Book w' B base (k + 4) (ext (k + 3) (a 3) (ext (k + 2) (a 2) (ext (k + 1) (a 1) (ext k (a 0) An)))) (ext (k + 3) (s 3) (ext (k + 2) (s 2) (ext (k + 1) (s 1) (ext k (s 0) sg)))) (ext (k + 3) (q 3) (ext (k + 2) (q 2) (ext (k + 1) (q 1) (ext k (q 0) sw)))) L2 ∧ Jn base L L2 W2 w' := fun V L1 bk J => by
    have hc := bookAdds B base (k + 3) (ext (k + 2) (a 2) (ext (k + 1) (a 1) (ext k (a 0) An))) (ext (k + 2) (s 2) (ext (k + 1) (s 1) (ext k (s 0) sg))) (ext (k + 2) (q 2) (ext (k + 1) (q 1) (ext k (q 0) sw))) (by omega) (a 3) (hc 3 (by decide)) (s 3) (q 3) L1 V bk (((h1 3 (by decide)).kept G2).nr J.nr) (((h2 3 (by decide)).kept G2).nr J.nr) (fun x e => ⟨(hf 3 (by decide) x e).1, fun i hi y e' => by
      rcases (show i < k ∨ i = k ∨ i = k + 1 ∨ i = k + 2 by omega) with hik | rfl | rfl | rfl
      · rw [ext_old _ _ (by omega), ext_old _ _ (by omega), ext_old _ _ (by omega)] at e'
        exact (hf 3 (by decide) x e).2 i hik y e'
      · rw [ext_old _ _ (by omega), ext_old _ _ (by omega), ext_at] at e'
        exact hap 3 0 (by decide) (by decide) (by decide) x y e e'
      · rw [ext_old _ _ (by omega), ext_at] at e'
        exact hap 3 1 (by decide) (by decide) (by decide) x y e e'
      · rw [ext_at] at e'
        exact hap 3 2 (by decide) (by decide) (by decide) x y e e'⟩) (hq 3 (by decide))
    rw [he 3 (by decide)] at hc
    refine hc.mono ?_
    rintro e w' ⟨h1', h2', h3', h4', h5'⟩
    exact ⟨h1', _, h2', J.adds h3' h4' h5'⟩
  have J0 := Jn.refl (base := base) hl2
  have HJ : Hid (Jn base L L w W2) := (Jn.refl (base := base) hl).grow (by have := h.base; have := h.lt; omega) G2
  have hb2 : base ≤ W2.heap.size := by have := h.base; have := h.lt; have := G2.size; omega
  clear h1 h2 hf hap hq hc he h hl hl2 g1 g2 G2 C1
  go_enter Try.func14, Try.ntmps14
  go_wp2
  refine wp_loop_rounds 5 ?_
  have c20 := C2.cell 0 (v := .int .i64 (a 0).N) rfl
  have c21 := C2.cell 1 (v := .slice (s 0) (a 0).c (a 0).c) rfl
  have d20 := D2.cell 0 (v := .int .i64 (a 0).N) rfl
  have d21 := D2.cell 1 (v := .slice (q 0) (a 0).c (a 0).c) rfl
  rw [rounds_succ]
  go_wp2
  go_region_held2 (fun w' => w'.cell? ⟨w.heap.size, 0, none⟩ = some (.int .i64 (a 0).N) ∧ w'.cell? ⟨w.heap.size, 1, none⟩ = some (.slice (s 0) (a 0).c (a 0).c) ∧ w'.cell? ⟨W1.heap.size, 0, none⟩ = some (.int .i64 (a 0).N) ∧ w'.cell? ⟨W1.heap.size, 1, none⟩ = some (.slice (q 0) (a 0).c (a 0).c)) (go_keep) (first | (go_at_call 20; (fail_if_success (guard_hyp J1)); refine (hadd0 W2.drew _ (hB2.kept (gb_drew (World.grownBy.refl _ none))) (J0.grow hb2 (gb_drew (World.grownBy.refl _ none)))).mono ?_; rintro e w1 ⟨rfl, L1, k1, J1⟩; have C3 := C2.gb J1.gb nC; have D3 := D2.gb J1.gb nD; have c30 := C3.cell 0 (v := .int .i64 (a 0).N) rfl; have c31 := C3.cell 1 (v := .slice (s 0) (a 0).c (a 0).c) rfl; have d30 := D3.cell 0 (v := .int .i64 (a 0).N) rfl; have d31 := D3.cell 1 (v := .slice (q 0) (a 0).c (a 0).c) rfl))
  clear c20 c21 d20 d21 c30 c31 d30 d31
  go_wp2
  have c30 := C3.cell 2 (v := .int .i64 (a 1).N) rfl
  have c31 := C3.cell 3 (v := .slice (s 1) (a 1).c (a 1).c) rfl
  have d30 := D3.cell 2 (v := .int .i64 (a 1).N) rfl
  have d31 := D3.cell 3 (v := .slice (q 1) (a 1).c (a 1).c) rfl
  rw [rounds_succ]
  go_wp2
  go_region_held2 (fun w' => w'.cell? ⟨w.heap.size, 2, none⟩ = some (.int .i64 (a 1).N) ∧ w'.cell? ⟨w.heap.size, 3, none⟩ = some (.slice (s 1) (a 1).c (a 1).c) ∧ w'.cell? ⟨W1.heap.size, 2, none⟩ = some (.int .i64 (a 1).N) ∧ w'.cell? ⟨W1.heap.size, 3, none⟩ = some (.slice (q 1) (a 1).c (a 1).c)) (go_keep) (first | (go_at_call 20; (fail_if_success (guard_hyp J2)); refine (hadd1 w1.drew _ (k1.kept (gb_drew (World.grownBy.refl _ none))) (J1.grow hb2 (gb_drew (World.grownBy.refl _ none)))).mono ?_; rintro e w2 ⟨rfl, L2, k2, J2⟩; have C4 := C2.gb J2.gb nC; have D4 := D2.gb J2.gb nD; have c40 := C4.cell 2 (v := .int .i64 (a 1).N) rfl; have c41 := C4.cell 3 (v := .slice (s 1) (a 1).c (a 1).c) rfl; have d40 := D4.cell 2 (v := .int .i64 (a 1).N) rfl; have d41 := D4.cell 3 (v := .slice (q 1) (a 1).c (a 1).c) rfl))
  clear c30 c31 d30 d31 c40 c41 d40 d41
  go_wp2
  have c40 := C4.cell 4 (v := .int .i64 (a 2).N) rfl
  have c41 := C4.cell 5 (v := .slice (s 2) (a 2).c (a 2).c) rfl
  have d40 := D4.cell 4 (v := .int .i64 (a 2).N) rfl
  have d41 := D4.cell 5 (v := .slice (q 2) (a 2).c (a 2).c) rfl
  rw [rounds_succ]
  go_wp2
  go_region_held2 (fun w' => w'.cell? ⟨w.heap.size, 4, none⟩ = some (.int .i64 (a 2).N) ∧ w'.cell? ⟨w.heap.size, 5, none⟩ = some (.slice (s 2) (a 2).c (a 2).c) ∧ w'.cell? ⟨W1.heap.size, 4, none⟩ = some (.int .i64 (a 2).N) ∧ w'.cell? ⟨W1.heap.size, 5, none⟩ = some (.slice (q 2) (a 2).c (a 2).c)) (go_keep) (first | (go_at_call 20; (fail_if_success (guard_hyp J3)); refine (hadd2 w2.drew _ (k2.kept (gb_drew (World.grownBy.refl _ none))) (J2.grow hb2 (gb_drew (World.grownBy.refl _ none)))).mono ?_; rintro e w3 ⟨rfl, L3, k3, J3⟩; have C5 := C2.gb J3.gb nC; have D5 := D2.gb J3.gb nD; have c50 := C5.cell 4 (v := .int .i64 (a 2).N) rfl; have c51 := C5.cell 5 (v := .slice (s 2) (a 2).c (a 2).c) rfl; have d50 := D5.cell 4 (v := .int .i64 (a 2).N) rfl; have d51 := D5.cell 5 (v := .slice (q 2) (a 2).c (a 2).c) rfl))
  clear c40 c41 d40 d41 c50 c51 d50 d51
  go_wp2
  have c50 := C5.cell 6 (v := .int .i64 (a 3).N) rfl
  have c51 := C5.cell 7 (v := .slice (s 3) (a 3).c (a 3).c) rfl
  have d50 := D5.cell 6 (v := .int .i64 (a 3).N) rfl
  have d51 := D5.cell 7 (v := .slice (q 3) (a 3).c (a 3).c) rfl
  rw [rounds_succ]
  go_wp2
  go_region_held2 (fun w' => w'.cell? ⟨w.heap.size, 6, none⟩ = some (.int .i64 (a 3).N) ∧ w'.cell? ⟨w.heap.size, 7, none⟩ = some (.slice (s 3) (a 3).c (a 3).c) ∧ w'.cell? ⟨W1.heap.size, 6, none⟩ = some (.int .i64 (a 3).N) ∧ w'.cell? ⟨W1.heap.size, 7, none⟩ = some (.slice (q 3) (a 3).c (a 3).c)) (go_keep) (first | (go_at_call 20; (fail_if_success (guard_hyp J4)); refine (hadd3 w3.drew _ (k3.kept (gb_drew (World.grownBy.refl _ none))) (J3.grow hb2 (gb_drew (World.grownBy.refl _ none)))).mono ?_; rintro e w4 ⟨rfl, L4, k4, J4⟩; have C6 := C2.gb J4.gb nC; have D6 := D2.gb J4.gb nD; have c60 := C6.cell 6 (v := .int .i64 (a 3).N) rfl; have c61 := C6.cell 7 (v := .slice (s 3) (a 3).c (a 3).c) rfl; have d60 := D6.cell 6 (v := .int .i64 (a 3).N) rfl; have d61 := D6.cell 7 (v := .slice (q 3) (a 3).c (a 3).c) rfl))
  clear c50 c51 d50 d51 c60 c61 d60 d61
  go_wp2
  rw [rounds_succ]
  go_wp2
  go_end0
  exact ⟨rfl, _, _, _, L4, k4, HJ.out.then J4⟩
end Go.Proofs.Ytcdefpfnjjahgab
