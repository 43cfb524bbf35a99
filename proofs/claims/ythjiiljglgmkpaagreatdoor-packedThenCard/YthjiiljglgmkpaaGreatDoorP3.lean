/- packed.lay: a field's cells get their next states. -/
import Derived.Test.YthjiiljglgmkpaaGreatDoorP2
namespace Go.Proofs.YthjiiljglgmkpaaGreatDoor.Pd
open Go.RowKit
set_option linter.unusedVariables false
set_option linter.unusedSimpArgs false
set_option maxRecDepth 100000

/-- What is grown, and written in L alone. -/
structure Gx (L : Nat → Prop) (w w' : World) : Prop where
  os : w'.os = w.os
  tape : w'.tape = w.tape
  output : w'.output = w.output
  size : w.heap.size ≤ w'.heap.size
  block : ∀ i, i < w.heap.size → ¬ L i → w'.heap[i]? = w.heap[i]?
theorem Gx.of {L : Nat → Prop} {w w' : World} {o : Option Nat} (h : w.grownBy w' o) (ho : ∀ i, o = some i → L i) : Gx L w w' := ⟨h.os, h.tape, h.output, h.size, fun i hi hL => h.block i hi (fun e => hL (ho i e.symm))⟩
theorem gx_none {L : Nat → Prop} {w w' : World} (h : w.grownBy w' none) : Gx L w w' := Gx.of h (fun i e => by cases e)
theorem Gx.trans {L : Nat → Prop} {a b c : World} (h : Gx L a b) (k : Gx L b c) : Gx L a c := ⟨k.os.trans h.os, k.tape.trans h.tape, k.output.trans h.output, Nat.le_trans h.size k.size, fun i hi hL => (k.block i (Nat.lt_of_lt_of_le hi h.size) hL).trans (h.block i hi hL)⟩
theorem Gx.new {L : Nat → Prop} {a b c : World} {p : Nat} (h : Gx L a b) (k : b.grownBy c (some p)) (hp : a.heap.size ≤ p) : Gx L a c := ⟨k.os.trans h.os, k.tape.trans h.tape, k.output.trans h.output, Nat.le_trans h.size k.size, fun i hi hL => (k.block i (Nat.lt_of_lt_of_le hi h.size) (fun e => by have e := Option.some.inj e; omega)).trans (h.block i hi hL)⟩
theorem Gx.bo {L : Nat → Prop} {w w' : World} {b : Nat} {t : TypeId} {cs : Array Value} (h : Gx L w w') (hr : Bo w b t cs) (hb : ¬ L b) : Bo w' b t cs := (h.block b hr.lt hb).trans hr
theorem gx_heap {w w' : World} {b o : Nat} {v : Value} (h : w'.heap[b]? = w.heap[b]?) (hc : w.cell? ⟨b, o, none⟩ = some v) : w'.cell? ⟨b, o, none⟩ = some v := by
  unfold World.cell? at hc ⊢
  simp only at hc ⊢
  rw [h]
  exact hc
theorem Gx.cell {L : Nat → Prop} {w w' : World} {b o : Nat} {v : Value} (h : Gx L w w') (hc : w.cell? ⟨b, o, none⟩ = some v) (hb : ¬ L b) : w'.cell? ⟨b, o, none⟩ = some v := gx_heap (h.block b (cell_lt hc) hb) hc
theorem Gx.row {L : Nat → Prop} {w w' : World} {t : TypeId} {b n : Nat} {p : Nat → Bool} (h : Gx L w w') (hr : Row w t b n p) (hb : ¬ L b) : Row w' t b n p := by
  have hl := hr.lt
  obtain ⟨c, hc, h2⟩ := hr
  exact ⟨c, (h.block b hl hb).trans hc, h2⟩
theorem Gx.past {L : Nat → Prop} {a w w' : World} (G : a.grownBy w none) (h : Gx L w w') (hL : ∀ i, L i → a.heap.size ≤ i) : a.grownBy w' none :=
  ⟨h.os.trans G.os, h.tape.trans G.tape, h.output.trans G.output, Nat.le_trans G.size h.size, fun i hi _ => (h.block i (Nat.lt_of_lt_of_le hi G.size) (fun e => by have := hL i e; omega)).trans (G.block i hi (by simp))⟩
/-- A list of rows in memory. -/
structure Rw (w : World) (r q m k : Nat) (wb : Nat → Nat) (P : Nat → Nat → Bool) : Prop where
  n_ : ∀ i, i < q → w.cell? ⟨r, i * 2, none⟩ = some (.int .i64 (m : Nat))
  s_ : ∀ i, i < q → w.cell? ⟨r, i * 2 + 1, none⟩ = some (.slice (some ⟨wb i, 0, none⟩) k k)
  w_ : ∀ i, i < q → Row w 37 (wb i) k (P i)
theorem Rw.gx {L : Nat → Prop} {w w' : World} {r q m k : Nat} {wb : Nat → Nat} {P : Nat → Nat → Bool} (h : Rw w r q m k wb P) (G : Gx L w w') (h1 : ¬ L r) (h2 : ∀ i, i < q → ¬ L (wb i)) : Rw w' r q m k wb P :=
  ⟨fun i hi => G.cell (h.n_ i hi) h1, fun i hi => G.cell (h.s_ i hi) h1, fun i hi => G.row (h.w_ i hi) (h2 i hi)⟩
theorem Sg.gx {L : Nat → Prop} {w w' : World} {m k : Nat} {p : Nat → Bool} {b0 b1 b2 : Nat} (h : Sg w m k p b0 b1 b2) (G : Gx L w w') (h0 : ¬ L b0) (h1 : ¬ L b1) (h2 : ¬ L b2) : Sg w' m k p b0 b1 b2 := ⟨G.row h.r0 h0, G.row h.r1 h1, G.row h.r2 h2⟩
theorem tab_gx {L : Nat → Prop} {w w' : World} (h : Wo.Tab64 w) (G : Gx L w w') (hL : ¬ L 1) : Wo.Tab64 w' := fun j hj => G.cell (h j hj) hL
/-- The cells one generation later, by the rows. -/
def nxG (ho bo st C : Nat) (P : Nat → Nat → Bool) (j : Nat) : Nat := oneB (ln ho bo st (P (j / C)) (P (j / C + 1)) (P (j / C + 2)) C (j % C))
/-- While the rows are laid. -/
def gy (ho bo st C : Nat) (P : Nat → Nat → Bool) (g : Nat → Nat) (y j : Nat) : Nat := if j < y * C then nxG ho bo st C P j else g j
theorem oneB_le (b : Bool) : oneB b < 2 := by cases b <;> decide
theorem gy_step (ho bo st C : Nat) (hC : 1 ≤ C) (P : Nat → Nat → Bool) (g : Nat → Nat) (y j : Nat) : (if y * C ≤ j ∧ j < y * C + C then oneB (ln ho bo st (P y) (P (y + 1)) (P (y + 2)) C (j - y * C)) else gy ho bo st C P g y j) = gy ho bo st C P g (y + 1) j := by
  unfold gy
  have e0 : (y + 1) * C = y * C + C := Nat.succ_mul y C
  by_cases h1 : y * C ≤ j ∧ j < y * C + C
  · rw [if_pos h1, if_pos (by omega)]
    unfold nxG
    have hd : j / C = y := Nat.div_eq_of_lt_le h1.1 (by rw [e0]; exact h1.2)
    have hm : j % C = j - y * C := by
      have := Nat.div_add_mod j C
      rw [hd, Nat.mul_comm] at this
      omega
    rw [hd, hm]
  · rw [if_neg h1]
    by_cases h2 : j < y * C
    · rw [if_pos h2, if_pos (by omega)]
    · rw [if_neg h2, if_neg (by omega)]
theorem nextA (ho bo st m k : Nat) (h1 : 1 ≤ ho ∧ ho ≤ 3) (hb : bo < 65536) (hs : st < 65536) (hm : m ≤ 65538) (hk : k = (m + 63) / 64) (pa ph pb : Nat → Bool) (a0 a1 a2 h0 h1' h2 b0 b1 b2 : Nat) (w : World) (Sa : Sg w m k pa a0 a1 a2) (Sh : Sg w m k ph h0 h1' h2) (Sb : Sg w m k pb b0 b1 b2) :
    Calls Tryz.prog 31 #[.agg #[.int .u8 (ho : Nat), .int .u16 (bo : Nat), .int .u16 (st : Nat)], .agg #[.int .i64 (m : Nat), .slice (some ⟨a0, 0, none⟩) k k, .int .i64 (m : Nat), .slice (some ⟨a1, 0, none⟩) k k, .int .i64 (m : Nat), .slice (some ⟨a2, 0, none⟩) k k], .agg #[.int .i64 (m : Nat), .slice (some ⟨h0, 0, none⟩) k k, .int .i64 (m : Nat), .slice (some ⟨h1', 0, none⟩) k k, .int .i64 (m : Nat), .slice (some ⟨h2, 0, none⟩) k k], .agg #[.int .i64 (m : Nat), .slice (some ⟨b0, 0, none⟩) k k, .int .i64 (m : Nat), .slice (some ⟨b1, 0, none⟩) k k, .int .i64 (m : Nat), .slice (some ⟨b2, 0, none⟩) k k]] w fun e w' => ∃ z, e = .returned (.agg #[.int .i64 (m : Nat), .slice (some ⟨z, 0, none⟩) k k]) ∧ Row w' 37 z k (ln ho bo st pa ph pb m) ∧ w.grownBy w' none ∧ w.heap.size ≤ z := by
  rcases (show ho = 1 ∨ ho = 2 ∨ ho = 3 by omega) with rfl | rfl | rfl
  · exact next1 bo st m k hb hs hm hk pa ph pb a0 a1 a2 h0 h1' h2 b0 b1 b2 w Sa.r0 Sa.r1 Sa.r2 Sh.r0 Sh.r1 Sh.r2 Sb.r0 Sb.r1 Sb.r2
  · exact next2 bo st m k hb hs hm hk pa ph pb a0 a1 a2 h0 h1' h2 b0 b1 b2 w Sa.r0 Sa.r1 Sa.r2 Sh.r0 Sh.r1 Sh.r2 Sb.r0 Sb.r1 Sb.r2
  · exact next3 bo st m k hb hs hm hk pa ph pb a0 a1 a2 h0 h1' h2 b0 b1 b2 w Sa.r0 Sa.r1 Sa.r2 Sh.r0 Sh.r1 Sh.r2 Sb.r0 Sb.r1 Sb.r2
theorem region_cut {c : Code} {P : Program} {K : Act → World → Prop} {Q : Exit → Act → World → Prop} {a : Act} {w : World} (X : Act → World → Prop) (h : c.wp P (Exit.then X (fun _ _ _ => False)) a w) (hX : ∀ a w, X a w → K a w) : c.wp P (Exit.then K Q) a w := Code.wp_mono (fun e a w h => by cases e <;> first | exact hX _ _ h | exact h.elim) h
set_option maxHeartbeats 4000000 in
theorem layC {M : (Nat → Nat) → World → Prop} {L : Nat → Prop} {b C R : Nat} {pk : Bool} (F : FdX M L b C R 2 pk) (c1 : 1 ≤ C) (c2 : C ≤ 65536) (r2 : R ≤ 65536) (ho bo st : Nat) (h13 : 1 ≤ ho ∧ ho ≤ 3) (hb : bo < 65536) (hs : st < 65536) (r cq K : Nat) (wb : Nat → Nat) (P : Nat → Nat → Bool) (hP : ∀ i, i < R + 2 → MayBe (C + 2) K (P i)) (g : Nat → Nat) (w : World) (hM : M g w) (hT : Wo.Tab64 w) (hLT : ¬ L 1) (Hr : Rw w r (R + 2) (C + 2) K wb P) (hrL : ¬ L r) (hwL : ∀ i, i < R + 2 → ¬ L (wb i)) :
    Calls Tryz.prog 29 #[.pointer (some ⟨b, 0, none⟩), .agg #[.int .u8 (ho : Nat), .int .u16 (bo : Nat), .int .u16 (st : Nat)], .slice (some ⟨r, 0, none⟩) (R + 2) cq] w fun e w' => e = .returned (.tuple #[]) ∧ M (nxG ho bo st C P) w' ∧ Gx L w w' := by
  obtain ⟨kk, hkk⟩ : ∃ kk, kk = (C + 63) / 64 := ⟨_, rfl⟩
  have Hkk : Hid (kk = (C + 63) / 64) := hkk
  have hlts := F.lts g w hM
  obtain ⟨W1, hW1, sz1, g1, B1⟩ := boxn w #[.int .u8 (ho : Nat), .int .u16 (bo : Nat), .int .u16 (st : Nat)] 28
  have hlook : ∀ i, i < R + 2 → ∀ v, Gx L w v → Calls Tryz.prog 32 #[.agg #[.int .i64 ((C + 2 : Nat) : Int), .slice (some ⟨wb i, 0, none⟩) K K]] v fun e w' => ∃ b0 b1 b2, e = .returned (.agg #[.int .i64 (C : Nat), .slice (some ⟨b0, 0, none⟩) kk kk, .int .i64 (C : Nat), .slice (some ⟨b1, 0, none⟩) kk kk, .int .i64 (C : Nat), .slice (some ⟨b2, 0, none⟩) kk kk]) ∧ Row w' 37 b0 kk (fr (P i) C 0) ∧ Row w' 37 b1 kk (fr (P i) C 1) ∧ Row w' 37 b2 kk (fr (P i) C 2) ∧ v.grownBy w' none ∧ v.heap.size ≤ b0 ∧ v.heap.size ≤ b1 ∧ v.heap.size ≤ b2 := fun i hi v G => by
    have := lookAtC (C + 2) K K (some ⟨wb i, 0, none⟩) (P i) (hP i hi) (by omega) v (Row.wd (G.row (Hr.w_ i hi) (hwL i hi)))
    rw [show C + 2 - 2 = C by omega, ← hkk] at this
    exact this
  have hCl : Cl W1 r (R + 2) (wb 0) (wb 1) C kk K (P 0) (P 1) := ⟨by omega, ⟨g1.cell (Hr.n_ 0 (by omega)) (by simp), g1.cell (Hr.s_ 0 (by omega)) (by simp), g1.cell (Hr.n_ 1 (by omega)) (by simp), g1.cell (Hr.s_ 1 (by omega)) (by simp)⟩, fun v G => hlook 0 (by omega) v (gx_none (gb_trans g1 G)), fun v G => hlook 1 (by omega) v (gx_none (gb_trans g1 G))⟩
  clear hkk
  go_enter Tryz.func29, Tryz.ntmps29
  go_wp2
  refine region_cut _ (looks2 hCl) ?_
  rintro a' V ⟨p8, p9, a0, a1, a2, h0, h1, h2, rfl, C8, C9, Sa, Sh, GV, q8, q9, e89, la, lh⟩
  have hW1 : w.heap.size < W1.heap.size := by have := sz1.out; omega
  have hHI := F.high g V (F.grown hM (gb_trans g1 GV))
  go_wp2_with (go_at_call 43; refine hHI.mono ?_; rintro e V2 ⟨rfl, g3⟩)
  have HS0 : Hid (Sg V2 C kk (P 0) a0 a1 a2 ∧ Sg V2 C kk (P 1) h0 h1 h2) := ⟨Sa.kept g3, Sh.kept g3⟩
  have HL0 : Hid ((w.heap.size ≤ a0 ∧ w.heap.size ≤ a1 ∧ w.heap.size ≤ a2) ∧ (w.heap.size ≤ h0 ∧ w.heap.size ≤ h1 ∧ w.heap.size ≤ h2)) := by show _ ∧ _; omega
  have HM0 : Hid (M g V2) := F.grown (F.grown hM (gb_trans g1 GV)) g3
  have HG0 : Hid (Gx L w V2) := gx_none (gb_trans (gb_trans g1 GV) g3)
  have HB0 : Hid (Bo V2 w.heap.size 28 #[.int .u8 (ho : Nat), .int .u16 (bo : Nat), .int .u16 (st : Nat)]) := (B1.kept GV (by simp)).kept g3 (by simp)
  have H8 := C8.kept g3 (by simp)
  have H9 := C9.kept g3 (by simp)
  have HF : Hid (FdX M L b C R 2 pk) := F
  have Hlts : Hid (∀ i, L i → i < w.heap.size) := hlts
  have Hlook := hlook
  have HR : Hid (Rw w r (R + 2) (C + 2) K wb P) := Hr
  have HTb : Hid (Wo.Tab64 w) := hT
  have HrL : Hid (¬ L r ∧ ∀ i, i < R + 2 → ¬ L (wb i)) := ⟨hrL, hwL⟩
  have hp8 : w.heap.size < p8 := by omega
  have hp9 : w.heap.size < p9 := by omega
  clear Sa Sh la lh hM B1 F hlts Hr hT hrL hwL hlook hCl GV C8 C9 g3 g1 sz1 q8 q9 hHI hP
  go_loopw [20] (fun i wr => ∃ (y : Nat), y ≤ R ∧ i = .int .i64 (y : Nat) ∧ ∃ a0 a1 a2 h0 h1 h2 : Nat, Bo wr p8 77 #[.int .i64 (C : Nat), .slice (some ⟨a0, 0, none⟩) kk kk, .int .i64 (C : Nat), .slice (some ⟨a1, 0, none⟩) kk kk, .int .i64 (C : Nat), .slice (some ⟨a2, 0, none⟩) kk kk] ∧ Bo wr p9 77 #[.int .i64 (C : Nat), .slice (some ⟨h0, 0, none⟩) kk kk, .int .i64 (C : Nat), .slice (some ⟨h1, 0, none⟩) kk kk, .int .i64 (C : Nat), .slice (some ⟨h2, 0, none⟩) kk kk] ∧ Hid (Sg wr C kk (P y) a0 a1 a2 ∧ Sg wr C kk (P (y + 1)) h0 h1 h2) ∧ Hid ((w.heap.size ≤ a0 ∧ w.heap.size ≤ a1 ∧ w.heap.size ≤ a2) ∧ (w.heap.size ≤ h0 ∧ w.heap.size ≤ h1 ∧ w.heap.size ≤ h2)) ∧ Hid (M (gy ho bo st C P g y) wr) ∧ Hid (Gx L w wr) ∧ Bo wr w.heap.size 28 #[.int .u8 (ho : Nat), .int .u16 (bo : Nat), .int .u16 (st : Nat)]) (fun i _ => R - (intOf i).toNat)
  case atStart => exact ⟨0, Nat.zero_le _, rfl, a0, a1, a2, h0, h1, h2, H8, H9, HS0.out, HL0.out, HF.out.congr _ _ _ HM0.out (fun j _ => by unfold gy; rw [if_neg (by omega)]), HG0.out, HB0.out⟩
  case round =>
    clear HS0 HL0 HM0 HG0 HB0 H8 H9
    obtain ⟨y, hy, rfl, a0, a1, a2, h0, h1, h2, B8, B9, HS, HL, HM, HG, BL⟩ := hrel
    obtain ⟨U, hU⟩ : ∃ U, U = wr := ⟨_, rfl⟩
    subst hU
    by_cases hlt : y < R
    · have hlt' : (y : Int) < (R : Int) := by omega
      have hR2 : (y : Int) + 2 < ((R + 2 : Nat) : Int) := by omega
      have hR3 : (y : Int) + 2 < (R : Int) + 2 := by omega
      have r0 := HG.out.cell (HR.out.n_ (y + 2) (by omega)) HrL.out.1
      have r1 := HG.out.cell (HR.out.s_ (y + 2) (by omega)) HrL.out.1
      have kL := Hlook (y + 2) (by omega) U HG.out
      have hy2 : ((y : Int) + 2).toNat = y + 2 := by omega
      have hwy : IntKind.i64.wrap ((y : Int) + 2) = (y : Int) + 2 := by rw [IntKind.wrap_i64]; omega
      have hlsz := HG.out.size
      have HMB : Hid (MayBe C kk (ln ho bo st (P y) (P (y + 1)) (P (y + 2)) C)) := ⟨by omega, Hkk.out, fun i hi => ln_off _ _ _ _ _ _ _ _ (by omega)⟩
      clear Hlook
      go_wp2_with (first | (go_at_call 32; refine kL.mono ?_; rintro e V1 ⟨b0, b1, b2, rfl, s0, s1, s2, gV1, n0, n1, n2⟩; clear kL; obtain ⟨V2, hV2, sz2, gB, BB⟩ := boxn V1 #[.int .i64 (C : Nat), .slice (some ⟨b0, 0, none⟩) kk kk, .int .i64 (C : Nat), .slice (some ⟨b1, 0, none⟩) kk kk, .int .i64 (C : Nat), .slice (some ⟨b2, 0, none⟩) kk kk] 77; have HSb : Hid (Sg V2 C kk (P (y + 2)) b0 b1 b2) := Sg.kept ⟨s0, s1, s2⟩ gB; clear s0 s1 s2; have gU := gb_trans gV1 gB; have B8u := B8.kept gU (by simp); have B9u := B9.kept gU (by simp); have BLu := BL.kept gU (by simp); have l0 := BLu.cell 0 (v := .int .u8 (ho : Nat)) rfl; have l1 := BLu.cell 1 (v := .int .u16 (bo : Nat)) rfl; have l2 := BLu.cell 2 (v := .int .u16 (st : Nat)) rfl; have x0 := B8u.cell 0 (v := .int .i64 (C : Nat)) rfl; have x1 := B8u.cell 1 (v := .slice (some ⟨a0, 0, none⟩) kk kk) rfl; have x2 := B8u.cell 2 (v := .int .i64 (C : Nat)) rfl; have x3 := B8u.cell 3 (v := .slice (some ⟨a1, 0, none⟩) kk kk) rfl; have x4 := B8u.cell 4 (v := .int .i64 (C : Nat)) rfl; have x5 := B8u.cell 5 (v := .slice (some ⟨a2, 0, none⟩) kk kk) rfl; have u0 := B9u.cell 0 (v := .int .i64 (C : Nat)) rfl; have u1 := B9u.cell 1 (v := .slice (some ⟨h0, 0, none⟩) kk kk) rfl; have u2 := B9u.cell 2 (v := .int .i64 (C : Nat)) rfl; have u3 := B9u.cell 3 (v := .slice (some ⟨h1, 0, none⟩) kk kk) rfl; have u4 := B9u.cell 4 (v := .int .i64 (C : Nat)) rfl; have u5 := B9u.cell 5 (v := .slice (some ⟨h2, 0, none⟩) kk kk) rfl; have v0 := BB.cell 0 (v := .int .i64 (C : Nat)) rfl; have v1 := BB.cell 1 (v := .slice (some ⟨b0, 0, none⟩) kk kk) rfl; have v2 := BB.cell 2 (v := .int .i64 (C : Nat)) rfl; have v3 := BB.cell 3 (v := .slice (some ⟨b1, 0, none⟩) kk kk) rfl; have v4 := BB.cell 4 (v := .int .i64 (C : Nat)) rfl; have v5 := BB.cell 5 (v := .slice (some ⟨b2, 0, none⟩) kk kk) rfl; have kN := nextA ho bo st C kk h13 hb hs (by omega) Hkk.out (P y) (P (y + 1)) (P (y + 2)) a0 a1 a2 h0 h1 h2 b0 b1 b2 V2 (HS.out.1.kept gU) (HS.out.2.kept gU) HSb.out) | (go_at_call 31; refine kN.mono ?_; rintro e V3 ⟨z, rfl, rz, g4, lz⟩; clear kN; have gU3 := gb_trans gU g4; have kS := statesC C kk kk (some ⟨z, 0, none⟩) _ HMB.out V3 (tab_gx HTb.out (HG.out.trans (gx_none gU3)) hLT) (Row.wd rz)) | (go_at_call 62; refine kS.mono ?_; rintro e V4 ⟨d, rfl, rd, ld, g5⟩; clear kS; have gU4 := gb_trans gU3 g5; have kF := HF.out.lay _ y hlt (some ⟨d, 0, none⟩) C (fun x => oneB (ln ho bo st (P y) (P (y + 1)) (P (y + 2)) C x)) (fun x => Nat.lt_of_lt_of_le (oneB_le _) (by decide)) (fun x _ => oneB_le _) V4 (HF.out.grown HM.out gU4) (rowIs_by rd) (fun a ha hLa => by cases ha; have := Hlts.out d hLa; have := gU3.size; omega)) | (go_at_call 34; refine kF.mono ?_; rintro e V5 ⟨rfl, M5, ii, hLi, g6⟩; clear kF) | go_in)
      have hii := Hlts.out ii hLi
      have g45 := gb_trans g4 g5
      have B8w := (B8u.kept g45 (by simp)).kept g6 (fun e => by have e := Option.some.inj e; omega)
      have B9w := (B9u.kept g45 (by simp)).kept g6 (fun e => by have e := Option.some.inj e; omega)
      have hszU := gV1.size
      have hvV1 : V1.heap.size < V2.heap.size := by have := sz2.out; omega
      have BBw := (BB.kept g45 (by simp)).kept g6 (fun e => by have e := Option.some.inj e; omega)
      have BLw := (BLu.kept g45 (by simp)).kept g6 (fun e => by have e := Option.some.inj e; omega)
      clear B8u B9u BLu BB l0 l1 l2 x0 x1 x2 x3 x4 x5 u0 u1 u2 u3 u4 u5 v0 v1 v2 v3 v4 v5
      have x0 := B8w.cell 0 (v := .int .i64 (C : Nat)) rfl
      have x1 := B8w.cell 1 (v := .slice (some ⟨a0, 0, none⟩) kk kk) rfl
      have x2 := B8w.cell 2 (v := .int .i64 (C : Nat)) rfl
      have x3 := B8w.cell 3 (v := .slice (some ⟨a1, 0, none⟩) kk kk) rfl
      have x4 := B8w.cell 4 (v := .int .i64 (C : Nat)) rfl
      have x5 := B8w.cell 5 (v := .slice (some ⟨a2, 0, none⟩) kk kk) rfl
      have xf0 := B8w.frozen 0
      have xf1 := B8w.frozen 1
      have xf2 := B8w.frozen 2
      have xf3 := B8w.frozen 3
      have xf4 := B8w.frozen 4
      have xf5 := B8w.frozen 5
      have u0 := B9w.cell 0 (v := .int .i64 (C : Nat)) rfl
      have u1 := B9w.cell 1 (v := .slice (some ⟨h0, 0, none⟩) kk kk) rfl
      have u2 := B9w.cell 2 (v := .int .i64 (C : Nat)) rfl
      have u3 := B9w.cell 3 (v := .slice (some ⟨h1, 0, none⟩) kk kk) rfl
      have u4 := B9w.cell 4 (v := .int .i64 (C : Nat)) rfl
      have u5 := B9w.cell 5 (v := .slice (some ⟨h2, 0, none⟩) kk kk) rfl
      have uf0 := B9w.frozen 0
      have uf1 := B9w.frozen 1
      have uf2 := B9w.frozen 2
      have uf3 := B9w.frozen 3
      have uf4 := B9w.frozen 4
      have uf5 := B9w.frozen 5
      have v0 := BBw.cell 0 (v := .int .i64 (C : Nat)) rfl
      have v1 := BBw.cell 1 (v := .slice (some ⟨b0, 0, none⟩) kk kk) rfl
      have v2 := BBw.cell 2 (v := .int .i64 (C : Nat)) rfl
      have v3 := BBw.cell 3 (v := .slice (some ⟨b1, 0, none⟩) kk kk) rfl
      have v4 := BBw.cell 4 (v := .int .i64 (C : Nat)) rfl
      have v5 := BBw.cell 5 (v := .slice (some ⟨b2, 0, none⟩) kk kk) rfl
      have nb8 : V1.heap.size ≠ p8 := by have := B8.lt; omega
      have nb9 : V1.heap.size ≠ p9 := by have := B9.lt; omega
      have n98 : p9 ≠ p8 := e89.symm
      obtain ⟨X1, hX1⟩ : ∃ X1, ((((((V5.setCell ⟨p8, 0, none⟩ (.int .i64 (C : Nat))).setCell ⟨p8, 1, none⟩ (.slice (some ⟨h0, 0, none⟩) kk kk)).setCell ⟨p8, 2, none⟩ (.int .i64 (C : Nat))).setCell ⟨p8, 3, none⟩ (.slice (some ⟨h1, 0, none⟩) kk kk)).setCell ⟨p8, 4, none⟩ (.int .i64 (C : Nat))).setCell ⟨p8, 5, none⟩ (.slice (some ⟨h2, 0, none⟩) kk kk)) = X1 := ⟨_, rfl⟩
      have gX1 : V5.grownBy X1 (some p8) := hX1 ▸ gb_set (gb_set (gb_set (gb_set (gb_set (gb_set (World.grownBy.refl _ _) _ _) _ _) _ _) _ _) _ _) _ _
      have C8 : Bo X1 p8 77 #[.int .i64 (C : Nat), .slice (some ⟨h0, 0, none⟩) kk kk, .int .i64 (C : Nat), .slice (some ⟨h1, 0, none⟩) kk kk, .int .i64 (C : Nat), .slice (some ⟨h2, 0, none⟩) kk kk] := hX1 ▸ bo6 B8w _ _ _ _ _ _
      have C9 : Bo X1 p9 77 #[.int .i64 (C : Nat), .slice (some ⟨h0, 0, none⟩) kk kk, .int .i64 (C : Nat), .slice (some ⟨h1, 0, none⟩) kk kk, .int .i64 (C : Nat), .slice (some ⟨h2, 0, none⟩) kk kk] := B9w.kept gX1 (fun e => n98 (Option.some.inj e))
      obtain ⟨X2, hX2⟩ : ∃ X2, ((((((X1.setCell ⟨p9, 0, none⟩ (.int .i64 (C : Nat))).setCell ⟨p9, 1, none⟩ (.slice (some ⟨b0, 0, none⟩) kk kk)).setCell ⟨p9, 2, none⟩ (.int .i64 (C : Nat))).setCell ⟨p9, 3, none⟩ (.slice (some ⟨b1, 0, none⟩) kk kk)).setCell ⟨p9, 4, none⟩ (.int .i64 (C : Nat))).setCell ⟨p9, 5, none⟩ (.slice (some ⟨b2, 0, none⟩) kk kk)) = X2 := ⟨_, rfl⟩
      have gX2 : X1.grownBy X2 (some p9) := hX2 ▸ gb_set (gb_set (gb_set (gb_set (gb_set (gb_set (World.grownBy.refl _ _) _ _) _ _) _ _) _ _) _ _) _ _
      have D9 : Bo X2 p9 77 #[.int .i64 (C : Nat), .slice (some ⟨b0, 0, none⟩) kk kk, .int .i64 (C : Nat), .slice (some ⟨b1, 0, none⟩) kk kk, .int .i64 (C : Nat), .slice (some ⟨b2, 0, none⟩) kk kk] := hX2 ▸ bo6 C9 _ _ _ _ _ _
      have D8 : Bo X2 p8 77 #[.int .i64 (C : Nat), .slice (some ⟨h0, 0, none⟩) kk kk, .int .i64 (C : Nat), .slice (some ⟨h1, 0, none⟩) kk kk, .int .i64 (C : Nat), .slice (some ⟨h2, 0, none⟩) kk kk] := C8.kept gX2 (fun e => n98 (Option.some.inj e).symm)
      have gd : X2.grownBy X2.drew none := gb_drew (World.grownBy.refl _ none)
      have G6 : Gx L V4 V5 := Gx.of g6 (fun i e => by have e := Option.some.inj e; rw [← e]; exact hLi)
      have hlow : ∀ i, w.heap.size ≤ i → ¬ L i := fun i hi h => by have := Hlts.out i h; omega
      have HLo := HL.out
      have HSn : Hid (Sg X2.drew C kk (P (y + 1)) h0 h1 h2 ∧ Sg X2.drew C kk (P (y + 1 + 1)) b0 b1 b2) := ⟨((((HS.out.2.kept gU4).gx G6 (hlow _ (by omega)) (hlow _ (by omega)) (hlow _ (by omega))).far gX1 B8w).far gX2 C9).kept gd, ((((HSb.out.kept g45).gx G6 (hlow _ (by omega)) (hlow _ (by omega)) (hlow _ (by omega))).far gX1 B8w).far gX2 C9).kept gd⟩
      have HLn : Hid ((w.heap.size ≤ h0 ∧ w.heap.size ≤ h1 ∧ w.heap.size ≤ h2) ∧ (w.heap.size ≤ b0 ∧ w.heap.size ≤ b1 ∧ w.heap.size ≤ b2)) := by show _ ∧ _; omega
      have HMn : Hid (M (gy ho bo st C P g (y + 1)) X2.drew) := HF.out.grown (HF.out.kept _ _ _ _ (HF.out.kept _ _ _ _ (HF.out.congr _ _ _ M5 (fun j _ => gy_step ho bo st C c1 P g y j)) gX1 (fun i e => by have e := Option.some.inj e; rw [← e]; exact hlow _ (by omega))) gX2 (fun i e => by have e := Option.some.inj e; rw [← e]; exact hlow _ (by omega))) gd
      have HGn : Hid (Gx L w X2.drew) := ((((HG.out.trans (gx_none gU4)).trans G6).new gX1 (by omega)).new gX2 (by omega)).trans (gx_none gd)
      have BLn : Bo X2.drew w.heap.size 28 #[.int .u8 (ho : Nat), .int .u16 (bo : Nat), .int .u16 (st : Nat)] := ((BLw.kept gX1 (fun e => by have e := Option.some.inj e; omega)).kept gX2 (fun e => by have e := Option.some.inj e; omega)).kept gd (by simp)
      have D8d := D8.kept gd (by simp)
      have D9d := D9.kept gd (by simp)
      have k0 := C9.cell 0 (v := .int .i64 (C : Nat)) rfl
      have k1 := C9.cell 1 (v := .slice (some ⟨h0, 0, none⟩) kk kk) rfl
      have k2 := C9.cell 2 (v := .int .i64 (C : Nat)) rfl
      have k3 := C9.cell 3 (v := .slice (some ⟨h1, 0, none⟩) kk kk) rfl
      have k4 := C9.cell 4 (v := .int .i64 (C : Nat)) rfl
      have k5 := C9.cell 5 (v := .slice (some ⟨h2, 0, none⟩) kk kk) rfl
      have kf0 := C9.frozen 0
      have kf1 := C9.frozen 1
      have kf2 := C9.frozen 2
      have kf3 := C9.frozen 3
      have kf4 := C9.frozen 4
      have kf5 := C9.frozen 5
      have BBx := BBw.kept gX1 (fun e => nb8 (Option.some.inj e))
      have j0 := BBx.cell 0 (v := .int .i64 (C : Nat)) rfl
      have j1 := BBx.cell 1 (v := .slice (some ⟨b0, 0, none⟩) kk kk) rfl
      have j2 := BBx.cell 2 (v := .int .i64 (C : Nat)) rfl
      have j3 := BBx.cell 3 (v := .slice (some ⟨b1, 0, none⟩) kk kk) rfl
      have j4 := BBx.cell 4 (v := .int .i64 (C : Nat)) rfl
      have j5 := BBx.cell 5 (v := .slice (some ⟨b2, 0, none⟩) kk kk) rfl
      clear gX1 gX2 C8 C9 D8 D9 gd G6 hlow HLo HS HSb HL HM HG M5 BL B8 B9 BLw B8w B9w BBw BBx
      go_region
      try rw [hX1]
      try rw [hX2]
      go_wp2
      go_roundw
      case rel => exact ⟨y + 1, by omega, by go_num, h0, h1, h2, b0, b1, b2, D8d, D9d, HSn.out, HLn.out, HMn.out, HGn.out, BLn⟩
      case measure => simp [intOf]; omega
    · obtain rfl : y = R := by omega
      have hlt' : ¬ (y : Int) < (y : Int) := by omega
      go_wp2
      exact bodyPost_end (results_none rfl _ _ _) rfl ⟨rfl, HF.out.congr _ _ _ HM.out (fun j hj => by unfold gy; rw [if_pos (by rw [Nat.mul_comm]; exact hj)]), HG.out⟩
end Go.Proofs.YthjiiljglgmkpaaGreatDoor.Pd
