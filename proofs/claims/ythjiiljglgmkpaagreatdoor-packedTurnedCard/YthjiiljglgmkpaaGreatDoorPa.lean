/- packed.lay: a field's cells get their next states. -/
import Derived.Test.YthjiiljglgmkpaaGreatDoorP2
import Derived.Test.YthjiiljglgmkpaaGreatDoorKc
import Derived.Test.YthjiiljglgmkpaaGreatDoorLc
namespace Go.Proofs.YthjiiljglgmkpaaGreatDoor.Pd
open Go.RowKit
set_option linter.unusedVariables false
set_option linter.unusedSimpArgs false
set_option maxRecDepth 100000

/-- What is grown, and written in L alone. -/
structure Gx (L : Nat → Prop) (w w' : World) : Prop where
  os : w'.os = w.os
  tape : w'.tape = w.tape
  output : w'.output = w.output
  size : w.heap.size ≤ w'.heap.size
  block : ∀ i, i < w.heap.size → ¬ L i → w'.heap[i]? = w.heap[i]?
theorem Gx.of {L : Nat → Prop} {w w' : World} {o : Option Nat} (h : w.grownBy w' o) (ho : ∀ i, o = some i → L i) : Gx L w w' := ⟨h.os, h.tape, h.output, h.size, fun i hi hL => h.block i hi (fun e => hL (ho i e.symm))⟩
theorem gx_none {L : Nat → Prop} {w w' : World} (h : w.grownBy w' none) : Gx L w w' := Gx.of h (fun i e => by cases e)
theorem Gx.trans {L : Nat → Prop} {a b c : World} (h : Gx L a b) (k : Gx L b c) : Gx L a c := ⟨k.os.trans h.os, k.tape.trans h.tape, k.output.trans h.output, Nat.le_trans h.size k.size, fun i hi hL => (k.block i (Nat.lt_of_lt_of_le hi h.size) hL).trans (h.block i hi hL)⟩
theorem Gx.new {L : Nat → Prop} {a b c : World} {p : Nat} (h : Gx L a b) (k : b.grownBy c (some p)) (hp : a.heap.size ≤ p) : Gx L a c := ⟨k.os.trans h.os, k.tape.trans h.tape, k.output.trans h.output, Nat.le_trans h.size k.size, fun i hi hL => (k.block i (Nat.lt_of_lt_of_le hi h.size) (fun e => by have e := Option.some.inj e; omega)).trans (h.block i hi hL)⟩
theorem Gx.bo {L : Nat → Prop} {w w' : World} {b : Nat} {t : TypeId} {cs : Array Value} (h : Gx L w w') (hr : Bo w b t cs) (hb : ¬ L b) : Bo w' b t cs := (h.block b hr.lt hb).trans hr
theorem gx_heap {w w' : World} {b o : Nat} {v : Value} (h : w'.heap[b]? = w.heap[b]?) (hc : w.cell? ⟨b, o, none⟩ = some v) : w'.cell? ⟨b, o, none⟩ = some v := by
  unfold World.cell? at hc ⊢
  simp only at hc ⊢
  rw [h]
  exact hc
theorem Gx.cell {L : Nat → Prop} {w w' : World} {b o : Nat} {v : Value} (h : Gx L w w') (hc : w.cell? ⟨b, o, none⟩ = some v) (hb : ¬ L b) : w'.cell? ⟨b, o, none⟩ = some v := gx_heap (h.block b (cell_lt hc) hb) hc
theorem Gx.row {L : Nat → Prop} {w w' : World} {t : TypeId} {b n : Nat} {p : Nat → Bool} (h : Gx L w w') (hr : Row w t b n p) (hb : ¬ L b) : Row w' t b n p := by
  have hl := hr.lt
  obtain ⟨c, hc, h2⟩ := hr
  exact ⟨c, (h.block b hl hb).trans hc, h2⟩
theorem Gx.past {L : Nat → Prop} {a w w' : World} (G : a.grownBy w none) (h : Gx L w w') (hL : ∀ i, L i → a.heap.size ≤ i) : a.grownBy w' none :=
  ⟨h.os.trans G.os, h.tape.trans G.tape, h.output.trans G.output, Nat.le_trans G.size h.size, fun i hi _ => (h.block i (Nat.lt_of_lt_of_le hi G.size) (fun e => by have := hL i e; omega)).trans (G.block i hi (by simp))⟩
/-- A list of rows in memory. -/
structure Rw (w : World) (r q m k : Nat) (wb : Nat → Nat) (P : Nat → Nat → Bool) : Prop where
  n_ : ∀ i, i < q → w.cell? ⟨r, i * 2, none⟩ = some (.int .i64 (m : Nat))
  s_ : ∀ i, i < q → w.cell? ⟨r, i * 2 + 1, none⟩ = some (.slice (some ⟨wb i, 0, none⟩) k k)
  w_ : ∀ i, i < q → Row w 37 (wb i) k (P i)
theorem Rw.gx {L : Nat → Prop} {w w' : World} {r q m k : Nat} {wb : Nat → Nat} {P : Nat → Nat → Bool} (h : Rw w r q m k wb P) (G : Gx L w w') (h1 : ¬ L r) (h2 : ∀ i, i < q → ¬ L (wb i)) : Rw w' r q m k wb P :=
  ⟨fun i hi => G.cell (h.n_ i hi) h1, fun i hi => G.cell (h.s_ i hi) h1, fun i hi => G.row (h.w_ i hi) (h2 i hi)⟩
theorem Sg.gx {L : Nat → Prop} {w w' : World} {m k : Nat} {p : Nat → Bool} {b0 b1 b2 : Nat} (h : Sg w m k p b0 b1 b2) (G : Gx L w w') (h0 : ¬ L b0) (h1 : ¬ L b1) (h2 : ¬ L b2) : Sg w' m k p b0 b1 b2 := ⟨G.row h.r0 h0, G.row h.r1 h1, G.row h.r2 h2⟩
theorem tab_gx {L : Nat → Prop} {w w' : World} (h : Wo.Tab64 w) (G : Gx L w w') (hL : ¬ L 1) : Wo.Tab64 w' := fun j hj => G.cell (h j hj) hL
/-- The cells one generation later, by the rows. -/
def nxG (ho bo st C : Nat) (P : Nat → Nat → Bool) (j : Nat) : Nat := oneB (ln ho bo st (P (j / C)) (P (j / C + 1)) (P (j / C + 2)) C (j % C))
/-- While the rows are laid. -/
def gy (ho bo st C : Nat) (P : Nat → Nat → Bool) (g : Nat → Nat) (y j : Nat) : Nat := if j < y * C then nxG ho bo st C P j else g j
theorem oneB_le (b : Bool) : oneB b < 2 := by cases b <;> decide
theorem gy_step (ho bo st C : Nat) (hC : 1 ≤ C) (P : Nat → Nat → Bool) (g : Nat → Nat) (y j : Nat) : (if y * C ≤ j ∧ j < y * C + C then oneB (ln ho bo st (P y) (P (y + 1)) (P (y + 2)) C (j - y * C)) else gy ho bo st C P g y j) = gy ho bo st C P g (y + 1) j := by
  unfold gy
  have e0 : (y + 1) * C = y * C + C := Nat.succ_mul y C
  by_cases h1 : y * C ≤ j ∧ j < y * C + C
  · rw [if_pos h1, if_pos (by omega)]
    unfold nxG
    have hd : j / C = y := Nat.div_eq_of_lt_le h1.1 (by rw [e0]; exact h1.2)
    have hm : j % C = j - y * C := by
      have := Nat.div_add_mod j C
      rw [hd, Nat.mul_comm] at this
      omega
    rw [hd, hm]
  · rw [if_neg h1]
    by_cases h2 : j < y * C
    · rw [if_pos h2, if_pos (by omega)]
    · rw [if_neg h2, if_neg (by omega)]
theorem nextA (ho bo st m k : Nat) (h1 : 1 ≤ ho ∧ ho ≤ 3) (hb : bo < 65536) (hs : st < 65536) (hm : m ≤ 65538) (hk : k = (m + 63) / 64) (pa ph pb : Nat → Bool) (a0 a1 a2 h0 h1' h2 b0 b1 b2 : Nat) (w : World) (Sa : Sg w m k pa a0 a1 a2) (Sh : Sg w m k ph h0 h1' h2) (Sb : Sg w m k pb b0 b1 b2) :
    Calls Tryz.prog 31 #[.agg #[.int .u8 (ho : Nat), .int .u16 (bo : Nat), .int .u16 (st : Nat)], .agg #[.int .i64 (m : Nat), .slice (some ⟨a0, 0, none⟩) k k, .int .i64 (m : Nat), .slice (some ⟨a1, 0, none⟩) k k, .int .i64 (m : Nat), .slice (some ⟨a2, 0, none⟩) k k], .agg #[.int .i64 (m : Nat), .slice (some ⟨h0, 0, none⟩) k k, .int .i64 (m : Nat), .slice (some ⟨h1', 0, none⟩) k k, .int .i64 (m : Nat), .slice (some ⟨h2, 0, none⟩) k k], .agg #[.int .i64 (m : Nat), .slice (some ⟨b0, 0, none⟩) k k, .int .i64 (m : Nat), .slice (some ⟨b1, 0, none⟩) k k, .int .i64 (m : Nat), .slice (some ⟨b2, 0, none⟩) k k]] w fun e w' => ∃ z, e = .returned (.agg #[.int .i64 (m : Nat), .slice (some ⟨z, 0, none⟩) k k]) ∧ Row w' 37 z k (ln ho bo st pa ph pb m) ∧ w.grownBy w' none ∧ w.heap.size ≤ z := by
  rcases (show ho = 1 ∨ ho = 2 ∨ ho = 3 by omega) with rfl | rfl | rfl
  · exact next1 bo st m k hb hs hm hk pa ph pb a0 a1 a2 h0 h1' h2 b0 b1 b2 w Sa.r0 Sa.r1 Sa.r2 Sh.r0 Sh.r1 Sh.r2 Sb.r0 Sb.r1 Sb.r2
  · exact next2 bo st m k hb hs hm hk pa ph pb a0 a1 a2 h0 h1' h2 b0 b1 b2 w Sa.r0 Sa.r1 Sa.r2 Sh.r0 Sh.r1 Sh.r2 Sb.r0 Sb.r1 Sb.r2
  · exact next3 bo st m k hb hs hm hk pa ph pb a0 a1 a2 h0 h1' h2 b0 b1 b2 w Sa.r0 Sa.r1 Sa.r2 Sh.r0 Sh.r1 Sh.r2 Sb.r0 Sb.r1 Sb.r2
theorem region_cut {c : Code} {P : Program} {K : Act → World → Prop} {Q : Exit → Act → World → Prop} {a : Act} {w : World} (X : Act → World → Prop) (h : c.wp P (Exit.then X (fun _ _ _ => False)) a w) (hX : ∀ a w, X a w → K a w) : c.wp P (Exit.then K Q) a w := Code.wp_mono (fun e a w h => by cases e <;> first | exact hX _ _ h | exact h.elim) h
set_option maxHeartbeats 4000000 in
theorem layC {M : (Nat → Nat) → World → Prop} {L : Nat → Prop} {b C R : Nat} {pk : Bool} (F : FdX M L b C R 2 pk) (c1 : 1 ≤ C) (c2 : C ≤ 65536) (r2 : R ≤ 65536) (ho bo st : Nat) (h13 : 1 ≤ ho ∧ ho ≤ 3) (hb : bo < 65536) (hs : st < 65536) (r cq K : Nat) (wb : Nat → Nat) (P : Nat → Nat → Bool) (hP : ∀ i, i < R + 2 → MayBe (C + 2) K (P i)) (g : Nat → Nat) (w : World) (hM : M g w) (hT : Wo.Tab64 w) (hLT : ¬ L 1) (Hr : Rw w r (R + 2) (C + 2) K wb P) (hrL : ¬ L r) (hwL : ∀ i, i < R + 2 → ¬ L (wb i)) :
    Calls Tryz.prog 29 #[.pointer (some ⟨b, 0, none⟩), .agg #[.int .u8 (ho : Nat), .int .u16 (bo : Nat), .int .u16 (st : Nat)], .slice (some ⟨r, 0, none⟩) (R + 2) cq] w fun e w' => e = .returned (.tuple #[]) ∧ M (nxG ho bo st C P) w' ∧ Gx L w w' := by
  obtain ⟨kk, hkk⟩ : ∃ kk, kk = (C + 63) / 64 := ⟨_, rfl⟩
  have Hkk : Hid (kk = (C + 63) / 64) := hkk
  have hlts := F.lts g w hM
  obtain ⟨W1, hW1, sz1, g1, B1⟩ := boxn w #[.int .u8 (ho : Nat), .int .u16 (bo : Nat), .int .u16 (st : Nat)] 28
  have hlook : ∀ i, i < R + 2 → ∀ v, Gx L w v → Calls Tryz.prog 32 #[.agg #[.int .i64 ((C + 2 : Nat) : Int), .slice (some ⟨wb i, 0, none⟩) K K]] v fun e w' => ∃ b0 b1 b2, e = .returned (.agg #[.int .i64 (C : Nat), .slice (some ⟨b0, 0, none⟩) kk kk, .int .i64 (C : Nat), .slice (some ⟨b1, 0, none⟩) kk kk, .int .i64 (C : Nat), .slice (some ⟨b2, 0, none⟩) kk kk]) ∧ Row w' 37 b0 kk (fr (P i) C 0) ∧ Row w' 37 b1 kk (fr (P i) C 1) ∧ Row w' 37 b2 kk (fr (P i) C 2) ∧ v.grownBy w' none ∧ v.heap.size ≤ b0 ∧ v.heap.size ≤ b1 ∧ v.heap.size ≤ b2 := fun i hi v G => by
    have := lookAtC (C + 2) K K (some ⟨wb i, 0, none⟩) (P i) (hP i hi) (by omega) v (Row.wd (G.row (Hr.w_ i hi) (hwL i hi)))
    rw [show C + 2 - 2 = C by omega, ← hkk] at this
    exact this
  have hCl : Cl W1 r (R + 2) (wb 0) (wb 1) C kk K (P 0) (P 1) := ⟨by omega, ⟨g1.cell (Hr.n_ 0 (by omega)) (by simp), g1.cell (Hr.s_ 0 (by omega)) (by simp), g1.cell (Hr.n_ 1 (by omega)) (by simp), g1.cell (Hr.s_ 1 (by omega)) (by simp)⟩, fun v G => hlook 0 (by omega) v (gx_none (gb_trans g1 G)), fun v G => hlook 1 (by omega) v (gx_none (gb_trans g1 G))⟩
  clear hkk
  go_enter Tryz.func29, Tryz.ntmps29
  go_wp2
  refine region_cut _ (looks2 hCl) ?_
  rintro a' V ⟨p8, p9, a0, a1, a2, h0, h1, h2, rfl, C8, C9, Sa, Sh, GV, q8, q9, e89, la, lh⟩
  have hW1 : w.heap.size < W1.heap.size := by have := sz1.out; omega
  have hHI := F.high g V (F.grown hM (gb_trans g1 GV))
  go_wp2_with (go_at_call 43; refine hHI.mono ?_; rintro e V2 ⟨rfl, g3⟩)
  have HS0 : Hid (Sg V2 C kk (P 0) a0 a1 a2 ∧ Sg V2 C kk (P 1) h0 h1 h2) := ⟨Sa.kept g3, Sh.kept g3⟩
  have HL0 : Hid ((w.heap.size ≤ a0 ∧ w.heap.size ≤ a1 ∧ w.heap.size ≤ a2) ∧ (w.heap.size ≤ h0 ∧ w.heap.size ≤ h1 ∧ w.heap.size ≤ h2)) := by show _ ∧ _; omega
  have HM0 : Hid (M g V2) := F.grown (F.grown hM (gb_trans g1 GV)) g3
  have HG0 : Hid (Gx L w V2) := gx_none (gb_trans (gb_trans g1 GV) g3)
  have HB0 : Hid (Bo V2 w.heap.size 28 #[.int .u8 (ho : Nat), .int .u16 (bo : Nat), .int .u16 (st : Nat)]) := (B1.kept GV (by simp)).kept g3 (by simp)
  have H8 := C8.kept g3 (by simp)
  have H9 := C9.kept g3 (by simp)
  have HF : Hid (FdX M L b C R 2 pk) := F
  have Hlts : Hid (∀ i, L i → i < w.heap.size) := hlts
  have Hlook := hlook
  have HR : Hid (Rw w r (R + 2) (C + 2) K wb P) := Hr
  have HTb : Hid (Wo.Tab64 w) := hT
  have HrL : Hid (¬ L r ∧ ∀ i, i < R + 2 → ¬ L (wb i)) := ⟨hrL, hwL⟩
  have hp8 : w.heap.size < p8 := by omega
  have hp9 : w.heap.size < p9 := by omega
  clear Sa Sh la lh hM B1 F hlts Hr hT hrL hwL hlook hCl GV C8 C9 g3 g1 sz1 q8 q9 hHI hP
  go_loopw [20] (fun i wr => ∃ (y : Nat), y ≤ R ∧ i = .int .i64 (y : Nat) ∧ ∃ a0 a1 a2 h0 h1 h2 : Nat, Bo wr p8 77 #[.int .i64 (C : Nat), .slice (some ⟨a0, 0, none⟩) kk kk, .int .i64 (C : Nat), .slice (some ⟨a1, 0, none⟩) kk kk, .int .i64 (C : Nat), .slice (some ⟨a2, 0, none⟩) kk kk] ∧ Bo wr p9 77 #[.int .i64 (C : Nat), .slice (some ⟨h0, 0, none⟩) kk kk, .int .i64 (C : Nat), .slice (some ⟨h1, 0, none⟩) kk kk, .int .i64 (C : Nat), .slice (some ⟨h2, 0, none⟩) kk kk] ∧ Hid (Sg wr C kk (P y) a0 a1 a2 ∧ Sg wr C kk (P (y + 1)) h0 h1 h2) ∧ Hid ((w.heap.size ≤ a0 ∧ w.heap.size ≤ a1 ∧ w.heap.size ≤ a2) ∧ (w.heap.size ≤ h0 ∧ w.heap.size ≤ h1 ∧ w.heap.size ≤ h2)) ∧ Hid (M (gy ho bo st C P g y) wr) ∧ Hid (Gx L w wr) ∧ Bo wr w.heap.size 28 #[.int .u8 (ho : Nat), .int .u16 (bo : Nat), .int .u16 (st : Nat)]) (fun i _ => R - (intOf i).toNat)
  case atStart => exact ⟨0, Nat.zero_le _, rfl, a0, a1, a2, h0, h1, h2, H8, H9, HS0.out, HL0.out, HF.out.congr _ _ _ HM0.out (fun j _ => by unfold gy; rw [if_neg (by omega)]), HG0.out, HB0.out⟩
  case round =>
    clear HS0 HL0 HM0 HG0 HB0 H8 H9
    obtain ⟨y, hy, rfl, a0, a1, a2, h0, h1, h2, B8, B9, HS, HL, HM, HG, BL⟩ := hrel
    obtain ⟨U, hU⟩ : ∃ U, U = wr := ⟨_, rfl⟩
    subst hU
    by_cases hlt : y < R
    · have hlt' : (y : Int) < (R : Int) := by omega
      have hR2 : (y : Int) + 2 < ((R + 2 : Nat) : Int) := by omega
      have hR3 : (y : Int) + 2 < (R : Int) + 2 := by omega
      have r0 := HG.out.cell (HR.out.n_ (y + 2) (by omega)) HrL.out.1
      have r1 := HG.out.cell (HR.out.s_ (y + 2) (by omega)) HrL.out.1
      have kL := Hlook (y + 2) (by omega) U HG.out
      have hy2 : ((y : Int) + 2).toNat = y + 2 := by omega
      have hwy : IntKind.i64.wrap ((y : Int) + 2) = (y : Int) + 2 := by rw [IntKind.wrap_i64]; omega
      have hlsz := HG.out.size
      have HMB : Hid (MayBe C kk (ln ho bo st (P y) (P (y + 1)) (P (y + 2)) C)) := ⟨by omega, Hkk.out, fun i hi => ln_off _ _ _ _ _ _ _ _ (by omega)⟩
      clear Hlook
      go_wp2_with (first | (go_at_call 32; refine kL.mono ?_; rintro e V1 ⟨b0, b1, b2, rfl, s0, s1, s2, gV1, n0, n1, n2⟩; clear kL; obtain ⟨V2, hV2, sz2, gB, BB⟩ := boxn V1 #[.int .i64 (C : Nat), .slice (some ⟨b0, 0, none⟩) kk kk, .int .i64 (C : Nat), .slice (some ⟨b1, 0, none⟩) kk kk, .int .i64 (C : Nat), .slice (some ⟨b2, 0, none⟩) kk kk] 77; have HSb : Hid (Sg V2 C kk (P (y + 2)) b0 b1 b2) := Sg.kept ⟨s0, s1, s2⟩ gB; clear s0 s1 s2; have gU := gb_trans gV1 gB; have B8u := B8.kept gU (by simp); have B9u := B9.kept gU (by simp); have BLu := BL.kept gU (by simp); have l0 := BLu.cell 0 (v := .int .u8 (ho : Nat)) rfl; have l1 := BLu.cell 1 (v := .int .u16 (bo : Nat)) rfl; have l2 := BLu.cell 2 (v := .int .u16 (st : Nat)) rfl; have x0 := B8u.cell 0 (v := .int .i64 (C : Nat)) rfl; have x1 := B8u.cell 1 (v := .slice (some ⟨a0, 0, none⟩) kk kk) rfl; have x2 := B8u.cell 2 (v := .int .i64 (C : Nat)) rfl; have x3 := B8u.cell 3 (v := .slice (some ⟨a1, 0, none⟩) kk kk) rfl; have x4 := B8u.cell 4 (v := .int .i64 (C : Nat)) rfl; have x5 := B8u.cell 5 (v := .slice (some ⟨a2, 0, none⟩) kk kk) rfl; have u0 := B9u.cell 0 (v := .int .i64 (C : Nat)) rfl; have u1 := B9u.cell 1 (v := .slice (some ⟨h0, 0, none⟩) kk kk) rfl; have u2 := B9u.cell 2 (v := .int .i64 (C : Nat)) rfl; have u3 := B9u.cell 3 (v := .slice (some ⟨h1, 0, none⟩) kk kk) rfl; have u4 := B9u.cell 4 (v := .int .i64 (C : Nat)) rfl; have u5 := B9u.cell 5 (v := .slice (some ⟨h2, 0, none⟩) kk kk) rfl; have v0 := BB.cell 0 (v := .int .i64 (C : Nat)) rfl; have v1 := BB.cell 1 (v := .slice (some ⟨b0, 0, none⟩) kk kk) rfl; have v2 := BB.cell 2 (v := .int .i64 (C : Nat)) rfl; have v3 := BB.cell 3 (v := .slice (some ⟨b1, 0, none⟩) kk kk) rfl; have v4 := BB.cell 4 (v := .int .i64 (C : Nat)) rfl; have v5 := BB.cell 5 (v := .slice (some ⟨b2, 0, none⟩) kk kk) rfl; have kN := nextA ho bo st C kk h13 hb hs (by omega) Hkk.out (P y) (P (y + 1)) (P (y + 2)) a0 a1 a2 h0 h1 h2 b0 b1 b2 V2 (HS.out.1.kept gU) (HS.out.2.kept gU) HSb.out) | (go_at_call 31; refine kN.mono ?_; rintro e V3 ⟨z, rfl, rz, g4, lz⟩; clear kN; have gU3 := gb_trans gU g4; have kS := statesC C kk kk (some ⟨z, 0, none⟩) _ HMB.out V3 (tab_gx HTb.out (HG.out.trans (gx_none gU3)) hLT) (Row.wd rz)) | (go_at_call 62; refine kS.mono ?_; rintro e V4 ⟨d, rfl, rd, ld, g5⟩; clear kS; have gU4 := gb_trans gU3 g5; have kF := HF.out.lay _ y hlt (some ⟨d, 0, none⟩) C (fun x => oneB (ln ho bo st (P y) (P (y + 1)) (P (y + 2)) C x)) (fun x => Nat.lt_of_lt_of_le (oneB_le _) (by decide)) (fun x _ => oneB_le _) V4 (HF.out.grown HM.out gU4) (rowIs_by rd) (fun a ha hLa => by cases ha; have := Hlts.out d hLa; have := gU3.size; omega)) | (go_at_call 34; refine kF.mono ?_; rintro e V5 ⟨rfl, M5, ii, hLi, g6⟩; clear kF) | go_in)
      have hii := Hlts.out ii hLi
      have g45 := gb_trans g4 g5
      have B8w := (B8u.kept g45 (by simp)).kept g6 (fun e => by have e := Option.some.inj e; omega)
      have B9w := (B9u.kept g45 (by simp)).kept g6 (fun e => by have e := Option.some.inj e; omega)
      have hszU := gV1.size
      have hvV1 : V1.heap.size < V2.heap.size := by have := sz2.out; omega
      have BBw := (BB.kept g45 (by simp)).kept g6 (fun e => by have e := Option.some.inj e; omega)
      have BLw := (BLu.kept g45 (by simp)).kept g6 (fun e => by have e := Option.some.inj e; omega)
      clear B8u B9u BLu BB l0 l1 l2 x0 x1 x2 x3 x4 x5 u0 u1 u2 u3 u4 u5 v0 v1 v2 v3 v4 v5
      have x0 := B8w.cell 0 (v := .int .i64 (C : Nat)) rfl
      have x1 := B8w.cell 1 (v := .slice (some ⟨a0, 0, none⟩) kk kk) rfl
      have x2 := B8w.cell 2 (v := .int .i64 (C : Nat)) rfl
      have x3 := B8w.cell 3 (v := .slice (some ⟨a1, 0, none⟩) kk kk) rfl
      have x4 := B8w.cell 4 (v := .int .i64 (C : Nat)) rfl
      have x5 := B8w.cell 5 (v := .slice (some ⟨a2, 0, none⟩) kk kk) rfl
      have xf0 := B8w.frozen 0
      have xf1 := B8w.frozen 1
      have xf2 := B8w.frozen 2
      have xf3 := B8w.frozen 3
      have xf4 := B8w.frozen 4
      have xf5 := B8w.frozen 5
      have u0 := B9w.cell 0 (v := .int .i64 (C : Nat)) rfl
      have u1 := B9w.cell 1 (v := .slice (some ⟨h0, 0, none⟩) kk kk) rfl
      have u2 := B9w.cell 2 (v := .int .i64 (C : Nat)) rfl
      have u3 := B9w.cell 3 (v := .slice (some ⟨h1, 0, none⟩) kk kk) rfl
      have u4 := B9w.cell 4 (v := .int .i64 (C : Nat)) rfl
      have u5 := B9w.cell 5 (v := .slice (some ⟨h2, 0, none⟩) kk kk) rfl
      have uf0 := B9w.frozen 0
      have uf1 := B9w.frozen 1
      have uf2 := B9w.frozen 2
      have uf3 := B9w.frozen 3
      have uf4 := B9w.frozen 4
      have uf5 := B9w.frozen 5
      have v0 := BBw.cell 0 (v := .int .i64 (C : Nat)) rfl
      have v1 := BBw.cell 1 (v := .slice (some ⟨b0, 0, none⟩) kk kk) rfl
      have v2 := BBw.cell 2 (v := .int .i64 (C : Nat)) rfl
      have v3 := BBw.cell 3 (v := .slice (some ⟨b1, 0, none⟩) kk kk) rfl
      have v4 := BBw.cell 4 (v := .int .i64 (C : Nat)) rfl
      have v5 := BBw.cell 5 (v := .slice (some ⟨b2, 0, none⟩) kk kk) rfl
      have nb8 : V1.heap.size ≠ p8 := by have := B8.lt; omega
      have nb9 : V1.heap.size ≠ p9 := by have := B9.lt; omega
      have n98 : p9 ≠ p8 := e89.symm
      obtain ⟨X1, hX1⟩ : ∃ X1, ((((((V5.setCell ⟨p8, 0, none⟩ (.int .i64 (C : Nat))).setCell ⟨p8, 1, none⟩ (.slice (some ⟨h0, 0, none⟩) kk kk)).setCell ⟨p8, 2, none⟩ (.int .i64 (C : Nat))).setCell ⟨p8, 3, none⟩ (.slice (some ⟨h1, 0, none⟩) kk kk)).setCell ⟨p8, 4, none⟩ (.int .i64 (C : Nat))).setCell ⟨p8, 5, none⟩ (.slice (some ⟨h2, 0, none⟩) kk kk)) = X1 := ⟨_, rfl⟩
      have gX1 : V5.grownBy X1 (some p8) := hX1 ▸ gb_set (gb_set (gb_set (gb_set (gb_set (gb_set (World.grownBy.refl _ _) _ _) _ _) _ _) _ _) _ _) _ _
      have C8 : Bo X1 p8 77 #[.int .i64 (C : Nat), .slice (some ⟨h0, 0, none⟩) kk kk, .int .i64 (C : Nat), .slice (some ⟨h1, 0, none⟩) kk kk, .int .i64 (C : Nat), .slice (some ⟨h2, 0, none⟩) kk kk] := hX1 ▸ bo6 B8w _ _ _ _ _ _
      have C9 : Bo X1 p9 77 #[.int .i64 (C : Nat), .slice (some ⟨h0, 0, none⟩) kk kk, .int .i64 (C : Nat), .slice (some ⟨h1, 0, none⟩) kk kk, .int .i64 (C : Nat), .slice (some ⟨h2, 0, none⟩) kk kk] := B9w.kept gX1 (fun e => n98 (Option.some.inj e))
      obtain ⟨X2, hX2⟩ : ∃ X2, ((((((X1.setCell ⟨p9, 0, none⟩ (.int .i64 (C : Nat))).setCell ⟨p9, 1, none⟩ (.slice (some ⟨b0, 0, none⟩) kk kk)).setCell ⟨p9, 2, none⟩ (.int .i64 (C : Nat))).setCell ⟨p9, 3, none⟩ (.slice (some ⟨b1, 0, none⟩) kk kk)).setCell ⟨p9, 4, none⟩ (.int .i64 (C : Nat))).setCell ⟨p9, 5, none⟩ (.slice (some ⟨b2, 0, none⟩) kk kk)) = X2 := ⟨_, rfl⟩
      have gX2 : X1.grownBy X2 (some p9) := hX2 ▸ gb_set (gb_set (gb_set (gb_set (gb_set (gb_set (World.grownBy.refl _ _) _ _) _ _) _ _) _ _) _ _) _ _
      have D9 : Bo X2 p9 77 #[.int .i64 (C : Nat), .slice (some ⟨b0, 0, none⟩) kk kk, .int .i64 (C : Nat), .slice (some ⟨b1, 0, none⟩) kk kk, .int .i64 (C : Nat), .slice (some ⟨b2, 0, none⟩) kk kk] := hX2 ▸ bo6 C9 _ _ _ _ _ _
      have D8 : Bo X2 p8 77 #[.int .i64 (C : Nat), .slice (some ⟨h0, 0, none⟩) kk kk, .int .i64 (C : Nat), .slice (some ⟨h1, 0, none⟩) kk kk, .int .i64 (C : Nat), .slice (some ⟨h2, 0, none⟩) kk kk] := C8.kept gX2 (fun e => n98 (Option.some.inj e).symm)
      have gd : X2.grownBy X2.drew none := gb_drew (World.grownBy.refl _ none)
      have G6 : Gx L V4 V5 := Gx.of g6 (fun i e => by have e := Option.some.inj e; rw [← e]; exact hLi)
      have hlow : ∀ i, w.heap.size ≤ i → ¬ L i := fun i hi h => by have := Hlts.out i h; omega
      have HLo := HL.out
      have HSn : Hid (Sg X2.drew C kk (P (y + 1)) h0 h1 h2 ∧ Sg X2.drew C kk (P (y + 1 + 1)) b0 b1 b2) := ⟨((((HS.out.2.kept gU4).gx G6 (hlow _ (by omega)) (hlow _ (by omega)) (hlow _ (by omega))).far gX1 B8w).far gX2 C9).kept gd, ((((HSb.out.kept g45).gx G6 (hlow _ (by omega)) (hlow _ (by omega)) (hlow _ (by omega))).far gX1 B8w).far gX2 C9).kept gd⟩
      have HLn : Hid ((w.heap.size ≤ h0 ∧ w.heap.size ≤ h1 ∧ w.heap.size ≤ h2) ∧ (w.heap.size ≤ b0 ∧ w.heap.size ≤ b1 ∧ w.heap.size ≤ b2)) := by show _ ∧ _; omega
      have HMn : Hid (M (gy ho bo st C P g (y + 1)) X2.drew) := HF.out.grown (HF.out.kept _ _ _ _ (HF.out.kept _ _ _ _ (HF.out.congr _ _ _ M5 (fun j _ => gy_step ho bo st C c1 P g y j)) gX1 (fun i e => by have e := Option.some.inj e; rw [← e]; exact hlow _ (by omega))) gX2 (fun i e => by have e := Option.some.inj e; rw [← e]; exact hlow _ (by omega))) gd
      have HGn : Hid (Gx L w X2.drew) := ((((HG.out.trans (gx_none gU4)).trans G6).new gX1 (by omega)).new gX2 (by omega)).trans (gx_none gd)
      have BLn : Bo X2.drew w.heap.size 28 #[.int .u8 (ho : Nat), .int .u16 (bo : Nat), .int .u16 (st : Nat)] := ((BLw.kept gX1 (fun e => by have e := Option.some.inj e; omega)).kept gX2 (fun e => by have e := Option.some.inj e; omega)).kept gd (by simp)
      have D8d := D8.kept gd (by simp)
      have D9d := D9.kept gd (by simp)
      have k0 := C9.cell 0 (v := .int .i64 (C : Nat)) rfl
      have k1 := C9.cell 1 (v := .slice (some ⟨h0, 0, none⟩) kk kk) rfl
      have k2 := C9.cell 2 (v := .int .i64 (C : Nat)) rfl
      have k3 := C9.cell 3 (v := .slice (some ⟨h1, 0, none⟩) kk kk) rfl
      have k4 := C9.cell 4 (v := .int .i64 (C : Nat)) rfl
      have k5 := C9.cell 5 (v := .slice (some ⟨h2, 0, none⟩) kk kk) rfl
      have kf0 := C9.frozen 0
      have kf1 := C9.frozen 1
      have kf2 := C9.frozen 2
      have kf3 := C9.frozen 3
      have kf4 := C9.frozen 4
      have kf5 := C9.frozen 5
      have BBx := BBw.kept gX1 (fun e => nb8 (Option.some.inj e))
      have j0 := BBx.cell 0 (v := .int .i64 (C : Nat)) rfl
      have j1 := BBx.cell 1 (v := .slice (some ⟨b0, 0, none⟩) kk kk) rfl
      have j2 := BBx.cell 2 (v := .int .i64 (C : Nat)) rfl
      have j3 := BBx.cell 3 (v := .slice (some ⟨b1, 0, none⟩) kk kk) rfl
      have j4 := BBx.cell 4 (v := .int .i64 (C : Nat)) rfl
      have j5 := BBx.cell 5 (v := .slice (some ⟨b2, 0, none⟩) kk kk) rfl
      clear gX1 gX2 C8 C9 D8 D9 gd G6 hlow HLo HS HSb HL HM HG M5 BL B8 B9 BLw B8w B9w BBw BBx
      go_region
      try rw [hX1]
      try rw [hX2]
      go_wp2
      go_roundw
      case rel => exact ⟨y + 1, by omega, by go_num, h0, h1, h2, b0, b1, b2, D8d, D9d, HSn.out, HLn.out, HMn.out, HGn.out, BLn⟩
      case measure => simp [intOf]; omega
    · obtain rfl : y = R := by omega
      have hlt' : ¬ (y : Int) < (y : Int) := by omega
      go_wp2
      exact bodyPost_end (results_none rfl _ _ _) rfl ⟨rfl, HF.out.congr _ _ _ HM.out (fun j hj => by unfold gy; rw [if_pos (by rw [Nat.mul_comm]; exact hj)]), HG.out⟩
end Go.Proofs.YthjiiljglgmkpaaGreatDoor.Pd
namespace Go.Proofs.YthjiiljglgmkpaaGreatDoor.Pd
open Go.RowKit
set_option linter.unusedVariables false
set_option linter.unusedSimpArgs false
set_option maxRecDepth 100000

/-- What ring.Rows tells. -/
def rwE (k x y t z : Int) (C R S : Nat) : Int := if ¬ cgE k x y t z C R = 0 then cgE k x y t z C R else if 2 < S then 132 else 0
/-- What is wrong with a run. -/
def bgE (ho bo st : Nat) (k x y t z : Int) (C R S : Nat) (n : Int) : Int := if ¬ Lf.ck ho bo st = 0 then 8 else if rwE k x y t z C R S = 9 then 9 else if n < 0 then 2 else if 1125899906842624 < n then 5 else if ¬ rwE k x y t z C R S = 0 then rwE k x y t z C R S else if (67108864 : Int) / ((C * R : Nat) : Int) < n then 4 else 0
theorem rwE_zero {k x y t z : Int} {C R S : Nat} (h : rwE k x y t z C R S = 0) : cgE k x y t z C R = 0 ∧ ¬ 2 < S := by
  unfold rwE at h
  by_cases h1 : cgE k x y t z C R = 0
  · rw [if_neg (by simp [h1])] at h
    refine ⟨h1, fun h2 => ?_⟩
    rw [if_pos h2] at h
    cases h
  · rw [if_pos h1] at h
    exact absurd h h1
theorem cgE_zero {k x y t z : Int} {C R : Nat} (ht : 0 ≤ t) (hC : 0 < C) (hR : 0 < R) (h : cgE k x y t z C R = 0) : x = C ∧ y = R ∧ Gr k t z C R := by
  unfold cgE at h
  by_cases h1 : Tp.chk k x y t z = 0
  · rw [if_neg (by simp [h1])] at h
    by_cases h2 : x = 0 ∨ y = 0
    · rw [if_pos h2] at h; cases h
    · rw [if_neg h2] at h
      by_cases h3 : x = C ∧ y = R
      · exact ⟨h3.1, h3.2, by rw [← h3.1, ← h3.2]; exact h1, ht, hC, hR⟩
      · rw [if_pos h3] at h; cases h
  · rw [if_pos h1] at h; cases h
/-- ring.Rows of every topology: its error, and rows or none. -/
theorem rowsAny {M : World → Prop} {n0 b C R S : Nat} {g : Nat → Nat} (F : FdM M n0 b C R S g) (hz : Sz C R S) (h256 : ∀ i, g i < 256) (k x y t z : Int) (ht : 0 ≤ t) (w : World) (hn0 : n0 ≤ w.heap.size) (hM : M w) :
    Calls Tryz.prog 28 #[.agg #[.int .u8 k, .int .i64 x, .int .i64 y, .int .u8 t, .int .i64 z], .pointer (some ⟨b, 0, none⟩)] w fun e w' => ∃ v, e = .returned (.tuple #[v, .int .i64 (rwE k x y t z C R S)]) ∧ w.grownBy w' none := by
  unfold rwE
  by_cases h1 : cgE k x y t z C R = 0
  · rw [if_neg (by simp [h1])]
    obtain ⟨rfl, rfl, G⟩ := cgE_zero ht hz.c0 hz.r0 h1
    by_cases h2 : 2 < S
    · rw [if_pos h2]
      exact (rowsP G F h2 w hM).mono (fun e w' h => ⟨_, h.1, h.2⟩)
    · rw [if_neg h2]
      refine (rowsY G hz.all F h256 (by omega) w hn0 hM).mono ?_
      rintro e w' ⟨rb, wb, he, _, _, _, _, hg⟩
      exact ⟨_, he, hg⟩
  · rw [if_pos h1]
    exact (rowsX k x y t z _ _ w (by simpa using h1) (fun w' hg => checkGridC F hz.c0 k x y t z ht w' (F.grown hM hg))).mono (fun e w' h => ⟨_, h.1, h.2⟩)
set_option maxHeartbeats 2000000 in
/-- A field that is none. -/
theorem beginNone (ho bo st k x y t z n : Int) (p : Option Addr) (w : World) (hp : Nf w p) :
    Calls Tryz.prog 25 #[.agg #[.int .u8 (ho), .int .u16 (bo), .int .u16 (st)], .agg #[.int .u8 k, .int .i64 x, .int .i64 y, .int .u8 t, .int .i64 z], .pointer p, .int .i64 n] w fun e w' => e = .returned (.tuple #[.slice none 0 0, .int .i64 1]) ∧ w.grownBy w' none := by
  obtain ⟨W1, hW1, sz1, g1, B1⟩ := boxn w #[.int .u8 (ho), .int .u16 (bo), .int .u16 (st)] 28
  obtain ⟨W2, hW2, sz2, g2, B2⟩ := boxn W1 #[.int .u8 k, .int .i64 x, .int .i64 y, .int .u8 t, .int .i64 z] 30
  have hp2 : Nf W2 p := by
    rcases hp with h | ⟨b, h, B⟩
    · exact .inl h
    · exact .inr ⟨b, h, (B.kept g1 (by simp)).kept g2 (by simp)⟩
  have kW := noneW p W2 hp2
  clear hp hp2
  go_enter Tryz.func25, Tryz.ntmps25
  go_wp2_with (first | (go_at_call 42; refine kW.mono ?_; rintro e V3 ⟨rfl, hV3⟩; subst V3))
  go_ret2
  exact ⟨rfl, gb_trans g1 g2⟩
set_option maxHeartbeats 4000000 in
/-- Where something is wrong. -/
theorem beginN {M : World → Prop} {n0 b C R S : Nat} {g : Nat → Nat} (F : FdM M n0 b C R S g) (hz : Sz C R S) (h256 : ∀ i, g i < 256) (ho bo st : Nat) (hh : ho < 256) (hb : bo < 65536) (hs : st < 65536) (k x y t z n : Int) (ht : 0 ≤ t) (w : World) (hn0 : n0 ≤ w.heap.size) (hM : M w) (hv : Hid (Hv w)) (hE : ¬ bgE ho bo st k x y t z C R S n = 0) :
    Calls Tryz.prog 25 #[.agg #[.int .u8 (ho : Nat), .int .u16 (bo : Nat), .int .u16 (st : Nat)], .agg #[.int .u8 k, .int .i64 x, .int .i64 y, .int .u8 t, .int .i64 z], .pointer (some ⟨b, 0, none⟩), .int .i64 n] w fun e w' => e = .returned (.tuple #[.slice none 0 0, .int .i64 (bgE ho bo st k x y t z C R S n)]) ∧ w.grownBy w' none := by
  obtain ⟨W1, hW1, sz1, g1, B1⟩ := boxn w #[.int .u8 (ho : Nat), .int .u16 (bo : Nat), .int .u16 (st : Nat)] 28
  obtain ⟨W2, hW2, sz2, g2, B2⟩ := boxn W1 #[.int .u8 k, .int .i64 x, .int .i64 y, .int .u8 t, .int .i64 z] 30
  have G2 := gb_trans g1 g2
  have kW := F.wide W2 (F.grown hM G2)
  have hC0 : ¬ (C : Int) = 0 := by have := hz.c0; omega
  have hC1 : ((C : Int) == 0) = false := by simpa using hC0
  have hck := fun v hv => lifeCk ho bo st hh hb hs v hv
  have hrow := fun v (hg : w.grownBy v none) => rowsAny F hz h256 k x y t z ht v (Nat.le_trans hn0 hg.size) (F.grown hM hg)
  have hxy : rwE k x y t z C R S = 0 → x = C ∧ y = R := fun h => by
    obtain ⟨h1, _, _⟩ := cgE_zero ht hz.c0 hz.r0 (rwE_zero h).1
    exact ⟨h1, ‹_›⟩
  have hcr1 : C * R ≤ 1048576 := hz.all
  have hcr0 : 0 < C * R := Nat.mul_pos hz.c0 hz.r0
  unfold bgE at hE ⊢
  obtain ⟨E, hEe⟩ : ∃ E, rwE k x y t z C R S = E := ⟨_, rfl⟩
  rw [hEe] at hrow hE hxy
  rw [hEe]
  clear hEe F h256 hM hn0
  by_cases h1 : ¬ Lf.ck ho bo st = 0
  · rw [if_pos h1]
    clear hE hxy
    have hckn : ((Lf.ck ho bo st : Nat) : Int) ≠ 0 := by omega
    generalize ((Lf.ck ho bo st : Nat) : Int) = cv at hck hckn
    have hck1 : (cv != 0) = true := by simpa using hckn
    go_enter Tryz.func25, Tryz.ntmps25
    go_wp2_with (first | (go_at_call 42; refine kW.mono ?_; rintro e V3 ⟨rfl, g3⟩; have L3 := (B1.kept g2 (by simp)).kept g3 (by simp); have l0 := L3.cell 0 (v := .int .u8 (ho : Nat)) rfl; have l1 := L3.cell 1 (v := .int .u16 (bo : Nat)) rfl; have l2 := L3.cell 2 (v := .int .u16 (st : Nat)) rfl; have kC := hck V3 (hvK (hvK hv G2) g3)) | (go_at_call 30; refine kC.mono ?_; rintro e V4 ⟨rfl, g4⟩; have T4 := (B2.kept g3 (by simp)).kept g4 (by simp); have t0 := T4.cell 0 (v := .int .u8 k) rfl; have t1 := T4.cell 1 (v := .int .i64 x) rfl; have t2 := T4.cell 2 (v := .int .i64 y) rfl; have t3 := T4.cell 3 (v := .int .u8 t) rfl; have t4 := T4.cell 4 (v := .int .i64 z) rfl; have kR := hrow V4 (gb_trans G2 (gb_trans g3 g4))) | (go_at_call 28; refine kR.mono ?_; rintro e V5 ⟨vv, rfl, g5⟩; have T5 := T4.kept g5 (by simp); have q0 := T5.cell 0 (v := .int .u8 k) rfl; have q1 := T5.cell 1 (v := .int .i64 x) rfl; have q2 := T5.cell 2 (v := .int .i64 y) rfl; have q3 := T5.cell 3 (v := .int .u8 t) rfl; have q4 := T5.cell 4 (v := .int .i64 z) rfl))
    go_ret2
    exact ⟨rfl, gb_trans G2 (gb_trans g3 g4)⟩
  have h1 : Lf.ck ho bo st = 0 := Decidable.not_not.1 h1
  rw [h1] at hck
  rw [if_neg (by simp [h1])] at hE ⊢
  clear h1
  by_cases h2 : E = 9
  · subst h2
    rw [if_pos rfl]
    clear hE hxy
    go_enter Tryz.func25, Tryz.ntmps25
    go_wp2_with (first | (go_at_call 42; refine kW.mono ?_; rintro e V3 ⟨rfl, g3⟩; have L3 := (B1.kept g2 (by simp)).kept g3 (by simp); have l0 := L3.cell 0 (v := .int .u8 (ho : Nat)) rfl; have l1 := L3.cell 1 (v := .int .u16 (bo : Nat)) rfl; have l2 := L3.cell 2 (v := .int .u16 (st : Nat)) rfl; have kC := hck V3 (hvK (hvK hv G2) g3)) | (go_at_call 30; refine kC.mono ?_; rintro e V4 ⟨rfl, g4⟩; have T4 := (B2.kept g3 (by simp)).kept g4 (by simp); have t0 := T4.cell 0 (v := .int .u8 k) rfl; have t1 := T4.cell 1 (v := .int .i64 x) rfl; have t2 := T4.cell 2 (v := .int .i64 y) rfl; have t3 := T4.cell 3 (v := .int .u8 t) rfl; have t4 := T4.cell 4 (v := .int .i64 z) rfl; have kR := hrow V4 (gb_trans G2 (gb_trans g3 g4))) | (go_at_call 28; refine kR.mono ?_; rintro e V5 ⟨vv, rfl, g5⟩; have T5 := T4.kept g5 (by simp); have q0 := T5.cell 0 (v := .int .u8 k) rfl; have q1 := T5.cell 1 (v := .int .i64 x) rfl; have q2 := T5.cell 2 (v := .int .i64 y) rfl; have q3 := T5.cell 3 (v := .int .u8 t) rfl; have q4 := T5.cell 4 (v := .int .i64 z) rfl))
    go_ret2
    exact ⟨rfl, gb_trans G2 (gb_trans g3 (gb_trans g4 g5))⟩
  have h2' : (E == 9) = false := by simpa using h2
  rw [if_neg h2] at hE ⊢
  by_cases h3 : n < 0
  · rw [if_pos h3]
    clear hE hxy
    go_enter Tryz.func25, Tryz.ntmps25
    go_wp2_with (first | (go_at_call 42; refine kW.mono ?_; rintro e V3 ⟨rfl, g3⟩; have L3 := (B1.kept g2 (by simp)).kept g3 (by simp); have l0 := L3.cell 0 (v := .int .u8 (ho : Nat)) rfl; have l1 := L3.cell 1 (v := .int .u16 (bo : Nat)) rfl; have l2 := L3.cell 2 (v := .int .u16 (st : Nat)) rfl; have kC := hck V3 (hvK (hvK hv G2) g3)) | (go_at_call 30; refine kC.mono ?_; rintro e V4 ⟨rfl, g4⟩; have T4 := (B2.kept g3 (by simp)).kept g4 (by simp); have t0 := T4.cell 0 (v := .int .u8 k) rfl; have t1 := T4.cell 1 (v := .int .i64 x) rfl; have t2 := T4.cell 2 (v := .int .i64 y) rfl; have t3 := T4.cell 3 (v := .int .u8 t) rfl; have t4 := T4.cell 4 (v := .int .i64 z) rfl; have kR := hrow V4 (gb_trans G2 (gb_trans g3 g4))) | (go_at_call 28; refine kR.mono ?_; rintro e V5 ⟨vv, rfl, g5⟩; have T5 := T4.kept g5 (by simp); have q0 := T5.cell 0 (v := .int .u8 k) rfl; have q1 := T5.cell 1 (v := .int .i64 x) rfl; have q2 := T5.cell 2 (v := .int .i64 y) rfl; have q3 := T5.cell 3 (v := .int .u8 t) rfl; have q4 := T5.cell 4 (v := .int .i64 z) rfl))
    go_ret2
    exact ⟨rfl, gb_trans G2 (gb_trans g3 (gb_trans g4 g5))⟩
  rw [if_neg h3] at hE ⊢
  by_cases h4 : 1125899906842624 < n
  · rw [if_pos h4]
    clear hE hxy
    go_enter Tryz.func25, Tryz.ntmps25
    go_wp2_with (first | (go_at_call 42; refine kW.mono ?_; rintro e V3 ⟨rfl, g3⟩; have L3 := (B1.kept g2 (by simp)).kept g3 (by simp); have l0 := L3.cell 0 (v := .int .u8 (ho : Nat)) rfl; have l1 := L3.cell 1 (v := .int .u16 (bo : Nat)) rfl; have l2 := L3.cell 2 (v := .int .u16 (st : Nat)) rfl; have kC := hck V3 (hvK (hvK hv G2) g3)) | (go_at_call 30; refine kC.mono ?_; rintro e V4 ⟨rfl, g4⟩; have T4 := (B2.kept g3 (by simp)).kept g4 (by simp); have t0 := T4.cell 0 (v := .int .u8 k) rfl; have t1 := T4.cell 1 (v := .int .i64 x) rfl; have t2 := T4.cell 2 (v := .int .i64 y) rfl; have t3 := T4.cell 3 (v := .int .u8 t) rfl; have t4 := T4.cell 4 (v := .int .i64 z) rfl; have kR := hrow V4 (gb_trans G2 (gb_trans g3 g4))) | (go_at_call 28; refine kR.mono ?_; rintro e V5 ⟨vv, rfl, g5⟩; have T5 := T4.kept g5 (by simp); have q0 := T5.cell 0 (v := .int .u8 k) rfl; have q1 := T5.cell 1 (v := .int .i64 x) rfl; have q2 := T5.cell 2 (v := .int .i64 y) rfl; have q3 := T5.cell 3 (v := .int .u8 t) rfl; have q4 := T5.cell 4 (v := .int .i64 z) rfl))
    go_ret2
    exact ⟨rfl, gb_trans G2 (gb_trans g3 (gb_trans g4 g5))⟩
  rw [if_neg h4] at hE ⊢
  by_cases h5 : ¬ E = 0
  · rw [if_pos h5]
    clear hE hxy
    have h5' : (E != 0) = true := by simpa using h5
    go_enter Tryz.func25, Tryz.ntmps25
    go_wp2_with (first | (go_at_call 42; refine kW.mono ?_; rintro e V3 ⟨rfl, g3⟩; have L3 := (B1.kept g2 (by simp)).kept g3 (by simp); have l0 := L3.cell 0 (v := .int .u8 (ho : Nat)) rfl; have l1 := L3.cell 1 (v := .int .u16 (bo : Nat)) rfl; have l2 := L3.cell 2 (v := .int .u16 (st : Nat)) rfl; have kC := hck V3 (hvK (hvK hv G2) g3)) | (go_at_call 30; refine kC.mono ?_; rintro e V4 ⟨rfl, g4⟩; have T4 := (B2.kept g3 (by simp)).kept g4 (by simp); have t0 := T4.cell 0 (v := .int .u8 k) rfl; have t1 := T4.cell 1 (v := .int .i64 x) rfl; have t2 := T4.cell 2 (v := .int .i64 y) rfl; have t3 := T4.cell 3 (v := .int .u8 t) rfl; have t4 := T4.cell 4 (v := .int .i64 z) rfl; have kR := hrow V4 (gb_trans G2 (gb_trans g3 g4))) | (go_at_call 28; refine kR.mono ?_; rintro e V5 ⟨vv, rfl, g5⟩; have T5 := T4.kept g5 (by simp); have q0 := T5.cell 0 (v := .int .u8 k) rfl; have q1 := T5.cell 1 (v := .int .i64 x) rfl; have q2 := T5.cell 2 (v := .int .i64 y) rfl; have q3 := T5.cell 3 (v := .int .u8 t) rfl; have q4 := T5.cell 4 (v := .int .i64 z) rfl))
    go_ret2
    exact ⟨rfl, gb_trans G2 (gb_trans g3 (gb_trans g4 g5))⟩
  have h5 : E = 0 := Decidable.not_not.1 h5
  subst h5
  rw [if_neg (by simp)] at hE ⊢
  by_cases h6 : (67108864 : Int) / ((C * R : Nat) : Int) < n
  · rw [if_pos h6]
    obtain ⟨rfl, rfl⟩ := hxy rfl
    clear hE hxy
    obtain ⟨cr, hcr⟩ : ∃ cr, C * R = cr := ⟨_, rfl⟩
    rw [hcr] at h6 hcr0 hcr1
    have hmul : IntKind.i64.wrap ((C : Int) * (R : Int)) = (cr : Int) := by rw [← Int.natCast_mul, hcr, IntKind.wrap_i64]; omega
    have hcn : ¬ (cr : Int) = 0 := by omega
    have hcn1 : (cr : Int) ≠ 0 := hcn
    have hcp : (0 : Int) < (cr : Int) := by omega
    have hcl : (cr : Int) ≤ 1048576 := by omega
    clear hcr
    go_enter Tryz.func25, Tryz.ntmps25
    go_wp2_with (first | (go_at_call 42; refine kW.mono ?_; rintro e V3 ⟨rfl, g3⟩; have L3 := (B1.kept g2 (by simp)).kept g3 (by simp); have l0 := L3.cell 0 (v := .int .u8 (ho : Nat)) rfl; have l1 := L3.cell 1 (v := .int .u16 (bo : Nat)) rfl; have l2 := L3.cell 2 (v := .int .u16 (st : Nat)) rfl; have kC := hck V3 (hvK (hvK hv G2) g3)) | (go_at_call 30; refine kC.mono ?_; rintro e V4 ⟨rfl, g4⟩; have T4 := (B2.kept g3 (by simp)).kept g4 (by simp); have t0 := T4.cell 0 (v := .int .u8 k) rfl; have t1 := T4.cell 1 (v := .int .i64 (C : Nat)) rfl; have t2 := T4.cell 2 (v := .int .i64 (R : Nat)) rfl; have t3 := T4.cell 3 (v := .int .u8 t) rfl; have t4 := T4.cell 4 (v := .int .i64 z) rfl; have kR := hrow V4 (gb_trans G2 (gb_trans g3 g4))) | (go_at_call 28; refine kR.mono ?_; rintro e V5 ⟨vv, rfl, g5⟩; have T5 := T4.kept g5 (by simp); have q0 := T5.cell 0 (v := .int .u8 k) rfl; have q1 := T5.cell 1 (v := .int .i64 (C : Nat)) rfl; have q2 := T5.cell 2 (v := .int .i64 (R : Nat)) rfl; have q3 := T5.cell 3 (v := .int .u8 t) rfl; have q4 := T5.cell 4 (v := .int .i64 z) rfl))
    go_ret2
    exact ⟨rfl, gb_trans G2 (gb_trans g3 (gb_trans g4 g5))⟩
  · rw [if_neg h6] at hE
    exact absurd rfl hE
end Go.Proofs.YthjiiljglgmkpaaGreatDoor.Pd
namespace Go.Proofs.YthjiiljglgmkpaaGreatDoor.Pd
open Go.RowKit
set_option linter.unusedVariables false
set_option linter.unusedSimpArgs false
set_option maxRecDepth 100000

/-- The rows of a grid and its ring. -/
def PR (k t z : Int) (C R : Nat) (g : Nat → Nat) (i j : Nat) : Bool := decide (j < C + 2) && lvB (frV k t z C R g (i * (C + 2) + j))
/-- The cells j generations later. -/
def itG (ho bo st : Nat) (k t z : Int) (C R : Nat) (g : Nat → Nat) : Nat → Nat → Nat
  | 0 => g
  | j + 1 => nxG ho bo st C (PR k t z C R (itG ho bo st k t z C R g j))
theorem pr_may (k t z : Int) (C R : Nat) (hC : C ≤ 65536) (g : Nat → Nat) (i : Nat) : MayBe (C + 2) (nwN (C + 2)) (PR k t z C R g i) := ⟨by omega, rfl, fun j hj => by unfold PR; rw [decide_eq_false (by omega)]; rfl⟩
theorem nxG_le (ho bo st C : Nat) (P : Nat → Nat → Bool) (j : Nat) : nxG ho bo st C P j < 2 := oneB_le _
theorem it_256 (ho bo st : Nat) (k t z : Int) (C R : Nat) {g : Nat → Nat} (h : ∀ i, g i < 256) : ∀ j i, itG ho bo st k t z C R g j i < 256
  | 0, i => h i
  | j + 1, i => Nat.lt_of_lt_of_le (nxG_le _ _ _ _ _ _) (by decide)
/-- ring.Rows of a grid, as a list of rows. -/
theorem rowsR {k t z : Int} {C R : Nat} (G : Gr k t z C R) (hall : C * R ≤ 1048576) {M : World → Prop} {n0 b S : Nat} {g : Nat → Nat} (F : FdM M n0 b C R S g) (h256 : ∀ i, g i < 256) (hS : S ≤ 2) (w : World) (hn0 : n0 ≤ w.heap.size) (hM : M w) :
    Calls Tryz.prog 28 #[.agg #[.int .u8 k, .int .i64 (C : Nat), .int .i64 (R : Nat), .int .u8 t, .int .i64 z], .pointer (some ⟨b, 0, none⟩)] w fun e w' => ∃ rb wb, e = .returned (.tuple #[.slice (some ⟨rb, 0, none⟩) (R + 2) (R + 2), .int .i64 0]) ∧ Rw w' rb (R + 2) (C + 2) (nwN (C + 2)) wb (PR k t z C R g) ∧ (w.heap.size ≤ rb ∧ ∀ i, i < R + 2 → w.heap.size ≤ wb i) ∧ w.grownBy w' none := by
  refine (rowsY G hall F h256 hS w hn0 hM).mono ?_
  rintro e w' ⟨rb, wb, he, hr, l1, hw, _, hg⟩
  refine ⟨rb, wb, he, ⟨fun i hi => ?_, fun i hi => ?_, fun i hi => (hw i hi).2.2⟩, ⟨l1, fun i hi => (hw i hi).1⟩, hg⟩
  · have := hr.cell (show i * 2 < 2 * (R + 2) by omega)
    rw [this]; unfold rwC; rw [if_pos (by omega), if_pos (by omega)]
  · have := hr.cell (show i * 2 + 1 < 2 * (R + 2) by omega)
    rw [this]; unfold rwC; rw [if_pos (by omega), if_neg (by omega), show (i * 2 + 1) / 2 = i by omega]
theorem bgE_zero {ho bo st : Nat} {k x y t z n : Int} {C R S : Nat} (h : bgE ho bo st k x y t z C R S n = 0) : Lf.ck ho bo st = 0 ∧ rwE k x y t z C R S = 0 ∧ 0 ≤ n ∧ n ≤ 1125899906842624 ∧ n ≤ (67108864 : Int) / ((C * R : Nat) : Int) := by
  unfold bgE at h
  by_cases h1 : Lf.ck ho bo st = 0
  · rw [if_neg (by simp [h1])] at h
    by_cases h2 : rwE k x y t z C R S = 9
    · rw [if_pos h2] at h; cases h
    · rw [if_neg h2] at h
      by_cases h3 : n < 0
      · rw [if_pos h3] at h; cases h
      · rw [if_neg h3] at h
        by_cases h4 : 1125899906842624 < n
        · rw [if_pos h4] at h; cases h
        · rw [if_neg h4] at h
          by_cases h5 : rwE k x y t z C R S = 0
          · rw [if_neg (by simp [h5])] at h
            by_cases h6 : (67108864 : Int) / ((C * R : Nat) : Int) < n
            · rw [if_pos h6] at h; cases h
            · exact ⟨h1, h5, by omega, by omega, by omega⟩
          · rw [if_pos h5] at h; exact absurd h h5
  · rw [if_pos h1] at h; cases h
set_option maxHeartbeats 4000000 in
/-- Where nothing is wrong. -/
theorem beginY {M : World → Prop} {n0 b C R S : Nat} {g : Nat → Nat} (F : FdM M n0 b C R S g) (hz : Sz C R S) (h256 : ∀ i, g i < 256) (ho bo st : Nat) (hh : ho < 256) (hb : bo < 65536) (hs : st < 65536) (k t z n : Int) (ht : 0 ≤ t) (w : World) (hn0 : n0 ≤ w.heap.size) (hM : M w) (hv : Hid (Hv w)) (hE : bgE ho bo st k C R t z C R S n = 0) :
    Calls Tryz.prog 25 #[.agg #[.int .u8 (ho : Nat), .int .u16 (bo : Nat), .int .u16 (st : Nat)], .agg #[.int .u8 k, .int .i64 (C : Nat), .int .i64 (R : Nat), .int .u8 t, .int .i64 z], .pointer (some ⟨b, 0, none⟩), .int .i64 n] w fun e w' => ∃ rb wb, e = .returned (.tuple #[.slice (some ⟨rb, 0, none⟩) (R + 2) (R + 2), .int .i64 0]) ∧ Rw w' rb (R + 2) (C + 2) (nwN (C + 2)) wb (PR k t z C R g) ∧ (w.heap.size ≤ rb ∧ ∀ i, i < R + 2 → w.heap.size ≤ wb i) ∧ w.grownBy w' none := by
  obtain ⟨W1, hW1, sz1, g1, B1⟩ := boxn w #[.int .u8 (ho : Nat), .int .u16 (bo : Nat), .int .u16 (st : Nat)] 28
  obtain ⟨W2, hW2, sz2, g2, B2⟩ := boxn W1 #[.int .u8 k, .int .i64 (C : Nat), .int .i64 (R : Nat), .int .u8 t, .int .i64 z] 30
  have G2 := gb_trans g1 g2
  have kW := F.wide W2 (F.grown hM G2)
  have hC0 : ¬ (C : Int) = 0 := by have := hz.c0; omega
  have hC1 : ((C : Int) == 0) = false := by simpa using hC0
  obtain ⟨e1, e2, e3, e4, e5⟩ := bgE_zero hE
  obtain ⟨e6, e7⟩ := rwE_zero e2
  obtain ⟨_, _, G⟩ := cgE_zero ht hz.c0 hz.r0 e6
  have hck := fun v hv => lifeCk ho bo st hh hb hs v hv
  rw [e1] at hck
  have hrow := fun v (hg : w.grownBy v none) => rowsR G hz.all F h256 (by omega) v (Nat.le_trans hn0 hg.size) (F.grown hM hg)
  have hcr1 : C * R ≤ 1048576 := hz.all
  have hcr0 : 0 < C * R := Nat.mul_pos hz.c0 hz.r0
  have hn1 : ¬ n < 0 := by omega
  have hn2 : ¬ 1125899906842624 < n := by omega
  obtain ⟨cr, hcr⟩ : ∃ cr, C * R = cr := ⟨_, rfl⟩
  rw [hcr] at e5 hcr0 hcr1
  have hmul : IntKind.i64.wrap ((C : Int) * (R : Int)) = (cr : Int) := by rw [← Int.natCast_mul, hcr, IntKind.wrap_i64]; omega
  have hcn : ¬ (cr : Int) = 0 := by omega
  have hcn1 : (cr : Int) ≠ 0 := hcn
  have hcp : (0 : Int) < (cr : Int) := by omega
  have hcl : (cr : Int) ≤ 1048576 := by omega
  have h6 : ¬ (67108864 : Int) / (cr : Int) < n := by omega
  clear hcr hE e1 e2 e3 e4 e5 e6 e7 F h256 hM hn0 G
  go_enter Tryz.func25, Tryz.ntmps25
  go_wp2_with (first | (go_at_call 42; refine kW.mono ?_; rintro e V3 ⟨rfl, g3⟩; have L3 := (B1.kept g2 (by simp)).kept g3 (by simp); have l0 := L3.cell 0 (v := .int .u8 (ho : Nat)) rfl; have l1 := L3.cell 1 (v := .int .u16 (bo : Nat)) rfl; have l2 := L3.cell 2 (v := .int .u16 (st : Nat)) rfl; have kC := hck V3 (hvK (hvK hv G2) g3)) | (go_at_call 30; refine kC.mono ?_; rintro e V4 ⟨rfl, g4⟩; have T4 := (B2.kept g3 (by simp)).kept g4 (by simp); have t0 := T4.cell 0 (v := .int .u8 k) rfl; have t1 := T4.cell 1 (v := .int .i64 (C : Nat)) rfl; have t2 := T4.cell 2 (v := .int .i64 (R : Nat)) rfl; have t3 := T4.cell 3 (v := .int .u8 t) rfl; have t4 := T4.cell 4 (v := .int .i64 z) rfl; have kR := hrow V4 (gb_trans G2 (gb_trans g3 g4))) | (go_at_call 28; refine kR.mono ?_; rintro e V5 ⟨rb, wb, rfl, rw5, lb5, g5⟩; have HRw : Hid (Rw V5 rb (R + 2) (C + 2) (nwN (C + 2)) wb (PR k t z C R g)) := rw5; have Hlb : Hid (V4.heap.size ≤ rb ∧ ∀ i, i < R + 2 → V4.heap.size ≤ wb i) := lb5; clear rw5 lb5; have T5 := T4.kept g5 (by simp); have q0 := T5.cell 0 (v := .int .u8 k) rfl; have q1 := T5.cell 1 (v := .int .i64 (C : Nat)) rfl; have q2 := T5.cell 2 (v := .int .i64 (R : Nat)) rfl; have q3 := T5.cell 3 (v := .int .u8 t) rfl; have q4 := T5.cell 4 (v := .int .i64 z) rfl))
  go_ret2
  have s5 := (gb_trans G2 (gb_trans g3 g4)).size
  exact ⟨rb, wb, rfl, HRw.out, ⟨by have := Hlb.out.1; omega, fun i hi => by have := Hlb.out.2 i hi; omega⟩, gb_trans G2 (gb_trans g3 (gb_trans g4 g5))⟩
set_option maxHeartbeats 4000000 in
theorem runNone (ho bo st k x y t z n : Int) (p : Option Addr) (w : World) (hp : Nf w p) :
    Calls Tryz.prog 8 #[.agg #[.int .u8 (ho), .int .u16 (bo), .int .u16 (st)], .agg #[.int .u8 k, .int .i64 x, .int .i64 y, .int .u8 t, .int .i64 z], .pointer p, .int .i64 n] w fun e w' => e = .returned (.tuple #[.pointer none, .int .i64 1]) ∧ w.grownBy w' none := by
  obtain ⟨W1, hW1, sz1, g1, B1⟩ := boxn w #[.int .u8 (ho), .int .u16 (bo), .int .u16 (st)] 28
  obtain ⟨W2, hW2, sz2, g2, B2⟩ := boxn W1 #[.int .u8 k, .int .i64 x, .int .i64 y, .int .u8 t, .int .i64 z] 30
  have hp2 : Nf W2 p := by
    rcases hp with h | ⟨b, h, B⟩
    · exact .inl h
    · exact .inr ⟨b, h, (B.kept g1 (by simp)).kept g2 (by simp)⟩
  have kB := beginNone ho bo st k x y t z n p W2 hp2
  have L2 := B1.kept g2 (by simp)
  have l0 := L2.cell 0 (v := .int .u8 (ho)) rfl
  have l1 := L2.cell 1 (v := .int .u16 (bo)) rfl
  have l2 := L2.cell 2 (v := .int .u16 (st)) rfl
  have t0 := B2.cell 0 (v := .int .u8 k) rfl
  have t1 := B2.cell 1 (v := .int .i64 x) rfl
  have t2 := B2.cell 2 (v := .int .i64 y) rfl
  have t3 := B2.cell 3 (v := .int .u8 t) rfl
  have t4 := B2.cell 4 (v := .int .i64 z) rfl
  clear hp hp2
  go_enter Tryz.func8, Tryz.ntmps8
  go_wp2_with (first | (go_at_call 25; refine kB.mono ?_; rintro e V3 ⟨rfl, g3⟩))
  go_ret2
  exact ⟨rfl, gb_trans g1 (gb_trans g2 g3)⟩
set_option maxHeartbeats 4000000 in
theorem runN {M : World → Prop} {n0 b C R S : Nat} {g : Nat → Nat} (F : FdM M n0 b C R S g) (hz : Sz C R S) (h256 : ∀ i, g i < 256) (ho bo st : Nat) (hh : ho < 256) (hb : bo < 65536) (hs : st < 65536) (k x y t z n : Int) (ht : 0 ≤ t) (w : World) (hn0 : n0 ≤ w.heap.size) (hM : M w) (hv : Hid (Hv w)) (hE : ¬ bgE ho bo st k x y t z C R S n = 0) :
    Calls Tryz.prog 8 #[.agg #[.int .u8 (ho : Nat), .int .u16 (bo : Nat), .int .u16 (st : Nat)], .agg #[.int .u8 k, .int .i64 x, .int .i64 y, .int .u8 t, .int .i64 z], .pointer (some ⟨b, 0, none⟩), .int .i64 n] w fun e w' => e = .returned (.tuple #[.pointer none, .int .i64 (bgE ho bo st k x y t z C R S n)]) ∧ w.grownBy w' none := by
  obtain ⟨W1, hW1, sz1, g1, B1⟩ := boxn w #[.int .u8 (ho : Nat), .int .u16 (bo : Nat), .int .u16 (st : Nat)] 28
  obtain ⟨W2, hW2, sz2, g2, B2⟩ := boxn W1 #[.int .u8 k, .int .i64 x, .int .i64 y, .int .u8 t, .int .i64 z] 30
  have G2 := gb_trans g1 g2
  have kB := beginN F hz h256 ho bo st hh hb hs k x y t z n ht W2 (Nat.le_trans hn0 G2.size) (F.grown hM G2) (hvK hv G2) hE
  generalize bgE ho bo st k x y t z C R S n = E at kB hE ⊢
  have hE1 : (E != 0) = true := by simpa using hE
  have L2 := B1.kept g2 (by simp)
  have l0 := L2.cell 0 (v := .int .u8 (ho : Nat)) rfl
  have l1 := L2.cell 1 (v := .int .u16 (bo : Nat)) rfl
  have l2 := L2.cell 2 (v := .int .u16 (st : Nat)) rfl
  have t0 := B2.cell 0 (v := .int .u8 k) rfl
  have t1 := B2.cell 1 (v := .int .i64 x) rfl
  have t2 := B2.cell 2 (v := .int .i64 y) rfl
  have t3 := B2.cell 3 (v := .int .u8 t) rfl
  have t4 := B2.cell 4 (v := .int .i64 z) rfl
  clear F h256 hM hn0
  go_enter Tryz.func8, Tryz.ntmps8
  go_wp2_with (first | (go_at_call 25; refine kB.mono ?_; rintro e V3 ⟨rfl, g3⟩))
  go_ret2
  exact ⟨rfl, gb_trans G2 g3⟩
set_option maxHeartbeats 4000000 in
theorem runY {M : (Nat → Nat) → World → Prop} {L : Nat → Prop} {b C R S : Nat} {pk : Bool} (F : FdX M L b C R S pk) (hz : Sz C R S) (g : Nat → Nat) (h256 : ∀ i, g i < 256) (ho bo st : Nat) (hh : ho < 256) (hb : bo < 65536) (hs : st < 65536) (k t z n : Int) (ht : 0 ≤ t) (w : World) (hM : M g w) (hv : Hid (Hv w)) (hT : Wo.Tab64 w) (hE : bgE ho bo st k C R t z C R S n = 0) (hCl : ∀ v, w.grownBy v none → Calls Tryz.prog 26 #[.pointer (some ⟨b, 0, none⟩)] v fun e v' => ∃ b2, e = .returned (.pointer (some ⟨b2, 0, none⟩)) ∧ v.heap.size ≤ b2 ∧ v.grownBy v' none ∧ Calls Tryz.prog 27 #[.pointer (some ⟨b2, 0, none⟩), .bool true] v' (fun e v3 => e = .returned (.int .i64 0) ∧ ∃ M' L', FdX M' L' b2 C R 2 true ∧ M' g v3 ∧ (∀ i, L' i → v.heap.size ≤ i) ∧ v'.grownBy v3 (some b2))) :
    Calls Tryz.prog 8 #[.agg #[.int .u8 (ho : Nat), .int .u16 (bo : Nat), .int .u16 (st : Nat)], .agg #[.int .u8 k, .int .i64 (C : Nat), .int .i64 (R : Nat), .int .u8 t, .int .i64 z], .pointer (some ⟨b, 0, none⟩), .int .i64 n] w fun e w' => ∃ b2, e = .returned (.tuple #[.pointer (some ⟨b2, 0, none⟩), .int .i64 0]) ∧ ∃ M' L', FdX M' L' b2 C R 2 true ∧ M' (itG ho bo st k t z C R g n.toNat) w' ∧ (∀ i, L' i → w.heap.size ≤ i) ∧ w.grownBy w' none := by
  obtain ⟨W1, hW1, sz1, g1, B1⟩ := boxn w #[.int .u8 (ho : Nat), .int .u16 (bo : Nat), .int .u16 (st : Nat)] 28
  obtain ⟨W2, hW2, sz2, g2, B2⟩ := boxn W1 #[.int .u8 k, .int .i64 (C : Nat), .int .i64 (R : Nat), .int .u8 t, .int .i64 z] 30
  have G2 := gb_trans g1 g2
  obtain ⟨e1, e2, e3, e4, e5⟩ := bgE_zero hE
  obtain ⟨e6, e7⟩ := rwE_zero e2
  obtain ⟨_, _, G⟩ := cgE_zero ht hz.c0 hz.r0 e6
  have kB := beginY (F.fdm g w.heap.size (F.lts g w hM)) hz h256 ho bo st hh hb hs k t z n ht W2 G2.size (F.grown hM G2) (hvK hv G2) hE
  obtain ⟨m, rfl⟩ : ∃ m : Nat, n = (m : Int) := ⟨n.toNat, by omega⟩
  have hm : (m : Int) ≤ 1125899906842624 := e4
  have hck3 : 1 ≤ ho ∧ ho ≤ 3 := by
    by_cases h1 : 1 ≤ ho ∧ ho ≤ 3
    · exact h1
    · rw [Lf.ck_hood h1] at e1; cases e1
  have L2 := B1.kept g2 (by simp)
  have l0 := L2.cell 0 (v := .int .u8 (ho : Nat)) rfl
  have l1 := L2.cell 1 (v := .int .u16 (bo : Nat)) rfl
  have l2 := L2.cell 2 (v := .int .u16 (st : Nat)) rfl
  have t0 := B2.cell 0 (v := .int .u8 k) rfl
  have t1 := B2.cell 1 (v := .int .i64 (C : Nat)) rfl
  have t2 := B2.cell 2 (v := .int .i64 (R : Nat)) rfl
  have t3 := B2.cell 3 (v := .int .u8 t) rfl
  have t4 := B2.cell 4 (v := .int .i64 z) rfl
  have tlt : 1 < w.heap.size := cell_lt (hT 0 (by decide))
  have HTb : Hid (Wo.Tab64 w) := hT
  have HGr : Hid (Gr k t z C R) := G
  have Hz : Hid (Sz C R S) := hz
  have H256 : Hid (∀ i, g i < 256) := h256
  rw [Int.toNat_natCast]
  clear F h256 hM e1 e2 e3 e4 e5 e6 e7 G hE hz hv hT
  go_enter Tryz.func8, Tryz.ntmps8
  go_wp2_with (first | (go_at_call 25; refine kB.mono ?_; rintro e V3 ⟨rb, wb, rfl, rw3, lb3, g3⟩; clear kB; have HRw : Hid (Rw V3 rb (R + 2) (C + 2) (nwN (C + 2)) wb (PR k t z C R g)) := rw3; have Hlb : Hid (W2.heap.size ≤ rb ∧ ∀ i, i < R + 2 → W2.heap.size ≤ wb i) := lb3; clear rw3 lb3; have G3 := gb_trans G2 g3; have kC := hCl V3 G3; clear hCl) | (go_at_call 26; refine kC.mono ?_; rintro e V4 ⟨b2, rfl, lb2, g4, kP⟩; clear kC) | (go_at_call 27; refine kP.mono ?_; rintro e V5 ⟨rfl, M', L', F', hM5, hL5, g5⟩; clear kP))
  have HF : Hid (FdX M' L' b2 C R 2 true) := F'
  have HL' : Hid (∀ i, L' i → V3.heap.size ≤ i) := hL5
  have G4 := gb_trans G3 g4
  have G5 : w.grownBy V5 none := gb_past G4 g5 (by have := G3.size; omega)
  have s3 := G3.size
  have sw1 : w.heap.size < W1.heap.size := by have := sz1.out; omega
  have sw2 : W1.heap.size < W2.heap.size := by have := sz2.out; omega
  have s23 := g3.size
  have BL5 := ((L2.kept g3 (by simp)).kept g4 (by simp)).kept g5 (fun e => by have e := Option.some.inj e; omega)
  have BT5 := ((B2.kept g3 (by simp)).kept g4 (by simp)).kept g5 (fun e => by have e := Option.some.inj e; omega)
  have hrbl : rb < V3.heap.size := cell_lt (HRw.out.n_ 0 (by omega))
  have HRw5 : Hid (Rw V5 rb (R + 2) (C + 2) (nwN (C + 2)) wb (PR k t z C R g)) := (HRw.out.gx (L := fun i => i = b2) (gx_none g4) (by omega) (fun i hi => by have := (HRw.out.w_ i hi).lt; omega)).gx (L := fun i => i = b2) (Gx.of g5 (fun i e => (Option.some.inj e).symm)) (by omega) (fun i hi => by have := (HRw.out.w_ i hi).lt; omega)
  have HwL : Hid (∀ i, i < R + 2 → wb i < V3.heap.size) := fun i hi => (HRw.out.w_ i hi).lt
  have HM5 : Hid (M' g V5) := hM5
  have HG5 : Hid (w.grownBy V5 none) := G5
  have HGx : Hid (∀ X, Gx L' V5 X → w.grownBy X none) := fun X h => h.past G5 (fun i hi => by have := hL5 i hi; omega)
  clear HRw Hlb L2 B1 B2 g3 g4 g5 g1 g2 G2 G3 G4 G5 hM5 hL5 F' lb2 sz1 sz2 l0 l1 l2 t0 t1 t2 t3 t4
  go_loopw [30, 10] (fun i rv wr => ∃ j : Nat, j ≤ m ∧ i = .int .i64 (j : Nat) ∧ Hid (j = 0 → rv = .slice (some ⟨rb, 0, none⟩) (R + 2) (R + 2) ∧ Rw wr rb (R + 2) (C + 2) (nwN (C + 2)) wb (PR k t z C R g)) ∧ Hid (M' (itG ho bo st k t z C R g j) wr) ∧ Hid (Gx L' V5 wr) ∧ Bo wr w.heap.size 28 #[.int .u8 (ho : Nat), .int .u16 (bo : Nat), .int .u16 (st : Nat)] ∧ Bo wr W1.heap.size 30 #[.int .u8 k, .int .i64 (C : Nat), .int .i64 (R : Nat), .int .u8 t, .int .i64 z]) (fun i _ _ => m - (intOf i).toNat)
  case atStart => exact ⟨0, Nat.zero_le _, rfl, fun _ => ⟨rfl, HRw5.out⟩, HM5.out, gx_none (World.grownBy.refl _ _), BL5, BT5⟩
  case round =>
    clear HRw5 HM5 BL5 BT5
    obtain ⟨j, hj, rfl, HR0, HM, HG, BL, BT⟩ := hrel
    obtain ⟨U, hU⟩ : ∃ U, U = wr := ⟨_, rfl⟩
    subst hU
    have l0 := BL.cell 0 (v := .int .u8 (ho : Nat)) rfl
    have l1 := BL.cell 1 (v := .int .u16 (bo : Nat)) rfl
    have l2 := BL.cell 2 (v := .int .u16 (st : Nat)) rfl
    have t0 := BT.cell 0 (v := .int .u8 k) rfl
    have t1 := BT.cell 1 (v := .int .i64 (C : Nat)) rfl
    have t2 := BT.cell 2 (v := .int .i64 (R : Nat)) rfl
    have t3 := BT.cell 3 (v := .int .u8 t) rfl
    have t4 := BT.cell 4 (v := .int .i64 z) rfl
    have HTU : Hid (Wo.Tab64 U) := tab_gx (HTb.out.below (gb_below HG5.out) tlt) HG.out (fun h => by have := HL'.out _ h; omega)
    have hl1 : ¬ L' w.heap.size := fun h => by have := HL'.out _ h; omega
    have hl2 : ¬ L' W1.heap.size := fun h => by have := HL'.out _ h; omega
    have hl3 : ¬ L' 1 := fun h => by have := HL'.out _ h; omega
    by_cases hlt : j < m
    · have hlt' : (j : Int) < (m : Int) := by omega
      by_cases h0 : j = 0
      · subst h0
        obtain ⟨hrv, rwU⟩ := HR0.out rfl
        subst hrv
        have kY := layC HF.out Hz.out.c0 Hz.out.c1 Hz.out.r1 ho bo st hck3 hb hs rb (R + 2) (nwN (C + 2)) wb (PR k t z C R g) (fun i _ => pr_may k t z C R Hz.out.c1 g i) _ U HM.out HTU.out hl3 rwU (fun h => by have := HL'.out _ h; omega) (fun i hi h => by have := HL'.out _ h; have := HwL.out i hi; omega)
        clear HR0 rwU
        go_wp2_with (first | (go_at_call 29; refine kY.mono ?_; rintro e U2 ⟨rfl, M2, X2⟩; clear kY))
        have BL2 := X2.bo BL hl1
        have BT2 := X2.bo BT hl2
        have HM2 : Hid (M' (itG ho bo st k t z C R g 1) U2) := M2
        have HG2 : Hid (Gx L' V5 U2) := HG.out.trans X2
        clear M2 X2 BL BT HM HG
        go_roundw
        case rel => exact ⟨1, by omega, rfl, (fun h => by cases h), HM2.out, HG2.out, BL2, BT2⟩
        case measure => simp [intOf]; omega
      · have h0' : (0 : Int) < (j : Int) := by omega
        have kR := rowsR HGr.out Hz.out.all (HF.out.fdm _ U.heap.size (HF.out.lts _ U HM.out)) (it_256 ho bo st k t z C R H256.out j) (Nat.le_refl 2) U (Nat.le_refl _) HM.out
        have Hlts : Hid (∀ i, L' i → i < U.heap.size) := HF.out.lts _ U HM.out
        have kY := fun rb' wb' U2 (gU : U.grownBy U2 none) (h1 : Rw U2 rb' (R + 2) (C + 2) (nwN (C + 2)) wb' (PR k t z C R (itG ho bo st k t z C R g j))) (h2 : U.heap.size ≤ rb' ∧ ∀ i, i < R + 2 → U.heap.size ≤ wb' i) => layC HF.out Hz.out.c0 Hz.out.c1 Hz.out.r1 ho bo st hck3 hb hs rb' (R + 2) (nwN (C + 2)) wb' _ (fun i _ => pr_may k t z C R Hz.out.c1 _ i) _ U2 (HF.out.grown HM.out gU) (tab_gx HTU.out (gx_none gU) hl3) hl3 h1 (fun h => by have := Hlts.out _ h; omega) (fun i hi h => by have := Hlts.out _ h; have := h2.2 i hi; omega)
        clear HR0
        go_wp2_with (first | (go_at_call 28; refine kR.mono ?_; rintro e U2 ⟨rb', wb', rfl, rw2, lb2', gU⟩; clear kR; have kY2 := kY rb' wb' U2 gU rw2 lb2'; clear kY rw2 lb2'; have BLu := BL.kept gU (by simp); have y0 := BLu.cell 0 (v := .int .u8 (ho : Nat)) rfl; have y1 := BLu.cell 1 (v := .int .u16 (bo : Nat)) rfl; have y2 := BLu.cell 2 (v := .int .u16 (st : Nat)) rfl) | (go_at_call 29; refine kY2.mono ?_; rintro e U3 ⟨rfl, M2, X2⟩; clear kY2))
        have X3 : Gx L' U U3 := (gx_none gU).trans X2
        have BL2 := X3.bo BL hl1
        have BT2 := X3.bo BT hl2
        have HM2 : Hid (M' (itG ho bo st k t z C R g (j + 1)) U3) := M2
        have HG2 : Hid (Gx L' V5 U3) := HG.out.trans X3
        clear M2 X2 X3 BL BT HM HG
        go_roundw
        case rel => exact ⟨j + 1, by omega, by go_num, (fun h => by omega), HM2.out, HG2.out, BL2, BT2⟩
        case measure => simp [intOf]; omega
    · obtain rfl : j = m := by omega
      have hlt' : ¬ (j : Int) < (j : Int) := by omega
      clear HR0
      go_wp2
      go_ret2
      exact ⟨b2, rfl, M', L', HF.out, HM.out, fun i hi => by have := HL'.out i hi; omega, HGx.out _ HG.out⟩
end Go.Proofs.YthjiiljglgmkpaaGreatDoor.Pd
