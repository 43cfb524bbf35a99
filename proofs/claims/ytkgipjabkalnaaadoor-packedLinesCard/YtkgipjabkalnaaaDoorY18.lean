/- The walk of PackedLines. -/
import Derived.Test.YtkgipjabkalnaaaDoorY17
import Derived.Test.YtkgipjabkalnaaaDoorY15
namespace Go.Proofs.YtkgipjabkalnaaaDoor.Pd
open Go.RowKit
set_option linter.unusedVariables false
set_option linter.unusedSimpArgs false
set_option maxRecDepth 100000

theorem region_cut {c : Code} {P : Program} {K : Act → World → Prop} {Q : Exit → Act → World → Prop} {a : Act} {w : World} (X : Act → World → Prop) (h : c.wp P (Exit.then X (fun _ _ _ => False)) a w) (hX : ∀ a w, X a w → K a w) : c.wp P (Exit.then K Q) a w := by
  refine Code.wp_mono ?_ h
  intro e a w he
  cases e <;> first | exact hX _ _ he | exact he.elim
/-- A row of one's own, or none: its words. -/
def Gp (w : World) (sp : Option Addr) (K : Nat) (F : Nat → Nat) : Prop := (sp = none ∧ K = 0) ∨ ∃ z, sp = some ⟨z, 0, none⟩ ∧ w.rowIs z 33 K (fun k => .int .u64 (F k : Nat))
theorem Gp.kept {w w' : World} {sp : Option Addr} {K : Nat} {F : Nat → Nat} {r : Option Nat} (h : Gp w sp K F) (hg : w.grownBy w' r) (hne : ∀ a, sp = some a → some a.block ≠ r) : Gp w' sp K F := by
  rcases h with h | ⟨z, h1, h2⟩
  · exact .inl h
  · exact .inr ⟨z, h1, rowIs_kept h2 hg (hne _ h1)⟩
theorem Gp.wd {w : World} {sp : Option Addr} {K : Nat} {F : Nat → Nat} (h : Gp w sp K F) : Wd w sp K F := fun k hk => by
  rcases h with h | ⟨z, h1, h2⟩
  · omega
  · exact ⟨_, h1, by rw [add_mid, Nat.zero_add]; exact h2.cell hk⟩
theorem Gp.nil {w : World} {sp : Option Addr} {K : Nat} {F : Nat → Nat} (h : Gp w sp K F) : sp = none → K = 0 ∧ K = 0 := fun e => by
  rcases h with h | ⟨z, h1, h2⟩
  · exact ⟨h.2, h.2⟩
  · rw [e] at h1; cases h1
theorem gp_of {w w' : World} {sp : Option Addr} {K : Nat} {F : Nat → Nat} (h : (sp = none ∧ K = 0) ∨ ∃ z, sp = some ⟨z, 0, none⟩ ∧ w'.rowIs z 33 K (fun k => .int .u64 (F k : Nat)) ∧ w.heap.size ≤ z) : Gp w' sp K F ∧ ∀ a, sp = some a → w.heap.size ≤ a.block ∧ a.block < w'.heap.size := by
  rcases h with h | ⟨z, h1, h2, h3⟩
  · exact ⟨.inl h, fun a e => by rw [h.1] at e; cases e⟩
  · exact ⟨.inr ⟨z, h1, h2⟩, fun a e => by rw [h1] at e; cases e; exact ⟨h3, h2.lt⟩⟩
theorem row_mono {w : World} {base base' e size n : Nat} {v : Value} {xs : List Value} (h : w.ownsRow base e size v n xs) (hb : base' ≤ base) : w.ownsRow base' e size v n xs := by
  refine ⟨h.1, ?_⟩
  rcases h.2 with h0 | ⟨g, cap, cur, hv, h1, h2⟩
  · exact .inl h0
  · exact .inr ⟨g, cap, cur, hv, Nat.le_trans hb h1, h2⟩
/-- The block that is written. -/
def blk (sp : Option Addr) : Option Nat := sp.map (·.block)
theorem ne_blk {sp : Option Addr} {g : Nat} (h : ∀ a, sp = some a → g ≠ a.block) : some g ≠ blk sp := by
  unfold blk
  cases sp with
  | none => simp
  | some a => simpa using h a rfl
theorem gb_blk {a b c : World} {sp : Option Addr} (h : a.grownBy b none) (k : b.grownBy c (blk sp)) (hb : ∀ x, sp = some x → a.heap.size ≤ x.block) : a.grownBy c none := by
  refine ⟨k.os.trans h.os, k.tape.trans h.tape, k.output.trans h.output, Nat.le_trans h.size k.size, fun i hi _ => (k.block i (Nat.lt_of_lt_of_le hi h.size) ?_).trans (h.block i hi (by simp))⟩
  exact ne_blk (fun x e => by have := hb x e; omega)
theorem ne_gp {sp sq : Option Addr} (h : ∀ a b, sq = some a → sp = some b → a.block ≠ b.block) : ∀ a, sq = some a → some a.block ≠ blk sp := fun a e => ne_blk (fun b e2 => h a b e e2)
/-- Words of which the first i are written anew. -/
def mk (o : Nat) (F : Nat → Nat) (i k : Nat) : Nat := if k < i then o + k else F k
theorem mk_at {w : World} {a : Addr} {K o i : Nat} {F : Nat → Nat} (h : Gp w (some a) K (mk o F K)) (hi : i < K) : w.cell? (a.add i) = some (.int .u64 ((o : Int) + (i : Int))) := by
  rw [h.wd.at hi, mk, if_pos hi]
  rfl
theorem own_lo {w : World} {base b c K o o2 i : Nat} {F : Nat → Nat} (h : w.ownsRow base 33 1 (.slice (some ⟨b, 0, none⟩) (K + 8 + 1) c) (K + 9) (((List.range K).map fun k : Nat => Value.int .u64 ((mk o F K k : Nat) : Int)) ++ ((List.range 9).map fun i : Nat => Value.int .u64 ((o2 + i : Nat) : Int)))) (hi : i < K) : w.cell? ⟨b, i, none⟩ = some (.int .u64 ((o : Int) + (i : Int))) := by
  have hc := h.cells (g := b) rfl i (.int .u64 ((o : Int) + (i : Int))) (by
    rw [List.getElem?_append_left (by simpa using hi), List.getElem?_map, List.getElem?_range hi]
    show some (Value.int .u64 ((mk o F K i : Nat) : Int)) = _
    rw [mk, if_pos hi]; rfl)
  rwa [add_mid, Nat.zero_add] at hc
theorem own_hi {w : World} {base b c K o o2 i : Nat} {F : Nat → Nat} (h : w.ownsRow base 33 1 (.slice (some ⟨b, 0, none⟩) (K + 8 + 1) c) (K + 9) (((List.range K).map fun k : Nat => Value.int .u64 ((mk o F K k : Nat) : Int)) ++ ((List.range 9).map fun i : Nat => Value.int .u64 ((o2 + i : Nat) : Int)))) (hi : i < 9) : w.cell? ⟨b, K + i, none⟩ = some (.int .u64 ((o2 : Int) + (i : Int))) := by
  have hc := h.cells (g := b) rfl (K + i) (.int .u64 ((o2 : Int) + (i : Int))) (by
    rw [List.getElem?_append_right (by simp), List.getElem?_map, List.length_map, List.length_range, show K + i - K = i by omega, List.getElem?_range hi]
    rfl)
  rwa [add_mid, Nat.zero_add] at hc
theorem lent_bo {w : World} {b n c g : Nat} {f : Nat → Nat} {cs : Array Value} (h : Lent w b n c f) (k : Bo w g 24 cs) (e : b = g) : False := by
  obtain ⟨F, ⟨cs2, hc, _⟩, _⟩ := h.row
  subst e
  unfold Bo at k
  rw [k] at hc
  simp at hc
set_option maxHeartbeats 8000000 in
theorem lines_walk (ho bo st : Nat) (hh : ho < 256) (hb : bo < 65536) (hs : st < 65536) (Na : Int) (na ca : Nat) (sa : Option Addr) (fa : Nat → Nat) (hfa : ∀ k, k < na → fa k < 18446744073709551616) (hza : na ≤ 17592186043904) (h0a : sa = none → na = 0 ∧ ca = 0) (Nh : Int) (nh ch : Nat) (sh : Option Addr) (fh : Nat → Nat) (hfh : ∀ k, k < nh → fh k < 18446744073709551616) (hzh : nh ≤ 17592186043904) (h0h : sh = none → nh = 0 ∧ ch = 0) (Nb : Int) (nb cb : Nat) (sb : Option Addr) (fb : Nat → Nat) (hfb : ∀ k, k < nb → fb k < 18446744073709551616) (hzb : nb ≤ 17592186043904) (h0b : sb = none → nb = 0 ∧ cb = 0) (w : World) (hv : Hid (Hv w)) (wa : Wd w sa na fa) (wh : Wd w sh nh fh) (wb : Wd w sb nb fb) :
    Calls Tryd.prog 3 #[.agg #[.int .u8 (ho : Nat), .int .u16 (bo : Nat), .int .u16 (st : Nat)], .agg #[.int .i64 Na, .slice sa na ca], .agg #[.int .i64 Nh, .slice sh nh ch], .agg #[.int .i64 Nb, .slice sb nb cb]] w fun e w' => e = .returned (.bool true) ∧ w.grownBy w' none := by
  have hna : na ≤ 9223372036854775807 := by omega
  have hnh : nh ≤ 9223372036854775807 := by omega
  have hnb : nb ≤ 9223372036854775807 := by omega
  obtain ⟨W1, hW1, sz1, g1, B1⟩ := boxn w #[.int .u8 (ho : Nat), .int .u16 (bo : Nat), .int .u16 (st : Nat)] 24
  obtain ⟨W2, hW2, a0, a1, sz2, g2, B2⟩ := box2 W1 (.int .i64 Na) (.slice sa na ca) 27
  obtain ⟨W3, hW3, h0, h1, sz3, g3, B3⟩ := box2 W2 (.int .i64 Nh) (.slice sh nh ch) 27
  obtain ⟨W4, hW4, b0, b1, sz4, g4, B4⟩ := box2 W3 (.int .i64 Nb) (.slice sb nb cb) 27
  have G4 : w.grownBy W4 none := gb_trans g1 (gb_trans g2 (gb_trans g3 g4))
  have P1 := B1.kept (gb_trans g2 (gb_trans g3 g4)) (by simp)
  have P2 := B2.kept (gb_trans g3 g4) (by simp)
  have P3 := B3.kept g4 (by simp)
  have l0 := P1.cell 0 (v := .int .u8 (ho : Nat)) rfl
  have l1 := P1.cell 1 (v := .int .u16 (bo : Nat)) rfl
  have l2 := P1.cell 2 (v := .int .u16 (st : Nat)) rfl
  have xa0 := P2.cell0
  have xa1 := P2.cell1
  have xh0 := P3.cell0
  have xh1 := P3.cell1
  have xb0 := B4.cell0
  have xb1 := B4.cell1
  have hR := rlineAll ho bo st hh hb hs Na na ca sa fa hfa hna Nh nh ch sh fh hfh hnh Nb nb cb sb fb hfb hnb W4 (wa.kept G4 (by simp)) (wh.kept G4 (by simp)) (wb.kept G4 (by simp))
  have hKl : aK ho bo st Na Nh Nb na nh nb fa fh fb ≤ 1025 := aK_le hfh
  obtain ⟨E, hE⟩ : ∃ E, aE ho bo st Na Nh Nb na nh nb fa fh fb = E := ⟨_, rfl⟩
  obtain ⟨M, hM⟩ : ∃ M, aM ho bo st Na Nh Nb na nh nb fa fh fb = M := ⟨_, rfl⟩
  obtain ⟨K, hK⟩ : ∃ K, aK ho bo st Na Nh Nb na nh nb fa fh fb = K := ⟨_, rfl⟩
  obtain ⟨F, hF⟩ : ∃ F, aF ho bo st Nh fa fh fb = F := ⟨_, rfl⟩
  rw [hE, hM, hK, hF] at hR
  rw [hK] at hKl
  have hL : ∀ (X : World) (cA cH cB bA bH bB : Nat), Hid (Hv X) → Wd X (some ⟨bA, 0, none⟩) na fa → Wd X (some ⟨bH, 0, none⟩) nh fh → Wd X (some ⟨bB, 0, none⟩) nb fb → Calls Tryd.prog 6 #[.agg #[.int .u8 (ho : Nat), .int .u16 (bo : Nat), .int .u16 (st : Nat)], .agg #[.int .i64 Na, .slice (some ⟨bA, 0, none⟩) na cA], .agg #[.int .i64 Nh, .slice (some ⟨bH, 0, none⟩) nh cH], .agg #[.int .i64 Nb, .slice (some ⟨bB, 0, none⟩) nb cB]] X (Lr X E M K F) := fun X cA cH cB bA bH bB hv wA wH wB => by
    have := lineAll ho bo st hh hb hs Na na cA (some ⟨bA, 0, none⟩) fa hfa hna Nh nh cH (some ⟨bH, 0, none⟩) fh hfh hnh Nb nb cB (some ⟨bB, 0, none⟩) fb hfb hnb X hv wA wH wB
    rw [hE, hM, hK, hF] at this
    exact this
  clear hE hM hK hF
  go_enter Tryd.func3, Tryd.ntmps3
  go_wp2_with (go_at_call 4; refine hR.mono ?_; rintro e V ⟨sw, rfl, hW, gV⟩; obtain ⟨W5, hW5, e0, e1, sz5, g5, B5⟩ := box2 V (.int .i64 M) (.slice sw K K) 27; have gV5 := gb_trans gV g5; have Q1 := P1.kept gV5 (by simp); have Q2 := P2.kept gV5 (by simp); have Q3 := P3.kept gV5 (by simp); have Q4 := B4.kept gV5 (by simp); have ya0 := Q2.cell0; have ya1 := Q2.cell1; have yh0 := Q3.cell0; have yh1 := Q3.cell1; have yb0 := Q4.cell0; have yb1 := Q4.cell1)
  have GW5 : w.grownBy W5 none := gb_trans G4 gV5
  have hC : Cm W5 W1.heap.size W2.heap.size W3.heap.size Na Nh Nb na ca nh ch nb cb sa sh sb fa fh fb := ⟨Q2, wa.kept GW5 (by simp), hza, h0a, Q3, wh.kept GW5 (by simp), hzh, h0h, Q4, wb.kept GW5 (by simp), hzb, h0b⟩
  refine region_cut _ (lent3 hC) ?_
  rintro a' X ⟨p6, p7, p8, bA, cA, bH, cH, bB, cB, rfl, C6, C7, C8, La, Lh, Lb, gX, q6, q7, q8, lA, lH, lB, dah, dab, dhb⟩
  clear hC ya0 ya1 yh0 yh1 yb0 yb1
  have T1 := Q1.kept gX (by simp)
  have l10 := T1.cell 0 (v := .int .u8 (ho : Nat)) rfl
  have l11 := T1.cell 1 (v := .int .u16 (bo : Nat)) rfl
  have l12 := T1.cell 2 (v := .int .u16 (st : Nat)) rfl
  have xA0 := C6.cell0
  have xA1 := C6.cell1
  have xH0 := C7.cell0
  have xH1 := C7.cell1
  have xB0 := C8.cell0
  have xB1 := C8.cell1
  have GX : w.grownBy X none := gb_trans GW5 gX
  have hL1 := hL X cA cH cB bA bH bB (hvK hv GX) La.wd Lh.wd Lb.wd
  have lt_l := T1.lt
  have lt_va := (Q2.kept gX (by simp)).lt
  have lt_vh := (Q3.kept gX (by simp)).lt
  have lt_vb := (Q4.kept gX (by simp)).lt
  have lt_wt := (B5.kept gX (by simp)).lt
  have lt_A := C6.lt
  have lt_H := C7.lt
  have lt_B := C8.lt
  have lt_bA := La.blt
  have lt_bH := Lh.blt
  have lt_bB := Lb.blt
  have X_l0 := T1
  have X_va0 := Q2.kept gX (by simp)
  have X_vh0 := Q3.kept gX (by simp)
  have X_vb0 := Q4.kept gX (by simp)
  have X_wt0 := B5.kept gX (by simp)
  have X_A0 := C6
  have X_H0 := C7
  have X_B0 := C8
  have LA0 := La
  have LH0 := Lh
  have LB0 := Lb
  obtain ⟨gwV, bdw⟩ := gp_of hW
  have gw0 := (gwV.kept g5 (by simp)).kept gX (by simp)
  have hE0 : (((E : Nat) : Int) != ((E : Nat) : Int)) = false := by simp
  clear Q1 Q2 Q3 Q4 T1 C6 C7 C8 La Lh Lb P1 P2 P3 B1 B2 B3 B4 B5 gwV a0 a1 h0 h1 b0 b1 xa0 xa1 xh0 xh1 xb0 xb1 l0 l1 l2 e0 e1 hR
  go_wp2_with (first | (go_at_call 6; (fail_if_success (guard_hyp gp)); refine hL1.mono ?_; rintro e Vp ⟨sp, rfl, hp, gp⟩; obtain ⟨Xp, hXp, pc0, pc1, szp, gpx, X_P1⟩ := box2 Vp (.int .i64 M) (.slice sp K K) 27; have gp2 := gb_trans gp gpx; obtain ⟨gpV, bdp⟩ := gp_of hp; have gp1 := gpV.kept gpx (by simp); have X_l1 := X_l0.kept gp2 (by simp); have X_va1 := X_va0.kept gp2 (by simp); have X_vh1 := X_vh0.kept gp2 (by simp); have X_vb1 := X_vb0.kept gp2 (by simp); have X_wt1 := X_wt0.kept gp2 (by simp); have X_A1 := X_A0.kept gp2 (by simp); have X_H1 := X_H0.kept gp2 (by simp); have X_B1 := X_B0.kept gp2 (by simp); have LA1 := LA0.kept gp2 (by simp); have LH1 := LH0.kept gp2 (by simp); have LB1 := LB0.kept gp2 (by simp); have gw1 := gw0.kept gp2 (by simp); have cl1_0 := X_l1.cell 0 (v := .int .u8 (ho : Nat)) rfl; have cl1_1 := X_l1.cell 1 (v := .int .u16 (bo : Nat)) rfl; have cl1_2 := X_l1.cell 2 (v := .int .u16 (st : Nat)) rfl; have cA1_0 := X_A1.cell0; have cA1_1 := X_A1.cell1; have cH1_0 := X_H1.cell0; have cH1_1 := X_H1.cell1; have cB1_0 := X_B1.cell0; have cB1_1 := X_B1.cell1; have GX1 := gb_trans GX gp2; have hL2 := hL Xp cA cH cB bA bH bB (hvK hv GX1) LA1.wd LH1.wd LB1.wd) | (go_at_call 6; guard_hyp gp; refine hL2.mono ?_; rintro e Vq ⟨sq, rfl, hq, gq⟩; obtain ⟨Y, hY, qc0, qc1, szq, gqx, X_Q2⟩ := box2 Vq (.int .i64 M) (.slice sq K K) 27; have gq2 := gb_trans gq gqx; obtain ⟨gqV, bdq⟩ := gp_of hq; have gq3 := gqV.kept gqx (by simp); have X_l2 := X_l1.kept gq2 (by simp); have X_va2 := X_va1.kept gq2 (by simp); have X_vh2 := X_vh1.kept gq2 (by simp); have X_vb2 := X_vb1.kept gq2 (by simp); have X_wt2 := X_wt1.kept gq2 (by simp); have X_A2 := X_A1.kept gq2 (by simp); have X_H2 := X_H1.kept gq2 (by simp); have X_B2 := X_B1.kept gq2 (by simp); have X_P2 := X_P1.kept gq2 (by simp); have LA2 := LA1.kept gq2 (by simp); have LH2 := LH1.kept gq2 (by simp); have LB2 := LB1.kept gq2 (by simp); have gw2 := gw1.kept gq2 (by simp); have gp2 := gp1.kept gq2 (by simp); have cl2_0 := X_l2.cell 0 (v := .int .u8 (ho : Nat)) rfl; have cl2_1 := X_l2.cell 1 (v := .int .u16 (bo : Nat)) rfl; have cl2_2 := X_l2.cell 2 (v := .int .u16 (st : Nat)) rfl; have cva2_0 := X_va2.cell0; have cva2_1 := X_va2.cell1; have cvh2_0 := X_vh2.cell0; have cvh2_1 := X_vh2.cell1; have cvb2_0 := X_vb2.cell0; have cvb2_1 := X_vb2.cell1; have cwt2_0 := X_wt2.cell0; have cwt2_1 := X_wt2.cell1; have cA2_0 := X_A2.cell0; have cA2_1 := X_A2.cell1; have cH2_0 := X_H2.cell0; have cH2_1 := X_H2.cell1; have cB2_0 := X_B2.cell0; have cB2_1 := X_B2.cell1; have cP2_0 := X_P2.cell0; have cP2_1 := X_P2.cell1; have cQ2_0 := X_Q2.cell0; have cQ2_1 := X_Q2.cell1; have GX2 := gb_trans GX1 gq2; have gq2_ := gq3))
  have gq2 := gq2_
  go_wp2_with (first | (go_at_call 7; (fail_if_success (guard_hyp mk2)); refine (Wo.sameYes M K K K sp sw F (by omega) Y gp2.wd gw2.wd).mono ?_; rintro e Z3 ⟨rfl, gz3⟩; have mk2 : True := trivial; have X_l3 := X_l2.kept gz3 (by simp); have X_va3 := X_va2.kept gz3 (by simp); have X_vh3 := X_vh2.kept gz3 (by simp); have X_vb3 := X_vb2.kept gz3 (by simp); have X_wt3 := X_wt2.kept gz3 (by simp); have X_A3 := X_A2.kept gz3 (by simp); have X_H3 := X_H2.kept gz3 (by simp); have X_B3 := X_B2.kept gz3 (by simp); have X_P3 := X_P2.kept gz3 (by simp); have X_Q3 := X_Q2.kept gz3 (by simp); have LA3 := LA2.kept gz3 (by simp); have LH3 := LH2.kept gz3 (by simp); have LB3 := LB2.kept gz3 (by simp); have gw3 := gw2.kept gz3 (by simp); have gp3 := gp2.kept gz3 (by simp); have gq3 := gq2.kept gz3 (by simp); have cl3_0 := X_l3.cell 0 (v := .int .u8 (ho : Nat)) rfl; have cl3_1 := X_l3.cell 1 (v := .int .u16 (bo : Nat)) rfl; have cl3_2 := X_l3.cell 2 (v := .int .u16 (st : Nat)) rfl; have cva3_0 := X_va3.cell0; have cva3_1 := X_va3.cell1; have cvh3_0 := X_vh3.cell0; have cvh3_1 := X_vh3.cell1; have cvb3_0 := X_vb3.cell0; have cvb3_1 := X_vb3.cell1; have cwt3_0 := X_wt3.cell0; have cwt3_1 := X_wt3.cell1; have cA3_0 := X_A3.cell0; have cA3_1 := X_A3.cell1; have cH3_0 := X_H3.cell0; have cH3_1 := X_H3.cell1; have cB3_0 := X_B3.cell0; have cB3_1 := X_B3.cell1; have cP3_0 := X_P3.cell0; have cP3_1 := X_P3.cell1; have cQ3_0 := X_Q3.cell0; have cQ3_1 := X_Q3.cell1; have GX3 := gb_trans GX2 gz3) | (go_at_call 7; guard_hyp mk2; (fail_if_success (guard_hyp mk3)); refine (Wo.sameYes M K K K sq sw F (by omega) Z3 gq3.wd gw3.wd).mono ?_; rintro e Z4 ⟨rfl, gz4⟩; have mk3 : True := trivial; have X_l4 := X_l3.kept gz4 (by simp); have X_va4 := X_va3.kept gz4 (by simp); have X_vh4 := X_vh3.kept gz4 (by simp); have X_vb4 := X_vb3.kept gz4 (by simp); have X_wt4 := X_wt3.kept gz4 (by simp); have X_A4 := X_A3.kept gz4 (by simp); have X_H4 := X_H3.kept gz4 (by simp); have X_B4 := X_B3.kept gz4 (by simp); have X_P4 := X_P3.kept gz4 (by simp); have X_Q4 := X_Q3.kept gz4 (by simp); have LA4 := LA3.kept gz4 (by simp); have LH4 := LH3.kept gz4 (by simp); have LB4 := LB3.kept gz4 (by simp); have gw4 := gw3.kept gz4 (by simp); have gp4 := gp3.kept gz4 (by simp); have gq4 := gq3.kept gz4 (by simp); have cl4_0 := X_l4.cell 0 (v := .int .u8 (ho : Nat)) rfl; have cl4_1 := X_l4.cell 1 (v := .int .u16 (bo : Nat)) rfl; have cl4_2 := X_l4.cell 2 (v := .int .u16 (st : Nat)) rfl; have cva4_0 := X_va4.cell0; have cva4_1 := X_va4.cell1; have cvh4_0 := X_vh4.cell0; have cvh4_1 := X_vh4.cell1; have cvb4_0 := X_vb4.cell0; have cvb4_1 := X_vb4.cell1; have cwt4_0 := X_wt4.cell0; have cwt4_1 := X_wt4.cell1; have cA4_0 := X_A4.cell0; have cA4_1 := X_A4.cell1; have cH4_0 := X_H4.cell0; have cH4_1 := X_H4.cell1; have cB4_0 := X_B4.cell0; have cB4_1 := X_B4.cell1; have cP4_0 := X_P4.cell0; have cP4_1 := X_P4.cell1; have cQ4_0 := X_Q4.cell0; have cQ4_1 := X_Q4.cell1; have GX4 := gb_trans GX3 gz4) | (go_at_call 8; (fail_if_success (guard_hyp mk4)); refine (keptC Na na bA cA ca sa fa hza Z4 LA4 (wa.kept GX4 (by simp))).mono ?_; rintro e Z5 ⟨rfl, gz5⟩; have mk4 : True := trivial; have X_l5 := X_l4.kept gz5 (by simp); have X_va5 := X_va4.kept gz5 (by simp); have X_vh5 := X_vh4.kept gz5 (by simp); have X_vb5 := X_vb4.kept gz5 (by simp); have X_wt5 := X_wt4.kept gz5 (by simp); have X_A5 := X_A4.kept gz5 (by simp); have X_H5 := X_H4.kept gz5 (by simp); have X_B5 := X_B4.kept gz5 (by simp); have X_P5 := X_P4.kept gz5 (by simp); have X_Q5 := X_Q4.kept gz5 (by simp); have LA5 := LA4.kept gz5 (by simp); have LH5 := LH4.kept gz5 (by simp); have LB5 := LB4.kept gz5 (by simp); have gw5 := gw4.kept gz5 (by simp); have gp5 := gp4.kept gz5 (by simp); have gq5 := gq4.kept gz5 (by simp); have cl5_0 := X_l5.cell 0 (v := .int .u8 (ho : Nat)) rfl; have cl5_1 := X_l5.cell 1 (v := .int .u16 (bo : Nat)) rfl; have cl5_2 := X_l5.cell 2 (v := .int .u16 (st : Nat)) rfl; have cva5_0 := X_va5.cell0; have cva5_1 := X_va5.cell1; have cvh5_0 := X_vh5.cell0; have cvh5_1 := X_vh5.cell1; have cvb5_0 := X_vb5.cell0; have cvb5_1 := X_vb5.cell1; have cwt5_0 := X_wt5.cell0; have cwt5_1 := X_wt5.cell1; have cA5_0 := X_A5.cell0; have cA5_1 := X_A5.cell1; have cH5_0 := X_H5.cell0; have cH5_1 := X_H5.cell1; have cB5_0 := X_B5.cell0; have cB5_1 := X_B5.cell1; have cP5_0 := X_P5.cell0; have cP5_1 := X_P5.cell1; have cQ5_0 := X_Q5.cell0; have cQ5_1 := X_Q5.cell1; have GX5 := gb_trans GX4 gz5) | (go_at_call 8; guard_hyp mk4; (fail_if_success (guard_hyp mk5)); refine (keptC Nh nh bH cH ch sh fh hzh Z5 LH5 (wh.kept GX5 (by simp))).mono ?_; rintro e Z6 ⟨rfl, gz6⟩; have mk5 : True := trivial; have X_l6 := X_l5.kept gz6 (by simp); have X_va6 := X_va5.kept gz6 (by simp); have X_vh6 := X_vh5.kept gz6 (by simp); have X_vb6 := X_vb5.kept gz6 (by simp); have X_wt6 := X_wt5.kept gz6 (by simp); have X_A6 := X_A5.kept gz6 (by simp); have X_H6 := X_H5.kept gz6 (by simp); have X_B6 := X_B5.kept gz6 (by simp); have X_P6 := X_P5.kept gz6 (by simp); have X_Q6 := X_Q5.kept gz6 (by simp); have LA6 := LA5.kept gz6 (by simp); have LH6 := LH5.kept gz6 (by simp); have LB6 := LB5.kept gz6 (by simp); have gw6 := gw5.kept gz6 (by simp); have gp6 := gp5.kept gz6 (by simp); have gq6 := gq5.kept gz6 (by simp); have cl6_0 := X_l6.cell 0 (v := .int .u8 (ho : Nat)) rfl; have cl6_1 := X_l6.cell 1 (v := .int .u16 (bo : Nat)) rfl; have cl6_2 := X_l6.cell 2 (v := .int .u16 (st : Nat)) rfl; have cva6_0 := X_va6.cell0; have cva6_1 := X_va6.cell1; have cvh6_0 := X_vh6.cell0; have cvh6_1 := X_vh6.cell1; have cvb6_0 := X_vb6.cell0; have cvb6_1 := X_vb6.cell1; have cwt6_0 := X_wt6.cell0; have cwt6_1 := X_wt6.cell1; have cA6_0 := X_A6.cell0; have cA6_1 := X_A6.cell1; have cH6_0 := X_H6.cell0; have cH6_1 := X_H6.cell1; have cB6_0 := X_B6.cell0; have cB6_1 := X_B6.cell1; have cP6_0 := X_P6.cell0; have cP6_1 := X_P6.cell1; have cQ6_0 := X_Q6.cell0; have cQ6_1 := X_Q6.cell1; have GX6 := gb_trans GX5 gz6) | (go_at_call 8; guard_hyp mk5; (fail_if_success (guard_hyp mk6)); refine (keptC Nb nb bB cB cb sb fb hzb Z6 LB6 (wb.kept GX6 (by simp))).mono ?_; rintro e Z7 ⟨rfl, gz7⟩; have mk6 : True := trivial; have X_l7 := X_l6.kept gz7 (by simp); have X_va7 := X_va6.kept gz7 (by simp); have X_vh7 := X_vh6.kept gz7 (by simp); have X_vb7 := X_vb6.kept gz7 (by simp); have X_wt7 := X_wt6.kept gz7 (by simp); have X_A7 := X_A6.kept gz7 (by simp); have X_H7 := X_H6.kept gz7 (by simp); have X_B7 := X_B6.kept gz7 (by simp); have X_P7 := X_P6.kept gz7 (by simp); have X_Q7 := X_Q6.kept gz7 (by simp); have LA7 := LA6.kept gz7 (by simp); have LH7 := LH6.kept gz7 (by simp); have LB7 := LB6.kept gz7 (by simp); have gw7 := gw6.kept gz7 (by simp); have gp7 := gp6.kept gz7 (by simp); have gq7 := gq6.kept gz7 (by simp); have cl7_0 := X_l7.cell 0 (v := .int .u8 (ho : Nat)) rfl; have cl7_1 := X_l7.cell 1 (v := .int .u16 (bo : Nat)) rfl; have cl7_2 := X_l7.cell 2 (v := .int .u16 (st : Nat)) rfl; have cva7_0 := X_va7.cell0; have cva7_1 := X_va7.cell1; have cvh7_0 := X_vh7.cell0; have cvh7_1 := X_vh7.cell1; have cvb7_0 := X_vb7.cell0; have cvb7_1 := X_vb7.cell1; have cwt7_0 := X_wt7.cell0; have cwt7_1 := X_wt7.cell1; have cA7_0 := X_A7.cell0; have cA7_1 := X_A7.cell1; have cH7_0 := X_H7.cell0; have cH7_1 := X_H7.cell1; have cB7_0 := X_B7.cell0; have cB7_1 := X_B7.cell1; have cP7_0 := X_P7.cell0; have cP7_1 := X_P7.cell1; have cQ7_0 := X_Q7.cell0; have cQ7_1 := X_Q7.cell1; have GX7 := gb_trans GX6 gz7))
  have szX : X.heap.size ≤ Xp.heap.size := by have := gp.size; have := szp.out; omega
  have szVp : Vp.heap.size < Xp.heap.size := by have := szp.out; omega
  have szXY : Xp.heap.size ≤ Vq.heap.size := gq.size
  have lwX : w.heap.size ≤ X.heap.size := GX.size
  have lwX5 : W5.heap.size ≤ X.heap.size := gX.size
  have lwV5 : V.heap.size < W5.heap.size := by have := sz5.out; omega
  have lpv := gp.size
  have lw5 := GW5.size
  clear cl7_0 cl7_1 cl7_2 cva7_0 cva7_1 cvh7_0 cvh7_1 cvb7_0 cvb7_1 cwt7_0 cwt7_1 cA7_0 cA7_1 cH7_0 cH7_1 cB7_0 cB7_1
  go_loopw [18] (fun x wr => ∃ i : Nat, i ≤ K ∧ x = .int .i64 (i : Nat) ∧ Gp wr sp K (mk 100 F i) ∧ Z7.grownBy wr (blk sp)) (fun x _ => K - (intOf x).toNat)
  case atStart => exact ⟨0, Nat.zero_le _, rfl, gp7, World.grownBy.refl _ _⟩
  case round =>
    obtain ⟨i, hi, rfl, gi, hg⟩ := hrel
    have Bi := X_P7.kept hg (ne_blk (fun a e => by have := bdp a e; omega))
    have bi0 := Bi.cell0
    have bi1 := Bi.cell1
    by_cases hlt : i < K
    · have hlt' : (i : Int) < (K : Int) := by omega
      have hw1 : IntKind.i64.wrap (100 + (i : Int)) = 100 + (i : Int) := by rw [IntKind.wrap_i64]; omega
      have hw2 : IntKind.u64.wrap (100 + (i : Int)) = 100 + (i : Int) := by rw [IntKind.wrap_u64]; omega
      rcases gi with ⟨_, h0⟩ | ⟨z, hz, hrow⟩
      · omega
      · rw [hz] at bi1
        have HZ : Hid _ := hz
        have hbk : Hid (blk sp = some z) := by unfold Hid; rw [hz]; rfl
        have y0 := hrow.cell hlt
        have y1 := hrow.frozen i
        clear hz
        go_wp2
        refine ⟨⟨i + 1, hlt, by go_num, .inr ⟨z, HZ.out, (hrow.set i (.int .u64 ((100 + i : Nat) : Int))).congr (fun k _ => ?_)⟩, ?_⟩, by simp [intOf]; omega⟩
        · dsimp only [mk]
          by_cases e : k = i
          · subst e; rw [if_pos rfl, if_pos (by omega)]
          · rw [if_neg e]
            by_cases e2 : k < i
            · rw [if_pos e2, if_pos (by omega)]
            · rw [if_neg e2, if_neg (by omega)]
        · rw [hbk.out] at hg ⊢
          exact gb_set hg _ _
    · obtain ⟨Z8, hZ8⟩ : ∃ Z, Z = wr := ⟨_, rfl⟩
      subst hZ8
      have hiK : i = K := by omega
      have GX8 : w.grownBy Z8 none := gb_blk GX7 hg (fun a e => by have := bdp a e; omega)
      have X_l8 := X_l7.kept hg (ne_blk (fun a e => by have := bdp a e; omega))
      have X_va8 := X_va7.kept hg (ne_blk (fun a e => by have := bdp a e; omega))
      have X_vh8 := X_vh7.kept hg (ne_blk (fun a e => by have := bdp a e; omega))
      have X_vb8 := X_vb7.kept hg (ne_blk (fun a e => by have := bdp a e; omega))
      have X_wt8 := X_wt7.kept hg (ne_blk (fun a e => by have := bdp a e; omega))
      have X_A8 := X_A7.kept hg (ne_blk (fun a e => by have := bdp a e; omega))
      have X_H8 := X_H7.kept hg (ne_blk (fun a e => by have := bdp a e; omega))
      have X_B8 := X_B7.kept hg (ne_blk (fun a e => by have := bdp a e; omega))
      have X_P8 := X_P7.kept hg (ne_blk (fun a e => by have := bdp a e; omega))
      have X_Q8 := X_Q7.kept hg (ne_blk (fun a e => by have := bdp a e; omega))
      have LA8 := LA7.kept hg (ne_blk (fun a e => by have := bdp a e; omega))
      have LH8 := LH7.kept hg (ne_blk (fun a e => by have := bdp a e; omega))
      have LB8 := LB7.kept hg (ne_blk (fun a e => by have := bdp a e; omega))
      have gw8 := gw7.kept hg (ne_gp (fun a b e1 e2 => by have := bdw a e1; have := bdp b e2; omega))
      have gq8 := gq7.kept hg (ne_gp (fun a b e1 e2 => by have := bdq a e1; have := bdp b e2; omega))
      have gp8 : Gp Z8 sp K (mk 100 F K) := hiK ▸ gi
      rw [hiK]
      have cP8_0 := X_P8.cell0
      have cP8_1 := X_P8.cell1
      have cQ8_0 := X_Q8.cell0
      have cQ8_1 := X_Q8.cell1
      clear bi0 bi1 Bi hlt gi hi hiK
      clear i
      go_wp2
      go_loopw [19] (fun x wr => ∃ i : Nat, i ≤ K ∧ x = .int .i64 (i : Nat) ∧ Gp wr sq K (mk 200 F i) ∧ Z8.grownBy wr (blk sq)) (fun x _ => K - (intOf x).toNat)
      case atStart => exact ⟨0, Nat.zero_le _, rfl, gq8, World.grownBy.refl _ _⟩
      case round =>
        obtain ⟨i, hi, rfl, gi, hg⟩ := hrel
        have Bi := X_Q8.kept hg (ne_blk (fun a e => by have := bdq a e; omega))
        have bi0 := Bi.cell0
        have bi1 := Bi.cell1
        by_cases hlt : i < K
        · have hlt' : (i : Int) < (K : Int) := by omega
          have hw1 : IntKind.i64.wrap (200 + (i : Int)) = 200 + (i : Int) := by rw [IntKind.wrap_i64]; omega
          have hw2 : IntKind.u64.wrap (200 + (i : Int)) = 200 + (i : Int) := by rw [IntKind.wrap_u64]; omega
          rcases gi with ⟨_, h0⟩ | ⟨z, hz, hrow⟩
          · omega
          · rw [hz] at bi1
            have HZ : Hid _ := hz
            have hbk : Hid (blk sq = some z) := by unfold Hid; rw [hz]; rfl
            have y0 := hrow.cell hlt
            have y1 := hrow.frozen i
            clear hz
            go_wp2
            refine ⟨⟨i + 1, hlt, by go_num, .inr ⟨z, HZ.out, (hrow.set i (.int .u64 ((200 + i : Nat) : Int))).congr (fun k _ => ?_)⟩, ?_⟩, by simp [intOf]; omega⟩
            · dsimp only [mk]
              by_cases e : k = i
              · subst e; rw [if_pos rfl, if_pos (by omega)]
              · rw [if_neg e]
                by_cases e2 : k < i
                · rw [if_pos e2, if_pos (by omega)]
                · rw [if_neg e2, if_neg (by omega)]
            · rw [hbk.out] at hg ⊢
              exact gb_set hg _ _
        · obtain ⟨Z9, hZ9⟩ : ∃ Z, Z = wr := ⟨_, rfl⟩
          subst hZ9
          have hiK : i = K := by omega
          have GX9 : w.grownBy Z9 none := gb_blk GX8 hg (fun a e => by have := bdq a e; omega)
          have X_l9 := X_l8.kept hg (ne_blk (fun a e => by have := bdq a e; omega))
          have X_va9 := X_va8.kept hg (ne_blk (fun a e => by have := bdq a e; omega))
          have X_vh9 := X_vh8.kept hg (ne_blk (fun a e => by have := bdq a e; omega))
          have X_vb9 := X_vb8.kept hg (ne_blk (fun a e => by have := bdq a e; omega))
          have X_wt9 := X_wt8.kept hg (ne_blk (fun a e => by have := bdq a e; omega))
          have X_A9 := X_A8.kept hg (ne_blk (fun a e => by have := bdq a e; omega))
          have X_H9 := X_H8.kept hg (ne_blk (fun a e => by have := bdq a e; omega))
          have X_B9 := X_B8.kept hg (ne_blk (fun a e => by have := bdq a e; omega))
          have X_P9 := X_P8.kept hg (ne_blk (fun a e => by have := bdq a e; omega))
          have X_Q9 := X_Q8.kept hg (ne_blk (fun a e => by have := bdq a e; omega))
          have LA9 := LA8.kept hg (ne_blk (fun a e => by have := bdq a e; omega))
          have LH9 := LH8.kept hg (ne_blk (fun a e => by have := bdq a e; omega))
          have LB9 := LB8.kept hg (ne_blk (fun a e => by have := bdq a e; omega))
          have gw9 := gw8.kept hg (ne_gp (fun a b e1 e2 => by have := bdw a e1; have := bdq b e2; omega))
          have gp9 := gp8.kept hg (ne_gp (fun a b e1 e2 => by have := bdp a e1; have := bdq b e2; omega))
          have gq9 : Gp Z9 sq K (mk 200 F K) := hiK ▸ gi
          rw [hiK]
          have cP9_0 := X_P9.cell0
          have cP9_1 := X_P9.cell1
          have cQ9_0 := X_Q9.cell0
          have cQ9_1 := X_Q9.cell1
          clear bi0 bi1 Bi hlt gi hi hiK
          clear i
          go_wp2
          go_quiet (fail)
          go_wp2
          obtain ⟨Z10, hZ10⟩ : ∃ Z, Z9.drewN nq = Z := ⟨_, rfl⟩
          rw [hZ10]
          have gD : Z9.grownBy Z10 none := hZ10 ▸ gb_drewN (World.grownBy.refl _ _) nq
          clear hZ10
          have X_l10 := X_l9.kept gD (by simp)
          have X_va10 := X_va9.kept gD (by simp)
          have X_vh10 := X_vh9.kept gD (by simp)
          have X_vb10 := X_vb9.kept gD (by simp)
          have X_wt10 := X_wt9.kept gD (by simp)
          have X_A10 := X_A9.kept gD (by simp)
          have X_H10 := X_H9.kept gD (by simp)
          have X_B10 := X_B9.kept gD (by simp)
          have X_P10 := X_P9.kept gD (by simp)
          have X_Q10 := X_Q9.kept gD (by simp)
          have LA10 := LA9.kept gD (by simp)
          have LH10 := LH9.kept gD (by simp)
          have LB10 := LB9.kept gD (by simp)
          have gw10 := gw9.kept gD (by simp)
          have gp10 := gp9.kept gD (by simp)
          have gq10 := gq9.kept gD (by simp)
          have GX10 := gb_trans GX9 gD
          obtain ⟨iw, hiw⟩ := info_parts Wo.infoW
          have HW : Hid (Tryd.prog.info? 33 = some iw ∧ iw.zero = some (.int .u64 0) ∧ iw.size = 1 ∧ iw.bytes = 8) := hiw
          clear hiw
          go_loopw [20, 22] (fun vl x wr => ∃ j : Nat, j ≤ 9 ∧ x = .int .i64 (j : Nat) ∧ Z10.grownBy wr none ∧ ((j = 0 ∧ vl = .slice sp K K) ∨ (0 < j ∧ wr.ownsRow Z10.heap.size 33 1 vl (K + j) (((List.range K).map fun k : Nat => Value.int .u64 ((mk 100 F K k : Nat) : Int)) ++ ((List.range j).map fun i : Nat => Value.int .u64 ((300 + i : Nat) : Int)))))) (fun _ x _ => 9 - (intOf x).toNat)
          case atStart => exact ⟨0, by omega, rfl, World.grownBy.refl _ _, .inl ⟨rfl, rfl⟩⟩
          case round =>
            obtain ⟨j, hj, rfl, hg, hv⟩ := hrel
            by_cases hlt : j < 9
            · have hlt' : (j : Int) < 9 := by omega
              have hw1 : IntKind.i64.wrap (300 + (j : Int)) = 300 + (j : Int) := by rw [IntKind.wrap_i64]; omega
              have hw2 : IntKind.u64.wrap (300 + (j : Int)) = 300 + (j : Int) := by rw [IntKind.wrap_u64]; omega
              obtain ⟨W8, hW8⟩ : ∃ W8, wr.alloc (.cells #[.int .u64 (300 + (j : Int))] 33) = W8 := ⟨_, rfl⟩
              have g8 : wr.grownBy W8 none := by rw [← hW8]; exact World.grownBy_alloc _ _ _
              have hN8 : ∀ k u, [Value.int .u64 (300 + (j : Int))][k]? = some u → W8.cell? ((⟨wr.heap.size, 0, none⟩ : Addr).add k) = some u := by rw [← hW8]; exact World.news_of_block (cs := #[Value.int .u64 (300 + (j : Int))]) (heap_alloc_new wr _)
              have z8 := g8.size
              have zg := hg.size
              rcases hv with ⟨h0, rfl⟩ | ⟨hj0, hown⟩
              · have H0 : Hid (j = 0) := h0
                clear h0
                have gw8 := (gp10.kept hg (by simp)).kept g8 (by simp)
                have hold : ∀ b, sp = some b → ∀ k u, ((List.range K).map fun k : Nat => Value.int .u64 ((mk 100 F K k : Nat) : Int))[k]? = some u → W8.cell? (b.add k) = some u := fun b e => by have := gw8.wd; rw [e] at this; exact words_news this
                have hnil := gw8.nil
                go_wp2_with (at_builtin; refine wpList_append_grows _ rfl _ _ 25 rfl 33 iw (.int .u64 0) 1 8 Wo.underS HW.out.1 HW.out.2.1 HW.out.2.2.1 HW.out.2.2.2 rfl (by decide) sp K K ((List.range K).map fun k : Nat => Value.int .u64 ((mk 100 F K k : Nat) : Int)) rfl hnil (by simp) hold ⟨wr.heap.size, 0, none⟩ 1 1 [.int .u64 (300 + (j : Int))] rfl rfl hN8 (by intro u hu; simp at hu; subst hu; rfl) (by omega) (by unfold maxLen; omega) (by omega) ?_; intro v5 w5 hown5 hgrow5)
                go_roundw
                case rel =>
                  refine ⟨j + 1, by omega, by go_num, gb_trans hg (gb_trans g8 hgrow5), .inr ⟨by omega, ?_⟩⟩
                  have ht := row_mono hown5 (show Z10.heap.size ≤ W8.heap.size by omega)
                  have e0 := H0.out
                  subst e0
                  exact ht
                case measure => simp [intOf]; omega
              · have ho8 := hown.kept g8 (Classical.em _)
                go_wp2_with (at_builtin; refine wpList_append_own _ rfl _ _ 25 rfl Z10.heap.size 33 iw (.int .u64 0) 1 8 Wo.underS HW.out.1 HW.out.2.1 HW.out.2.2.1 HW.out.2.2.2 rfl (by decide) _ _ _ rfl ho8 ⟨wr.heap.size, 0, none⟩ 1 1 [.int .u64 (300 + (j : Int))] rfl rfl hN8 (by intro u hu; simp at hu; subst hu; rfl) (by unfold maxLen; omega) (by omega) (by omega) ?_; intro v5 w5 hown5 hgrow5 hnil5)
                go_roundw
                case rel =>
                  refine ⟨j + 1, by omega, by go_num, gb_row (gb_trans hg g8) hgrow5 (fun i e => (hown.lt i e).1), .inr ⟨by omega, ?_⟩⟩
                  rw [List.range_succ, List.map_append, ← List.append_assoc]
                  exact hown5
                case measure => simp [intOf]; omega
            · rcases hv with ⟨h0, _⟩ | ⟨hj0, hown⟩
              · omega
              · obtain ⟨Z11, hZ11⟩ : ∃ Z, Z = wr := ⟨_, rfl⟩
                subst hZ11
                have hj9 : j = 9 := by omega
                subst hj9
                obtain ⟨bm, cm, em⟩ := ownsRow_succ (k := K + 8) hown
                subst em
                have om := hown
                have X_l11 := X_l10.kept hg (by simp)
                have X_va11 := X_va10.kept hg (by simp)
                have X_vh11 := X_vh10.kept hg (by simp)
                have X_vb11 := X_vb10.kept hg (by simp)
                have X_wt11 := X_wt10.kept hg (by simp)
                have X_A11 := X_A10.kept hg (by simp)
                have X_H11 := X_H10.kept hg (by simp)
                have X_B11 := X_B10.kept hg (by simp)
                have X_P11 := X_P10.kept hg (by simp)
                have X_Q11 := X_Q10.kept hg (by simp)
                have LA11 := LA10.kept hg (by simp)
                have LH11 := LH10.kept hg (by simp)
                have LB11 := LB10.kept hg (by simp)
                have gw11 := gw10.kept hg (by simp)
                have gp11 := gp10.kept hg (by simp)
                have gq11 := gq10.kept hg (by simp)
                have GX11 := gb_trans GX10 hg
                have cP11_0 := X_P11.cell0
                have cP11_1 := X_P11.cell1
                have cQ11_0 := X_Q11.cell0
                have cQ11_1 := X_Q11.cell1
                clear hown hj hlt hj0
                go_wp2
                go_loopw [21, 23] (fun vl x wr => ∃ j : Nat, j ≤ 9 ∧ x = .int .i64 (j : Nat) ∧ Z11.grownBy wr none ∧ ((j = 0 ∧ vl = .slice sq K K) ∨ (0 < j ∧ wr.ownsRow Z11.heap.size 33 1 vl (K + j) (((List.range K).map fun k : Nat => Value.int .u64 ((mk 200 F K k : Nat) : Int)) ++ ((List.range j).map fun i : Nat => Value.int .u64 ((400 + i : Nat) : Int)))))) (fun _ x _ => 9 - (intOf x).toNat)
                case atStart => exact ⟨0, by omega, rfl, World.grownBy.refl _ _, .inl ⟨rfl, rfl⟩⟩
                case round =>
                  obtain ⟨j, hj, rfl, hg, hv⟩ := hrel
                  by_cases hlt : j < 9
                  · have hlt' : (j : Int) < 9 := by omega
                    have hw1 : IntKind.i64.wrap (400 + (j : Int)) = 400 + (j : Int) := by rw [IntKind.wrap_i64]; omega
                    have hw2 : IntKind.u64.wrap (400 + (j : Int)) = 400 + (j : Int) := by rw [IntKind.wrap_u64]; omega
                    obtain ⟨W8, hW8⟩ : ∃ W8, wr.alloc (.cells #[.int .u64 (400 + (j : Int))] 33) = W8 := ⟨_, rfl⟩
                    have g8 : wr.grownBy W8 none := by rw [← hW8]; exact World.grownBy_alloc _ _ _
                    have hN8 : ∀ k u, [Value.int .u64 (400 + (j : Int))][k]? = some u → W8.cell? ((⟨wr.heap.size, 0, none⟩ : Addr).add k) = some u := by rw [← hW8]; exact World.news_of_block (cs := #[Value.int .u64 (400 + (j : Int))]) (heap_alloc_new wr _)
                    have z8 := g8.size
                    have zg := hg.size
                    rcases hv with ⟨h0, rfl⟩ | ⟨hj0, hown⟩
                    · have H0 : Hid (j = 0) := h0
                      clear h0
                      have gw8 := (gq11.kept hg (by simp)).kept g8 (by simp)
                      have hold : ∀ b, sq = some b → ∀ k u, ((List.range K).map fun k : Nat => Value.int .u64 ((mk 200 F K k : Nat) : Int))[k]? = some u → W8.cell? (b.add k) = some u := fun b e => by have := gw8.wd; rw [e] at this; exact words_news this
                      have hnil := gw8.nil
                      go_wp2_with (at_builtin; refine wpList_append_grows _ rfl _ _ 25 rfl 33 iw (.int .u64 0) 1 8 Wo.underS HW.out.1 HW.out.2.1 HW.out.2.2.1 HW.out.2.2.2 rfl (by decide) sq K K ((List.range K).map fun k : Nat => Value.int .u64 ((mk 200 F K k : Nat) : Int)) rfl hnil (by simp) hold ⟨wr.heap.size, 0, none⟩ 1 1 [.int .u64 (400 + (j : Int))] rfl rfl hN8 (by intro u hu; simp at hu; subst hu; rfl) (by omega) (by unfold maxLen; omega) (by omega) ?_; intro v5 w5 hown5 hgrow5)
                      go_roundw
                      case rel =>
                        refine ⟨_, _, _, _, _, _, _, _, _, _, _, _, ⟨j + 1, by omega, by go_num, gb_trans hg (gb_trans g8 hgrow5), .inr ⟨by omega, ?_⟩⟩, rfl⟩
                        have ht := row_mono hown5 (show Z11.heap.size ≤ W8.heap.size by omega)
                        have e0 := H0.out
                        subst e0
                        exact ht
                      case measure => simp [intOf]; omega
                    · have ho8 := hown.kept g8 (Classical.em _)
                      go_wp2_with (at_builtin; refine wpList_append_own _ rfl _ _ 25 rfl Z11.heap.size 33 iw (.int .u64 0) 1 8 Wo.underS HW.out.1 HW.out.2.1 HW.out.2.2.1 HW.out.2.2.2 rfl (by decide) _ _ _ rfl ho8 ⟨wr.heap.size, 0, none⟩ 1 1 [.int .u64 (400 + (j : Int))] rfl rfl hN8 (by intro u hu; simp at hu; subst hu; rfl) (by unfold maxLen; omega) (by omega) (by omega) ?_; intro v5 w5 hown5 hgrow5 hnil5)
                      go_roundw
                      case rel =>
                        refine ⟨_, _, _, _, _, _, _, _, _, _, _, _, ⟨j + 1, by omega, by go_num, gb_row (gb_trans hg g8) hgrow5 (fun i e => (hown.lt i e).1), .inr ⟨by omega, ?_⟩⟩, rfl⟩
                        rw [List.range_succ, List.map_append, ← List.append_assoc]
                        exact hown5
                      case measure => simp [intOf]; omega
                  · rcases hv with ⟨h0, _⟩ | ⟨hj0, hown⟩
                    · omega
                    · obtain ⟨Z12, hZ12⟩ : ∃ Z, Z = wr := ⟨_, rfl⟩
                      subst hZ12
                      have hj9 : j = 9 := by omega
                      subst hj9
                      obtain ⟨bk, ck, ek⟩ := ownsRow_succ (k := K + 8) hown
                      subst ek
                      have ok := hown
                      have X_l12 := X_l11.kept hg (by simp)
                      have X_va12 := X_va11.kept hg (by simp)
                      have X_vh12 := X_vh11.kept hg (by simp)
                      have X_vb12 := X_vb11.kept hg (by simp)
                      have X_wt12 := X_wt11.kept hg (by simp)
                      have X_A12 := X_A11.kept hg (by simp)
                      have X_H12 := X_H11.kept hg (by simp)
                      have X_B12 := X_B11.kept hg (by simp)
                      have X_P12 := X_P11.kept hg (by simp)
                      have X_Q12 := X_Q11.kept hg (by simp)
                      have LA12 := LA11.kept hg (by simp)
                      have LH12 := LH11.kept hg (by simp)
                      have LB12 := LB11.kept hg (by simp)
                      have gw12 := gw11.kept hg (by simp)
                      have gp12 := gp11.kept hg (by simp)
                      have gq12 := gq11.kept hg (by simp)
                      have GX12 := gb_trans GX11 hg
                      have om_ := om.kept hg (Classical.em _)
                      have cP12_0 := X_P12.cell0
                      have cP12_1 := X_P12.cell1
                      have cQ12_0 := X_Q12.cell0
                      have cQ12_1 := X_Q12.cell1
                      clear hown hj hlt hj0
                      go_wp2
                      go_loopw [24] (fun x wr => ∃ i : Nat, i ≤ K ∧ x = .int .i64 (i : Nat) ∧ Z12.grownBy wr none) (fun x _ => K - (intOf x).toNat)
                      case atStart => exact ⟨0, Nat.zero_le _, rfl, World.grownBy.refl _ _⟩
                      case round =>
                        obtain ⟨i, hi, rfl, hg⟩ := hrel
                        have Bi := X_P12.kept hg (by simp)
                        have bi0 := Bi.cell0
                        have bi1 := Bi.cell1
                        by_cases hlt : i < K
                        · have hlt' : (i : Int) < (K : Int) := by omega
                          have hlt9 : (i : Int) < (K : Int) + 9 := by omega
                          have Qi := X_Q12.kept hg (by simp)
                          have qi0 := Qi.cell0
                          have qi1 := Qi.cell1
                          have hw1 : IntKind.i64.wrap (100 + (i : Int)) = 100 + (i : Int) := by rw [IntKind.wrap_i64]; omega
                          have hw2 : IntKind.u64.wrap (100 + (i : Int)) = 100 + (i : Int) := by rw [IntKind.wrap_u64]; omega
                          have hw3 : IntKind.i64.wrap (200 + (i : Int)) = 200 + (i : Int) := by rw [IntKind.wrap_i64]; omega
                          have hw4 : IntKind.u64.wrap (200 + (i : Int)) = 200 + (i : Int) := by rw [IntKind.wrap_u64]; omega
                          have w1 := gp12.wd.some (show 0 < K by omega)
                          have w2 := gq12.wd.some (show 0 < K by omega)
                          obtain ⟨ap, hap⟩ := w1
                          obtain ⟨aq, haq⟩ := w2
                          have gpx := gp12
                          have gqx' := gq12
                          rw [hap] at gpx bi1
                          rw [haq] at gqx' qi1
                          clear hap haq
                          have y1 := hg.cell (mk_at gpx hlt) (by simp)
                          have y2 := hg.cell (mk_at gqx' hlt) (by simp)
                          clear gpx gqx'
                          have y3 := hg.cell (own_lo om_ hlt) (by simp)
                          have y4 := hg.cell (own_lo ok hlt) (by simp)
                          go_wp2
                          go_quiet (fail)
                          go_wp2
                          exact ⟨⟨i + 1, hlt, by go_num, gb_drewN hg nq⟩, by simp [intOf]; omega⟩
                        · obtain ⟨Z13, hZ13⟩ : ∃ Z, Z = wr := ⟨_, rfl⟩
                          subst hZ13
                          have hiK : i = K := by omega
                          have X_l13 := X_l12.kept hg (by simp)
                          have X_va13 := X_va12.kept hg (by simp)
                          have X_vh13 := X_vh12.kept hg (by simp)
                          have X_vb13 := X_vb12.kept hg (by simp)
                          have X_wt13 := X_wt12.kept hg (by simp)
                          have X_A13 := X_A12.kept hg (by simp)
                          have X_H13 := X_H12.kept hg (by simp)
                          have X_B13 := X_B12.kept hg (by simp)
                          have X_P13 := X_P12.kept hg (by simp)
                          have X_Q13 := X_Q12.kept hg (by simp)
                          have LA13 := LA12.kept hg (by simp)
                          have LH13 := LH12.kept hg (by simp)
                          have LB13 := LB12.kept hg (by simp)
                          have gw13 := gw12.kept hg (by simp)
                          have gp13 := gp12.kept hg (by simp)
                          have gq13 := gq12.kept hg (by simp)
                          have GX13 := gb_trans GX12 hg
                          have om13 := om_.kept hg (Classical.em _)
                          have ok13 := ok.kept hg (Classical.em _)
                          rw [hiK]
                          clear bi0 bi1 Bi hlt hi hiK
                          clear i
                          have cP13_0 := X_P13.cell0
                          have cP13_1 := X_P13.cell1
                          have cQ13_0 := X_Q13.cell0
                          have cQ13_1 := X_Q13.cell1
                          have hkk : ¬ (K : Int) < (K : Int) := by omega
                          go_wp2
                          go_loopw [25] (fun x wr => ∃ i : Nat, i ≤ 9 ∧ x = .int .i64 (i : Nat) ∧ Z13.grownBy wr none) (fun x _ => 9 - (intOf x).toNat)
                          case atStart => exact ⟨0, Nat.zero_le _, rfl, World.grownBy.refl _ _⟩
                          case round =>
                            obtain ⟨i, hi, rfl, hg⟩ := hrel
                            by_cases hlt : i < 9
                            · have hlt' : (i : Int) < 9 := by omega
                              have Bi := X_P13.kept hg (by simp)
                              have bi0 := Bi.cell0
                              have bi1 := Bi.cell1
                              have Qi := X_Q13.kept hg (by simp)
                              have qi0 := Qi.cell0
                              have qi1 := Qi.cell1
                              have hw1 : IntKind.i64.wrap (300 + (i : Int)) = 300 + (i : Int) := by rw [IntKind.wrap_i64]; omega
                              have hw2 : IntKind.u64.wrap (300 + (i : Int)) = 300 + (i : Int) := by rw [IntKind.wrap_u64]; omega
                              have hw3 : IntKind.i64.wrap (400 + (i : Int)) = 400 + (i : Int) := by rw [IntKind.wrap_i64]; omega
                              have hw4 : IntKind.u64.wrap (400 + (i : Int)) = 400 + (i : Int) := by rw [IntKind.wrap_u64]; omega
                              have hw5 : IntKind.i64.wrap ((K : Int) + (i : Int)) = (K : Int) + (i : Int) := by rw [IntKind.wrap_i64]; omega
                              have hw6 : (K : Int) + (i : Int) < (K : Int) + 9 := by omega
                              have hw7 : (0 : Int) ≤ (K : Int) + (i : Int) := by omega
                              have hw8 : ((K : Int) + (i : Int)).toNat = K + i := by omega
                              have y3 := hg.cell (own_hi om13 hlt) (by simp)
                              have y4 := hg.cell (own_hi ok13 hlt) (by simp)
                              go_wp2
                              exact ⟨⟨i + 1, by omega, by go_num, hg⟩, by simp [intOf]; omega⟩
                            · obtain ⟨Z14, hZ14⟩ : ∃ Z, Z = wr := ⟨_, rfl⟩
                              subst hZ14
                              have hi9 : i = 9 := by omega
                              subst hi9
                              have X_l14 := X_l13.kept hg (by simp)
                              have X_va14 := X_va13.kept hg (by simp)
                              have X_vh14 := X_vh13.kept hg (by simp)
                              have X_vb14 := X_vb13.kept hg (by simp)
                              have X_wt14 := X_wt13.kept hg (by simp)
                              have X_A14 := X_A13.kept hg (by simp)
                              have X_H14 := X_H13.kept hg (by simp)
                              have X_B14 := X_B13.kept hg (by simp)
                              have X_P14 := X_P13.kept hg (by simp)
                              have X_Q14 := X_Q13.kept hg (by simp)
                              have LA14 := LA13.kept hg (by simp)
                              have LH14 := LH13.kept hg (by simp)
                              have LB14 := LB13.kept hg (by simp)
                              have gw14 := gw13.kept hg (by simp)
                              have gp14 := gp13.kept hg (by simp)
                              have gq14 := gq13.kept hg (by simp)
                              have GX14 := gb_trans GX13 hg
                              clear om13 ok13 hlt hi
                              have cva14_0 := X_va14.cell0
                              have cva14_1 := X_va14.cell1
                              have cvh14_0 := X_vh14.cell0
                              have cvh14_1 := X_vh14.cell1
                              have cvb14_0 := X_vb14.cell0
                              have cvb14_1 := X_vb14.cell1
                              have cA14_0 := X_A14.cell0
                              have cA14_1 := X_A14.cell1
                              have cH14_0 := X_H14.cell0
                              have cH14_1 := X_H14.cell1
                              have cB14_0 := X_B14.cell0
                              have cB14_1 := X_B14.cell1
                              go_wp2_with (first | (go_at_call 8; (fail_if_success (guard_hyp mk14)); refine (keptC Na na bA cA ca sa fa hza Z14 LA14 (wa.kept GX14 (by simp))).mono ?_; rintro e Z15 ⟨rfl, gz15⟩; have mk14 : True := trivial; have X_l15 := X_l14.kept gz15 (by simp); have X_va15 := X_va14.kept gz15 (by simp); have X_vh15 := X_vh14.kept gz15 (by simp); have X_vb15 := X_vb14.kept gz15 (by simp); have X_wt15 := X_wt14.kept gz15 (by simp); have X_A15 := X_A14.kept gz15 (by simp); have X_H15 := X_H14.kept gz15 (by simp); have X_B15 := X_B14.kept gz15 (by simp); have X_P15 := X_P14.kept gz15 (by simp); have X_Q15 := X_Q14.kept gz15 (by simp); have LA15 := LA14.kept gz15 (by simp); have LH15 := LH14.kept gz15 (by simp); have LB15 := LB14.kept gz15 (by simp); have gw15 := gw14.kept gz15 (by simp); have gp15 := gp14.kept gz15 (by simp); have gq15 := gq14.kept gz15 (by simp); have cl15_0 := X_l15.cell 0 (v := .int .u8 (ho : Nat)) rfl; have cl15_1 := X_l15.cell 1 (v := .int .u16 (bo : Nat)) rfl; have cl15_2 := X_l15.cell 2 (v := .int .u16 (st : Nat)) rfl; have cva15_0 := X_va15.cell0; have cva15_1 := X_va15.cell1; have cvh15_0 := X_vh15.cell0; have cvh15_1 := X_vh15.cell1; have cvb15_0 := X_vb15.cell0; have cvb15_1 := X_vb15.cell1; have cwt15_0 := X_wt15.cell0; have cwt15_1 := X_wt15.cell1; have cA15_0 := X_A15.cell0; have cA15_1 := X_A15.cell1; have cH15_0 := X_H15.cell0; have cH15_1 := X_H15.cell1; have cB15_0 := X_B15.cell0; have cB15_1 := X_B15.cell1; have cP15_0 := X_P15.cell0; have cP15_1 := X_P15.cell1; have cQ15_0 := X_Q15.cell0; have cQ15_1 := X_Q15.cell1; have GX15 := gb_trans GX14 gz15) | (go_at_call 8; guard_hyp mk14; (fail_if_success (guard_hyp mk15)); refine (keptC Nh nh bH cH ch sh fh hzh Z15 LH15 (wh.kept GX15 (by simp))).mono ?_; rintro e Z16 ⟨rfl, gz16⟩; have mk15 : True := trivial; have X_l16 := X_l15.kept gz16 (by simp); have X_va16 := X_va15.kept gz16 (by simp); have X_vh16 := X_vh15.kept gz16 (by simp); have X_vb16 := X_vb15.kept gz16 (by simp); have X_wt16 := X_wt15.kept gz16 (by simp); have X_A16 := X_A15.kept gz16 (by simp); have X_H16 := X_H15.kept gz16 (by simp); have X_B16 := X_B15.kept gz16 (by simp); have X_P16 := X_P15.kept gz16 (by simp); have X_Q16 := X_Q15.kept gz16 (by simp); have LA16 := LA15.kept gz16 (by simp); have LH16 := LH15.kept gz16 (by simp); have LB16 := LB15.kept gz16 (by simp); have gw16 := gw15.kept gz16 (by simp); have gp16 := gp15.kept gz16 (by simp); have gq16 := gq15.kept gz16 (by simp); have cl16_0 := X_l16.cell 0 (v := .int .u8 (ho : Nat)) rfl; have cl16_1 := X_l16.cell 1 (v := .int .u16 (bo : Nat)) rfl; have cl16_2 := X_l16.cell 2 (v := .int .u16 (st : Nat)) rfl; have cva16_0 := X_va16.cell0; have cva16_1 := X_va16.cell1; have cvh16_0 := X_vh16.cell0; have cvh16_1 := X_vh16.cell1; have cvb16_0 := X_vb16.cell0; have cvb16_1 := X_vb16.cell1; have cwt16_0 := X_wt16.cell0; have cwt16_1 := X_wt16.cell1; have cA16_0 := X_A16.cell0; have cA16_1 := X_A16.cell1; have cH16_0 := X_H16.cell0; have cH16_1 := X_H16.cell1; have cB16_0 := X_B16.cell0; have cB16_1 := X_B16.cell1; have cP16_0 := X_P16.cell0; have cP16_1 := X_P16.cell1; have cQ16_0 := X_Q16.cell0; have cQ16_1 := X_Q16.cell1; have GX16 := gb_trans GX15 gz16) | (go_at_call 8; guard_hyp mk15; (fail_if_success (guard_hyp mk16)); refine (keptC Nb nb bB cB cb sb fb hzb Z16 LB16 (wb.kept GX16 (by simp))).mono ?_; rintro e Z17 ⟨rfl, gz17⟩; have mk16 : True := trivial; have X_l17 := X_l16.kept gz17 (by simp); have X_va17 := X_va16.kept gz17 (by simp); have X_vh17 := X_vh16.kept gz17 (by simp); have X_vb17 := X_vb16.kept gz17 (by simp); have X_wt17 := X_wt16.kept gz17 (by simp); have X_A17 := X_A16.kept gz17 (by simp); have X_H17 := X_H16.kept gz17 (by simp); have X_B17 := X_B16.kept gz17 (by simp); have X_P17 := X_P16.kept gz17 (by simp); have X_Q17 := X_Q16.kept gz17 (by simp); have LA17 := LA16.kept gz17 (by simp); have LH17 := LH16.kept gz17 (by simp); have LB17 := LB16.kept gz17 (by simp); have gw17 := gw16.kept gz17 (by simp); have gp17 := gp16.kept gz17 (by simp); have gq17 := gq16.kept gz17 (by simp); have cl17_0 := X_l17.cell 0 (v := .int .u8 (ho : Nat)) rfl; have cl17_1 := X_l17.cell 1 (v := .int .u16 (bo : Nat)) rfl; have cl17_2 := X_l17.cell 2 (v := .int .u16 (st : Nat)) rfl; have cva17_0 := X_va17.cell0; have cva17_1 := X_va17.cell1; have cvh17_0 := X_vh17.cell0; have cvh17_1 := X_vh17.cell1; have cvb17_0 := X_vb17.cell0; have cvb17_1 := X_vb17.cell1; have cwt17_0 := X_wt17.cell0; have cwt17_1 := X_wt17.cell1; have cA17_0 := X_A17.cell0; have cA17_1 := X_A17.cell1; have cH17_0 := X_H17.cell0; have cH17_1 := X_H17.cell1; have cB17_0 := X_B17.cell0; have cB17_1 := X_B17.cell1; have cP17_0 := X_P17.cell0; have cP17_1 := X_P17.cell1; have cQ17_0 := X_Q17.cell0; have cQ17_1 := X_Q17.cell1; have GX17 := gb_trans GX16 gz17))
                              go_loopw [26] (fun x wr => ∃ i : Nat, i ≤ nh ∧ x = .int .i64 (i : Nat) ∧ Lent wr bH nh cH (fun k => if k < i then 0 else fh k) ∧ Z17.grownBy wr (some bH)) (fun x _ => nh - (intOf x).toNat)
                              case atStart => exact ⟨0, Nat.zero_le _, rfl, LH17, World.grownBy.refl _ _⟩
                              case round =>
                                obtain ⟨i, hi, rfl, hl, hg⟩ := hrel
                                have Bi := X_H17.kept hg (by simp; exact fun e => lent_bx LH17 X_H17 e.symm)
                                have bi0 := Bi.cell0
                                have bi1 := Bi.cell1
                                by_cases hlt : i < nh
                                · have hlt' : (i : Int) < (nh : Int) := by omega
                                  obtain ⟨⟨FF, r1, r2, r3, r4⟩, hle⟩ := hl
                                  have y0 := r1.cell (i := i) (by omega)
                                  rw [r2 i hlt] at y0
                                  have y1 := r1.frozen i
                                  have R2 : Hid _ := r2
                                  have R3 : Hid _ := r3
                                  have R4 : Hid _ := r4
                                  clear r2 r3 r4
                                  go_wp2
                                  refine ⟨⟨i + 1, hlt, by go_num, ⟨⟨_, r1.set i (.int .u64 0), fun k hk => ?_, ?_, ?_⟩, hle⟩, gb_set hg _ _⟩, by simp [intOf]; omega⟩
                                  · by_cases e : k = i
                                    · rw [if_pos e, if_pos (by omega)]; rfl
                                    · rw [if_neg e, R2.out k hk]
                                      by_cases e2 : k < i
                                      · rw [if_pos e2, if_pos (by omega)]
                                      · rw [if_neg e2, if_neg (by omega)]
                                  · rw [if_neg (by omega)]; exact R3.out
                                  · rw [if_neg (by omega)]; exact R4.out
                                · obtain ⟨Z18, hZ18⟩ : ∃ Z, Z = wr := ⟨_, rfl⟩
                                  subst hZ18
                                  have hiK : i = nh := by omega
                                  subst hiK
                                  have GX18 : w.grownBy Z18 none := gb_past GX17 hg (by omega)
                                  have X_l18 := X_l17.kept hg (by simp; exact fun e => lent_bo LH17 X_l17 e.symm)
                                  have X_va18 := X_va17.kept hg (by simp; exact fun e => lent_bx LH17 X_va17 e.symm)
                                  have X_vb18 := X_vb17.kept hg (by simp; exact fun e => lent_bx LH17 X_vb17 e.symm)
                                  have X_A18 := X_A17.kept hg (by simp; exact fun e => lent_bx LH17 X_A17 e.symm)
                                  have X_H18 := X_H17.kept hg (by simp; exact fun e => lent_bx LH17 X_H17 e.symm)
                                  have X_B18 := X_B17.kept hg (by simp; exact fun e => lent_bx LH17 X_B17 e.symm)
                                  have LA18 := LA17.kept hg (by simpa using dah)
                                  have LB18 := LB17.kept hg (by simpa using dhb.symm)
                                  have wz : Wd Z18 (some ⟨bH, 0, none⟩) i (fun _ => 0) := hl.wd.congr (fun k hk => by rw [if_pos hk])
                                  have hR2 := rlineAll ho bo st hh hb hs Na na ca sa fa hfa hna Nh i cH (some ⟨bH, 0, none⟩) (fun _ => 0) (fun _ _ => by decide) hnh Nb nb cb sb fb hfb hnb Z18 (wa.kept GX18 (by simp)) wz (wb.kept GX18 (by simp))
                                  have hK2 : aK ho bo st Na Nh Nb na i nb fa (fun _ => 0) fb ≤ 1025 := aK_le (fun _ _ => by decide)
                                  have hL3 := fun X hv wA wH wB => lineAll ho bo st hh hb hs Na na cA (some ⟨bA, 0, none⟩) fa hfa hna Nh i cH (some ⟨bH, 0, none⟩) (fun _ => 0) (fun _ _ => by decide) hnh Nb nb cB (some ⟨bB, 0, none⟩) fb hfb hnb X hv wA wH wB
                                  generalize aE ho bo st Na Nh Nb na i nb fa (fun _ => 0) fb = E2 at hR2 hL3
                                  generalize aM ho bo st Na Nh Nb na i nb fa (fun _ => 0) fb = M2 at hR2 hL3
                                  generalize aK ho bo st Na Nh Nb na i nb fa (fun _ => 0) fb = K2 at hR2 hL3 hK2
                                  generalize aF ho bo st Nh fa (fun _ => 0) fb = F2 at hR2 hL3
                                  have hkn : ¬ (i : Int) < (i : Int) := by omega
                                  have cl18_0 := X_l18.cell 0 (v := .int .u8 (ho : Nat)) rfl
                                  have cl18_1 := X_l18.cell 1 (v := .int .u16 (bo : Nat)) rfl
                                  have cl18_2 := X_l18.cell 2 (v := .int .u16 (st : Nat)) rfl
                                  have cva18_0 := X_va18.cell0
                                  have cva18_1 := X_va18.cell1
                                  have cvb18_0 := X_vb18.cell0
                                  have cvb18_1 := X_vb18.cell1
                                  have cA18_0 := X_A18.cell0
                                  have cA18_1 := X_A18.cell1
                                  have cH18_0 := X_H18.cell0
                                  have cH18_1 := X_H18.cell1
                                  have cB18_0 := X_B18.cell0
                                  have cB18_1 := X_B18.cell1
                                  go_wp2_with (first | (go_at_call 4; refine hR2.mono ?_; rintro e O1 ⟨so, rfl, ho1, go1⟩; obtain ⟨O2, hO2, oc0, oc1, szO, gO, BO⟩ := box2 O1 (.int .i64 M2) (.slice so K2 K2) 27; have gO2 := gb_trans go1 gO; have X_l19 := X_l18.kept gO2 (by simp); have X_A19 := X_A18.kept gO2 (by simp); have X_H19 := X_H18.kept gO2 (by simp); have X_B19 := X_B18.kept gO2 (by simp); have cl19_0 := X_l19.cell 0 (v := .int .u8 (ho : Nat)) rfl; have cl19_1 := X_l19.cell 1 (v := .int .u16 (bo : Nat)) rfl; have cl19_2 := X_l19.cell 2 (v := .int .u16 (st : Nat)) rfl; have cA19_0 := X_A19.cell0; have cA19_1 := X_A19.cell1; have cH19_0 := X_H19.cell0; have cH19_1 := X_H19.cell1; have cB19_0 := X_B19.cell0; have cB19_1 := X_B19.cell1; obtain ⟨gvo, bdo⟩ := gp_of ho1; have gvo2 := gvo.kept gO (by simp); have GX19 := gb_trans GX18 gO2; have hL4 := hL3 O2 (hvK hv GX19) (LA18.kept gO2 (by simp)).wd (wz.kept gO2 (by simp)) (LB18.kept gO2 (by simp)).wd) | (go_at_call 6; refine hL4.mono ?_; rintro e R1 ⟨sr, rfl, hr1, gr1⟩; obtain ⟨R2, hR9, rc0, rc1, szR, gR, BR⟩ := box2 R1 (.int .i64 M2) (.slice sr K2 K2) 27; have gR2 := gb_trans gr1 gR; have BO2 := BO.kept gR2 (by simp); have ob0 := BO2.cell0; have ob1 := BO2.cell1; obtain ⟨gvr, bdr⟩ := gp_of hr1; have gvr2 := gvr.kept gR (by simp); have gvo3 := gvo2.kept gR2 (by simp); have GX20 := gb_trans GX19 gR2) | (go_at_call 7; refine (Wo.sameYes M2 K2 K2 K2 sr so F2 (by omega) R2 gvr2.wd gvo3.wd).mono ?_; rintro e R3 ⟨rfl, gr3⟩))
                                  go_ret
                                  exact ⟨rfl, gb_trans GX20 gr3⟩
end Go.Proofs.YtkgipjabkalnaaaDoor.Pd
