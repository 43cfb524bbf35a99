/- TreeAts. -/
import Derived.Test.YteaionmjbkildaaDoorQ39
import Derived.Test.YteaionmjbkildaaDoorQ35
import Derived.Test.YteaionmjbkildaaDoorQ27
namespace Go.Proofs.YteaionmjbkildaaDoor
open Go.RowKit
set_option linter.unusedVariables false
set_option linter.unusedSimpArgs false
set_option maxRecDepth 100000

/-- Two trees with the same states and kids. -/
def Sim (t t' : Nat → TN) : Prop := ∀ j, (t j).st = (t' j).st ∧ (t j).kn = (t' j).kn ∧ (t j).kf = (t' j).kf
theorem Sim.lt (t : Nat → TN) (kb kq : Nat → Nat) : Sim (ltT t kb kq) t := fun j => ⟨rfl, rfl, rfl⟩
theorem Sim.trans {t t' t'' : Nat → TN} (h : Sim t t') (k : Sim t' t'') : Sim t t'' := fun j => ⟨(h j).1.trans (k j).1, (h j).2.1.trans (k j).2.1, (h j).2.2.trans (k j).2.2⟩
theorem Sim.lvl {t t' : Nat → TN} (h : Sim t t') : ∀ j, Go.Proofs.YteaionmjbkildaaDoor.lvl t j = Go.Proofs.YteaionmjbkildaaDoor.lvl t' j
  | 0 => rfl
  | j + 1 => by rw [Go.Proofs.YteaionmjbkildaaDoor.lvl, Go.Proofs.YteaionmjbkildaaDoor.lvl, Sim.lvl h j, (h j).2.1, (h j).2.2]
theorem Sim.lw {t t' : Nat → TN} (h : Sim t t') : Go.Proofs.YteaionmjbkildaaDoor.lw t = Go.Proofs.YteaionmjbkildaaDoor.lw t' := by
  funext j
  unfold Go.Proofs.YteaionmjbkildaaDoor.lw
  rw [h.lvl]
theorem Sim.ck {t t' : Nat → TN} (h : Sim t t') {S I R : Int} {n : Nat} (hc : CkOk S I n R t) : CkOk S I n R t' := by
  obtain ⟨h1, h2, h3, h4, h5, h6⟩ := hc
  refine ⟨h1, h2, h3, h4, fun j hj => ?_, by rw [← h.lw]; exact h6⟩
  have := h5 j hj
  unfold okN at this ⊢
  rw [← h.lw, ← (h j).1, ← (h j).2.1, ← (h j).2.2]
  exact this
theorem Sim.symm {t t' : Nat → TN} (h : Sim t t') : Sim t' t := fun j => ⟨(h j).1.symm, (h j).2.1.symm, (h j).2.2.symm⟩
theorem Sim.ate {t t' : Nat → TN} (h : Sim t t') {S I R : Int} {n m : Nat} {f : Nat → Nat} {E : Int} (hc : AtE S I n R t m f E) : AtE S I n R t' m f E := by
  rcases hc with ⟨h1, h2⟩ | ⟨h1, h2⟩ | ⟨h1, h2⟩ | ⟨h1, h2⟩
  · exact .inl ⟨fun k => h1 (h.symm.ck k), h2⟩
  · exact .inr (.inl ⟨h.ck h1, h2⟩)
  · exact .inr (.inr (.inl ⟨h.ck h1, h2⟩))
  · exact .inr (.inr (.inr ⟨h.ck h1, h2⟩))
theorem Sim.go {t t' : Nat → TN} (h : Sim t t') (f : Nat → Nat) (R : Nat) : ∀ k, goN t f R k = goN t' f R k
  | 0 => rfl
  | k + 1 => by rw [goN, goN, Sim.go h f R k, (h _).2.2]
theorem Sim.atv {t t' : Nat → TN} (h : Sim t t') (f : Nat → Nat) (R : Int) (m : Nat) (E : Int) : atV t f R m E = atV t' f R m E := by
  unfold atV
  rw [h.go, (h _).1]

/-- Bytes as cells. -/
def bysV (f : Nat → Nat) (m : Nat) : List Value := (List.range m).map fun i => .int .u8 (f i : Nat)
theorem bysV_len (f : Nat → Nat) (m : Nat) : (bysV f m).length = m := by simp [bysV]
theorem app_by {ops : Array Oper} {rest : List Oper} {o : Oper} {a : Act} {Q : Exit → Act → World → Prop} (w : World) (hgd : o.guard = none) (s x : Operand)
    (ho : o.op = .call { callee := .builtin .append, args := #[s, x], argTypes := #[31, 31] }) (hs : a.eval s = .slice none 0 0) (sp : Option Addr) (m c : Nat) (f : Nat → Nat) (hx : a.eval x = .slice sp m c) (hin : By w sp m f) (hnil : sp = none → m = 0 ∧ c = 0) (hb : m ≤ 140737488351232)
    (h : ∀ v' w', w'.ownsRow w.heap.size 5 1 v' m (bysV f m) → w.grownBy w' none → wpList Tryd.prog ops Q rest (a.put o.dst v') w') : wpList Tryd.prog ops Q (o :: rest) a w := by
  obtain ⟨i0, h1, h2, h3, h4⟩ := info_parts info8
  cases sp with
  | none =>
    obtain ⟨rfl, rfl⟩ := hnil rfl
    exact wpList_append_own_none hgd s x 31 ho w.heap.size 5 i0 1 under8S h1 _ 0 [] hs (World.ownsRow_nil _ _ _ _) hx (h _ _ (World.ownsRow_nil _ _ _ _) (World.grownBy.refl _ _))
  | some ad =>
    refine wpList_append_own _ hgd s x 31 ho w.heap.size 5 i0 (.int .u8 0) 1 1 under8S h1 h2 h3 h4 rfl (by decide) _ 0 [] hs (World.ownsRow_nil _ _ _ _) ad m c (bysV f m) hx (by rw [bysV_len]; omega) (fun j u hu => ?_) (fun u hu => ?_) (by unfold maxLen; omega) (by omega) (Nat.le_refl _) ?_
    · have hj : j < m := by
        have := (List.getElem?_eq_some_iff.1 hu).1
        rwa [bysV_len] at this
      simp [bysV, hj] at hu
      rw [← hu]
      exact hin.at hj
    · simp only [bysV, List.mem_map] at hu
      obtain ⟨i, _, rfl⟩ := hu
      rfl
    · intro v' w' own' g' _
      refine h v' w' ?_ g'
      simpa using own'

theorem Wk.grown {gN n : Nat} {kb : Nat → Nat} {w wr w' : World} (h : Wk gN n kb wr w') (g : w.grownBy wr none) (h1 : w.heap.size ≤ gN) (h2 : ∀ j, j < n → w.heap.size ≤ kb j) : w.grownBy w' none :=
  ⟨h.os.trans g.os, h.tape.trans g.tape, h.output.trans g.output, Nat.le_trans g.size h.size, fun k hk _ => (h.block k (Nat.lt_of_lt_of_le hk g.size) (by omega) (fun j hj => by have := h2 j hj; omega)).trans (g.block k hk (by simp))⟩
theorem Wk.same {B gN cN n : Nat} {t : Nat → TN} {kb kq : Nat → Nat} {w w' : World} (h : Wk gN n kb w w') (hL : Lt w B gN cN n t kb kq) {g : Nat} {cs : Array Value} {ty : TypeId} {fz : Nat × Nat} (hg : w.heap[g]? = some (.cells cs ty fz)) (h1 : ty ≠ 27) (h2 : ty ≠ 3) : w'.heap[g]? = some (.cells cs ty fz) := by
  refine (h.block g (Array.getElem?_eq_some_iff.1 hg).1 ?_ ?_).trans hg
  · rintro rfl
    rcases hL.nodes.2 with ⟨e, _⟩ | ⟨g', cap, cur, e, _, h3, _⟩
    · cases e
    · cases e
      rw [hg] at h3
      simp at h3
      exact h1 h3.2.1
  · rintro j hj rfl
    rcases (hL.kids j hj).2 with ⟨e, _⟩ | ⟨g', cap, cur, e, _, h3, _⟩
    · cases e
    · cases e
      rw [hg] at h3
      simp at h3
      exact h2 h3.2.1
theorem Wk.own {B gN cN n : Nat} {t : Nat → TN} {kb kq : Nat → Nat} {w w' : World} (h : Wk gN n kb w w') (hL : Lt w B gN cN n t kb kq) {B' m m' g q : Nat} {xs : List Value} (ho : w.ownsRow B' 5 1 (.slice (some ⟨g, 0, none⟩) m q) m' xs) : w'.ownsRow B' 5 1 (.slice (some ⟨g, 0, none⟩) m q) m' xs := by
  refine ⟨ho.1, ?_⟩
  rcases ho.2 with ⟨e, _⟩ | ⟨g', cap, cur, e, h2, h3, h4⟩
  · cases e
  · cases e
    exact .inr ⟨g, q, cur, rfl, h2, h.same hL h3 (by decide) (by decide), h4⟩
theorem ow_by {w : World} {B g q m : Nat} {f : Nat → Nat} (h : w.ownsRow B 5 1 (.slice (some ⟨g, 0, none⟩) (m + 2) q) (m + 2) (bysV f m ++ [.int .u8 201, .int .u8 202])) : By w (some ⟨g, 0, none⟩) m f ∧ (w.cell? ⟨g, m, none⟩ = some (.int .u8 201) ∧ w.cell? ⟨g, m + 1, none⟩ = some (.int .u8 202)) ∧ m + 2 ≤ q := by
  have hl := bysV_len f m
  refine ⟨fun k hk => ⟨_, rfl, h.cells rfl k _ ?_⟩, ⟨?_, ?_⟩, ?_⟩
  · rw [List.getElem?_append_left (by omega)]
    simp [bysV, hk]
  · have := h.cells (g := g) rfl m (.int .u8 201) (by rw [List.getElem?_append_right (by omega), hl]; simp)
    rw [Addr.add_lit, Nat.zero_add] at this
    exact this
  · have := h.cells (g := g) rfl (m + 1) (.int .u8 202) (by rw [List.getElem?_append_right (by omega), hl, show m + 1 - m = 1 by omega]; rfl)
    rw [Addr.add_lit, Nat.zero_add] at this
    exact this
  · rcases h.2 with ⟨h, _⟩ | ⟨g', cap', cur', h, _, _, h2, _⟩
    · cases h
    · cases h; exact h2

theorem wpT_st {t : Nat → TN} (h : ∀ j, (t j).st < 256) (S : Int) (n j : Nat) : (wpT S t n j).st < 256 := by
  unfold wpT
  split
  · unfold wpN
    split
    · exact h j
    · split
      · show (((((t j).st : Int) + 1) % S % 256).toNat) < 256
        have h1 := Int.emod_lt_of_pos ((((t j).st : Int) + 1) % S) (show (0 : Int) < 256 by decide)
        have h0 := Int.emod_nonneg ((((t j).st : Int) + 1) % S) (show (256 : Int) ≠ 0 by decide)
        omega
      · exact h j
  · exact h j

theorem wpT_kn (t : Nat → TN) (S : Int) (n j : Nat) : (wpT S t n j).kn = (t j).kn := by
  unfold wpT
  split
  · unfold wpN
    split
    · rfl
    · split <;> rfl
  · rfl

open Classical in
set_option maxHeartbeats 4000000 in
theorem atsC (S I R : Int) (sp : Option Addr) (q o n c : Nat) (t : Nat → TN) (hsp : 0 < n → sp = some ⟨q, o, none⟩) (hn : n ≤ 4398046510976) (hst : ∀ j, (t j).st < 256) (hkn : ∀ j, j < n → (t j).kn ≤ 17592186043904) (hnil : ∀ j, j < n → (t j).kp = none → (t j).kn = 0 ∧ (t j).kc = 0) (sa : Option Addr) (m ca : Nat) (f : Nat → Nat) (hf : ∀ i, f i < 256) (hm : m ≤ 140737488351232) (hna : sa = none → m = 0 ∧ ca = 0) (w : World) (htab : Tab w) (hT : Tn w q o n t) (hA : By w sa m f) :
    Calls Tryd.prog 6 #[.agg #[.int .i64 S, .int .i64 I, .slice sp n c, .int .i64 R], .slice sa m ca] w fun e w' => e = .returned (.bool true) ∧ w.grownBy w' none := by
  obtain ⟨i8, HI8⟩ : ∃ i, Hid (Tryd.prog.info? 5 = some i ∧ i.zero = some (.int .u8 0) ∧ i.size = 1 ∧ i.bytes = 1) := by
    obtain ⟨i, h1, h2, h3, h4⟩ := info_parts info8
    exact ⟨i, h1, h2, h3, h4⟩
  obtain ⟨W1, hW1, sz1, g1, B1⟩ := boxn w #[.int .i64 S, .int .i64 I, .slice sp n c, .int .i64 R] 30
  have a0 := B1.cell 0 (v := .int .i64 S) rfl
  have a1 := B1.cell 1 (v := .int .i64 I) rfl
  have a2 := B1.cell 2 (v := .slice sp n c) rfl
  have a3 := B1.cell 3 (v := .int .i64 R) rfl
  have hal := aliveC W1 (tab_kept htab g1)
  go_enter Tryd.func6, Tryd.ntmps6
  go_wp2_with (first | (go_at_call 9; refine hal.mono ?_; rintro e w2 ⟨rfl, g2⟩; refine Hid.out ?_))
  refine Lib.hid ?_
  clear hal a0 a1 a2 a3
  have G2 := gb_trans g1 g2
  have B2 := B1.kept g2 (by simp)
  have a0 := B2.cell 0 (v := .int .i64 S) rfl
  have a1 := B2.cell 1 (v := .int .i64 I) rfl
  have a2 := B2.cell 2 (v := .slice sp n c) rfl
  have a3 := B2.cell 3 (v := .int .i64 R) rfl
  have hle := lentC S I R sp q o n c t hsp hn hst hkn hnil w2 (hT.kept G2)
  go_wp2_with (first | (go_at_call 20; refine hle.mono ?_; rintro e w3 ⟨Bq, gN, cN, kb, kq, rfl, hL, hBq, g3⟩; refine Hid.out ?_))
  refine Lib.hid ?_
  clear hle a0 a1 a2 a3
  obtain ⟨W4, hW4, sz4, g4, X4⟩ := boxn w3 #[.int .i64 S, .int .i64 I, .slice (some ⟨gN, 0, none⟩) n cN, .int .i64 R] 30
  have G3 := gb_trans G2 g3
  have G4 := gb_trans G3 g4
  have B4 := (B2.kept g3 (by simp)).kept g4 (by simp)
  have hL4 := hL.keep g4 (by simp)
  have hA4 := hA.kept G4 (by simp)
  go_wp2_with (first | (at_builtin; refine app_by W4 rfl _ _ rfl rfl sa m ca f rfl hA4 hna hm ?_; intro v1 w5 own5 gk5; refine Hid.out ?_))
  refine Lib.hid ?_
  obtain ⟨W6, hW6, sz6, g6, C6⟩ := boxn w5 #[.int .u8 201, .int .u8 202] 5
  have own6 := own5.kept g6 (Classical.em _)
  have nw : ∀ l u, [Value.int .u8 201, .int .u8 202][l]? = some u → W6.cell? ((⟨w5.heap.size, 0, none⟩ : Addr).add l) = some u := World.news_of_block (cs := #[.int .u8 201, .int .u8 202]) C6
  have sz46 : W4.heap.size ≤ W6.heap.size := Nat.le_trans gk5.size g6.size
  go_wp2_with (first | (at_builtin; refine wpList_append_lies _ rfl _ _ 31 rfl W4.heap.size 5 i8 (.int .u8 0) 1 1 under8S HI8.out.1 HI8.out.2.1 HI8.out.2.2.1 HI8.out.2.2.2 rfl (by decide) _ m _ rfl own6 ⟨w5.heap.size, 0, none⟩ 2 2 [.int .u8 201, .int .u8 202] rfl rfl nw (by intro u hu; simp at hu; rcases hu with rfl | rfl <;> rfl) (by decide) (by unfold maxLen; omega) (by omega) sz46 _ rfl ?_; intro gF qF w7 own7 gk7 at7 lt7; refine Hid.out ?_))
  refine Lib.hid ?_
  have G47 : W4.grownBy w7 none := (gb_trans gk5 g6).andThen gk7 (fun b hb => .inl (own6.lt b hb).1)
  have G7 := gb_trans G4 G47
  have hL7 := hL4.keep G47 (by simp)
  have X7 := X4.kept G47 (by simp)
  have B7 := B4.kept G47 (by simp)
  clear nw at7 lt7 gk7 gk5 own5 own6 C6 g6 hW6
  have x0 := X7.cell 0 (v := .int .i64 S) rfl
  have x1 := X7.cell 1 (v := .int .i64 I) rfl
  have x2 := X7.cell 2 (v := .slice (some ⟨gN, 0, none⟩) n cN) rfl
  have x3 := X7.cell 3 (v := .int .i64 R) rfl
  have hck := checkC S I R (some ⟨gN, 0, none⟩) gN 0 n cN (ltT t kb kq) (fun _ => rfl) (fun j => hst j) w7 hL7.tn
  obtain ⟨E1, hE1⟩ : ∃ E1 : Int, (if CkOk S I n R (ltT t kb kq) then 0 else 110) = E1 := ⟨_, rfl⟩
  have HE1 : Hid ((if CkOk S I n R t then (0 : Int) else 110) = E1) := by
    rw [← hE1]
    unfold Hid
    by_cases h : CkOk S I n R t
    · rw [if_pos h, if_pos ((Sim.lt t kb kq).symm.ck h)]
    · rw [if_neg h, if_neg (fun k => h ((Sim.lt t kb kq).ck k))]
  rw [hE1] at hck
  clear hE1
  go_wp2_with (first | (go_at_call 10; refine hck.mono ?_; rintro e w8 ⟨rfl, g8⟩; refine Hid.out ?_))
  refine Lib.hid ?_
  clear hck x0 x1 x2 x3
  have G8 := gb_trans G7 g8
  have hL8 := hL7.keep g8 (by simp)
  have X8 := X7.kept g8 (by simp)
  have B8 := B7.kept g8 (by simp)
  have own8 := own7.kept g8 (Classical.em _)
  obtain ⟨by8, mk8, cap8⟩ := ow_by own8
  obtain ⟨E, hE⟩ := AtE.some S I n R t m f
  have HAE : Hid (AtE S I n R t m f E) := hE
  have hat := atG S I R (some ⟨gN, 0, none⟩) gN 0 n cN (ltT t kb kq) (fun _ => rfl) (fun j => hst j) (some ⟨gF, 0, none⟩) m qF f hf E ((Sim.lt t kb kq).symm.ate hE) w8.drew hL8.tn by8
  rw [(Sim.lt t kb kq).atv] at hat
  obtain ⟨V, hV⟩ : ∃ V : Nat, atV t f R m E = V := ⟨_, rfl⟩
  rw [hV] at hat
  have HV : Hid (atV t f R m E = V) := hV
  have hmq : m ≤ qF := by omega
  clear hE hV
  have x0 := X8.cell 0 (v := .int .i64 S) rfl
  have x1 := X8.cell 1 (v := .int .i64 I) rfl
  have x2 := X8.cell 2 (v := .slice (some ⟨gN, 0, none⟩) n cN) rfl
  have x3 := X8.cell 3 (v := .int .i64 R) rfl
  go_wp2
  go_region_with (first | (go_at_call 21; refine hat.mono ?_; rintro e w9 ⟨rfl, g9⟩))
  clear hat x0 x1 x2 x3 by8 mk8
  replace g9 := gb_d g9
  have G9 := gb_trans G8 g9
  have hL9 := hL8.keep g9 (by simp)
  have X9 := X8.kept g9 (by simp)
  have B9 := B8.kept g9 (by simp)
  have own9 := own8.kept g9 (Classical.em _)
  have hrt := rtG S I R sp q o n c t hsp hst sa m ca f hf E HAE.out w9 (hT.kept G9) (hA.kept G9 (by simp))
  rw [HV.out] at hrt
  have x0 := B9.cell 0 (v := .int .i64 S) rfl
  have x1 := B9.cell 1 (v := .int .i64 I) rfl
  have x2 := B9.cell 2 (v := .slice sp n c) rfl
  have x3 := B9.cell 3 (v := .int .i64 R) rfl
  go_wp2_with (first | (go_at_call 22; refine hrt.mono ?_; rintro e w10 ⟨rfl, g10⟩; refine Hid.out ?_))
  refine Lib.hid ?_
  clear hrt x0 x1 x2 x3
  have G10 := gb_trans G9 g10
  have hL10 := hL9.keep g10 (by simp)
  have X10 := X9.kept g10 (by simp)
  have B10 := B9.kept g10 (by simp)
  have own10 := own9.kept g10 (Classical.em _)
  have hkp := keptC S I R sp q o n c Bq gN cN kb kq t hsp hn hkn w10 hL10 (hT.kept G10)
  have x0 := X10.cell 0 (v := .int .i64 S) rfl
  have x1 := X10.cell 1 (v := .int .i64 I) rfl
  have x2 := X10.cell 2 (v := .slice (some ⟨gN, 0, none⟩) n cN) rfl
  have x3 := X10.cell 3 (v := .int .i64 R) rfl
  have y0 := B10.cell 0 (v := .int .i64 S) rfl
  have y1 := B10.cell 1 (v := .int .i64 I) rfl
  have y2 := B10.cell 2 (v := .slice sp n c) rfl
  have y3 := B10.cell 3 (v := .int .i64 R) rfl
  go_wp2_with (first | (go_at_call 23; refine hkp.mono ?_; rintro e w11 ⟨rfl, g11⟩; refine Hid.out ?_))
  refine Lib.hid ?_
  clear hkp x0 x1 x2 x3 y0 y1 y2 y3
  have G11 := gb_trans G10 g11
  have hL11 := hL10.keep g11 (by simp)
  have X11 := X10.kept g11 (by simp)
  have B11 := B10.kept g11 (by simp)
  have own11 := own10.kept g11 (Classical.em _)
  obtain ⟨by11, mk11, cap11⟩ := ow_by own11
  clear mk11
  have hA11 := hA.kept G11 (by simp)
  go_wp2
  go_loopw [14] (fun i wr => ∃ k : Nat, k ≤ m ∧ i = .int .i64 k ∧ w11.grownBy wr none) (fun i _ => m - (intOf i).toNat)
  case atStart => exact ⟨0, Nat.zero_le _, rfl, World.grownBy.refl _ _⟩
  case round =>
    obtain ⟨k, hk, rfl, Gr⟩ := hrel
    by_cases hlt : k < m
    · have hlt' : (k : Int) < (m : Int) := by omega
      have hlt2 : (k : Int) < (m : Int) + 2 := by omega
      obtain ⟨a, rfl⟩ := hA11.some (by omega)
      have ak := (hA11.kept Gr (by simp)).at hlt
      have bk := (by11.kept Gr (by simp)).at hlt
      rw [Addr.add_lit, Nat.zero_add] at bk
      obtain ⟨z, hz⟩ : ∃ z, f k = z := ⟨_, rfl⟩
      rw [hz] at ak bk
      have ya : ((z : Int) != (z : Int)) = false := by simp
      clear hz
      go_wp2
      go_quiet (fail)
      go_wp2
      go_roundw
      case rel => exact ⟨k + 1, hlt, by go_num, gb_drewN Gr _⟩
      case measure => simp [intOf]; omega
    · have hkm : ¬ ((k : Int) < (m : Int)) := by omega
      have Gw := gb_trans G11 Gr
      have hLr := hL11.keep Gr (by simp)
      have Xr := X11.kept Gr (by simp)
      have Br := B11.kept Gr (by simp)
      have ownr := own11.kept Gr (Classical.em _)
      have hwi := wipeC S I R n Bq gN cN kb kq t hn hst hkn wr hLr
      have x0 := Xr.cell 0 (v := .int .i64 S) rfl
      have x1 := Xr.cell 1 (v := .int .i64 I) rfl
      have x2 := Xr.cell 2 (v := .slice (some ⟨gN, 0, none⟩) n cN) rfl
      have x3 := Xr.cell 3 (v := .int .i64 R) rfl
      go_wp2_with (first | (go_at_call 24; refine hwi.mono ?_; rintro e w12 ⟨rfl, hL12, Wk12⟩; refine Hid.out ?_))
      refine Lib.hid ?_
      clear hwi x0 x1 x2 x3
      have hw2 : w.heap.size ≤ w2.heap.size := G2.size
      have G12 : w.grownBy w12 none := Wk12.grown Gw (by have := (hLr.nodes.lt gN rfl).1; omega) (fun j hj => by have := (World.ownsRow.lt (hLr.kids j hj) (kb j) rfl).1; omega)
      have X12 : Bo w12 w3.heap.size 30 #[.int .i64 S, .int .i64 I, .slice (some ⟨gN, 0, none⟩) n cN, .int .i64 R] := Wk12.same hLr Xr (by decide) (by decide)
      have B12 : Bo w12 w.heap.size 30 #[.int .i64 S, .int .i64 I, .slice sp n c, .int .i64 R] := Wk12.same hLr Br (by decide) (by decide)
      have own12 := Wk12.own hLr ownr
      obtain ⟨by12, mk12, cap12⟩ := ow_by own12
      obtain ⟨E2, hE2⟩ := AtE.some S I n R (wpT S t n) m f
      have HAE2 : Hid (AtE S I n R (wpT S t n) m f E2) := hE2
      have hst2 : ∀ j, (wpT S t n j).st < 256 := wpT_st hst S n
      have hat := atG S I R (some ⟨gN, 0, none⟩) gN 0 n cN (ltT (wpT S t n) kb kq) (fun _ => rfl) (fun j => hst2 j) (some ⟨gF, 0, none⟩) m qF f hf E2 ((Sim.lt (wpT S t n) kb kq).symm.ate hE2) w12.drew hL12.tn by12
      rw [(Sim.lt (wpT S t n) kb kq).atv] at hat
      obtain ⟨V2, hV2⟩ : ∃ V2 : Nat, atV (wpT S t n) f R m E2 = V2 := ⟨_, rfl⟩
      rw [hV2] at hat
      have HV2 : Hid (atV (wpT S t n) f R m E2 = V2) := hV2
      clear hE2 hV2 mk12
      have x0 := X12.cell 0 (v := .int .i64 S) rfl
      have x1 := X12.cell 1 (v := .int .i64 I) rfl
      have x2 := X12.cell 2 (v := .slice (some ⟨gN, 0, none⟩) n cN) rfl
      have x3 := X12.cell 3 (v := .int .i64 R) rfl
      go_wp2
      go_region_with (first | (go_at_call 21; refine hat.mono ?_; rintro e w13 ⟨rfl, g13⟩))
      replace g13 := gb_d g13
      clear hat x0 x1 x2 x3 by12
      have G13 := gb_trans G12 g13
      have hL13 := hL12.keep g13 (by simp)
      have X13 := X12.kept g13 (by simp)
      have B13 := B12.kept g13 (by simp)
      have own13 := own12.kept g13 (Classical.em _)
      have x0 := X13.cell 0 (v := .int .i64 S) rfl
      have x1 := X13.cell 1 (v := .int .i64 I) rfl
      have x2 := X13.cell 2 (v := .slice (some ⟨gN, 0, none⟩) n cN) rfl
      have x3 := X13.cell 3 (v := .int .i64 R) rfl
      have hle := lentC S I R (some ⟨gN, 0, none⟩) gN 0 n cN (ltT (wpT S t n) kb kq) (fun _ => rfl) hn (fun j => hst2 j) (fun j hj => by show (wpT S t n j).kn ≤ _; rw [wpT_kn]; exact hkn j hj) (fun j hj h => by cases h) w13 hL13.tn
      go_wp2_with (first | (go_at_call 20; refine hle.mono ?_; rintro e w14 ⟨Bq2, gN2, cN2, kb2, kq2, rfl, hL14, _, g14⟩; refine Hid.out ?_))
      refine Lib.hid ?_
      clear hle x0 x1 x2 x3
      have G14 := gb_trans G13 g14
      have X14 := X13.kept g14 (by simp)
      have B14 := B13.kept g14 (by simp)
      have own14 := own13.kept g14 (Classical.em _)
      have SM : Sim (ltT (ltT (wpT S t n) kb kq) kb2 kq2) (wpT S t n) := (Sim.lt _ _ _).trans (Sim.lt _ _ _)
      have hrt := rtG S I R (some ⟨gN2, 0, none⟩) gN2 0 n cN2 (ltT (ltT (wpT S t n) kb kq) kb2 kq2) (fun _ => rfl) (fun j => hst2 j) sa m ca f hf E2 (SM.symm.ate HAE2.out) w14 hL14.tn (hA.kept G14 (by simp))
      rw [SM.atv, HV2.out] at hrt
      go_wp2_with (first | (go_at_call 22; refine hrt.mono ?_; rintro e w15 ⟨rfl, g15⟩; refine Hid.out ?_))
      refine Lib.hid ?_
      clear hrt SM hL14
      have G15 := gb_trans G14 g15
      have B15 := B14.kept g15 (by simp)
      have own15 := own14.kept g15 (Classical.em _)
      have hrc := refCheckC S I R sp q o n c t hsp hst w15 (hT.kept G15)
      rw [HE1.out] at hrc
      have x0 := B15.cell 0 (v := .int .i64 S) rfl
      have x1 := B15.cell 1 (v := .int .i64 I) rfl
      have x2 := B15.cell 2 (v := .slice sp n c) rfl
      have x3 := B15.cell 3 (v := .int .i64 R) rfl
      have y1 : (E1 == E1) = true := by simp
      have y2 : ((V : Int) == (V : Int)) = true := by simp
      have y3 : (E == E) = true := by simp
      have y4 : ((V2 : Int) == (V2 : Int)) = true := by simp
      have y5 : (E2 == E2) = true := by simp
      have y6 : (m : Int) < (m : Int) + 2 := by omega
      have y7 : (m : Int) + 1 < (m : Int) + 2 := by omega
      go_wp2_with (first | (go_at_call 25; refine hrc.mono ?_; rintro e w16 ⟨rfl, g16⟩; have own16 := own15.kept g16 (Classical.em _); obtain ⟨by16, mk16, cap16⟩ := ow_by own16; obtain ⟨p0, p1⟩ := mk16))
      go_ret
      exact ⟨rfl, gb_trans G15 g16⟩
end Go.Proofs.YteaionmjbkildaaDoor
