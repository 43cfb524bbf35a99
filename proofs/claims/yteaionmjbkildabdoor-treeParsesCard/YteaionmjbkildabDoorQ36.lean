/- lent: a tree of one's own, with marks behind its lists. -/
import Derived.Deep.RegionLaw
import Derived.Deep.AppendLies
import Derived.Laws.AppendOwnNone
import Derived.Lib.SmallJoins
import Derived.Lib.Hide
import Derived.Test.YteaionmjbkildabDoorQ30
import Derived.Test.YteaionmjbkildabDoorQ14
namespace Go.Proofs.YteaionmjbkildabDoor
open Go.RowKit
set_option linter.unusedVariables false
set_option linter.unusedSimpArgs false
set_option maxRecDepth 100000

/-- Kids as cells. -/
def kidsV (kf : Nat → Int) (kn : Nat) : List Value := (List.range kn).map fun i => .int .i64 (kf i)
theorem kidsV_len (kf : Nat → Int) (kn : Nat) : (kidsV kf kn).length = kn := by simp [kidsV]
theorem kidsV_get {kf : Nat → Int} {kn j : Nat} {u : Value} (h : (kidsV kf kn)[j]? = some u) : j < kn ∧ u = .int .i64 (kf j) := by
  have hj : j < kn := by
    have := (List.getElem?_eq_some_iff.1 h).1
    rwa [kidsV_len] at this
  refine ⟨hj, ?_⟩
  simp [kidsV, hj] at h
  exact h.symm
/-- A kids' list that was lent: its block, the marks behind it. -/
def KR (w : World) (B g q : Nat) (t : TN) : Prop := w.ownsRow B 3 1 (.slice (some ⟨g, 0, none⟩) (t.kn + 2) q) (t.kn + 2) (kidsV t.kf t.kn ++ [.int .i64 (-7), .int .i64 (-8)])
/-- The nodes as cells. -/
def ndV (t : Nat → TN) (kb kq : Nat → Nat) : Nat → List Value
  | 0 => []
  | j + 1 => ndV t kb kq j ++ [.int .u8 ((t j).st : Nat), .slice (some ⟨kb j, 0, none⟩) (t j).kn (kq j)]
theorem ndV_congr (t : Nat → TN) {kb kq kb' kq' : Nat → Nat} : ∀ {j : Nat}, (∀ k, k < j → kb k = kb' k ∧ kq k = kq' k) → ndV t kb kq j = ndV t kb' kq' j
  | 0, _ => rfl
  | j + 1, h => by
    rw [ndV, ndV, ndV_congr t (fun k hk => h k (by omega)), (h j (by omega)).1, (h j (by omega)).2]

theorem app_in {ops : Array Oper} {rest : List Oper} {o : Oper} {a : Act} {Q : Exit → Act → World → Prop} (w : World) (hgd : o.guard = none) (s x : Operand)
    (ho : o.op = .call { callee := .builtin .append, args := #[s, x], argTypes := #[63, 63] }) (hs : a.eval s = .slice none 0 0) (kp : Option Addr) (kn kc : Nat) (kf : Nat → Int) (hx : a.eval x = .slice kp kn kc) (hin : In w kp kn kf) (hnil : kp = none → kn = 0 ∧ kc = 0) (hb : kn ≤ 17592186043904)
    (h : ∀ v' w', w'.ownsRow w.heap.size 3 1 v' kn (kidsV kf kn) → w.grownBy w' none → wpList Tryd.prog ops Q rest (a.put o.dst v') w') : wpList Tryd.prog ops Q (o :: rest) a w := by
  obtain ⟨i0, h1, h2, h3, h4⟩ := info_parts infoI
  cases kp with
  | none =>
    obtain ⟨rfl, rfl⟩ := hnil rfl
    exact wpList_append_own_none hgd s x 63 ho w.heap.size 3 i0 1 underIS h1 _ 0 [] hs (World.ownsRow_nil _ _ _ _) hx (h _ _ (World.ownsRow_nil _ _ _ _) (World.grownBy.refl _ _))
  | some ad =>
    refine wpList_append_own _ hgd s x 63 ho w.heap.size 3 i0 (.int .i64 0) 1 8 underIS h1 h2 h3 h4 rfl (by decide) _ 0 [] hs (World.ownsRow_nil _ _ _ _) ad kn kc (kidsV kf kn) hx (by rw [kidsV_len]; omega) (fun j u hu => ?_) (fun u hu => ?_) (by unfold maxLen; omega) (by omega) (Nat.le_refl _) ?_
    · obtain ⟨hj, rfl⟩ := kidsV_get hu
      exact hin.at hj
    · simp only [kidsV, List.mem_map] at hu
      obtain ⟨i, _, rfl⟩ := hu
      rfl
    · intro v' w' own' g' _
      refine h v' w' ?_ g'
      simpa using own'

theorem own_ne {w : World} {B B' j m m' q g : Nat} {v : Value} {xs ys : List Value} (h : w.ownsRow B 69 2 v j xs) (k : w.ownsRow B' 3 1 (.slice (some ⟨g, 0, none⟩) m q) m' ys) : some g ≠ v.ownBlock := by
  rcases h.2 with ⟨rfl, _⟩ | ⟨g1, cap, cur, rfl, _, h1, _⟩
  · simp [Value.ownBlock]
  · rcases k.2 with ⟨e, _⟩ | ⟨g2, cap2, cur2, e, _, h2, _⟩
    · cases e
    · cases e
      intro he
      simp only [Value.ownBlock, Option.some.injEq] at he
      subst he
      rw [h1] at h2
      simp at h2
theorem gb_d {W w6 : World} {r : Option Nat} (g : W.drew.grownBy w6 r) : W.grownBy w6 r := ⟨g.os, g.tape, g.output, g.size, g.block⟩
theorem KR.keep {w w' : World} {B g q : Nat} {t : TN} {r : Option Nat} (h : KR w B g q t) (hg : w.grownBy w' r) (hne : some g ≠ r) : KR w' B g q t := World.ownsRow.kept h hg (.inr hne)
theorem lent_next {B j g4 q4 : Nat} {t : Nat → TN} {kb kq : Nat → Nat} {v v6 : Value} {wr w4 W5 w6 : World} (hB : B ≤ wr.heap.size) (own5 : W5.ownsRow B 69 2 v j (ndV t kb kq j)) (own6 : w6.ownsRow B 69 2 v6 (j + 1) (ndV t kb kq j ++ [.int .u8 ((t j).st : Nat), .slice (some ⟨g4, 0, none⟩) (t j).kn q4])) (hks : ∀ k, k < j → KR wr B (kb k) (kq k) (t k)) (hinc : ∀ i k, i < k → k < j → kb i < kb k) (Gk : wr.grownBy w4 none) (g5 : w4.grownBy W5 none) (own4 : w4.ownsRow wr.heap.size 3 1 (.slice (some ⟨g4, 0, none⟩) ((t j).kn + 2) q4) ((t j).kn + 2) (kidsV (t j).kf (t j).kn ++ [.int .i64 (-7), .int .i64 (-8)])) (gr6 : W5.drew.grownBy w6 v.ownBlock) :
    ∃ kb' kq', w6.ownsRow B 69 2 v6 (j + 1) (ndV t kb' kq' (j + 1)) ∧ (∀ k, k < j + 1 → KR w6 B (kb' k) (kq' k) (t k)) ∧ (∀ i k, i < k → k < j + 1 → kb' i < kb' k) := by
  refine ⟨fun k => if k = j then g4 else kb k, fun k => if k = j then q4 else kq k, ?_, fun k hk => ?_, fun i k hi hk => ?_⟩
  · rw [ndV, ndV_congr t (kb' := kb) (kq' := kq) (fun k hk => by simp [show k ≠ j by omega])]
    simpa using own6
  · by_cases e : k = j
    · subst e
      simp only [if_true]
      have k5 : KR W5 B g4 q4 (t k) := World.ownsRow.kept (Joins.ownsRow_le own4 hB) g5 (Classical.em _)
      exact k5.keep (gb_d gr6) (own_ne own5 k5)
    · simp only [e, if_false]
      have k5 := ((hks k (by omega)).keep Gk (by simp)).keep g5 (by simp)
      exact k5.keep (gb_d gr6) (own_ne own5 k5)
  · have hlt4 := (own4.lt g4 rfl).1
    by_cases e : k = j
    · subst e
      have := (World.ownsRow.lt (hks i hi) (kb i) rfl).2
      simp [show i ≠ k by omega]
      omega
    · simp [e, show i ≠ j by omega]
      exact hinc i k hi (by omega)
theorem bo_keep {W w6 : World} {B g : Nat} {t : TypeId} {cs : Array Value} {r : Option Nat} (h : Bo W g t cs) (hg : W.drew.grownBy w6 r) (hr : ∀ b, r = some b → B ≤ b) (hB : g < B) : Bo w6 g t cs := h.kept (gb_d hg) (fun e => by have := hr g e.symm; omega)

/-- A tree that was lent: its nodes' block, the kids' blocks, the marks. -/
structure Lt (w : World) (B gN cN n : Nat) (t : Nat → TN) (kb kq : Nat → Nat) : Prop where
  nodes : w.ownsRow B 69 2 (.slice (some ⟨gN, 0, none⟩) (n + 2) cN) (n + 2) (ndV t kb kq n ++ [.int .u8 77, .slice none 0 0] ++ [.int .u8 77, .slice none 0 0])
  kids : ∀ k, k < n → KR w B (kb k) (kq k) (t k)
  inc : ∀ i k, i < k → k < n → kb i < kb k
theorem Lt.keep {w w' : World} {B gN cN n : Nat} {t : Nat → TN} {kb kq : Nat → Nat} {r : Option Nat} (h : Lt w B gN cN n t kb kq) (hg : w.grownBy w' r) (hr : ∀ b, r = some b → b < B) : Lt w' B gN cN n t kb kq where
  nodes := h.nodes.kept hg (.inr (fun e => by have := hr gN e.symm; have := (h.nodes.lt gN rfl).1; omega))
  kids := fun k hk => (h.kids k hk).keep hg (fun e => by have := hr (kb k) e.symm; have := (World.ownsRow.lt (h.kids k hk) (kb k) rfl).1; omega)
  inc := h.inc
theorem mark_kids {B j m : Nat} {t : Nat → TN} {kb kq : Nat → Nat} {v : Value} {xs : List Value} {W w' : World} (own : W.ownsRow B 69 2 v m xs) (gr : W.grownBy w' v.ownBlock) (hks : ∀ k, k < j → KR W B (kb k) (kq k) (t k)) : ∀ k, k < j → KR w' B (kb k) (kq k) (t k) := fun k hk => (hks k hk).keep gr (own_ne own (hks k hk))

set_option maxHeartbeats 4000000 in
theorem lentC (S I R : Int) (sp : Option Addr) (q o n c : Nat) (t : Nat → TN) (hsp : 0 < n → sp = some ⟨q, o, none⟩) (hn : n ≤ 4398046510976) (hst : ∀ j, (t j).st < 256) (hkn : ∀ j, j < n → (t j).kn ≤ 17592186043904) (hnil : ∀ j, j < n → (t j).kp = none → (t j).kn = 0 ∧ (t j).kc = 0) (w : World) (hT : Tn w q o n t) :
    Calls Tryd.prog 10 #[.agg #[.int .i64 S, .int .i64 I, .slice sp n c, .int .i64 R]] w fun e w' => ∃ B gN cN kb kq, e = .returned (.agg #[.int .i64 S, .int .i64 I, .slice (some ⟨gN, 0, none⟩) n cN, .int .i64 R]) ∧ Lt w' B gN cN n t kb kq ∧ w.heap.size ≤ B ∧ w.grownBy w' none := by
  obtain ⟨fs, hfs⟩ := underTree
  have HFs : Hid (Tryd.prog.underlying 24 = some (.struct fs)) := hfs
  clear hfs
  obtain ⟨i0, HI⟩ : ∃ i, Hid (Tryd.prog.info? 3 = some i ∧ i.zero = some (.int .i64 0) ∧ i.size = 1 ∧ i.bytes = 8) := by
    obtain ⟨i, h1, h2, h3, h4⟩ := info_parts infoI
    exact ⟨i, h1, h2, h3, h4⟩
  obtain ⟨ib, HB⟩ : ∃ i, Hid (Tryd.prog.info? 69 = some i ∧ i.zero = some (.agg #[.int .u8 0, .slice none 0 0]) ∧ i.size = 2 ∧ i.bytes = 32) := by
    obtain ⟨i, h1, h2, h3, h4⟩ := info_parts infoB
    exact ⟨i, h1, h2, h3, h4⟩
  obtain ⟨W1, hW1, sz1, g1, B1⟩ := boxn w #[.int .i64 S, .int .i64 I, .slice sp n c, .int .i64 R] 24
  obtain ⟨W2, hW2, sz2, g2, B2⟩ := boxn W1 #[.int .i64 0, .int .i64 0, .slice none 0 0, .int .i64 0] 24
  have B12 := B1.kept g2 (by simp)
  go_enter Tryd.func10, Tryd.ntmps10
  go_wp2
  go_loopw [4, 3] (fun i v wr => ∃ (j : Nat) (kb kq : Nat → Nat), j ≤ n ∧ i = .int .i64 j ∧ wr.ownsRow W2.heap.size 69 2 v j (ndV t kb kq j) ∧ (∀ k, k < j → KR wr W2.heap.size (kb k) (kq k) (t k)) ∧ (∀ i k, i < k → k < j → kb i < kb k) ∧ w.grownBy wr none ∧ Bo wr w.heap.size 24 #[.int .i64 S, .int .i64 I, .slice sp n c, .int .i64 R] ∧ Bo wr W1.heap.size 24 #[.int .i64 0, .int .i64 0, .slice none 0 0, .int .i64 0]) (fun i _ _ => n - (intOf i).toNat)
  case atStart => exact ⟨0, fun _ => 0, fun _ => 0, Nat.zero_le _, rfl, World.ownsRow_nil _ _ _ _, fun k hk => absurd hk (Nat.not_lt_zero _), fun i k _ hk => absurd hk (Nat.not_lt_zero _), gb_trans g1 g2, B12, B2⟩
  case round =>
    obtain ⟨j, kb, kq, hj, rfl, own, hks, hinc, Gj, Bj, Zj⟩ := hrel
    have b2 := Bj.cell 2 (v := .slice sp n c) rfl
    by_cases hlt : j < n
    · have hlt' : (j : Int) < (n : Int) := by omega
      obtain rfl := hsp (by omega)
      obtain ⟨x0, x1, x2⟩ := (hT.kept Gj) j hlt
      have hnj := hnil j hlt
      have hkj := hkn j hlt
      go_wp2_with (first | (at_builtin; refine app_in wr rfl _ _ rfl rfl (t j).kp (t j).kn (t j).kc (t j).kf rfl x2 hnj hkj ?_; intro v1 w1 own1 gk1; refine Hid.out ?_))
      refine Lib.hid ?_
      have B3 := Bj.kept gk1 (by simp)
      have b3 := B3.cell 2 (v := .slice (some ⟨q, o, none⟩) n c) rfl
      obtain ⟨W3, hW3, sz3, g3, C3⟩ := boxn w1 #[.int .i64 (-7), .int .i64 (-8)] 3
      have own3 := own1.kept g3 (Classical.em _)
      have nw : ∀ l u, [Value.int .i64 (-7), .int .i64 (-8)][l]? = some u → W3.cell? ((⟨w1.heap.size, 0, none⟩ : Addr).add l) = some u := World.news_of_block (cs := #[.int .i64 (-7), .int .i64 (-8)]) C3
      have sz13 : wr.heap.size ≤ W3.heap.size := Nat.le_trans gk1.size g3.size
      go_wp2_with (first | (at_builtin; refine wpList_append_lies _ rfl _ _ 63 rfl wr.heap.size 3 i0 (.int .i64 0) 1 8 underIS HI.out.1 HI.out.2.1 HI.out.2.2.1 HI.out.2.2.2 rfl (by decide) _ (t j).kn _ rfl own3 ⟨w1.heap.size, 0, none⟩ 2 2 [.int .i64 (-7), .int .i64 (-8)] rfl rfl nw (by intro u hu; simp at hu; rcases hu with rfl | rfl <;> rfl) (by decide) (by unfold maxLen; omega) (by omega) sz13 _ rfl ?_; intro g4 q4 w4 own4 gk4 at4 lt4; refine Hid.out ?_))
      refine Lib.hid ?_
      have Gk : wr.grownBy w4 none := (gb_trans gk1 g3).andThen gk4 (fun b hb => .inl (own3.lt b hb).1)
      have ownN := own.kept Gk (Classical.em _)
      have B4 := Bj.kept Gk (by simp)
      have Z4 := Zj.kept Gk (by simp)
      have G4 := gb_trans Gj Gk
      obtain ⟨z0, z1, z2⟩ := (hT.kept G4) j hlt
      have b4 := B4.cell 2 (v := .slice (some ⟨q, o, none⟩) n c) rfl
      have hq4 : (t j).kn + 2 ≤ q4 := by
        rcases own4.2 with ⟨h, _⟩ | ⟨g', cap', cur', h, _, _, h2, _⟩
        · cases h
        · cases h; exact h2
      have hq5 : (t j).kn ≤ q4 := by omega
      have hg4 := (own4.lt g4 rfl).1
      obtain ⟨W5, hW5, sz5, g5, C5⟩ := boxn w4 #[.int .u8 ((t j).st : Nat), .slice (some ⟨g4, 0, none⟩) (t j).kn q4] 69
      have own5 := ownN.kept g5 (Classical.em _)
      have nw5 : ∀ l u, [Value.int .u8 ((t j).st : Nat), .slice (some ⟨g4, 0, none⟩) (t j).kn q4][l]? = some u → W5.drew.cell? ((⟨w4.heap.size, 0, none⟩ : Addr).add l) = some u := World.news_of_block (w := W5.drew) (cs := #[.int .u8 ((t j).st : Nat), .slice (some ⟨g4, 0, none⟩) (t j).kn q4]) C5
      have own5d : W5.drew.ownsRow W2.heap.size 69 2 _ j (ndV t kb kq j) := own5
      have hb5 : W2.heap.size ≤ W5.drew.heap.size := by
        show W2.heap.size ≤ W5.heap.size
        have := Zj.lt; have := Gk.size; have := g5.size; have := sz2.out; omega
      have HBW : Hid (W2.heap.size ≤ wr.heap.size) := by have := Zj.lt; have := sz2.out; unfold Hid; omega
      have HLE : Hid (w.heap.size ≤ W2.heap.size) := Nat.le_trans g1.size g2.size
      have HL1 : Hid (w.heap.size < W2.heap.size) := B12.lt
      have HL2 : Hid (W1.heap.size < W2.heap.size) := B2.lt
      go_wp2
      go_region_law (first | (refine step_append_lies _ rfl (.tmp 25) (.tmp 42) 22 rfl W2.heap.size 69 ib (.agg #[.int .u8 0, .slice none 0 0]) 2 32 underBS HB.out.1 HB.out.2.1 HB.out.2.2.1 HB.out.2.2.2 rfl (by decide) _ j _ rfl own5d ⟨w4.heap.size, 0, none⟩ 1 1 [.int .u8 ((t j).st : Nat), .slice (some ⟨g4, 0, none⟩) (t j).kn q4] rfl rfl nw5 (by intro u hu; simp at hu; rcases hu with rfl | rfl <;> rfl) (by decide) (by unfold maxLen; omega) (by omega) hb5 _ rfl ?_; intro g6 q6 w6 own6 gr6 at6 lt6))
      all_goals
        have hv := fun b hb => (own5.lt b hb).1
        have G6 : w.grownBy w6 none := (gb_trans G4 g5).andThen (gb_d gr6) (fun b hb => .inl (Nat.le_trans HLE.out (hv b hb)))
        have B6 := bo_keep (B4.kept g5 (by simp)) gr6 hv HL1.out
        have Z6 := bo_keep (Z4.kept g5 (by simp)) gr6 hv HL2.out
        obtain ⟨kb', kq', N6, K6, I6⟩ := lent_next HBW.out own5 own6 hks hinc Gk g5 own4 gr6
        clear gr6 at6 lt6 own6
        go_wp2
        go_roundw
        case rel => exact ⟨j + 1, kb', kq', hlt, by go_num, N6, K6, I6, G6, B6, Z6⟩
        case measure => simp [intOf]; omega
    · have hjn : j = n := by omega
      subst hjn
      have hjn' : ¬ ((j : Int) < (j : Int)) := by omega
      have HBW : Hid (W2.heap.size ≤ wr.heap.size) := by have := Zj.lt; have := sz2.out; unfold Hid; omega
      have HLE : Hid (w.heap.size ≤ W2.heap.size) := Nat.le_trans g1.size g2.size
      have HL1 : Hid (w.heap.size < W2.heap.size) := B12.lt
      have HL2 : Hid (W1.heap.size < W2.heap.size) := B2.lt
      go_wp2
      refine wp_loop_rounds 3 ?_
      have hv0 := fun b hb => (own.lt b hb).1
      obtain ⟨V1, hV1, sv1, gv1, C1⟩ := boxn wr #[.int .u8 77, .slice none 0 0] 69
      have ov1 := own.kept gv1 (Classical.em _)
      have nv1 : ∀ l u, [Value.int .u8 77, .slice none 0 0][l]? = some u → V1.cell? ((⟨wr.heap.size, 0, none⟩ : Addr).add l) = some u := World.news_of_block (cs := #[.int .u8 77, .slice none 0 0]) C1
      have hb1 : W2.heap.size ≤ V1.heap.size := Nat.le_trans HBW.out gv1.size
      rw [rounds_succ]
      go_wp2_with (first | (at_builtin; refine wpList_append_lies _ rfl _ _ 22 rfl W2.heap.size 69 ib (.agg #[.int .u8 0, .slice none 0 0]) 2 32 underBS HB.out.1 HB.out.2.1 HB.out.2.2.1 HB.out.2.2.2 rfl (by decide) _ j _ rfl ov1 ⟨wr.heap.size, 0, none⟩ 1 1 [.int .u8 77, .slice none 0 0] rfl rfl nv1 (by intro u hu; simp at hu; rcases hu with rfl | rfl <;> rfl) (by decide) (by unfold maxLen; omega) (by omega) hb1 _ rfl ?_; intro e1 f1 y1 oy1 gr1 at1 lt1; refine Hid.out ?_))
      refine Lib.hid ?_
      have hvv1 := fun b hb => (ov1.lt b hb).1
      have Gy1 : w.grownBy y1 none := (gb_trans Gj gv1).andThen gr1 (fun b hb => .inl (Nat.le_trans HLE.out (hvv1 b hb)))
      have By1 := (Bj.kept gv1 (by simp)).kept gr1 (fun e => by have := hvv1 _ e.symm; have := HL1.out; omega)
      have Zy1 := (Zj.kept gv1 (by simp)).kept gr1 (fun e => by have := hvv1 _ e.symm; have := HL2.out; omega)
      have Ky1 := mark_kids ov1 gr1 (fun k hk => (hks k hk).keep gv1 (by simp))
      go_wp2
      obtain ⟨V2, hV2, sv2, gv2, C2⟩ := boxn y1 #[.int .u8 77, .slice none 0 0] 69
      have ov2 := oy1.kept gv2 (Classical.em _)
      have nv2 : ∀ l u, [Value.int .u8 77, .slice none 0 0][l]? = some u → V2.cell? ((⟨y1.heap.size, 0, none⟩ : Addr).add l) = some u := World.news_of_block (cs := #[.int .u8 77, .slice none 0 0]) C2
      have hb2 : W2.heap.size ≤ V2.heap.size := Nat.le_trans hb1 (Nat.le_trans gr1.size gv2.size)
      rw [rounds_succ]
      go_wp2_with (first | (at_builtin; refine wpList_append_lies _ rfl _ _ 22 rfl W2.heap.size 69 ib (.agg #[.int .u8 0, .slice none 0 0]) 2 32 underBS HB.out.1 HB.out.2.1 HB.out.2.2.1 HB.out.2.2.2 rfl (by decide) _ (j + 1) _ rfl ov2 ⟨y1.heap.size, 0, none⟩ 1 1 [.int .u8 77, .slice none 0 0] rfl rfl nv2 (by intro u hu; simp at hu; rcases hu with rfl | rfl <;> rfl) (by decide) (by unfold maxLen; omega) (by omega) hb2 _ rfl ?_; intro e2 f2 y2 oy2 gr2 at2 lt2; refine Hid.out ?_))
      refine Lib.hid ?_
      have hvv2 := fun b hb => (ov2.lt b hb).1
      have Gy2 : w.grownBy y2 none := (gb_trans Gy1 gv2).andThen gr2 (fun b hb => .inl (Nat.le_trans HLE.out (hvv2 b hb)))
      have By2 := (By1.kept gv2 (by simp)).kept gr2 (fun e => by have := hvv2 _ e.symm; have := HL1.out; omega)
      have Zy2 := (Zy1.kept gv2 (by simp)).kept gr2 (fun e => by have := hvv2 _ e.symm; have := HL2.out; omega)
      have Ky2 := mark_kids ov2 gr2 (fun k hk => (Ky1 k hk).keep gv2 (by simp))
      go_wp2
      have b20 := By2.cell 0 (v := .int .i64 S) rfl
      have b21 := By2.cell 1 (v := .int .i64 I) rfl
      have b22 := By2.cell 2 (v := .slice sp j c) rfl
      have b23 := By2.cell 3 (v := .int .i64 R) rfl
      have fz2 := By2.frozen 2
      have hcap : j ≤ f2 := by
        rcases oy2.2 with ⟨h, _⟩ | ⟨g', cap', cur', h, _, _, h2, _⟩
        · cases h
        · cases h; omega
      obtain ⟨Y, hY⟩ : ∃ Y, y2.setCell ⟨w.heap.size, 2, none⟩ (.slice (some ⟨e2, 0, none⟩) j f2) = Y := ⟨_, rfl⟩
      have sw := sz1.out
      have BY : Bo Y w.heap.size 24 #[.int .i64 S, .int .i64 I, .slice (some ⟨e2, 0, none⟩) j f2, .int .i64 R] := by rw [← hY]; exact By2.set 2 _
      have ZY : Bo Y W1.heap.size 24 #[.int .i64 0, .int .i64 0, .slice none 0 0, .int .i64 0] := by rw [← hY]; exact Zy2.set2 (by omega)
      have GY : w.grownBy Y none := by rw [← hY]; exact gb_new Gy2 (Nat.le_refl _) _
      have LY : Lt Y W2.heap.size e2 f2 j t kb kq := by
        rw [← hY]
        exact Lt.keep ⟨oy2, Ky2, hinc⟩ (gb_set (World.grownBy.refl _ _) 2 _) (fun b hb => by cases hb; exact HL1.out)
      clear sw
      have c0 := BY.cell 0 (v := .int .i64 S) rfl
      have c1 := BY.cell 1 (v := .int .i64 I) rfl
      have c2 := BY.cell 2 (v := .slice (some ⟨e2, 0, none⟩) j f2) rfl
      have c3 := BY.cell 3 (v := .int .i64 R) rfl
      have d0 := ZY.cell 0 (v := .int .i64 0) rfl
      have d1 := ZY.cell 1 (v := .int .i64 0) rfl
      have d2 := ZY.cell 2 (v := .slice none 0 0) rfl
      have d3 := ZY.cell 3 (v := .int .i64 0) rfl
      have z0 := ZY.frozen 0
      have z1 := ZY.frozen 1
      have z2 := ZY.frozen 2
      have z3 := ZY.frozen 3
      rw [rounds_succ]
      go_wp2
      have le : w.heap.size ≤ W1.heap.size := g1.size
      have lk := fun {W : World} (h : Lt W W2.heap.size e2 f2 j t kb kq) (i : Nat) (v : Value) => h.keep (gb_set (b := W1.heap.size) (World.grownBy.refl W _) i v) (fun b hb => by cases hb; exact HL2.out)
      exact ret_c1 (g := W1.heap.size) (t := 24) (cs := #[.int .i64 S, .int .i64 I, .slice (some ⟨e2, 0, none⟩) j f2, .int .i64 R]) rfl HFs.out infoTree rfl ((((ZY.set 0 _).set 1 _).set 2 _).set 3 _) rfl ⟨W2.heap.size, e2, f2, kb, kq, rfl, lk (lk (lk (lk LY 0 _) 1 _) 2 _) 3 _, HLE.out, gb_new (gb_new (gb_new (gb_new GY le _) le _) le _) le _⟩
end Go.Proofs.YteaionmjbkildabDoor
