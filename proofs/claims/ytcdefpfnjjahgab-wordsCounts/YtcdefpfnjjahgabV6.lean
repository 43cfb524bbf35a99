/- WordsCounts: the walk. -/
import Derived.Lib.Hide
import Derived.Test.YtcdefpfnjjahgabV5
import Derived.Test.YtcdefpfnjjahgabW7
import Derived.Test.YtcdefpfnjjahgabW36
import Derived.Deep.RegionLaw
import Derived.Deep.RegionHeld2
import Derived.LoopN
namespace Go.Proofs.Ytcdefpfnjjahgab
open Go.RowKit
set_option linter.unusedVariables false
set_option linter.unusedSimpArgs false
set_option maxRecDepth 100000

theorem RwsO.below {w W : World} {q o k : Nat} {r : Nat → RD} (h : RwsO w q o k r) (hb : Below w.heap.size w W) : RwsO W q o k r := fun j hj => by
  obtain ⟨h0, h1, h2⟩ := h j hj
  exact ⟨(hb.cell (cell_lt h0)).trans h0, (hb.cell (cell_lt h1)).trans h1, Wd.belowK h2.1 hb, h2.2⟩
theorem Gs.row {S : Nat → Prop} {a b c : World} {x : Nat} (h : Gs S a b) (k : b.grownBy c (some x)) (hx : S x) : Gs S a c :=
  ⟨k.os.trans h.os, k.tape.trans h.tape, k.output.trans h.output, Nat.le_trans h.size k.size, fun i hi hn => (k.block i (Nat.lt_of_lt_of_le hi h.size) (fun e => hn (by injection e with e; exact e ▸ hx))).trans (h.block i hi hn)⟩
theorem Gs.below {S : Nat → Prop} {a b : World} {B : Nat} (h : Gs S a b) (hs : ∀ i, S i → B ≤ i) (hB : B ≤ a.heap.size) : Below B a b :=
  ⟨h.os, h.tape, h.output, h.size, fun k hk => h.block k (by omega) (fun hS => by have := hs k hS; omega)⟩

set_option maxHeartbeats 4000000 in
theorem counts_walk (q o k cap : Nat) (r : Nat → RD) (sp : Option Addr) (hsp : 0 < k → sp = some ⟨q, o, none⟩) (hkl : k ≤ 4398046510976) (hn : ∀ j, j < k → (r j).n ≤ 17592186043904) (hnil : ∀ j, j < k → (r j).sp = none → (r j).n = 0 ∧ (r j).cap = 0) (w : World) (hR : RwsO w q o k r) :
    Calls Try.prog 4 #[.slice sp k cap] w fun e w' => e = .returned (.bool true) ∧ Below w.heap.size w w' := by
  obtain ⟨ir, HI⟩ : ∃ i, Hid (Try.prog.info? 31 = some i ∧ i.zero = some (.agg #[.int .i64 0, .slice none 0 0]) ∧ i.size = 2 ∧ i.bytes = 32) := by
    obtain ⟨i, h1, h2, h3, h4⟩ := info_parts bInfoR
    exact ⟨i, h1, h2, h3, h4⟩
  have hal := aliveC w
  go_enter Try.func4, Try.ntmps4
  go_wp2_with (first | (go_at_call 7; refine hal.mono ?_; rintro e w1 ⟨rfl, g1⟩; refine Hid.out ?_))
  refine Lib.hid ?_
  clear hal
  have hw1 := g1.size
  go_wp2
  go_loopw [5, 4] (fun i v wr => ∃ (j : Nat) (lb lc : Nat → Nat), j ≤ k ∧ i = .int .i64 j ∧ Ll wr w1.heap.size v j r lb lc ∧ w1.grownBy wr none) (fun i _ _ => k - (intOf i).toNat)
  case atStart => exact ⟨0, fun _ => 0, fun _ => 0, Nat.zero_le _, rfl, Ll.nil _ _ _ _ _, World.grownBy.refl _ _⟩
  case round =>
    obtain ⟨j, lb, lc, hj, rfl, hL, gj⟩ := hrel
    have Gj := gb_trans g1 gj
    by_cases hlt : j < k
    · have hlt' : (j : Int) < (k : Int) := by omega
      obtain rfl := hsp (by omega)
      obtain ⟨x0, x1, x2⟩ := (hR.kept Gj) j hlt
      have hle := lentC (r j).N (r j).n (r j).cap (r j).sp (r j).f (hn j hlt) wr x2.1 (hnil j hlt)
      go_wp2_with (first | (go_at_call 11; refine hle.mono ?_; rintro e w2 ⟨b, c, rfl, hb, hrow, g2⟩; refine Hid.out ?_))
      refine Lib.hid ?_
      clear hle x0 x1 x2
      have hle2 := lent_of hrow
      obtain ⟨V3, hV3, p3, q3, sv3, gv3, X3⟩ := box2 w2 (.int .i64 (r j).N) (.slice (some ⟨b, 0, none⟩) (r j).n c) 31
      obtain ⟨W3, hW3, sz3, g3, C3⟩ := boxn V3 #[.int .i64 (r j).N, .slice (some ⟨b, 0, none⟩) (r j).n c] 31
      have own3 := (((hL.kept g2).kept gv3).kept g3).own
      have nw : ∀ l u, [Value.int .i64 (r j).N, .slice (some ⟨b, 0, none⟩) (r j).n c][l]? = some u → W3.cell? ((⟨V3.heap.size, 0, none⟩ : Addr).add l) = some u := World.news_of_block (cs := #[.int .i64 (r j).N, .slice (some ⟨b, 0, none⟩) (r j).n c]) C3
      have hb3 : w1.heap.size ≤ W3.heap.size := Nat.le_trans gj.size (Nat.le_trans g2.size (Nat.le_trans gv3.size g3.size))
      go_wp2_with (first | (at_builtin; refine wpList_append_lies _ rfl _ _ 28 rfl w1.heap.size 31 ir (.agg #[.int .i64 0, .slice none 0 0]) 2 32 bUnderRS HI.out.1 HI.out.2.1 HI.out.2.2.1 HI.out.2.2.2 rfl (by decide) _ j _ rfl own3 ⟨V3.heap.size, 0, none⟩ 1 1 [.int .i64 (r j).N, .slice (some ⟨b, 0, none⟩) (r j).n c] rfl rfl nw (by intro u hu; simp at hu; rcases hu with rfl | rfl <;> rfl) (by decide) (by unfold maxLen; omega) (by omega) hb3 _ rfl ?_; intro gF cF w4 own4 gk4 at4 lt4; refine Hid.out ?_))
      refine Lib.hid ?_
      obtain ⟨lb', lc', hL4⟩ := Ll.next hL gj.size g2 hb hle2 (gb_trans gv3 g3) own4 gk4
      have G4 : w1.grownBy w4 none := (gb_trans gj (gb_trans g2 (gb_trans gv3 g3))).andThen gk4 (fun b hb => .inl (own3.lt b hb).1)
      clear own4 gk4 at4 lt4 nw own3 hle2 hrow p3 q3
      go_wp2
      go_roundw
      case rel => exact ⟨j + 1, lb', lc', by omega, by go_num, hL4, G4⟩
      case measure => simp [intOf]; omega
    · have hjk : j = k := by omega
      subst hjk
      have hlt' : ¬ (j : Int) < (j : Int) := by omega
      obtain ⟨V5, hV5, sz5, g5, C5⟩ := boxn wr #[.int .i64 (-5), .slice none 0 0] 31
      have own5 := (hL.kept g5).own
      have nw : ∀ l u, [Value.int .i64 (-5), .slice none 0 0][l]? = some u → V5.cell? ((⟨wr.heap.size, 0, none⟩ : Addr).add l) = some u := World.news_of_block (cs := #[.int .i64 (-5), .slice none 0 0]) C5
      have hb5 : w1.heap.size ≤ V5.heap.size := Nat.le_trans gj.size g5.size
      go_wp2_with (first | (at_builtin; refine wpList_append_lies _ rfl _ _ 28 rfl w1.heap.size 31 ir (.agg #[.int .i64 0, .slice none 0 0]) 2 32 bUnderRS HI.out.1 HI.out.2.1 HI.out.2.2.1 HI.out.2.2.2 rfl (by decide) _ j _ rfl own5 ⟨wr.heap.size, 0, none⟩ 1 1 [.int .i64 (-5), .slice none 0 0] rfl rfl nw (by intro u hu; simp at hu; rcases hu with rfl | rfl <;> rfl) (by decide) (by unfold maxLen; omega) (by omega) hb5 _ rfl ?_; intro gF cF w6 own6 gk6 at6 lt6; refine Hid.out ?_))
      refine Lib.hid ?_
      have hrows : ∀ i, i < j → Lent w6 (lb i) (r i).n (lc i) (r i).f := fun i hi => ((hL.kept g5).rows i hi).kept gk6 (own_nel own5 ((hL.kept g5).rows i hi))
      have G6 : w1.grownBy w6 none := (gb_trans gj g5).andThen gk6 (fun b hb => .inl (own5.lt b hb).1)
      have hcap : j + 1 ≤ cF := by
        rcases own6.2 with ⟨h, _⟩ | ⟨g', cap', cur', h, _, _, h2, _⟩
        · cases h
        · cases h; exact h2
      have hgF := (own6.lt gF rfl)
      have hlow := hL.low
      have hinc := hL.inc
      clear nw own5 gk6 at6 lt6 hL
      have hf : ∀ i, i < j → ∀ x, x < (r i).n → (r i).f x < 18446744073709551616 := fun i hi => (hR i hi).2.2.2.1
      have HR : Hid (RwsO w q o j r) := hR
      have G6w : w.grownBy w6 none := gb_trans g1 G6
      have bk0 := Book.new w6 w6.heap.size (fun _ => noAns 0) (fun _ => none) (fun _ => none) (L0 w6.heap.size) rfl (Nat.le_refl _)
      obtain ⟨WK, hWK⟩ : ∃ WK, w6.alloc (.cells #[.slice none 0 0, .slice none 0 0, .bool false] 35) = WK := ⟨_, rfl⟩
      rw [hWK] at bk0
      have gK : w6.grownBy WK none := by rw [← hWK]; exact World.grownBy_alloc _ _ _
      have hl0 : ∀ x, L0 w6.heap.size x → x < WK.heap.size := fun x hx => by have h' : x = w6.heap.size := hx; have := bk0.lt; omega
      have hgF1 : w1.heap.size ≤ gF := hgF.1
      have hgF2 : gF < w6.heap.size := hgF.2
      have hlb2 : Hid (∀ i, i < j → lb i < w6.heap.size) := fun i hi => (hrows i hi).lt
      have hBK : w6.heap.size ≤ WK.heap.size := gK.size
      have hw1B : w1.heap.size ≤ w6.heap.size := G6.size
      have An : Hid ((cAns (lenR r lb lc) j) = cAns r j) := cAns_congr (r := lenR r lb lc) (r' := r) (fun i => ⟨rfl, rfl, rfl⟩) j
      -- the list, and the rows, at a world that is as it was below the book
      have hRws : ∀ V : World, Below w6.heap.size w6 V → Rws V gF j (lenR r lb lc) := fun V hV i hi => by
        obtain ⟨c0, c1⟩ := Ll.cells own6 hi
        have hLi : Lent V (lb i) (r i).n (lc i) (r i).f := (hrows i hi).block (hV.block _ (hlb2.out i hi))
        exact ⟨(hV.cell (p := ⟨gF, i * 2, none⟩) hgF2).trans c0, (hV.cell (p := ⟨gF, i * 2 + 1, none⟩) hgF2).trans c1, ok_lent hLi (hf i hi) (hn i hi)⟩
      have hcn : ∀ V : World, Below w6.heap.size w6 V → Calls Try.prog 13 #[.slice (some ⟨gF, 0, none⟩) j cF] V (MadeF (cAns r j) V) := fun V hV => by
        have := countU gF j cF (lenR r lb lc) (some ⟨gF, 0, none⟩) (fun _ => rfl) hkl V (fun _ => hRws V hV)
        rw [An.out] at this
        exact this
      have hrc : ∀ V : World, w.grownBy V none → Calls Try.prog 12 #[.slice sp j cap] V (MadeF (cAns r j) V) := fun V hV => rcountU q o j cap r sp hsp hkl V (fun _ => HR.out.kept hV)
      have hac := cAns_c (r := r) (k := j) (fun _ => hf)
      have hae := cAns_e r j
      have blK : Below w6.heap.size w6 WK := gb_below gK
      have GKw : w.grownBy WK none := gb_trans G6w gK
      obtain ⟨a, ha⟩ : ∃ a, cAns r j = a := ⟨_, rfl⟩
      rw [ha] at hcn hrc hac hae
      clear hR hf hgF hRws An
      go_wp2_with (first | (go_at_call 12; refine (hrc WK GKw).mono ?_; rintro e w7 ⟨s7, rfl, r7, l7, ap7, g7⟩; refine Hid.out ?_))
      refine Lib.hid ?_
      obtain ⟨V7, hV7, sz7, gv7, X7⟩ := boxn w7 #[.int .i64 (a 0).N, .slice (s7 0) (a 0).c (a 0).c, .int .i64 (a 1).N, .slice (s7 1) (a 1).c (a 1).c, .int .i64 (a 2).N, .slice (s7 2) (a 2).c (a 2).c, .int .i64 (a 3).N, .slice (s7 3) (a 3).c (a 3).c] 36
      have bl7 : Below w6.heap.size w6 V7 := blK.grown (gb_trans g7 gv7) hBK (by simp)
      have bk7 := (bk0.kept g7).kept gv7
      go_wp2_with (first | (go_at_call 13; refine (hcn V7 bl7).mono ?_; rintro e w8 ⟨s8, rfl, r8, l8, ap8, g8⟩; refine Hid.out ?_))
      refine Lib.hid ?_
      obtain ⟨V8, hV8, sz8, gv8, X8⟩ := boxn w8 #[.int .i64 (a 0).N, .slice (s8 0) (a 0).c (a 0).c, .int .i64 (a 1).N, .slice (s8 1) (a 1).c (a 1).c, .int .i64 (a 2).N, .slice (s8 2) (a 2).c (a 2).c, .int .i64 (a 3).N, .slice (s8 3) (a 3).c (a 3).c] 36
      have X78 := (X7.kept g8 (by simp)).kept gv8 (by simp)
      have x0 := X78.cell 0 (v := .int .i64 (a 0).N) rfl
      have x1 := X78.cell 1 (v := .slice (s7 0) (a 0).c (a 0).c) rfl
      have x2 := X78.cell 2 (v := .int .i64 (a 1).N) rfl
      have x3 := X78.cell 3 (v := .slice (s7 1) (a 1).c (a 1).c) rfl
      have x4 := X78.cell 4 (v := .int .i64 (a 2).N) rfl
      have x5 := X78.cell 5 (v := .slice (s7 2) (a 2).c (a 2).c) rfl
      have x6 := X78.cell 6 (v := .int .i64 (a 3).N) rfl
      have x7 := X78.cell 7 (v := .slice (s7 3) (a 3).c (a 3).c) rfl
      have y0 := X8.cell 0 (v := .int .i64 (a 0).N) rfl
      have y1 := X8.cell 1 (v := .slice (s8 0) (a 0).c (a 0).c) rfl
      have y2 := X8.cell 2 (v := .int .i64 (a 1).N) rfl
      have y3 := X8.cell 3 (v := .slice (s8 1) (a 1).c (a 1).c) rfl
      have y4 := X8.cell 4 (v := .int .i64 (a 2).N) rfl
      have y5 := X8.cell 5 (v := .slice (s8 2) (a 2).c (a 2).c) rfl
      have y6 := X8.cell 6 (v := .int .i64 (a 3).N) rfl
      have y7 := X8.cell 7 (v := .slice (s8 3) (a 3).c (a 3).c) rfl
      have l8' := hBK
      have z7 : WK.heap.size ≤ w7.heap.size := g7.size
      have z7v : w7.heap.size ≤ V7.heap.size := gv7.size
      have bl8 : Below w6.heap.size w6 V8 := bl7.grown (gb_trans g8 gv8) (by omega) (by simp)
      have bk8 := (bk7.kept g8).kept gv8
      have z8 : V7.heap.size ≤ w8.heap.size := g8.size
      have z8v : w8.heap.size ≤ V8.heap.size := gv8.size
      have hl8 : ∀ x, L0 w6.heap.size x → x < V8.heap.size := fun x hx => by have := hl0 x hx; omega
      have hfo := fourC w6.heap.size w6.heap.size 0 (fun _ => noAns 0) (fun _ => none) (fun _ => none) (by decide) a (fun d _ => hae d) (fun d _ => hac d) s8 s7 (L0 w6.heap.size) V8 bk8 hl8 (fun d hd => (r8 d hd).kept gv8) (fun d hd => (((r7 d hd).kept gv7).kept g8).kept gv8) (fun d hd => made_fresh bk7 (l8 d hd) (by omega)) ap8 (fun d hd x hx => by have := l7 d hd x hx; omega)
      go_wp2_with (first | (go_at_call 14; refine hfo.mono ?_; rintro e w9 ⟨rfl, An9, sg9, sw9, L9, bk9, J9⟩; refine Hid.out ?_))
      refine Lib.hid ?_
      clear hfo x0 x1 x2 x3 x4 x5 x6 x7 y0 y1 y2 y3 y4 y5 y6 y7
      have z9 : V8.heap.size ≤ w9.heap.size := J9.size
      have bl9 : Below w6.heap.size w6 w9 := bl8.trans J9.bl
      have nX7 : ¬ L0 w6.heap.size w7.heap.size := fun hx => by have h' : w7.heap.size = w6.heap.size := hx; have := bk0.lt; omega
      have X79 := X78.gb J9.gb nX7
      have lX7 := X78.lt
      have nX79 := nl_jn J9 nX7 lX7
      go_wp2_with (first | (go_at_call 13; refine (hcn w9 bl9).mono ?_; rintro e w10 ⟨s10, rfl, r10, l10, ap10, g10⟩; refine Hid.out ?_))
      refine Lib.hid ?_
      obtain ⟨V10, hV10, sz10, gv10, X10⟩ := boxn w10 #[.int .i64 (a 0).N, .slice (s10 0) (a 0).c (a 0).c, .int .i64 (a 1).N, .slice (s10 1) (a 1).c (a 1).c, .int .i64 (a 2).N, .slice (s10 2) (a 2).c (a 2).c, .int .i64 (a 3).N, .slice (s10 3) (a 3).c (a 3).c] 36
      have X710 := (X79.kept g10 (by simp)).kept gv10 (by simp)
      have x0 := X710.cell 0 (v := .int .i64 (a 0).N) rfl
      have x1 := X710.cell 1 (v := .slice (s7 0) (a 0).c (a 0).c) rfl
      have x2 := X710.cell 2 (v := .int .i64 (a 1).N) rfl
      have x3 := X710.cell 3 (v := .slice (s7 1) (a 1).c (a 1).c) rfl
      have x4 := X710.cell 4 (v := .int .i64 (a 2).N) rfl
      have x5 := X710.cell 5 (v := .slice (s7 2) (a 2).c (a 2).c) rfl
      have x6 := X710.cell 6 (v := .int .i64 (a 3).N) rfl
      have x7 := X710.cell 7 (v := .slice (s7 3) (a 3).c (a 3).c) rfl
      have y0 := X10.cell 0 (v := .int .i64 (a 0).N) rfl
      have y1 := X10.cell 1 (v := .slice (s10 0) (a 0).c (a 0).c) rfl
      have y2 := X10.cell 2 (v := .int .i64 (a 1).N) rfl
      have y3 := X10.cell 3 (v := .slice (s10 1) (a 1).c (a 1).c) rfl
      have y4 := X10.cell 4 (v := .int .i64 (a 2).N) rfl
      have y5 := X10.cell 5 (v := .slice (s10 2) (a 2).c (a 2).c) rfl
      have y6 := X10.cell 6 (v := .int .i64 (a 3).N) rfl
      have y7 := X10.cell 7 (v := .slice (s10 3) (a 3).c (a 3).c) rfl
      have bk10 := (bk9.kept g10).kept gv10
      have z10 : w9.heap.size ≤ w10.heap.size := g10.size
      have z10v : w10.heap.size ≤ V10.heap.size := gv10.size
      have bl10 : Below w6.heap.size w6 V10 := bl9.grown (gb_trans g10 gv10) (by omega) (by simp)
      have hl10 : ∀ x, L9 x → x < V10.heap.size := fun x hx => by have := J9.hl x hx; omega
      have hfo := fourC w6.heap.size w6.heap.size 4 An9 sg9 sw9 (by decide) a (fun d _ => hae d) (fun d _ => hac d) s10 s7 L9 V10 bk10 hl10 (fun d hd => (r10 d hd).kept gv10) (fun d hd => ((((((r7 d hd).kept gv7).kept g8).kept gv8).nr J9.nr).kept g10).kept gv10) (fun d hd => made_fresh bk9 (l10 d hd) (by omega)) ap10 (fun d hd x hx => by have := l7 d hd x hx; omega)
      go_wp2_with (first | (go_at_call 14; refine hfo.mono ?_; rintro e w11 ⟨rfl, An11, sg11, sw11, L11, bk11, J11⟩; refine Hid.out ?_))
      refine Lib.hid ?_
      clear hfo x0 x1 x2 x3 x4 x5 x6 x7 y0 y1 y2 y3 y4 y5 y6 y7
      have z11 : V10.heap.size ≤ w11.heap.size := J11.size
      have bl11 : Below w6.heap.size w6 w11 := bl10.trans J11.bl
      have hmark : w11.cell? ⟨gF, j * 2, none⟩ = some (.int .i64 (-5)) := (bl11.cell (p := ⟨gF, j * 2, none⟩) hgF2).trans (Ll.mark own6)
      have hjj : (j : Int) < (j : Int) + 1 := by omega
      have hlbw : ∀ t, t < j → w1.heap.size ≤ lb t := hlow
      have hrows11 : ∀ t, t < j → Lent w11 (lb t) (r t).n (lc t) (r t).f := fun t ht => (hrows t ht).block (bl11.block _ (hlb2.out t ht))
      have BL11 : Below w.heap.size w w11 := (gb_below G6w).trans (bl11.mono (Nat.le_trans hw1 hw1B))
      have hcell : ∀ V : World, Below w6.heap.size w6 V → ∀ t, t < j → V.cell? ⟨gF, t * 2, none⟩ = some (.int .i64 (r t).N) ∧ V.cell? ⟨gF, t * 2 + 1, none⟩ = some (.slice (some ⟨lb t, 0, none⟩) (r t).n (lc t)) := fun V hV t ht => by
        obtain ⟨c0, c1⟩ := Ll.cells own6 ht
        exact ⟨(hV.cell (p := ⟨gF, t * 2, none⟩) hgF2).trans c0, (hV.cell (p := ⟨gF, t * 2 + 1, none⟩) hgF2).trans c1⟩
      go_wp2
      clear hmark X7 X8 X78 X79 X710 X10 r7 r8 r10 l7 l8 l10 ap7 ap8 ap10
      go_loopw [15] (fun x wr' => ∃ i : Nat, i ≤ j ∧ x = .int .i64 i ∧ (∀ t, t < j → Lent wr' (lb t) (r t).n (lc t) (if t < i then xk (r t).f else (r t).f)) ∧ Book wr' w6.heap.size w6.heap.size 8 An11 sg11 sw11 L11 ∧ Gs (fun y => ∃ t, t < j ∧ y = lb t) w11 wr' ∧ (∀ t, t < j → wr'.cell? ⟨gF, t * 2, none⟩ = some (.int .i64 (r t).N) ∧ wr'.cell? ⟨gF, t * 2 + 1, none⟩ = some (.slice (some ⟨lb t, 0, none⟩) (r t).n (lc t)))) (fun x _ => j - (intOf x).toNat)
      case atStart => exact ⟨0, Nat.zero_le _, rfl, fun t ht => by rw [if_neg (Nat.not_lt_zero _)]; exact hrows11 t ht, bk11, Gs.refl _ _, hcell w11 bl11⟩
      case round =>
        obtain ⟨i, hi, rfl, hLi, bki, gsi, hci⟩ := hrel
        have BLi : Below w.heap.size w wr := BL11.trans (gsi.below (fun y hy => by obtain ⟨t, ht, rfl⟩ := hy; have := hlbw t ht; omega) (by omega))
        by_cases hil : i < j
        · have hil' : (i : Int) < (j : Int) := by omega
          have hij : (i : Int) < (j : Int) + 1 := by omega
          obtain rfl := hsp (by omega)
          obtain ⟨p0, p1⟩ := hci i hil
          obtain ⟨q0, q1, q2⟩ := (HR.out.below BLi) i hil
          have hLii := hLi i hil
          rw [if_neg (Nat.lt_irrefl _)] at hLii
          have hkp := keptC (r i).N (r i).n (lb i) (lc i) (r i).cap (r i).sp (r i).f (hn i hil) wr.drew (hLii.kept (gb_drew (World.grownBy.refl _ none)) (by simp)) q2.1
          have hlbF : Hid (some gF ≠ some (lb i)) := fun e => own_nel own6 (hrows i hil) e.symm
          go_wp2
          go_region_held2 (fun w' => w'.cell? ⟨gF, i * 2, none⟩ = some (.int .i64 (r i).N) ∧ w'.cell? ⟨gF, i * 2 + 1, none⟩ = some (.slice (some ⟨lb i, 0, none⟩) (r i).n (lc i)) ∧ w'.cell? ⟨q, o + i * 2, none⟩ = some (.int .i64 (r i).N) ∧ w'.cell? ⟨q, o + i * 2 + 1, none⟩ = some (.slice (r i).sp (r i).n (r i).cap)) (go_keep) (first | (go_at_call 15; refine hkp.mono ?_; rintro e w12 ⟨rfl, g12⟩; have G12 := gb_trans (gb_drew (World.grownBy.refl wr none)) g12; have p0' := G12.cell p0 (by simp); have p1' := G12.cell p1 (by simp); have q0' := G12.cell q0 (by simp); have q1' := G12.cell q1 (by simp)))
          have L12 := hLii.kept G12 (by simp)
          have hwi := wipeC (r i).N (r i).n (lb i) (lc i) (r i).f (hn i hil) (fun x hx => (HR.out i hil).2.2.2.1 x hx) w12 L12
          go_wp2_with (first | (go_at_call 16; refine hwi.mono ?_; rintro e w13 ⟨⟨v13, rfl⟩, L13, g13⟩; refine Hid.out ?_))
          refine Lib.hid ?_
          have bk13 := bk_wiped (bki.kept G12) L12 (hlb2.out i hil) g13
          have gs13 := Gs.row (gsi.gb G12) g13 ⟨i, hil, rfl⟩
          have hL13 : ∀ t, t < j → Lent w13 (lb t) (r t).n (lc t) (if t < i + 1 then xk (r t).f else (r t).f) := fun t ht => by
            by_cases e : t = i
            · subst e
              rw [if_pos (by omega)]
              exact L13
            · have h1 := ((hLi t ht).kept G12 (by simp)).kept g13 (fun e' => by
                injection e' with e'
                rcases Nat.lt_or_ge t i with h | h
                · have := hinc t i h hil; omega
                · have := hinc i t (by omega) ht; omega)
              by_cases e2 : t < i
              · rw [if_pos e2] at h1; rw [if_pos (by omega)]; exact h1
              · rw [if_neg e2] at h1; rw [if_neg (by omega)]; exact h1
          have hc13 : ∀ t, t < j → w13.cell? ⟨gF, t * 2, none⟩ = some (.int .i64 (r t).N) ∧ w13.cell? ⟨gF, t * 2 + 1, none⟩ = some (.slice (some ⟨lb t, 0, none⟩) (r t).n (lc t)) := fun t ht => ⟨g13.cell (G12.cell (hci t ht).1 (by simp)) hlbF.out, g13.cell (G12.cell (hci t ht).2 (by simp)) hlbF.out⟩
          clear hLi bki gsi hci hwi hkp L12 L13 g13 g12 G12 p0 p1 q0 q1 q2 p0' p1' q0' q1' hLii
          go_wp2
          go_roundw
          case rel => exact ⟨i + 1, by omega, by go_num, hL13, bk13, gs13, hc13⟩
          case measure => simp [intOf]; omega
        · have hij : i = j := by omega
          subst hij
          have hlt2 : ¬ (i : Int) < (i : Int) := by omega
          have hL14 : ∀ t, t < i → Lent wr (lb t) (r t).n (lc t) (xk (r t).f) := fun t ht => by
            have := hLi t ht
            rw [if_pos ht] at this
            exact this
          clear hLi
          obtain ⟨w14, hw14⟩ : ∃ W, W = wr := ⟨_, rfl⟩
          subst hw14
          have hl14 : ∀ x, L11 x → x < w14.heap.size := fun x hx => by have := J11.hl x hx; have := gsi.size; omega
          have z14 : w11.heap.size ≤ w14.heap.size := gsi.size
          have hfW : ∀ t, t < i → ∀ x, x < (r t).n → xk (r t).f x < 18446744073709551616 := fun t ht => xk_lt (HR.out t ht).2.2.2.1
          go_wp2
          go_loopw [18, 17] (fun x v wr' => ∃ (m : Nat) (lb2 lc2 : Nat → Nat), m ≤ i ∧ x = .int .i64 m ∧ Ll wr' w14.heap.size v m (wipR r) lb2 lc2 ∧ w14.grownBy wr' none) (fun x _ _ => i - (intOf x).toNat)
          case atStart => exact ⟨0, fun _ => 0, fun _ => 0, Nat.zero_le _, rfl, Ll.nil _ _ _ _ _, World.grownBy.refl _ _⟩
          case round =>
            obtain ⟨m, lb2, lc2, hm, rfl, hL2, gm⟩ := hrel
            by_cases hml : m < i
            · have hml' : (m : Int) < (i : Int) := by omega
              have hmi : (m : Int) < (i : Int) + 1 := by omega
              obtain ⟨p0, p1⟩ := hci m hml
              have p0' := gm.cell p0 (by simp)
              have p1' := gm.cell p1 (by simp)
              have hle := lentC (r m).N (r m).n (lc m) (some ⟨lb m, 0, none⟩) (xk (r m).f) (hn m hml) wr ((hL14 m hml).kept gm (by simp)).wd (fun h => by cases h)
              go_wp2_with (first | (go_at_call 11; refine hle.mono ?_; rintro e w2 ⟨b, c, rfl, hb, hrow, g2⟩; refine Hid.out ?_))
              refine Lib.hid ?_
              clear hle p0 p1 p0' p1'
              have hle2 : Lent w2 b (wipR r m).n c (wipR r m).f := lent_of hrow
              obtain ⟨V3, hV3, p3, q3, sv3, gv3, X3⟩ := box2 w2 (.int .i64 (r m).N) (.slice (some ⟨b, 0, none⟩) (r m).n c) 31
              obtain ⟨W3, hW3, sz3, g3, C3⟩ := boxn V3 #[.int .i64 (r m).N, .slice (some ⟨b, 0, none⟩) (r m).n c] 31
              have own3 := (((hL2.kept g2).kept gv3).kept g3).own
              have nw : ∀ l u, [Value.int .i64 (r m).N, .slice (some ⟨b, 0, none⟩) (r m).n c][l]? = some u → W3.cell? ((⟨V3.heap.size, 0, none⟩ : Addr).add l) = some u := World.news_of_block (cs := #[.int .i64 (r m).N, .slice (some ⟨b, 0, none⟩) (r m).n c]) C3
              have hb3 : w14.heap.size ≤ W3.heap.size := Nat.le_trans gm.size (Nat.le_trans g2.size (Nat.le_trans gv3.size g3.size))
              go_wp2_with (first | (at_builtin; refine wpList_append_lies _ rfl _ _ 28 rfl w14.heap.size 31 ir (.agg #[.int .i64 0, .slice none 0 0]) 2 32 bUnderRS HI.out.1 HI.out.2.1 HI.out.2.2.1 HI.out.2.2.2 rfl (by decide) _ m _ rfl own3 ⟨V3.heap.size, 0, none⟩ 1 1 [.int .i64 (r m).N, .slice (some ⟨b, 0, none⟩) (r m).n c] rfl rfl nw (by intro u hu; simp at hu; rcases hu with rfl | rfl <;> rfl) (by decide) (by unfold maxLen; omega) (by omega) hb3 _ rfl ?_; intro gO cO w4 own4 gk4 at4 lt4; refine Hid.out ?_))
              refine Lib.hid ?_
              obtain ⟨lb', lc', hL4⟩ := Ll.next hL2 gm.size g2 hb hle2 (gb_trans gv3 g3) own4 gk4
              have G4 : w14.grownBy w4 none := (gb_trans gm (gb_trans g2 (gb_trans gv3 g3))).andThen gk4 (fun b hb => .inl (own3.lt b hb).1)
              clear own4 gk4 at4 lt4 nw own3 hle2 hrow p3 q3
              go_wp2
              go_roundw
              case rel => exact ⟨m + 1, lb', lc', by omega, by go_num, hL4, G4⟩
              case measure => simp [intOf]; omega
            · have hmi : m = i := by omega
              subst hmi
              have hlt3 : ¬ (m : Int) < (m : Int) := by omega
              obtain ⟨w15, hw15⟩ : ∃ W, W = wr := ⟨_, rfl⟩
              subst hw15
              -- the list of the copies
              obtain ⟨sO, gO, cO, hv, hsO, hRO⟩ : ∃ sO gO cO, u17 = .slice sO m cO ∧ (0 < m → sO = some ⟨gO, 0, none⟩) ∧ ∀ V, w15.grownBy V none → RwsO V gO 0 m (lenR (wipR r) lb2 lc2) := by
                rcases hL2.own.2 with ⟨hv, h0⟩ | ⟨g, cp, cur, hv, h1⟩
                · exact ⟨none, 0, 0, by rw [hv, h0], fun h => by omega, fun V hV t ht => by omega⟩
                · refine ⟨some ⟨g, 0, none⟩, g, cp, hv, fun _ => rfl, fun V hV t ht => ?_⟩
                  have hk := hL2.kept hV
                  have ho := hk.own
                  rw [hv, ← List.append_nil (rwV (wipR r) lb2 lc2 m)] at ho
                  obtain ⟨c0, c1⟩ := Ll.cells ho ht
                  rw [Nat.zero_add]
                  exact ⟨c0, c1, ok_lent (hk.rows t ht) (hfW t ht) (hn t ht)⟩
              subst hv
              have hrc2 : ∀ V : World, w15.grownBy V none → Calls Try.prog 12 #[.slice sO m cO] V (MadeF (cAns (wipR r) m) V) := fun V hV => by
                have := rcountU gO 0 m cO (lenR (wipR r) lb2 lc2) sO hsO hkl V (fun _ => hRO V hV)
                rw [cAns_congr (r := lenR (wipR r) lb2 lc2) (r' := wipR r) (fun i => ⟨rfl, rfl, rfl⟩) m] at this
                exact this
              have hcn2 : ∀ V : World, w14.grownBy V none → Calls Try.prog 13 #[.slice (some ⟨gF, 0, none⟩) m cF] V (MadeF (cAns (wipR r) m) V) := fun V hV => by
                have := countU gF m cF (lenR (wipR r) lb lc) (some ⟨gF, 0, none⟩) (fun _ => rfl) hkl V (fun _ t ht => ⟨hV.cell (hci t ht).1 (by simp), hV.cell (hci t ht).2 (by simp), ok_lent ((hL14 t ht).kept hV (by simp)) (hfW t ht) (hn t ht)⟩)
                rw [cAns_congr (r := lenR (wipR r) lb lc) (r' := wipR r) (fun i => ⟨rfl, rfl, rfl⟩) m] at this
                exact this
              have hac2 := cAns_c (r := wipR r) (k := m) (fun _ => hfW)
              have hae2 := cAns_e (wipR r) m
              obtain ⟨a2, ha2⟩ : ∃ a2, cAns (wipR r) m = a2 := ⟨_, rfl⟩
              rw [ha2] at hcn2 hrc2 hac2 hae2
              have bk15 := bki.kept gm
              have z15 : w14.heap.size ≤ w15.heap.size := gm.size
              clear ha2 hRO hfW hcn hrc hL14 hci hrows hrows11 hcell
              go_wp2_with (first | (go_at_call 12; refine (hrc2 w15 (World.grownBy.refl _ _)).mono ?_; rintro e w16 ⟨s16, rfl, r16, l16, ap16, g16⟩; refine Hid.out ?_))
              refine Lib.hid ?_
              obtain ⟨V16, hV16, sz16, gv16, X16⟩ := boxn w16 #[.int .i64 (a2 0).N, .slice (s16 0) (a2 0).c (a2 0).c, .int .i64 (a2 1).N, .slice (s16 1) (a2 1).c (a2 1).c, .int .i64 (a2 2).N, .slice (s16 2) (a2 2).c (a2 2).c, .int .i64 (a2 3).N, .slice (s16 3) (a2 3).c (a2 3).c] 36
              have G16 : w14.grownBy V16 none := gb_trans gm (gb_trans g16 gv16)
              have bk16 := (bk15.kept g16).kept gv16
              go_wp2_with (first | (go_at_call 13; refine (hcn2 V16 G16).mono ?_; rintro e w17 ⟨s17, rfl, r17, l17, ap17, g17⟩; refine Hid.out ?_))
              refine Lib.hid ?_
              obtain ⟨V17, hV17, sz17, gv17, X17⟩ := boxn w17 #[.int .i64 (a2 0).N, .slice (s17 0) (a2 0).c (a2 0).c, .int .i64 (a2 1).N, .slice (s17 1) (a2 1).c (a2 1).c, .int .i64 (a2 2).N, .slice (s17 2) (a2 2).c (a2 2).c, .int .i64 (a2 3).N, .slice (s17 3) (a2 3).c (a2 3).c] 36
              have X167 := (X16.kept g17 (by simp)).kept gv17 (by simp)
              have x0 := X167.cell 0 (v := .int .i64 (a2 0).N) rfl
              have x1 := X167.cell 1 (v := .slice (s16 0) (a2 0).c (a2 0).c) rfl
              have x2 := X167.cell 2 (v := .int .i64 (a2 1).N) rfl
              have x3 := X167.cell 3 (v := .slice (s16 1) (a2 1).c (a2 1).c) rfl
              have x4 := X167.cell 4 (v := .int .i64 (a2 2).N) rfl
              have x5 := X167.cell 5 (v := .slice (s16 2) (a2 2).c (a2 2).c) rfl
              have x6 := X167.cell 6 (v := .int .i64 (a2 3).N) rfl
              have x7 := X167.cell 7 (v := .slice (s16 3) (a2 3).c (a2 3).c) rfl
              have y0 := X17.cell 0 (v := .int .i64 (a2 0).N) rfl
              have y1 := X17.cell 1 (v := .slice (s17 0) (a2 0).c (a2 0).c) rfl
              have y2 := X17.cell 2 (v := .int .i64 (a2 1).N) rfl
              have y3 := X17.cell 3 (v := .slice (s17 1) (a2 1).c (a2 1).c) rfl
              have y4 := X17.cell 4 (v := .int .i64 (a2 2).N) rfl
              have y5 := X17.cell 5 (v := .slice (s17 2) (a2 2).c (a2 2).c) rfl
              have y6 := X17.cell 6 (v := .int .i64 (a2 3).N) rfl
              have y7 := X17.cell 7 (v := .slice (s17 3) (a2 3).c (a2 3).c) rfl
              have z16 : w15.heap.size ≤ w16.heap.size := g16.size
              have z16v : w16.heap.size ≤ V16.heap.size := gv16.size
              have z17 : V16.heap.size ≤ w17.heap.size := g17.size
              have z17v : w17.heap.size ≤ V17.heap.size := gv17.size
              have hB14 : w6.heap.size ≤ w14.heap.size := by omega
              have bk17 := (bk16.kept g17).kept gv17
              have hl17 : ∀ x, L11 x → x < V17.heap.size := fun x hx => by have := hl14 x hx; omega
              have hfo := fourC w6.heap.size w6.heap.size 8 An11 sg11 sw11 (by decide) a2 (fun d _ => hae2 d) (fun d _ => hac2 d) s17 s16 L11 V17 bk17 hl17 (fun d hd => (r17 d hd).kept gv17) (fun d hd => (((r16 d hd).kept gv16).kept g17).kept gv17) (fun d hd => made_fresh bk16 (l17 d hd) (by omega)) ap17 (fun d hd x hx => by have := l16 d hd x hx; omega)
              go_wp2_with (first | (go_at_call 14; refine hfo.mono ?_; rintro e w18 ⟨rfl, An18, sg18, sw18, L18, bk18, J18⟩; refine Hid.out ?_))
              refine Lib.hid ?_
              clear hfo x0 x1 x2 x3 x4 x5 x6 x7 y0 y1 y2 y3 y4 y5 y6 y7
              have hst := bookStands w6.heap.size w6.heap.size 12 An18 sg18 sw18 L18 (by decide) (by decide) w18 bk18
              have hwB : w.heap.size ≤ w6.heap.size := by omega
              have BL18 : Below w.heap.size w w18 := (BLi.trans ((gb_below (gb_trans G16 (gb_trans g17 gv17))).mono (by omega))).trans (J18.bl.mono hwB)
              go_wp2_with (first | (go_at_call 17; refine hst.mono ?_; rintro e wE ⟨rfl, blE⟩))
              go_ret
              exact ⟨rfl, BL18.trans (blE.mono hwB)⟩
end Go.Proofs.Ytcdefpfnjjahgab
