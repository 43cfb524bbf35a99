/- A form as a tree. -/
import Derived.Deep.RegionHeld2
import Derived.Test.YteaionmjbkildabDoorQ13
namespace Go.Proofs.YteaionmjbkildabDoor
open Go.RowKit
set_option linter.unusedVariables false
set_option linter.unusedSimpArgs false
set_option maxRecDepth 100000

/-- Kids in memory of one's own, the block (if there are any) being g. -/
def Kz (w : World) (lo : Nat) (sp : Option Addr) (g : Nat) (ks : List Nat) : Prop := (ks = [] → sp = none) ∧ (ks ≠ [] → sp = some ⟨g, 0, none⟩ ∧ Ri w g ks.length (lf ks) ∧ lo ≤ g)
theorem Kz.kept {w w' : World} {lo g : Nat} {sp : Option Addr} {ks : List Nat} {r : Option Nat} (h : Kz w lo sp g ks) (hg : w.grownBy w' r) (hne : ks ≠ [] → some g ≠ r) : Kz w' lo sp g ks :=
  ⟨h.1, fun hk => ⟨(h.2 hk).1, rowIs_kept (h.2 hk).2.1 hg (hne hk), (h.2 hk).2.2⟩⟩
theorem Kz.in {w : World} {lo g : Nat} {sp : Option Addr} {ks : List Nat} (h : Kz w lo sp g ks) : In w sp ks.length (lf ks) := fun k hk => by
  have hne : ks ≠ [] := fun e => by subst e; simp at hk
  obtain ⟨h1, h2, _⟩ := h.2 hne
  subst h1
  exact Ri.inr h2 (Nat.le_refl _) (fun _ _ => rfl) k hk
theorem Gt.drew (b c : Nat) (w : World) : Gt b c w w.drew := ⟨rfl, rfl, rfl, Nat.le_refl _, fun _ _ _ _ => rfl⟩
theorem Kz.gt {w w' : World} {lo g b c : Nat} {sp : Option Addr} {ks : List Nat} (h : Kz w lo sp g ks) (hg : Gt b c w w') (hne : ks ≠ [] → g ≠ b ∧ g ≠ c) : Kz w' lo sp g ks :=
  ⟨h.1, fun hk => ⟨(h.2 hk).1, hg.ri (h.2 hk).2.1 (hne hk).1 (hne hk).2, (h.2 hk).2.2⟩⟩
theorem listU (x : Nd) (hx : NdOk x) (w : World) : Calls Tryd.prog 68 #[.agg #[.int .u8 (x.1 : Nat), .string ⟨(ktx x.2).toArray⟩]] w fun e w' => ∃ sp g, e = .returned (.slice sp x.2.length x.2.length) ∧ Kz w' w.heap.size sp g x.2 ∧ w.grownBy w' none ∧ Hid (x.2 ≠ [] → g < w'.heap.size) := by
  obtain ⟨st, ks⟩ := x
  cases ks with
  | nil =>
    refine (listN (st : Nat) w).mono ?_
    rintro e w' ⟨rfl, g⟩
    exact ⟨none, 0, rfl, ⟨fun _ => rfl, fun h => absurd rfl h⟩, g, fun h => absurd rfl h⟩
  | cons k r =>
    refine (listC (st : Nat) (k :: r) hx.2.1 (by simp) hx.2.2 w).mono ?_
    rintro e w' ⟨g, rfl, h1, h2, h3, h4⟩
    exact ⟨_, g, rfl, ⟨fun h => by simp at h, fun _ => ⟨rfl, h1, h3⟩⟩, h2, fun _ => h4⟩

theorem infoB : (Tryd.prog.info? 69).map (fun i => (i.zero, i.size, i.bytes)) = some (some (.agg #[.int .u8 0, .slice none 0 0]), 2, 32) := by kernel_rfl
theorem underBS : Tryd.prog.underlying 22 = some (.slice 69) := by kernel_rfl
theorem makeB (c : Nat) (hc : c ≤ 16777216) (w : World) : (Instr.makeSlice 22 (.int .i64 (c : Nat)) (.int .i64 (c : Nat))).run Tryd.prog w = .ok (.slice (some ⟨w.heap.size, 0, none⟩) c c) (w.alloc (.cells (madeCells #[.int .u8 0, .slice none 0 0] (c * 2)) 69)) := by
  obtain ⟨i, hi, hz, hs, hb⟩ := info_parts infoB
  have hr := run_make (P := Tryd.prog) w 22 69 i _ underBS hi hz .i64 .i64 (c : Nat) (c : Nat) (by omega) (Int.le_refl _) (by rw [hb]; omega) (by omega)
  simp only [Int.toNat_natCast, hs] at hr
  exact hr
/-- The nodes of a tree in memory of one's own: block gN, the kids' blocks kb. -/
def Nz (w : World) (lo gN : Nat) (kb : Nat → Nat) (L : List Nd) : Prop := ∃ f : Nat → Value, w.rowIs gN 69 (L.length * 2) f ∧ (∀ j x, L[j]? = some x → f (j * 2) = .int .u8 (x.1 : Nat) ∧ ∃ sp, f (j * 2 + 1) = .slice sp x.2.length x.2.length ∧ Kz w lo sp (kb j) x.2)
/-- No two nodes' kids lie in one block. -/
def Ap (gN : Nat) (kb : Nat → Nat) (L : List Nd) : Prop := (∀ i x, L[i]? = some x → x.2 ≠ [] → kb i ≠ gN) ∧ ∀ i j x y, L[i]? = some x → L[j]? = some y → x.2 ≠ [] → y.2 ≠ [] → i ≠ j → kb i ≠ kb j

theorem underTree : ∃ fs, Tryd.prog.underlying 24 = some (.struct fs) := by
  have h : (match Tryd.prog.underlying 24 with | some (.struct _) => true | _ => false) = true := by kernel_rfl
  split at h
  · exact ⟨_, by assumption⟩
  · cases h
theorem infoTree : (Tryd.prog.info? 24).map (·.size) = some 4 := by kernel_rfl
set_option maxHeartbeats 2000000 in
theorem treeC (b st inp : Nat) (L : List Nd) (hL : Gf L) (hl : L.length ≤ 16777216) (h0 : 0 < L.length) (w : World) (F : Fm w b L) :
    Calls Tryd.prog 55 #[.map (some b), .int .i64 (st : Nat), .int .i64 (inp : Nat)] w fun e w' => ∃ gN kb, e = .returned (.agg #[.int .i64 (st : Nat), .int .i64 (inp : Nat), .slice (some ⟨gN, 0, none⟩) L.length L.length, .int .i64 ((L.length - 1 : Nat))]) ∧ Nz w' w.heap.size gN kb L ∧ Ap gN kb L ∧ w.grownBy w' none ∧ w.heap.size ≤ gN := by
  obtain ⟨D, F1, F2, F3, F4⟩ := F
  have hbw := F1.lt
  obtain ⟨W1, hW1, sz1, g1, B1⟩ := boxn w #[.int .i64 0, .int .i64 0, .slice none 0 0, .int .i64 0] 24
  have own1 := F1.kept g1 (by simp)
  obtain ⟨c, hc⟩ : ∃ c, L.length = c := ⟨_, rfl⟩
  rw [hc] at F2 own1 F1 hl h0 ⊢
  have hmk := makeB c hl
  obtain ⟨W2, hW2⟩ : ∃ W2, W1.alloc (.cells (madeCells #[.int .u8 0, .slice none 0 0] (c * 2)) 69) = W2 := ⟨_, rfl⟩
  have g2 : W1.grownBy W2 none := (by rw [← hW2]; exact World.grownBy_alloc _ _ _)
  have R2 : ∃ f, W2.rowIs W1.heap.size 69 (c * 2) f := ⟨fun i => (madeCells #[.int .u8 0, .slice none 0 0] (c * 2)).getD i undef, (by
    rw [← hW2]
    have := World.rowIs_alloc W1 (madeCells #[.int .u8 0, .slice none 0 0] (c * 2)) 69 (fun i => (madeCells #[.int .u8 0, .slice none 0 0] (c * 2)).getD i undef) (fun i hi => by simp [Array.getD, hi])
    rw [size_madeCells] at this
    exact this)⟩
  obtain ⟨f2, R2⟩ := R2
  have own2 := own1.kept g2 (by simp)
  have hs2 : W1.heap.size < W2.heap.size := World.rowIs.lt R2
  have hs1 : w.heap.size < W1.heap.size := by have := sz1.out; omega
  go_enter Tryd.func55, Tryd.ntmps55
  go_wp2_with (first | (at_len; refine wpList_len_own _ rfl _ 100 rfl 116 3 underM _ b _ D rfl own1 ?_; rw [F2]) | (at_range; refine wpList_range_own _ rfl _ 100 rfl 116 3 lawK underM _ b _ D rfl own2 ?_; intro w0 hrg0 hg0 hs0) | go_in)
  go_frame
  go_loopw [9] (fun _ wr => ∃ (left : Lit → Bool) (cnt : Nat) (f : Nat → Value) (kb : Nat → Nat), wr.ranges Tryd.prog 116 (plainElem Tryd.prog 3) b W2.heap.size c D left cnt ∧ Bo wr w.heap.size 24 #[.int .i64 0, .int .i64 0, .slice none 0 0, .int .i64 0] ∧ wr.rowIs W1.heap.size 69 (c * 2) f ∧ w.grownBy wr none ∧ Hid (∀ j x, L[j]? = some x → left (nk x) = false → f (j * 2) = .int .u8 (x.1 : Nat) ∧ ∃ sp, f (j * 2 + 1) = .slice sp x.2.length x.2.length ∧ Kz wr w.heap.size sp (kb j) x.2) ∧ Hid (∀ j x, L[j]? = some x → left (nk x) = false → x.2 ≠ [] → kb j ≠ W1.heap.size ∧ kb j ≠ W2.heap.size ∧ kb j < wr.heap.size) ∧ Hid (∀ i j x y, L[i]? = some x → L[j]? = some y → left (nk x) = false → left (nk y) = false → x.2 ≠ [] → y.2 ≠ [] → i ≠ j → kb i ≠ kb j))
    (fun _ wr => wr.rangeLeft b W2.heap.size)
  case atStart =>
    have hall : ∀ j x, L[j]? = some x → Maps.has D (nk x) = true := fun j x hj => Maps.has_true_of_atKey (F3 j x hj)
    exact ⟨_, _, f2, fun _ => 0, hrg0, (B1.kept g2 (by simp)).kept hg0 (by simp), rowIs_kept R2 hg0 (by simp), gb_trans (gb_trans g1 g2) hg0, (fun j x hj hf => by rw [hall j x hj] at hf; cases hf), (fun j x hj hf => by rw [hall j x hj] at hf; cases hf), (fun i j x y hi hj hf => by rw [hall i x hi] at hf; cases hf)⟩
  case round =>
    obtain ⟨left, cnt, f, kb, hrg, Bw, Rw, Gw, H1, H2, H3⟩ := hrel
    go_wp2_with (first | (at_next; refine wpList_next_ranges (α := Int × ByteArray) (β := Int) _ rfl _ rfl 116 lawK _ (fun p => .agg #[.int .u8 p.1, .string p.2]) (Value.int .i64) (fun key l hk => by obtain ⟨st, b, e, _⟩ := (keyOf_is key l).1 hk; exact ⟨(st, b), e⟩) (fun v y hv => by obtain ⟨q, e, _⟩ := plainElem_int_inv underI hv; exact ⟨q, e⟩) b W2.heap.size c D left cnt rfl hrg ?_ ?_) | go_in)
    · intro hc0 hl0
      have r0 := Bw.cell 0 (v := .int .i64 0) rfl
      have r1 := Bw.cell 1 (v := .int .i64 0) rfl
      have r2 := Bw.cell 2 (v := .slice none 0 0) rfl
      have r3 := Bw.cell 3 (v := .int .i64 0) rfl
      have z0 := Bw.frozen 0
      have z1 := Bw.frozen 1
      have z2 := Bw.frozen 2
      have z3 := Bw.frozen 3
      go_wp2
      obtain ⟨fs, hfs⟩ := underTree
      refine ret_c1 (g := w.heap.size) (t := 24) (cs := #[.int .i64 (st : Nat), .int .i64 (inp : Nat), .slice (some ⟨W1.heap.size, 0, none⟩) c c, .int .i64 ((c : Int) - 1)]) rfl hfs infoTree rfl ((((Bw.set 0 _).set 1 _).set 2 _).set 3 _) rfl ?_
      have hne : W1.heap.size ≠ w.heap.size := by omega
      have gs : ∀ {W : World}, w.grownBy W none → ∀ i v, w.grownBy (W.setCell ⟨w.heap.size, i, none⟩ v) none := fun h i v => gb_new h (Nat.le_refl _) v
      have go4 : ∀ {W : World} i v, W.grownBy (W.setCell ⟨w.heap.size, i, none⟩ v) (some w.heap.size) := fun i v => gb_set (World.grownBy.refl _ _) i v
      refine ⟨W1.heap.size, kb, ?_, ⟨f, ?_, ?_⟩, ⟨?_, ?_⟩, gs (gs (gs (gs Gw _ _) _ _) _ _) _ _, by omega⟩
      · rw [show ((c - 1 : Nat) : Int) = (c : Int) - 1 by omega]
      · rw [hc]
        exact World.rowIs.setOther (World.rowIs.setOther (World.rowIs.setOther (World.rowIs.setOther Rw hne _) hne _) hne _) hne _
      · intro j x hj
        obtain ⟨e1, sp, e2, k⟩ := H1.out j x hj (hl0 _)
        refine ⟨e1, sp, e2, ?_⟩
        by_cases hk : x.2 = []
        · exact ⟨k.1, fun h => absurd hk h⟩
        · have hlo := (k.2 hk).2.2
          have hk2 : kb j ≠ w.heap.size := by
            intro e
            have hR := World.rowIs.lt (k.2 hk).2.1
            obtain ⟨cc, hcc, hsz, _⟩ := (k.2 hk).2.1
            rw [e, show wr.heap[w.heap.size]? = _ from Bw] at hcc
            have := (Obj.cells.injEq .. ▸ Option.some.inj hcc).2.1
            revert this; decide
          have gk : ∀ {W : World} i v, Kz W w.heap.size sp (kb j) x.2 → Kz (W.setCell ⟨w.heap.size, i, none⟩ v) w.heap.size sp (kb j) x.2 := fun i v h => h.kept (go4 i v) (fun _ e => hk2 (by injection e))
          exact gk _ _ (gk _ _ (gk _ _ (gk _ _ k)))
      · intro i x hi hk
        exact (H2.out i x hi (hl0 _) hk).1
      · intro i j x y hi hj h5 h6 hij
        exact H3.out i j x y hi hj (hl0 _) (hl0 _) h5 h6 hij
    · intro s0 T q l y y2 w1 cnt1 hkey hlk hv hat hrg1 hlt hg1 hsw hen
      try dsimp only at hkey hen ⊢
      have hh : Maps.has D l = true := Maps.has_true_of_atKey hat
      obtain ⟨x, hxL, rfl⟩ := F4 l hh
      have hx := hL x hxL
      have hkv : (.agg #[.int .u8 s0, .string T] : Value) = nkV x := lawK.inj hkey (nk_key hx)
      have hs0 : s0 = (x.1 : Int) ∧ T = ⟨(ktx x.2).toArray⟩ := by
        simpa [nkV] using hkv
      obtain ⟨n, hn⟩ := List.mem_iff_getElem?.1 hxL
      have hnc : n < c := by rw [← hc]; exact (List.getElem?_eq_some_iff.1 hn).1
      have hq : q = (n : Int) := by
        obtain ⟨q', e, hy, _⟩ := plainElem_int_inv underI hv
        cases e
        have h5 := (hat (.lit (.int .i64 0))).symm.trans (F3 n x hn _)
        injection hy with hy1 hy2
        rw [hy1] at h5
        simpa using h5
      have hU := listU x hx
      rw [← hs0.1, ← hs0.2] at hU
      have HS : Hid (s0 = (x.1 : Int)) := hs0.1
      subst hq
      clear hkv hs0 hkey hv hat hh
      have hr2 := hrg.lt
      obtain ⟨m, hm⟩ : ∃ m, x.2.length = m := ⟨_, rfl⟩
      have HM : Hid (x.2.length = m) := hm
      rw [hm] at hU
      clear hm
      obtain ⟨W3, hW3, sz3, g3, B3⟩ := boxn w1 #[.int .u8 s0, .string T] 116
      rw [hsw] at B3
      have hsw' : Hid (w1.heap.size = wr.heap.size) := hsw
      have gA : wr.grownBy W3 (some W2.heap.size) := gb_none hg1 g3
      clear hsw
      rw [hsw'.out] at sz3
      have k0 := B3.cell 0 (v := .int .u8 s0) rfl
      have k1 := B3.cell 1 (v := .string T) rfl
      have hswr : w1.heap.size = wr.heap.size := hsw'.out
      have hw : ((n : Int)).toNat = n := by omega
      have hn1 : (n : Int) < (c : Int) := by omega
      have ap := Nat.ne_of_lt (World.rowIs.lt Rw)
      have aq := Nat.ne_of_gt (World.rowIs.lt Rw)
      have hn2 : (0 : Int) ≤ (n : Int) := by omega
      go_wp2
      go_region_held2 (fun w' => w'.cell? ⟨wr.heap.size, 0, none⟩ = some (.int .u8 s0) ∧ w'.cell? ⟨wr.heap.size, 1, none⟩ = some (.string T)) (go_keep) (first | (go_at_call 68; refine (hU _).mono ?_; rintro e w4 ⟨sp, g, rfl, kz, g4, hgl⟩; have B4 := B3.dr.kept g4 (by simp); have j0 := B4.cell 0 (v := .int .u8 s0) rfl; have j1 := B4.cell 1 (v := .string T) rfl; have R4 := rowIs_kept (rowIs_kept Rw gA (by simp; omega)).drew g4 (by simp); have u0 := World.rowIs.cell R4 (i := n * 2) (by omega); have u1 := World.rowIs.cell R4 (i := n * 2 + 1) (by omega); have v0 := World.rowIs.frozen R4 (n * 2); have v1 := World.rowIs.frozen R4 (n * 2 + 1)))
      go_wp2
      have G5 : Gt W2.heap.size W1.heap.size wr ((w4.setCell ⟨W1.heap.size, n * 2, none⟩ (.int .u8 s0)).setCell ⟨W1.heap.size, n * 2 + 1, none⟩ (.slice sp m m)) :=
        (((((Gt.of hg1 (fun k e => by cases e; exact .inl rfl)).trans (Gt.of g3 (by simp))).trans (Gt.drew _ _ _)).trans (Gt.of g4 (by simp))).trans (Gt.set _ _ _)).trans (Gt.set _ _ _)
      have gS : ∀ {W : World} i v, W.grownBy (W.setCell ⟨W1.heap.size, i, none⟩ v) (some W1.heap.size) := fun i v => gb_set (World.grownBy.refl _ _) i v
      have hbW : b ≠ W1.heap.size := by omega
      have hrW : W2.heap.size ≠ W1.heap.size := by omega
      have rg5 := (((hrg1.kept g3 (by simp) (by simp)).kept (gb_none (r := none) (gb_drew (World.grownBy.refl W3 none)) g4) (by simp) (by simp)).kept (gS (n * 2) (.int .u8 s0)) (by simpa using hbW) (by simpa using hrW)).kept (gS (n * 2 + 1) (.slice sp m m)) (by simpa using hbW) (by simpa using hrW)
      have s4 := g4.size
      have s43 : W3.drew.heap.size = W3.heap.size := rfl
      have s3 := sz3.out
      have s5 : ((w4.setCell ⟨W1.heap.size, n * 2, none⟩ (.int .u8 s0)).setCell ⟨W1.heap.size, n * 2 + 1, none⟩ (.slice sp m m)).heap.size = w4.heap.size := by simp [World.setCell]
      have sW := World.rowIs.lt Rw
      have hgx : x.2 ≠ [] → W3.heap.size ≤ g := fun h => (kz.2 h).2.2
      have split : ∀ j y, L[j]? = some y → (left (nk y) && !(nk y).sameKey (nk x)) = false → (j = n ∧ y = x) ∨ (j ≠ n ∧ left (nk y) = false) := by
        intro j y hj hf
        by_cases e : nk y = nk x
        · have hyx : y = x := nk_inj (hL y (List.mem_of_getElem? hj)) hx e
          subst hyx
          have h6 := (F3 j y hj (.lit (.int .i64 0))).symm.trans (F3 n y hn _)
          have h7 : j = n := by injection h6 with h6; injection h6 with _ h6; omega
          exact .inl ⟨h7, rfl⟩
        · refine .inr ⟨fun ej => ?_, ?_⟩
          · subst ej
            rw [hn] at hj
            cases hj
            exact e rfl
          · rw [Maps.sameKey_ne e] at hf
            simpa using hf
      go_roundw
      case rel =>
        refine ⟨_, cnt1, fun k => if k = n * 2 + 1 then .slice sp m m else if k = n * 2 then .int .u8 s0 else f k, fun j => if j = n then g else kb j, rg5, G5.bo Bw (by omega) (by omega), ?_, ?_, ?_, ?_, ?_⟩
        · exact World.rowIs.set (World.rowIs.set R4 _ _) _ _
        · exact ⟨G5.os.trans Gw.os, G5.tape.trans Gw.tape, G5.output.trans Gw.output, Nat.le_trans Gw.size G5.size, fun k hk _ => (G5.block k (Nat.lt_of_lt_of_le hk Gw.size) (by omega) (by omega)).trans (Gw.block k hk (by simp))⟩
        · intro j y hj hf
          rcases split j y hj hf with ⟨rfl, rfl⟩ | ⟨hjn, hly⟩
          · refine ⟨by simp; exact HS.out, sp, by simp [HM.out], ?_⟩
            have kz5 : Kz _ W3.drew.heap.size sp g y.2 := (kz.kept (gS (j * 2) (.int .u8 s0)) (fun h => by have := hgx h; simp; omega)).kept (gS (j * 2 + 1) (.slice sp m m)) (fun h => by have := hgx h; simp; omega)
            simp only [if_true]
            exact ⟨kz5.1, fun h => ⟨(kz5.2 h).1, (kz5.2 h).2.1, by have := hgx h; omega⟩⟩
          · obtain ⟨e1, sp', e2, k⟩ := H1.out j y hj hly
            refine ⟨?_, sp', ?_, ?_⟩
            · dsimp only; rw [if_neg (by omega), if_neg (by omega)]; exact e1
            · dsimp only; rw [if_neg (by omega), if_neg (by omega)]; exact e2
            · dsimp only; rw [if_neg hjn]
              exact k.gt G5 (fun h => ⟨(H2.out j y hj hly h).2.1, (H2.out j y hj hly h).1⟩)
        · intro j y hj hf hk
          rcases split j y hj hf with ⟨rfl, rfl⟩ | ⟨hjn, hly⟩
          · have := hgx hk
            have h8 := hgl.out hk
            simp only [if_true]
            exact ⟨by omega, by omega, by omega⟩
          · dsimp only; rw [if_neg hjn]
            obtain ⟨h7, h8, h9⟩ := H2.out j y hj hly hk
            exact ⟨h7, h8, Nat.lt_of_lt_of_le h9 G5.size⟩
        · intro i j y z hi hj hfi hfj hyk hzk hij
          rcases split i y hi hfi with ⟨rfl, rfl⟩ | ⟨hin, hly⟩ <;> rcases split j z hj hfj with ⟨rfl, rfl⟩ | ⟨hjn, hlz⟩
          · exact absurd rfl hij
          · dsimp only; rw [if_pos rfl, if_neg hjn]
            have := hgx hyk
            have := (H2.out j z hj hlz hzk).2.2
            omega
          · dsimp only; rw [if_neg hin, if_pos rfl]
            have := hgx hzk
            have := (H2.out i y hi hly hyk).2.2
            omega
          · dsimp only; rw [if_neg hin, if_neg hjn]
            exact H3.out i j y z hi hj hly hlz hyk hzk hij
      case measure => rw [rg5.left_eq, hrg.left_eq]; exact hlt
end Go.Proofs.YteaionmjbkildabDoor
