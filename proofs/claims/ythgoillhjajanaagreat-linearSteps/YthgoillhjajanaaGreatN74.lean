/- once, cells. -/
import Derived.Test.YthgoillhjajanaaGreatNl
namespace Go.Proofs.YthgoillhjajanaaGreat
open Go.RowKit
set_option linter.unusedVariables false
set_option linter.unusedSimpArgs false
set_option maxRecDepth 100000

namespace Ln
theorem tmod_small {a : Int} (h : -1000 < a ∧ a < 1000) : Int.tmod a 1000 = a := by
  by_cases h0 : 0 ≤ a
  · rw [Int.tmod_eq_emod_of_nonneg h0, Int.emod_eq_of_lt h0 h.2]
  · have e : Int.tmod (- -a) 1000 = -(Int.tmod (-a) 1000) := Int.neg_tmod (-a) 1000
    rw [Int.neg_neg] at e
    rw [e, Int.tmod_eq_emod_of_nonneg (by omega), Int.emod_eq_of_lt (by omega) (by omega), Int.neg_neg]
def tm3 (p : Pt) : Pt := (Int.tmod p.1 1000, Int.tmod p.2 1000)
/-- Places brought near. -/
structure On (f : Nat → Pt) (n most : Nat) (D : List Pt) : Prop where
  nd : D.Nodup
  le : D.length ≤ most
  of : ∀ p ∈ D, ∃ j, j < n ∧ p = tm3 (f j)
set_option maxHeartbeats 4000000 in
theorem onceC (sp : Option Addr) (n c : Nat) (f : Nat → Pt) (hn : n ≤ 8796093021952) (most : Nat) (hm : most ≤ 400) (w : World) (H : Pl w sp n f) :
    Calls Tryz.prog 9 #[.slice sp n c, .int .i64 most] w fun e w' => ∃ (v : Value) (D : List Pt), e = .returned v ∧ w'.ownsRow w.heap.size 42 2 v D.length (fl D) ∧ On f n most D ∧ w.grownBy w' none := by
  obtain ⟨i0, HI⟩ : ∃ i, Hid (Tryz.prog.info? 42 = some i ∧ i.zero = some (.agg #[.int .i64 0, .int .i64 0]) ∧ i.size = 2 ∧ i.bytes = 16) := by
    obtain ⟨i, h1, h2, h3, h4⟩ := info_parts infoK
    exact ⟨i, h1, h2, h3, h4⟩
  go_enter Tryz.func9, Tryz.ntmps9
  go_wp2
  go_loopw [6, 5] (fun u v wr => ∃ (i nD : Nat) (D : List Pt) (ov : Value), i ≤ n ∧ i ≤ 400 ∧ u = .int .i64 i ∧ v = ov ∧ Hid (D.length = nD) ∧ nD ≤ most ∧ wr.ownsRow w.heap.size 42 2 ov nD (fl D) ∧ Hid (On f n most D) ∧ w.grownBy wr none) (fun u _ _ => n - (intOf u).toNat)
  case atStart => exact ⟨0, 0, [], _, Nat.zero_le _, by omega, rfl, rfl, rfl, Nat.zero_le _, World.ownsRow_nil _ _ _ _, ⟨List.nodup_nil, Nat.zero_le _, fun x hx => by cases hx⟩, World.grownBy.refl _ _⟩
  case round =>
    obtain ⟨i, nD, D, ov, hi, hi4, rfl, hov, HDL, hnD, own, HD, gi⟩ := hrel
    subst hov
    obtain ⟨sD, cD, rfl, ID, h0D⟩ := own_shape0 own HDL.out
    by_cases hgo : i < n ∧ nD < most ∧ i < 400
    · have hlt := hgo.1
      have hlt' : (i : Int) < (n : Int) := by omega
      have hd8 : (nD : Int) < (most : Int) := by omega
      have hi4' : (i : Int) < 400 := by omega
      obtain ⟨q, o, rfl, c0, c1⟩ := (H.kept gi (by simp)) i hlt
      have HP : Hid (tm3 (f i) = (Int.tmod (f i).1 1000, Int.tmod (f i).2 1000)) := rfl
      obtain ⟨P, hP⟩ : ∃ P, tm3 (f i) = P := ⟨_, rfl⟩
      have HPf : Hid (tm3 (f i) = P) := hP
      rw [hP] at HP
      clear hP
      obtain ⟨x, hx⟩ : ∃ x, (f i).1 = x := ⟨_, rfl⟩
      obtain ⟨y, hy⟩ : ∃ y, (f i).2 = y := ⟨_, rfl⟩
      rw [hx, hy] at HP
      rw [hx] at c0
      rw [hy] at c1
      clear hx hy hgo
      have hk1 := Int.tmod_lt_of_pos x (show (0 : Int) < 1000 by omega)
      have hk2 := Int.lt_tmod_of_pos x (show (0 : Int) < 1000 by omega)
      have hk3 := Int.tmod_lt_of_pos y (show (0 : Int) < 1000 by omega)
      have hk4 := Int.lt_tmod_of_pos y (show (0 : Int) < 1000 by omega)
      obtain ⟨a, ha⟩ : ∃ k, Int.tmod x 1000 = k := ⟨_, rfl⟩
      obtain ⟨b, hb⟩ : ∃ k, Int.tmod y 1000 = k := ⟨_, rfl⟩
      rw [ha, hb] at HP
      rw [ha] at hk1 hk2
      rw [hb] at hk3 hk4
      obtain rfl : P = (a, b) := HP.out
      clear HP
      obtain ⟨wi, hwi⟩ : ∃ W, W = wr := ⟨_, rfl⟩
      subst hwi
      have n0 := World.new_ne wi _ c0
      have n1 := World.new_ne wi _ c1
      simp only at n0 n1
      go_wp2
      go_region_held2 (fun w' => w'.cell? ⟨q, o + i * 2, none⟩ = some (.int .i64 x) ∧ w'.cell? ⟨q, o + i * 2 + 1, none⟩ = some (.int .i64 y)) (go_keep) (fail)
      obtain ⟨W2, hW2, sz2, g2, B2⟩ := boxn wi #[.int .i64 a, .int .i64 b] 42
      rw [hW2]
      have Bp := B2.dr
      have G2 : wi.grownBy W2.drew none := gb_drew g2
      clear hW2 c0 c1 n0 n1 ha hb B2
      go_wp2
      go_loopw [9, 8] (fun u v wr => ∃ (j : Nat) (fb : Bool), j ≤ nD ∧ u = .int .i64 j ∧ v = .bool fb ∧ Hid (fb = true ↔ ∀ t, t < j → D.getD t (0, 0) ≠ (a, b)) ∧ Bo wr wi.heap.size 42 #[.int .i64 a, .int .i64 b] ∧ wi.grownBy wr none) (fun u _ _ => nD - (intOf u).toNat)
      case atStart => exact ⟨0, true, Nat.zero_le _, rfl, rfl, ⟨fun _ t ht => by omega, fun _ => rfl⟩, Bp, G2⟩
      case round =>
        obtain ⟨j, fb, hj, rfl, rfl, HF, Bj, gj⟩ := hrel
        have p0 := Bj.cell 0 (v := .int .i64 a) rfl
        have p1 := Bj.cell 1 (v := .int .i64 b) rfl
        by_cases hjt : j < nD
        · have hjt' : (j : Int) < (nD : Int) := by omega
          obtain ⟨q2, o2, rfl, d0, d1⟩ := (ID.kept gj (by simp)) j hjt
          simp only at d0 d1
          by_cases he : D.getD j (0, 0) = (a, b)
          · have HF1 : Hid ((false : Bool) = true ↔ ∀ t, t < j + 1 → D.getD t (0, 0) ≠ (a, b)) := ⟨(fun e => by cases e), (fun e => absurd he (e j (by omega)))⟩
            rw [he] at d0 d1
            simp only at d0 d1
            clear HF he
            go_wp2
            first | go_roundw | (go_quiet (fail); go_wp2; go_roundw)
            case rel => exact ⟨j + 1, false, by omega, by go_num, rfl, HF1.out, by first | exact Bj | exact Bj.dr | exact Bj.drn _, by first | exact gj | exact gb_drew gj | exact gb_drewN gj _⟩
            case measure => simp [intOf]; omega
          · have HF1 : Hid (fb = true ↔ ∀ t, t < j + 1 → D.getD t (0, 0) ≠ (a, b)) := ⟨fun e t ht => by
              by_cases e2 : t = j
              · subst e2; exact he
              · exact HF.out.1 e t (by omega), fun e => HF.out.2 (fun t ht => e t (by omega))⟩
            obtain ⟨P, hP⟩ : ∃ y, D.getD j (0, 0) = y := ⟨_, rfl⟩
            rw [hP] at d0 d1 he
            clear HF hP
            obtain ⟨u0, u1⟩ := P
            simp only at d0 d1
            by_cases hac : u0 = a
            · have hbd : (u1 == b) = false := by
                simp
                exact fun e => he (by rw [e, hac])
              rw [hac] at d0
              clear he hac
              go_wp2
              first | go_roundw | (go_quiet (fail); go_wp2; go_roundw)
              case rel => exact ⟨j + 1, fb, by omega, by go_num, rfl, HF1.out, by first | exact Bj | exact Bj.dr | exact Bj.drn _, by first | exact gj | exact gb_drew gj | exact gb_drewN gj _⟩
              case measure => simp [intOf]; omega
            · have hbd : (u0 == a) = false := by simp; exact hac
              clear he hac
              go_wp2
              first | go_roundw | (go_quiet (fail); go_wp2; go_roundw)
              case rel => exact ⟨j + 1, fb, by omega, by go_num, rfl, HF1.out, by first | exact Bj | exact Bj.dr | exact Bj.drn _, by first | exact gj | exact gb_drew gj | exact gb_drewN gj _⟩
              case measure => simp [intOf]; omega
        · have hjn : j = nD := by omega
          subst hjn
          have hjt' : ¬ (j : Int) < (j : Int) := by omega
          have gij := gb_trans gi gj
          have own2 := own.kept gj (Classical.em _)
          cases fb with
          | false =>
            go_wp2
            go_roundw
            case rel => exact ⟨i + 1, j, D, _, by omega, by omega, by go_num, rfl, HDL.out, hnD, own2, HD.out, gij⟩
            case measure => simp [intOf]; omega
          | true =>
            have hnot : (a, b) ∉ D := fun hm => by
              obtain ⟨t, ht, e⟩ := List.getElem_of_mem hm
              have := HF.out.1 rfl t (by rw [← HDL.out]; exact ht)
              rw [List.getD_eq_getElem?_getD, List.getElem?_eq_getElem ht] at this
              exact this e
            have HD1 : Hid (On f n most (D ++ [(a, b)])) := by
              refine ⟨?_, ?_, ?_⟩
              · rw [List.nodup_append]
                refine ⟨HD.out.nd, by simp, fun p hp r hr e => ?_⟩
                have : r = (a, b) := by simpa using hr
                rw [← this, ← e] at hnot
                exact hnot hp
              · rw [List.length_append, HDL.out]; simp; omega
              · intro p hp
                rcases List.mem_append.1 hp with hp | hp
                · exact HD.out.of p hp
                · have : p = (a, b) := by simpa using hp
                  exact ⟨i, hlt, by rw [this, HPf.out]⟩
            have HX : Hid (fl D ++ [.int .i64 a, .int .i64 b] = fl (D ++ [(a, b)])) := (fl_app D [(a, b)]).symm
            have HL1 : Hid ((D ++ [(a, b)]).length = j + 1) := by unfold Hid; rw [List.length_append, HDL.out]; rfl
            obtain ⟨W3, hW3⟩ : ∃ W3, wr.alloc (.cells #[.int .i64 a, .int .i64 b] 42) = W3 := ⟨_, rfl⟩
            have g3 : wr.grownBy W3 none := (by rw [← hW3]; exact World.grownBy_alloc _ _ _)
            have nX : ∀ l u, [Value.int .i64 a, .int .i64 b][l]? = some u → W3.cell? ((⟨wr.heap.size, 0, none⟩ : Addr).add l) = some u := by rw [← hW3]; exact World.news_of_block (heap_alloc_new _ _)
            have own3 := own2.kept g3 (Classical.em _)
            have hb3 : w.heap.size ≤ W3.heap.size := (gb_trans gij g3).size
            have how := fun gg e => own3.lt gg e
            clear own own2 hnot
            go_wp2_with (first | (at_builtin; refine wpList_append_lies _ rfl _ _ 24 rfl w.heap.size 42 i0 (.agg #[.int .i64 0, .int .i64 0]) 2 16 underPS HI.out.1 HI.out.2.1 HI.out.2.2.1 HI.out.2.2.2 rfl (by decide) _ j _ rfl own3 ⟨wr.heap.size, 0, none⟩ 1 1 [.int .i64 a, .int .i64 b] rfl rfl nX (by intro u hu; simp at hu; rcases hu with rfl | rfl <;> rfl) (by decide) (by unfold maxLen; omega) (by omega) hb3 _ rfl ?_; intro g6 c6 w6 own6 gg6 at6 lt6) | go_in)
            go_roundw
            case rel => exact ⟨i + 1, j + 1, D ++ [(a, b)], _, by omega, by omega, by go_num, rfl, HL1.out, by omega, by rw [← HX.out]; exact own6, HD1.out, (gb_trans gij g3).andThen gg6 (fun j hj => .inl (how j hj).1)⟩
            case measure => simp [intOf]; omega
    · have hx : ¬ (i : Int) < (n : Int) ∨ ¬ (nD : Int) < (most : Int) ∨ ¬ (i : Int) < 400 := by omega
      clear hgo
      have hfin : ∃ (v : Value) (D' : List Pt), Value.slice sD nD cD = v ∧ wr.ownsRow w.heap.size 42 2 v D'.length (fl D') ∧ On f n most D' ∧ w.grownBy wr none := ⟨_, D, rfl, by rw [HDL.out]; exact own, HD.out, gi⟩
      have HFN : Hid (∃ (v : Value) (D' : List Pt), Value.slice sD nD cD = v ∧ wr.ownsRow w.heap.size 42 2 v D'.length (fl D') ∧ On f n most D' ∧ w.grownBy wr none) := hfin
      clear hfin own HD HDL gi ID h0D
      by_cases h1 : (i : Int) < (n : Int)
      · by_cases h2 : (nD : Int) < (most : Int)
        · have h3 : ¬ (i : Int) < 400 := by omega
          clear hx
          go_wp2
          go_ret
          obtain ⟨v, D', e, hh⟩ := HFN.out
          subst e; exact ⟨_, rfl, D', hh⟩
        · clear hx
          go_wp2
          go_ret
          obtain ⟨v, D', e, hh⟩ := HFN.out
          subst e; exact ⟨_, rfl, D', hh⟩
      · clear hx
        go_wp2
        go_ret
        obtain ⟨v, D', e, hh⟩ := HFN.out
        subst e; exact ⟨_, rfl, D', hh⟩
set_option maxHeartbeats 4000000 in
theorem cellsC (x y t z : Int) (hx : 1 ≤ x ∧ x ≤ 12) (hy : 1 ≤ y ∧ y ≤ 12) (sp : Option Addr) (n c : Nat) (f : Nat → Pt) (hn : n ≤ 8796093021952) (w : World) (H : Pl w sp n f) :
    Calls Tryz.prog 10 #[.agg #[.int .u8 2, .int .i64 x, .int .i64 y, .int .u8 t, .int .i64 z], .slice sp n c] w fun e w' => ∃ (v : Value) (D : List Pt), e = .returned v ∧ w'.ownsRow w.heap.size 42 2 v D.length (fl D) ∧ D.Nodup ∧ InT x y (To.fi x) (To.fi y) D ∧ D.length ≤ 400 ∧ w.grownBy w' none := by
  obtain ⟨i0, HI⟩ : ∃ i, Hid (Tryz.prog.info? 42 = some i ∧ i.zero = some (.agg #[.int .i64 0, .int .i64 0]) ∧ i.size = 2 ∧ i.bytes = 16) := by
    obtain ⟨i, h1, h2, h3, h4⟩ := info_parts infoK
    exact ⟨i, h1, h2, h3, h4⟩
  obtain ⟨W1, hW1, sz1, g1, B1⟩ := boxn w #[.int .u8 2, .int .i64 x, .int .i64 y, .int .u8 t, .int .i64 z] 27
  have tx : Int.tdiv x 2 = x / 2 := Int.tdiv_eq_ediv_of_nonneg (by omega)
  have ty : Int.tdiv y 2 = y / 2 := Int.tdiv_eq_ediv_of_nonneg (by omega)
  obtain ⟨X, hX⟩ : ∃ X, x / 2 = X := ⟨_, rfl⟩
  obtain ⟨Y, hY⟩ : ∃ Y, y / 2 = Y := ⟨_, rfl⟩
  have HXY : Hid (To.fi x = -X ∧ To.fi y = -Y) := ⟨by rw [← hX]; rfl, by rw [← hY]; rfl⟩
  have hXb : 0 ≤ X ∧ X ≤ 512 := by omega
  have hYb : 0 ≤ Y ∧ Y ≤ 512 := by omega
  rw [hX] at tx
  rw [hY] at ty
  clear hX hY
  have wX : IntKind.i64.wrap X = X := by rw [IntKind.wrap_i64]; omega
  have wY : IntKind.i64.wrap Y = Y := by rw [IntKind.wrap_i64]; omega
  have kx := fun (a : Int) w => upG a x (by omega) (by omega) w
  have ky := fun (a : Int) w => upG a y (by omega) (by omega) w
  go_enter Tryz.func10, Tryz.ntmps10
  go_wp2
  go_loopw [6, 5] (fun u v wr => ∃ (i : Nat) (D : List Pt) (ov : Value), i ≤ n ∧ i ≤ 400 ∧ u = .int .i64 i ∧ v = ov ∧ Hid (D.length = i) ∧ wr.ownsRow W1.heap.size 42 2 ov i (fl D) ∧ Hid (InT x y (-X) (-Y) D) ∧ Bo wr w.heap.size 27 #[.int .u8 2, .int .i64 x, .int .i64 y, .int .u8 t, .int .i64 z] ∧ W1.grownBy wr none) (fun u _ _ => n - (intOf u).toNat)
  case atStart => exact ⟨0, [], _, Nat.zero_le _, by omega, rfl, rfl, rfl, World.ownsRow_nil _ _ _ _, fun p hp => (by cases hp), B1, World.grownBy.refl _ _⟩
  case round =>
    obtain ⟨i, D, ov, hi, hi4, rfl, hov, HDL, own, HD, Bi, gi⟩ := hrel
    subst hov
    have gwi := gb_trans g1 gi
    obtain ⟨sD, cD, rfl, ID, h0D⟩ := own_shape0 own HDL.out
    have b0 := Bi.cell 0 (v := .int .u8 2) rfl; have b1 := Bi.cell 1 (v := .int .i64 x) rfl; have b2 := Bi.cell 2 (v := .int .i64 y) rfl; have b3 := Bi.cell 3 (v := .int .u8 t) rfl; have b4 := Bi.cell 4 (v := .int .i64 z) rfl
    by_cases hgo : i < n ∧ i < 400
    · have hlt := hgo.1
      have hlt' : (i : Int) < (n : Int) := by omega
      have hi4' : (i : Int) < 400 := by omega
      obtain ⟨q, o, rfl, c0, c1⟩ := (H.kept gwi (by simp)) i hlt
      obtain ⟨p0, hp0⟩ : ∃ x, (f i).1 = x := ⟨_, rfl⟩
      obtain ⟨p1, hp1⟩ : ∃ x, (f i).2 = x := ⟨_, rfl⟩
      have HP0 : Hid ((f i).1 = p0) := hp0
      have HP1 : Hid ((f i).2 = p1) := hp1
      rw [hp0] at c0
      rw [hp1] at c1
      clear hp0 hp1 hgo
      have b0' := up_bd p0 x (by omega)
      have b1' := up_bd p1 y (by omega)
      have kx0 := fun w => kx p0 w
      have ky0 := fun w => ky p1 w
      obtain ⟨a, ha⟩ : ∃ k, p0 % x = k := ⟨_, rfl⟩
      obtain ⟨b, hb⟩ : ∃ k, p1 % y = k := ⟨_, rfl⟩
      rw [ha] at kx0 b0'
      rw [hb] at ky0 b1'
      clear ha hb
      have wa : IntKind.i64.wrap (a - X) = a - X := by rw [IntKind.wrap_i64]; omega
      have wb : IntKind.i64.wrap (b - Y) = b - Y := by rw [IntKind.wrap_i64]; omega
      have HD1 : Hid (InT x y (-X) (-Y) (D ++ [(a - X, b - Y)])) := fun p hp => by
        rcases List.mem_append.1 hp with hp | hp
        · exact HD.out p hp
        · have : p = (a - X, b - Y) := by simpa using hp
          rw [this]
          simp only
          omega
      have HX : Hid (fl D ++ [.int .i64 (a - X), .int .i64 (b - Y)] = fl (D ++ [(a - X, b - Y)])) := (fl_app D [(a - X, b - Y)]).symm
      have HL1 : Hid ((D ++ [(a - X, b - Y)]).length = i + 1) := by unfold Hid; rw [List.length_append, HDL.out]; rfl
      have ownd : wr.drew.ownsRow W1.heap.size 42 2 (.slice sD i cD) i (fl D) := own
      have Bd := Bi.dr
      obtain ⟨X2, hX2⟩ : ∃ X2, wr.drew.alloc (.cells #[.int .i64 (a - X), .int .i64 (b - Y)] 42) = X2 := ⟨_, rfl⟩
      have gX2 : wr.drew.grownBy X2 none := (by rw [← hX2]; exact World.grownBy_alloc _ _ _)
      have nX : ∀ l u, [Value.int .i64 (a - X), .int .i64 (b - Y)][l]? = some u → X2.cell? ((⟨wr.drew.heap.size, 0, none⟩ : Addr).add l) = some u := (by rw [← hX2]; exact World.news_of_block (heap_alloc_new _ _))
      have own2 := ownd.kept gX2 (Classical.em _)
      have GX : w.grownBy X2 none := gb_trans (gb_drew gwi) gX2
      have sX : W1.heap.size ≤ X2.heap.size := (gb_trans (gb_drew gi) gX2).size
      have lbk : w.heap.size < W1.heap.size := B1.lt
      have how := fun gg e => own2.lt gg e
      have B2x := Bd.kept gX2 (by simp)
      have z0 := gX2.cell (show wr.drew.cell? ⟨q, o + i * 2, none⟩ = some (.int .i64 p0) from c0) (by simp)
      have z1 := gX2.cell (show wr.drew.cell? ⟨q, o + i * 2 + 1, none⟩ = some (.int .i64 p1) from c1) (by simp)
      have z2 := B2x.cell 1 (v := .int .i64 x) rfl
      have z3 := B2x.cell 2 (v := .int .i64 y) rfl
      have HQ : Hid (∀ w5, w.grownBy w5 none → w5.cell? ⟨q, o + i * 2, none⟩ = some (.int .i64 p0) ∧ w5.cell? ⟨q, o + i * 2 + 1, none⟩ = some (.int .i64 p1)) := fun w5 g5 => by
        obtain ⟨q', o', e', c0', c1'⟩ := (H.kept g5 (by simp)) i hlt
        obtain ⟨rfl, rfl⟩ : q = q' ∧ o = o' := by simpa using e'
        rw [HP0.out] at c0'
        rw [HP1.out] at c1'
        exact ⟨c0', c1'⟩
      clear own ownd Bd HD HDL ID h0D kx ky
      go_wp2
      go_region_held_law (fun w' => w'.cell? ⟨q, o + i * 2, none⟩ = some (.int .i64 p0) ∧ w'.cell? ⟨q, o + i * 2 + 1, none⟩ = some (.int .i64 p1) ∧ w'.cell? ⟨w.heap.size, 1, none⟩ = some (.int .i64 x) ∧ w'.cell? ⟨w.heap.size, 2, none⟩ = some (.int .i64 y)) (go_keep) (first | (go_at_call 12; (fail_if_success (guard_hyp mk0)); refine (kx0 _).mono ?_; rintro e w9 ⟨rfl, h9⟩; subst w9; have mk0 : True := trivial) | (go_at_call 12; guard_hyp mk0; refine (ky0 _).mono ?_; rintro e w9 ⟨rfl, h9⟩; subst w9) | (refine step_append_lies _ rfl (.tmp 17) (.tmp 43) 24 rfl W1.heap.size 42 i0 (.agg #[.int .i64 0, .int .i64 0]) 2 16 underPS HI.out.1 HI.out.2.1 HI.out.2.2.1 HI.out.2.2.2 rfl (by decide) _ i _ rfl own2 ⟨wr.drew.heap.size, 0, none⟩ 1 1 [.int .i64 (a - X), .int .i64 (b - Y)] rfl rfl nX (by intro u hu; simp at hu; rcases hu with rfl | rfl <;> rfl) (by decide) (by unfold maxLen; omega) (by omega) sX _ rfl ?_; intro g6 c6 w5 own6 g5 at6 lt6; have G5 : w.grownBy w5 none := GX.andThen g5 (fun j hj => .inl (by have := (how j hj).1; omega)); obtain ⟨y0, y1⟩ := HQ.out w5 G5; have B5 := B2x.kept g5 (fun e => by have := (how w.heap.size e.symm).1; omega); have y2 := B5.cell 1 (v := .int .i64 x) rfl; have y3 := B5.cell 2 (v := .int .i64 y) rfl))
      go_wp2
      go_roundw
      case rel => exact ⟨i + 1, D ++ [(a - X, b - Y)], _, by omega, by omega, by go_num, rfl, HL1.out, by rw [← HX.out]; exact own6, HD1.out, B5, (gb_trans (gb_drew gi) gX2).andThen g5 (fun j hj => .inl (how j hj).1)⟩
      case measure => simp [intOf]; omega
    · have kO := onceC sD i cD (fun k => D.getD k (0, 0)) (by omega) 400 (by omega) wr ID
      have hfin : ∀ (v : Value) (E : List Pt) (w5 : World), On (fun k => D.getD k (0, 0)) i 400 E → E.Nodup ∧ InT x y (To.fi x) (To.fi y) E ∧ E.length ≤ 400 := fun v E w5 hO => by
        refine ⟨hO.nd, fun p hp => ?_, hO.le⟩
        obtain ⟨j, hj, e⟩ := hO.of p hp
        have hb := HD.out _ (getD_mem D j (by rw [HDL.out]; exact hj))
        have e : p = tm3 (D.getD j (0, 0)) := e
        obtain ⟨P, hP⟩ : ∃ P, D.getD j (0, 0) = P := ⟨_, rfl⟩
        rw [hP] at hb e
        obtain ⟨u0, u1⟩ := P
        have e : p = (Int.tmod u0 1000, Int.tmod u1 1000) := e
        simp only at hb
        have e0 : Int.tmod u0 1000 = u0 := tmod_small (by omega)
        have e1 : Int.tmod u1 1000 = u1 := tmod_small (by omega)
        rw [e, HXY.out.1, HXY.out.2, e0, e1]
        exact hb
      have HFN : Hid (∀ (v : Value) (E : List Pt) (w5 : World), On (fun k => D.getD k (0, 0)) i 400 E → E.Nodup ∧ InT x y (To.fi x) (To.fi y) E ∧ E.length ≤ 400) := hfin
      have hx' : ¬ (i : Int) < (n : Int) ∨ ¬ (i : Int) < 400 := by omega
      clear hfin own HD HDL ID h0D hgo kx ky
      by_cases h1 : (i : Int) < (n : Int)
      · have h3 : ¬ (i : Int) < 400 := by omega
        clear hx'
        go_wp2_with (first | (go_at_call 9; refine kO.mono ?_; rintro e w5 ⟨v, E, rfl, own5, hO, g5⟩; clear kO; have HO := HFN.out v E w5 hO; clear hO) | go_in)
        go_ret
        first | exact ⟨_, rfl, E, own_less own5 gwi.size, HO.1, HO.2.1, HO.2.2, gb_trans gwi g5⟩ | exact ⟨_, E, rfl, own_less own5 gwi.size, HO.1, HO.2.1, HO.2.2, gb_trans gwi g5⟩
      · clear hx'
        go_wp2_with (first | (go_at_call 9; refine kO.mono ?_; rintro e w5 ⟨v, E, rfl, own5, hO, g5⟩; clear kO; have HO := HFN.out v E w5 hO; clear hO) | go_in)
        go_ret
        first | exact ⟨_, rfl, E, own_less own5 gwi.size, HO.1, HO.2.1, HO.2.2, gb_trans gwi g5⟩ | exact ⟨_, E, rfl, own_less own5 gwi.size, HO.1, HO.2.1, HO.2.2, gb_trans gwi g5⟩
end Ln
end Go.Proofs.YthgoillhjajanaaGreat
