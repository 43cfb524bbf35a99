/- has, either, alike. -/
import Derived.Test.YthgoillhjajanaaGreatN75
namespace Go.Proofs.YthgoillhjajanaaGreat
open Go.RowKit
set_option linter.unusedVariables false
set_option linter.unusedSimpArgs false
set_option maxRecDepth 100000

namespace Ln
set_option maxHeartbeats 1000000 in
theorem hasP (s1 : Option Addr) (c1 : Nat) (D : List Pt) (hl : D.length < 1000000000) (a b : Int) (w : World) (H1 : Pl w s1 D.length (fun k => D.getD k (0, 0))) :
    Calls Tryz.prog 28 #[.slice s1 D.length c1, .agg #[.int .i64 a, .int .i64 b]] w fun e w' => e = .returned (.bool (decide ((a, b) ∈ D))) ∧ w.grownBy w' none := by
  obtain ⟨W1, hW1, sz1, g1, B1⟩ := boxn w #[.int .i64 a, .int .i64 b] 42
  obtain ⟨n, hn⟩ : ∃ n, D.length = n := ⟨_, rfl⟩
  have HN : Hid (D.length = n) := hn
  rw [hn] at H1 hl ⊢
  clear hn
  obtain ⟨r, hr⟩ : ∃ r, decide ((a, b) ∈ D) = r := ⟨_, rfl⟩
  have HR : Hid (decide ((a, b) ∈ D) = r) := hr
  rw [hr]
  clear hr
  go_enter Tryz.func28, Tryz.ntmps28
  go_wp2
  go_loopw [5] (fun u wr => ∃ i : Nat, i ≤ n ∧ u = .int .i64 i ∧ Hid (∀ t, t < i → D.getD t (0, 0) ≠ (a, b)) ∧ W1.grownBy wr none) (fun u _ => n - (intOf u).toNat)
  case atStart => exact ⟨0, Nat.zero_le _, rfl, fun t ht => by omega, World.grownBy.refl _ _⟩
  case round =>
    obtain ⟨i, hi, rfl, HF, gi⟩ := hrel
    have Bi := B1.kept gi (by simp)
    have p0 := Bi.cell 0 (v := .int .i64 a) rfl
    have p1 := Bi.cell 1 (v := .int .i64 b) rfl
    have gw := gb_trans g1 gi
    by_cases hlt : i < n
    · have hlt' : (i : Int) < (n : Int) := by omega
      obtain ⟨q, o, rfl, d0, d1⟩ := (H1.kept gw (by simp)) i hlt
      simp only at d0 d1
      by_cases he : D.getD i (0, 0) = (a, b)
      · have hv : decide ((a, b) ∈ D) = true := decide_eq_true (by rw [← he]; exact getD_mem D i (by rw [HN.out]; exact hlt))
        have hrv : r = true := HR.out.symm.trans hv
        subst hrv
        rw [he] at d0 d1
        simp only at d0 d1
        clear HF he hv HR
        go_wp2
        first | go_ret | (go_quiet (fail); go_wp2; go_ret)
        exact ⟨rfl, by first | exact gw | exact gb_drew gw | exact gb_drewN gw _⟩
      · have HF1 : Hid (∀ t, t < i + 1 → D.getD t (0, 0) ≠ (a, b)) := fun t ht => by
          by_cases e2 : t = i
          · subst e2; exact he
          · exact HF.out t (by omega)
        obtain ⟨P, hP⟩ : ∃ y, D.getD i (0, 0) = y := ⟨_, rfl⟩
        rw [hP] at d0 d1 he
        clear HF hP
        obtain ⟨u0, u1⟩ := P
        simp only at d0 d1
        by_cases hac : u0 = a
        · have hbd : (u1 == b) = false := by
            simp
            exact fun e => he (by rw [e, hac])
          rw [hac] at d0
          clear he hac
          go_wp2
          first | go_roundw | (go_quiet (fail); go_wp2; go_roundw)
          case rel => exact ⟨i + 1, by omega, by go_num, HF1.out, by first | exact gi | exact gb_drew gi | exact gb_drewN gi _⟩
          case measure => simp [intOf]; omega
        · have hbd : (u0 == a) = false := by simp; exact hac
          clear he hac
          go_wp2
          first | go_roundw | (go_quiet (fail); go_wp2; go_roundw)
          case rel => exact ⟨i + 1, by omega, by go_num, HF1.out, by first | exact gi | exact gb_drew gi | exact gb_drewN gi _⟩
          case measure => simp [intOf]; omega
    · have hin : i = n := by omega
      have hlt' : ¬ (i : Int) < (n : Int) := by omega
      have hv : decide ((a, b) ∈ D) = false := decide_eq_false (fun hm => by
        obtain ⟨t, ht, e⟩ := List.getElem_of_mem hm
        have := HF.out t (by rw [hin, ← HN.out]; exact ht)
        rw [List.getD_eq_getElem?_getD, List.getElem?_eq_getElem ht] at this
        exact this e)
      have hrv : r = false := HR.out.symm.trans hv
      subst hrv
      clear hin hv HF HR
      go_wp2
      go_ret
      exact ⟨rfl, gw⟩
/-- Those of a list that another lacks. -/
def lackL (A B : List Pt) : List Pt := A.filter (fun p => !decide (p ∈ B))
theorem lack_snoc (A B : List Pt) (p : Pt) : lackL (A ++ [p]) B = lackL A B ++ (if p ∈ B then [] else [p]) := by
  unfold lackL
  rw [List.filter_append]
  by_cases h : p ∈ B
  · rw [if_pos h]; simp [h]
  · rw [if_neg h]; simp [h]
theorem lack_len (A B : List Pt) : (lackL A B).length ≤ A.length := List.length_filter_le _ _
set_option maxHeartbeats 2000000 in
theorem eitherP (s1 : Option Addr) (c1 : Nat) (Da : List Pt) (h1 : Da.length < 100000000) (s2 : Option Addr) (c2 : Nat) (Db : List Pt) (h2 : Db.length < 100000000) (w : World) (H1 : Pl w s1 Da.length (fun k => Da.getD k (0, 0))) (H2 : Pl w s2 Db.length (fun k => Db.getD k (0, 0))) :
    Calls Tryz.prog 15 #[.slice s1 Da.length c1, .slice s2 Db.length c2] w fun e w' => ∃ v, e = .returned v ∧ w'.ownsRow w.heap.size 42 2 v (lackL Da Db ++ lackL Db Da).length (fl (lackL Da Db ++ lackL Db Da)) ∧ w.grownBy w' none := by
  obtain ⟨i0, HI⟩ : ∃ i, Hid (Tryz.prog.info? 42 = some i ∧ i.zero = some (.agg #[.int .i64 0, .int .i64 0]) ∧ i.size = 2 ∧ i.bytes = 16) := by
    obtain ⟨i, h1, h2, h3, h4⟩ := info_parts infoK
    exact ⟨i, h1, h2, h3, h4⟩
  obtain ⟨E, hE⟩ : ∃ E, lackL Da Db ++ lackL Db Da = E := ⟨_, rfl⟩
  have HE0 : Hid (lackL Da Db ++ lackL Db Da = E) := hE
  rw [hE]
  clear hE
  go_enter Tryz.func15, Tryz.ntmps15
  go_wp2
  go_loopw [6, 5] (fun u v wr => ∃ (i nO : Nat) (ov : Value), i ≤ Da.length ∧ u = .int .i64 i ∧ v = ov ∧ Hid ((lackL (Da.take i) Db).length = nO) ∧ nO ≤ i ∧ wr.ownsRow w.heap.size 42 2 ov nO (fl (lackL (Da.take i) Db)) ∧ w.grownBy wr none) (fun u _ _ => Da.length - (intOf u).toNat)
  case atStart => exact ⟨0, 0, _, Nat.zero_le _, rfl, rfl, rfl, by omega, World.ownsRow_nil _ _ _ _, World.grownBy.refl _ _⟩
  case round =>
    obtain ⟨i, nO, ov, hi, rfl, hov, HOL, hnO, own, gi⟩ := hrel
    subst hov
    by_cases hlt : i < Da.length
    · have hlt' : (i : Int) < (Da.length : Int) := by omega
      have HTK : Hid (Da.take (i + 1) = Da.take i ++ [Da.getD i (0, 0)]) := take_getD' Da i hlt
      obtain ⟨q, o, rfl, d0, d1⟩ := (H1.kept gi (by simp)) i hlt
      simp only at d0 d1
      obtain ⟨P, hP⟩ : ∃ y, Da.getD i (0, 0) = y := ⟨_, rfl⟩
      rw [hP] at d0 d1 HTK
      clear hP
      obtain ⟨a, b⟩ := P
      simp only at d0 d1
      have kH := hasP s2 c2 Db (by omega) a b wr (H2.kept gi (by simp))
      have hcell : ∀ w5, wr.grownBy w5 none → w5.cell? ⟨q, o + i * 2, none⟩ = some (.int .i64 a) ∧ w5.cell? ⟨q, o + i * 2 + 1, none⟩ = some (.int .i64 b) := fun w5 g5 => ⟨g5.cell d0 (by simp), g5.cell d1 (by simp)⟩
      obtain ⟨sO, cO, rfl, PO, zO⟩ := own_shape0 own HOL.out
      clear PO zO
      by_cases hin : (a, b) ∈ Db
      · rw [decide_eq_true hin] at kH
        have HE : Hid (lackL (Da.take (i + 1)) Db = lackL (Da.take i) Db) := by unfold Hid; rw [HTK.out, lack_snoc, if_pos hin, List.append_nil]
        clear hin
        go_wp2_with (first | (go_at_call 28; refine kH.mono ?_; rintro e w3 ⟨rfl, g3⟩; clear kH) | go_in)
        go_roundw
        case rel => exact ⟨i + 1, nO, _, by omega, by go_num, rfl, by rw [HE.out]; exact HOL.out, by omega, by rw [HE.out]; exact own.kept g3 (Classical.em _), gb_trans gi g3⟩
        case measure => simp [intOf]; omega
      · rw [decide_eq_false hin] at kH
        have HE : Hid (lackL (Da.take (i + 1)) Db = (lackL (Da.take i) Db) ++ [(a, b)]) := by unfold Hid; rw [HTK.out, lack_snoc, if_neg hin]
        have HX : Hid (fl (lackL (Da.take i) Db) ++ [.int .i64 a, .int .i64 b] = fl ((lackL (Da.take i) Db) ++ [(a, b)])) := (fl_app _ [(a, b)]).symm
        obtain ⟨OL, hOL⟩ : ∃ OL, lackL (Da.take i) Db = OL := ⟨_, rfl⟩
        rw [hOL] at HE HX HOL own
        clear hin hOL
        go_wp2_with (first | (go_at_call 28; refine kH.mono ?_; rintro e w3 ⟨rfl, g3⟩; clear kH; obtain ⟨y0, y1⟩ := hcell w3 g3; clear hcell; obtain ⟨W3, hW3⟩ : ∃ W3, w3.alloc (.cells #[.int .i64 a, .int .i64 b] 42) = W3 := ⟨_, rfl⟩; have g4 : w3.grownBy W3 none := (by rw [← hW3]; exact World.grownBy_alloc _ _ _); have nX : ∀ l u, [Value.int .i64 a, .int .i64 b][l]? = some u → W3.cell? ((⟨w3.heap.size, 0, none⟩ : Addr).add l) = some u := (by rw [← hW3]; exact World.news_of_block (heap_alloc_new _ _)); have own3 := (own.kept g3 (Classical.em _)).kept g4 (Classical.em _); have hb3 : w.heap.size ≤ W3.heap.size := (gb_trans gi (gb_trans g3 g4)).size; have how := fun gg e => own3.lt gg e) | (at_builtin; refine wpList_append_lies _ rfl _ _ 24 rfl w.heap.size 42 i0 (.agg #[.int .i64 0, .int .i64 0]) 2 16 underPS HI.out.1 HI.out.2.1 HI.out.2.2.1 HI.out.2.2.2 rfl (by decide) _ nO _ rfl own3 ⟨w3.heap.size, 0, none⟩ 1 1 [.int .i64 a, .int .i64 b] rfl rfl nX (by intro u hu; simp at hu; rcases hu with rfl | rfl <;> rfl) (by decide) (by unfold maxLen; omega) (by omega) hb3 _ rfl ?_; intro g6 c6 w6 own6 gg6 at6 lt6) | go_in)
        go_roundw
        case rel => exact ⟨i + 1, nO + 1, _, by omega, by go_num, rfl, by unfold Hid; rw [HE.out, List.length_append, HOL.out]; rfl, by omega, by rw [HE.out, ← HX.out]; exact own6, (gb_trans gi (gb_trans g3 g4)).andThen gg6 (fun j hj => .inl (how j hj).1)⟩
        case measure => simp [intOf]; omega
    · have hie : i = Da.length := by omega
      subst hie
      have hlt' : ¬ (Da.length : Int) < (Da.length : Int) := by omega
      rw [List.take_length] at HOL own
      obtain ⟨sO0, cO0, rfl, PO0, zO0⟩ := own_shape0 own HOL.out
      clear PO0 zO0
      obtain ⟨wo, hwo⟩ : ∃ W, W = wr := ⟨_, rfl⟩
      subst hwo
      go_wp2
      go_loopw [8, 5] (fun u v wr => ∃ (i nO : Nat) (ov : Value), i ≤ Db.length ∧ u = .int .i64 i ∧ v = ov ∧ Hid ((lackL Da Db ++ lackL (Db.take i) Da).length = nO) ∧ nO ≤ Da.length + i ∧ wr.ownsRow w.heap.size 42 2 ov nO (fl (lackL Da Db ++ lackL (Db.take i) Da)) ∧ w.grownBy wr none) (fun u _ _ => Db.length - (intOf u).toNat)
      case atStart => exact ⟨0, nO, _, Nat.zero_le _, rfl, rfl, by unfold Hid; simpa [lackL] using HOL.out, by omega, by simpa [lackL] using own, gi⟩
      case round =>
        obtain ⟨i, nO, ov, hi, rfl, hov, HOL, hnO, own, gi⟩ := hrel
        subst hov
        by_cases hlt : i < Db.length
        · have hlt' : (i : Int) < (Db.length : Int) := by omega
          have HTK : Hid (Db.take (i + 1) = Db.take i ++ [Db.getD i (0, 0)]) := take_getD' Db i hlt
          obtain ⟨q, o, rfl, d0, d1⟩ := (H2.kept gi (by simp)) i hlt
          simp only at d0 d1
          obtain ⟨P, hP⟩ : ∃ y, Db.getD i (0, 0) = y := ⟨_, rfl⟩
          rw [hP] at d0 d1 HTK
          clear hP
          obtain ⟨a, b⟩ := P
          simp only at d0 d1
          have kH := hasP s1 c1 Da (by omega) a b wr (H1.kept gi (by simp))
          have hcell : ∀ w5, wr.grownBy w5 none → w5.cell? ⟨q, o + i * 2, none⟩ = some (.int .i64 a) ∧ w5.cell? ⟨q, o + i * 2 + 1, none⟩ = some (.int .i64 b) := fun w5 g5 => ⟨g5.cell d0 (by simp), g5.cell d1 (by simp)⟩
          obtain ⟨sO, cO, rfl, PO, zO⟩ := own_shape0 own HOL.out
          clear PO zO
          by_cases hin : (a, b) ∈ Da
          · rw [decide_eq_true hin] at kH
            have HE : Hid (lackL Da Db ++ lackL (Db.take (i + 1)) Da = lackL Da Db ++ lackL (Db.take i) Da) := by unfold Hid; rw [HTK.out, lack_snoc, if_pos hin, List.append_nil]
            clear hin
            go_wp2_with (first | (go_at_call 28; refine kH.mono ?_; rintro e w3 ⟨rfl, g3⟩; clear kH) | go_in)
            go_roundw
            case rel => exact ⟨i + 1, nO, _, by omega, by go_num, rfl, by rw [HE.out]; exact HOL.out, by omega, by rw [HE.out]; exact own.kept g3 (Classical.em _), gb_trans gi g3⟩
            case measure => simp [intOf]; omega
          · rw [decide_eq_false hin] at kH
            have HE : Hid (lackL Da Db ++ lackL (Db.take (i + 1)) Da = (lackL Da Db ++ lackL (Db.take i) Da) ++ [(a, b)]) := by unfold Hid; rw [HTK.out, lack_snoc, if_neg hin]; rw [List.append_assoc]
            have HX : Hid (fl (lackL Da Db ++ lackL (Db.take i) Da) ++ [.int .i64 a, .int .i64 b] = fl ((lackL Da Db ++ lackL (Db.take i) Da) ++ [(a, b)])) := (fl_app _ [(a, b)]).symm
            obtain ⟨OL, hOL⟩ : ∃ OL, lackL Da Db ++ lackL (Db.take i) Da = OL := ⟨_, rfl⟩
            rw [hOL] at HE HX HOL own
            clear hin hOL
            go_wp2_with (first | (go_at_call 28; refine kH.mono ?_; rintro e w3 ⟨rfl, g3⟩; clear kH; obtain ⟨y0, y1⟩ := hcell w3 g3; clear hcell; obtain ⟨W3, hW3⟩ : ∃ W3, w3.alloc (.cells #[.int .i64 a, .int .i64 b] 42) = W3 := ⟨_, rfl⟩; have g4 : w3.grownBy W3 none := (by rw [← hW3]; exact World.grownBy_alloc _ _ _); have nX : ∀ l u, [Value.int .i64 a, .int .i64 b][l]? = some u → W3.cell? ((⟨w3.heap.size, 0, none⟩ : Addr).add l) = some u := (by rw [← hW3]; exact World.news_of_block (heap_alloc_new _ _)); have own3 := (own.kept g3 (Classical.em _)).kept g4 (Classical.em _); have hb3 : w.heap.size ≤ W3.heap.size := (gb_trans gi (gb_trans g3 g4)).size; have how := fun gg e => own3.lt gg e) | (at_builtin; refine wpList_append_lies _ rfl _ _ 24 rfl w.heap.size 42 i0 (.agg #[.int .i64 0, .int .i64 0]) 2 16 underPS HI.out.1 HI.out.2.1 HI.out.2.2.1 HI.out.2.2.2 rfl (by decide) _ nO _ rfl own3 ⟨w3.heap.size, 0, none⟩ 1 1 [.int .i64 a, .int .i64 b] rfl rfl nX (by intro u hu; simp at hu; rcases hu with rfl | rfl <;> rfl) (by decide) (by unfold maxLen; omega) (by omega) hb3 _ rfl ?_; intro g6 c6 w6 own6 gg6 at6 lt6) | go_in)
            go_roundw
            case rel => exact ⟨i + 1, nO + 1, _, by omega, by go_num, rfl, by unfold Hid; rw [HE.out, List.length_append, HOL.out]; rfl, by omega, by rw [HE.out, ← HX.out]; exact own6, (gb_trans gi (gb_trans g3 g4)).andThen gg6 (fun j hj => .inl (how j hj).1)⟩
            case measure => simp [intOf]; omega
        · have hie : i = Db.length := by omega
          subst hie
          have hlt' : ¬ (Db.length : Int) < (Db.length : Int) := by omega
          rw [List.take_length] at HOL own
          obtain ⟨sO, cO, rfl, PO, zO⟩ := own_shape0 own HOL.out
          have HF : Hid (∃ v, Value.slice sO nO cO = v ∧ wr.ownsRow w.heap.size 42 2 v E.length (fl E) ∧ w.grownBy wr none) := ⟨_, rfl, by rw [← HE0.out, HOL.out]; exact own, gi⟩
          clear PO zO own HOL
          go_wp2
          go_ret
          obtain ⟨v, e, hh⟩ := HF.out
          subst e
          exact ⟨_, rfl, hh⟩
set_option maxHeartbeats 1000000 in
theorem alikeP (s1 : Option Addr) (c1 : Nat) (X : List Pt) (h1 : X.length < 100000000) (s2 : Option Addr) (c2 : Nat) (Y : List Pt) (hp : X.Perm Y) (w : World) (H1 : Pl w s1 X.length (fun k => X.getD k (0, 0))) (H2 : Pl w s2 Y.length (fun k => Y.getD k (0, 0))) :
    Calls Tryz.prog 16 #[.slice s1 X.length c1, .slice s2 Y.length c2] w fun e w' => e = .returned (.bool true) ∧ w.grownBy w' none := by
  have hl := hp.length_eq
  obtain ⟨n, hn⟩ : ∃ n, X.length = n := ⟨_, rfl⟩
  have HN : Hid (X.length = n ∧ Y.length = n) := ⟨hn, by omega⟩
  have kH := fun a b w1 (g1 : w.grownBy w1 none) => hasP s2 c2 Y (by omega) a b w1 (H2.kept g1 (by simp))
  rw [← hl, hn] at kH
  rw [← hl, hn]
  rw [hn] at H1 h1
  clear hl hn H2
  have hbn : ((n : Int) != (n : Int)) = false := by simp
  go_enter Tryz.func16, Tryz.ntmps16
  go_wp2
  go_loopw [5] (fun u wr => ∃ i : Nat, i ≤ n ∧ u = .int .i64 i ∧ w.grownBy wr none) (fun u _ => n - (intOf u).toNat)
  case atStart => exact ⟨0, Nat.zero_le _, rfl, World.grownBy.refl _ _⟩
  case round =>
    obtain ⟨i, hi, rfl, gi⟩ := hrel
    by_cases hlt : i < n
    · have hlt' : (i : Int) < (n : Int) := by omega
      obtain ⟨q, o, rfl, d0, d1⟩ := (H1.kept gi (by simp)) i hlt
      simp only at d0 d1
      have hm : X.getD i (0, 0) ∈ Y := hp.mem_iff.1 (getD_mem X i (by rw [HN.out.1]; exact hlt))
      obtain ⟨P, hP⟩ : ∃ y, X.getD i (0, 0) = y := ⟨_, rfl⟩
      rw [hP] at d0 d1 hm
      clear hP
      obtain ⟨a, b⟩ := P
      simp only at d0 d1
      have kH1 := kH a b wr gi
      rw [decide_eq_true hm] at kH1
      clear hm kH
      go_wp2_with (first | (go_at_call 28; refine kH1.mono ?_; rintro e w3 ⟨rfl, g3⟩; clear kH1) | go_in)
      go_roundw
      case rel => exact ⟨i + 1, by omega, by go_num, gb_trans gi g3⟩
      case measure => simp [intOf]; omega
    · have hlt' : ¬ (i : Int) < (n : Int) := by omega
      go_wp2
      go_ret
      exact ⟨rfl, gi⟩
theorem lack_mem {A B : List Pt} {p : Pt} : p ∈ lackL A B ↔ p ∈ A ∧ p ∉ B := by
  unfold lackL
  rw [List.mem_filter]
  simp
theorem ei_nodup {A B : List Pt} (hA : A.Nodup) (hB : B.Nodup) : (lackL A B ++ lackL B A).Nodup := by
  rw [List.nodup_append]
  refine ⟨hA.filter _, hB.filter _, fun a ha b hb e => ?_⟩
  subst e
  exact (lack_mem.1 ha).2 (lack_mem.1 hb).1
theorem ei_plane {A B : List Pt} (hA : A.Nodup) (hB : B.Nodup) : Eqv id (lackL A B ++ lackL B A) (A ++ B) := fun q => by
  rw [cnt2_fix (C := id) (ei_nodup hA hB) (fun _ _ => rfl), cnt2_append, cnt2_fix (C := id) hA (fun _ _ => rfl), cnt2_fix (C := id) hB (fun _ _ => rfl)]
  by_cases h1 : q ∈ A <;> by_cases h2 : q ∈ B
  · rw [decide_eq_true h1, decide_eq_true h2, decide_eq_false (fun h => by
      rcases List.mem_append.1 h with h | h
      · exact (lack_mem.1 h).2 h2
      · exact (lack_mem.1 h).2 h1)]; rfl
  · rw [decide_eq_true h1, decide_eq_false h2, decide_eq_true (List.mem_append.2 (.inl (lack_mem.2 ⟨h1, h2⟩)))]; rfl
  · rw [decide_eq_false h1, decide_eq_true h2, decide_eq_true (List.mem_append.2 (.inr (lack_mem.2 ⟨h2, h1⟩)))]; rfl
  · rw [decide_eq_false h1, decide_eq_false h2, decide_eq_false (fun h => by
      rcases List.mem_append.1 h with h | h
      · exact h1 (lack_mem.1 h).1
      · exact h2 (lack_mem.1 h).1)]; rfl
theorem ei_eqv (C : Pt → Pt) {A B : List Pt} (hA : A.Nodup) (hB : B.Nodup) : Eqv C (lackL A B ++ lackL B A) (A ++ B) := by
  have := eqv_plane (ei_plane hA hB) id C
  rw [List.map_id, List.map_id] at this
  exact this
theorem ei_in {x y X Y : Int} {A B : List Pt} (hA : InT x y X Y A) (hB : InT x y X Y B) : InT x y X Y (lackL A B ++ lackL B A) := fun p hp => by
  rcases List.mem_append.1 hp with h | h
  · exact hA p (lack_mem.1 h).1
  · exact hB p (lack_mem.1 h).1
theorem app_eqv {C : Pt → Pt} {A A' B B' : List Pt} (h : Eqv C A A') (h' : Eqv C B B') : Eqv C (A ++ B) (A' ++ B') := fun q => by rw [cnt2_append, cnt2_append, h q, h' q]
/-- What two patterns make together. -/
theorem sums_perm {x y t z : Int} (T : Ts x y t z) {P a b X Y Z : List Pt} (ha : a.Nodup) (hb : b.Nodup) (hX : Rs x y t z X (mulL P a)) (hY : Rs x y t z Y (mulL P b)) (hZ : Rs x y t z Z (mulL P (lackL a b ++ lackL b a))) : Z.Perm (lackL X Y ++ lackL Y X) := by
  have hG := gc_CE x y t z T.hx.1 T.hy.1
  refine eqv_perm (C := CE x y t z) hZ.nd (ei_nodup hX.nd hY.nd) (fun p hp => CE_fix (hZ.inn p hp).1 (hZ.inn p hp).2) (fun p hp => CE_fix (ei_in hX.inn hY.inn p hp).1 (ei_in hX.inn hY.inn p hp).2) ?_
  have e1 := hZ.eqv.trans (mulL_right hG P (ei_eqv (CE x y t z) ha hb))
  have e2 : Eqv (CE x y t z) (mulL P (a ++ b)) (mulL P a ++ mulL P b) := fun q => by rw [mulL_add, cnt2_append]
  have e3 := app_eqv hX.eqv.symm hY.eqv.symm
  exact ((e1.trans e2).trans e3).trans (ei_eqv (CE x y t z) hX.nd hY.nd).symm
end Ln
end Go.Proofs.YthgoillhjajanaaGreat
