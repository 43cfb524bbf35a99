/- Jump, Next, Times of lists, as sums. -/
import Derived.Test.YtbmpiddjakdebaaGreatNk
import Derived.Test.YtbmpiddjakdebaaGreatNp
namespace Go.Proofs.YtbmpiddjakdebaaGreat
open Go.RowKit
set_option linter.unusedVariables false
set_option linter.unusedSimpArgs false
set_option maxRecDepth 100000

namespace Ln
theorem lpL_50 (g : Nat) (hg : g ≤ 1125899906842624) (a b c d e : Int) (ms : List Pt) : (lpL a b c d e ms g).length ≤ 64 := Nat.le_trans (lpL_short a b c d e 51 g ms (by omega)) (by decide)
theorem twN {f : Nat → Pt} {n : Nat} : tw f n = false ↔ ∀ i j, i < j → j < n → f i ≠ f j := by
  have h1 := adL_len f n
  have h2 := adL_full f n
  unfold tw
  constructor
  · intro h
    have := of_decide_eq_false h
    exact h2.1 (by omega)
  · intro h
    have := h2.2 h
    exact decide_eq_false (by omega)
theorem psL_nodup {f : Nat → Pt} : ∀ {n : Nat}, (∀ i j, i < j → j < n → f i ≠ f j) → (psL f n).Nodup
  | 0, _ => List.nodup_nil
  | n + 1, h => by
    rw [psL_succ', List.nodup_append]
    refine ⟨psL_nodup (fun i j hij hj => h i j hij (by omega)), by simp, fun a ha b hb e => ?_⟩
    have hb : b = f n := by simpa using hb
    subst hb
    unfold psL at ha
    obtain ⟨i, hi, e2⟩ := List.mem_map.1 ha
    exact h i n (List.mem_range.1 hi) (by omega) (e2.trans e)
theorem getD_ne {D : List Pt} (h : D.Nodup) : ∀ i j, i < j → j < D.length → D.getD i (0, 0) ≠ D.getD j (0, 0) := fun i j hij hj e => by
  have hi : i < D.length := by omega
  rw [List.getD_eq_getElem?_getD, List.getD_eq_getElem?_getD, List.getElem?_eq_getElem hi, List.getElem?_eq_getElem hj] at e
  have := (List.nodup_iff_pairwise_ne.1 h)
  exact (List.pairwise_iff_getElem.1 this i j hi hj hij) e
theorem nodup_swp {D : List Pt} (h : D.Nodup) : (D.map swp).Nodup := by
  have hh := List.nodup_iff_pairwise_ne.1 h
  refine List.nodup_iff_pairwise_ne.2 ((List.pairwise_map).2 (hh.imp (fun {a b} e e2 => e ?_)))
  have : swp (swp a) = swp (swp b) := by rw [e2]
  exact this
theorem neg_swp (D : List Pt) : (D.map swp).map neg = (D.map neg).map swp := by
  rw [List.map_map, List.map_map]
  rfl
set_option maxHeartbeats 1000000 in
/-- Jump, whatever way the torus lies. -/
theorem jumpG (k x y t z : Int) (ht : 0 ≤ t) (s1 : Option Addr) (n c1 : Nat) (f : Nat → Pt) (hf : ∀ k, k < n → PtOk (f k)) (hn : n < 1073741824) (h01 : s1 = none → n = 0 ∧ c1 = 0) (s2 : Option Addr) (m c2 : Nat) (h : Nat → Pt) (hh : ∀ k, k < m → PtOk (h k)) (hm : m < 1000000000) (h02 : s2 = none → m = 0 ∧ c2 = 0) (g : Nat) (hg : g ≤ 1125899906842624) (hgl : ∀ a b c d e ms, (lpL a b c d e ms g).length ≤ 64) (w : World) (H1 : Pl w s1 n f) (H2 : Pl w s2 m h) (hE : jpE k x y t z f n h m g = 0) :
    Calls Tryz.prog 14 #[.agg #[.int .u8 k, .int .i64 x, .int .i64 y, .int .u8 t, .int .i64 z], .slice s1 n c1, .slice s2 m c2, .int .i64 g] w fun e w' => ∃ (v : Value) (nx : List Pt), e = .returned (.tuple #[v, .int .i64 0]) ∧ w'.ownsRow w.heap.size 40 2 v nx.length (fl (srt nx)) ∧ nx.Nodup ∧ InT x y (To.fi x) (To.fi y) nx ∧ Eqv (CE x y t z) nx (mulL (pwL ((psL f n).map neg) g) (psL h m)) ∧ w.grownBy w' none := by
  obtain ⟨hc, hk, hx, hy, hO, hL, hG, hxy⟩ := jpE_zero hE
  obtain ⟨htw, hin⟩ := ceL_zero hx.1 hy.1 hL
  obtain ⟨hn64, haw, htw1⟩ := ckO_zero hO
  have hfb : ∀ j, j < n → (-1099511627776 ≤ (f j).1 ∧ (f j).1 ≤ 1099511627776) ∧ (-1099511627776 ≤ (f j).2 ∧ (f j).2 ≤ 1099511627776) := fun j hj => by
    have := (alW_is _ f n).1 haw j hj
    rw [inW_is, inW_is] at this
    exact this
  have hnd : (psL h m).Nodup := psL_nodup (twN.1 htw)
  have hI : InT x y (To.fi x) (To.fi y) (psL h m) := fun p hp => by
    unfold psL at hp
    obtain ⟨j, hj, rfl⟩ := List.mem_map.1 hp
    exact hin j (List.mem_range.1 hj)
  have ok := Tp.ok_of hc
  have ht2 := ok.turn
  by_cases ha : t = 2 ∨ (t = 0 ∧ x < y)
  · refine (jumpYA k x y t z ht ha s1 n c1 f hf hn h01 s2 m c2 h hh hm h02 g hg (hgl _ _ _ _ _ _) w H1 H2 hE).mono ?_
    rintro e w' ⟨v, L, nx, he, own, hP, hr, hw⟩
    have ha2 : To.acT t = 0 ∨ To.acT t = 1 := by
      unfold To.acT
      rcases ha with rfl | ⟨rfl, _⟩
      · exact .inr rfl
      · exact .inl rfl
    have h1 : To1 k y x (To.acT t) z := ⟨(chk_ac ht hc).1, hk, ha2, hy.1, hx.1⟩
    rw [psL_comp] at hr
    obtain ⟨a1, a2, a3⟩ := jump_eqv h1 ⟨hy.2, hx.2⟩ (f := fun j => swp (f j)) (fun j hj => by have := hfb j hj; unfold swp; simp only; omega) hP (nodup_swp hnd) (fun p hp => by
      obtain ⟨q, hq, rfl⟩ := List.mem_map.1 hp
      exact ⟨(hI q hq).2, (hI q hq).1⟩) hr
    refine ⟨v, nx.map swp, he, by rw [List.length_map]; exact own, nodup_swp a1, fun p hp => ?_, ?_, hw⟩
    · obtain ⟨q, hq, rfl⟩ := List.mem_map.1 hp
      exact ⟨(a2 q hq).2, (a2 q hq).1⟩
    · unfold CE
      rw [if_pos ha]
      refine eqv_swp ?_
      rw [map_swp_swp, mul_swp, pw_swp, ← neg_swp, ← psL_comp]
      exact a3
  · have ha1 : t ≠ 2 := fun e => ha (.inl e)
    have ha2 : t = 0 → y ≤ x := fun e => by
      by_cases hxy : x < y
      · exact absurd (.inr ⟨e, hxy⟩) ha
      · omega
    refine (jumpY k x y t z ht ha1 ha2 s1 n c1 f hf hn h01 s2 m c2 h hh hm h02 g hg (hgl _ _ _ _ _ _) w H1 H2 hE).mono ?_
    rintro e w' ⟨v, L, nx, he, own, hP, hr, hw⟩
    have h1 : To1 k x y t z := ⟨hc, hk, by omega, hx.1, hy.1⟩
    obtain ⟨a1, a2, a3⟩ := jump_eqv h1 ⟨hx.2, hy.2⟩ (f := f) hfb hP hnd hI hr
    refine ⟨v, nx, he, own, a1, a2, ?_, hw⟩
    unfold CE
    rw [if_neg ha]
    exact a3
theorem ckO_mk {f : Nat → Pt} {n : Nat} (h1 : n ≤ 64) (h2 : ∀ j, j < n → (-1099511627776 ≤ (f j).1 ∧ (f j).1 ≤ 1099511627776) ∧ (-1099511627776 ≤ (f j).2 ∧ (f j).2 ≤ 1099511627776)) (h3 : tw f n = false) : ckO f n 1099511627776 = 0 := by
  unfold ckO
  rw [if_neg (by omega), if_neg (by
    rw [(alW_is _ f n).2 (fun k hk => by rw [inW_is, inW_is]; exact h2 k hk)]
    simp), h3]
  rfl
theorem alH_mk {k x y t z : Int} {f : Nat → Pt} : ∀ {n : Nat}, (∀ j, j < n → To.hasV k x y t z (f j).1 (f j).2 = true) → alH k x y t z f n = true
  | 0, _ => rfl
  | n + 1, h => by
    show (alH k x y t z f n && To.hasV k x y t z (f n).1 (f n).2) = true
    rw [alH_mk (fun j hj => h j (by omega)), h n (by omega)]
    rfl
theorem jpE_mk {x y t z : Int} {f : Nat → Pt} {n : Nat} {h : Nat → Pt} {m : Nat} {g : Int} (hc : Tp.chk 2 x y t z = 0) (hx : 1 ≤ x ∧ x ≤ 1024) (hy : 1 ≤ y ∧ y ≤ 1024) (hO : ckO f n 1099511627776 = 0) (hin : ∀ j, j < m → (To.fi x ≤ (h j).1 ∧ (h j).1 < To.fi x + x) ∧ (To.fi y ≤ (h j).2 ∧ (h j).2 < To.fi y + y)) (htw : tw h m = false) (hg : 0 ≤ g ∧ g ≤ 1125899906842624) : jpE 2 x y t z f n h m g = 0 := by
  have ex : To.fi x = -(x / 2) := rfl
  have ey : To.fi y = -(y / 2) := rfl
  have h0 : toE 2 x y t z = 0 := by
    unfold toE
    rw [if_neg (by omega), if_neg (by omega), if_neg (by
      unfold To.enB
      rw [decide_eq_false (show ¬ x = 0 by omega), decide_eq_false (show ¬ y = 0 by omega), Bool.and_false]
      simp)]
  have h1 : ceL 2 x y t z h m = 0 := by
    unfold ceL
    rw [if_pos (alH_mk (fun j hj => by
      have hb := hin j hj
      unfold To.hasV To.liB To.hasE
      have f1 : To.frB (h j).1 = false := by unfold To.frB; simp; omega
      have f2 : To.frB (h j).2 = false := by unfold To.frB; simp; omega
      simp [hc, f1, f2]
      omega)), htw]
    rfl
  have h2 : ckG g = 0 := by
    unfold ckG
    rw [if_neg (by omega), if_neg (by omega)]
  have h3 : bdE x y = 0 := by
    unfold bdE
    have : x * y ≤ 1024 * 1024 := Int.mul_le_mul hx.2 hy.2 (by omega) (by omega)
    rw [if_neg (by omega)]
  unfold jpE
  rw [h0, if_neg (by simp), hO, h1, h2, h3]
  rfl
/-- Offsets that may be. -/
structure Of (D : List Pt) : Prop where
  nd : D.Nodup
  le : D.length ≤ 64
  bd : ∀ p ∈ D, (-1099511627776 ≤ p.1 ∧ p.1 ≤ 1099511627776) ∧ (-1099511627776 ≤ p.2 ∧ p.2 ≤ 1099511627776)
theorem Of.ck {D : List Pt} (h : Of D) : ckO (fun k => D.getD k (0, 0)) D.length 1099511627776 = 0 := ckO_mk h.le (fun j hj => h.bd _ (getD_mem D j hj)) (twN.2 (getD_ne h.nd))
/-- A torus of the statements. -/
structure Ts (x y t z : Int) : Prop where
  ok : Tp.chk 2 x y t z = 0
  hx : 1 ≤ x ∧ x ≤ 1024
  hy : 1 ≤ y ∧ y ≤ 1024
  ht : 0 ≤ t
theorem ptok_bd {p : Pt} (h : (-1099511627776 ≤ p.1 ∧ p.1 ≤ 1099511627776) ∧ (-1099511627776 ≤ p.2 ∧ p.2 ≤ 1099511627776)) : PtOk p := ⟨⟨by omega, by omega⟩, ⟨by omega, by omega⟩⟩
theorem inT_bd {x y : Int} (hx : 1 ≤ x ∧ x ≤ 1024) (hy : 1 ≤ y ∧ y ≤ 1024) {C : List Pt} (h : InT x y (To.fi x) (To.fi y) C) {p : Pt} (hp : p ∈ C) : (-1099511627776 ≤ p.1 ∧ p.1 ≤ 1099511627776) ∧ (-1099511627776 ≤ p.2 ∧ p.2 ≤ 1099511627776) := by
  have := h p hp
  have ex : To.fi x = -(x / 2) := rfl
  have ey : To.fi y = -(y / 2) := rfl
  omega
theorem jumpL (x y t z : Int) (T : Ts x y t z) (s1 : Option Addr) (c1 : Nat) (D : List Pt) (hD : Of D) (h01 : s1 = none → D.length = 0 ∧ c1 = 0) (s2 : Option Addr) (c2 : Nat) (C : List Pt) (hC : C.Nodup) (hI : InT x y (To.fi x) (To.fi y) C) (hl : C.length < 1000000000) (h02 : s2 = none → C.length = 0 ∧ c2 = 0) (g : Nat) (hg : g ≤ 1125899906842624) (hgl : ∀ a b c d e ms, (lpL a b c d e ms g).length ≤ 64) (w : World) (H1 : Pl w s1 D.length (fun k => D.getD k (0, 0))) (H2 : Pl w s2 C.length (fun k => C.getD k (0, 0))) :
    Calls Tryz.prog 14 #[.agg #[.int .u8 2, .int .i64 x, .int .i64 y, .int .u8 t, .int .i64 z], .slice s1 D.length c1, .slice s2 C.length c2, .int .i64 g] w fun e w' => ∃ (v : Value) (nx : List Pt), e = .returned (.tuple #[v, .int .i64 0]) ∧ w'.ownsRow w.heap.size 40 2 v nx.length (fl (srt nx)) ∧ nx.Nodup ∧ InT x y (To.fi x) (To.fi y) nx ∧ Eqv (CE x y t z) nx (mulL (pwL (D.map neg) g) C) ∧ w.grownBy w' none := by
  have hl64 := hD.le
  have := jumpG 2 x y t z T.ht s1 D.length c1 (fun k => D.getD k (0, 0)) (fun k hk => ptok_bd (hD.bd _ (getD_mem D k hk))) (by omega) h01 s2 C.length c2 (fun k => C.getD k (0, 0)) (fun k hk => ptok_bd (inT_bd T.hx T.hy hI (getD_mem C k hk))) hl h02 g hg hgl w H1 H2 (jpE_mk T.ok T.hx T.hy hD.ck (fun j hj => hI _ (getD_mem C j hj)) (twN.2 (getD_ne hC)) ⟨by omega, by omega⟩)
  rw [psL_self, psL_self] at this
  exact this
set_option maxHeartbeats 1000000 in
theorem nextL (x y t z : Int) (T : Ts x y t z) (s1 : Option Addr) (c1 : Nat) (D : List Pt) (hD : Of D) (h01 : s1 = none → D.length = 0 ∧ c1 = 0) (s2 : Option Addr) (c2 : Nat) (C : List Pt) (hC : C.Nodup) (hI : InT x y (To.fi x) (To.fi y) C) (hl : C.length < 1000000000) (h02 : s2 = none → C.length = 0 ∧ c2 = 0) (w : World) (H1 : Pl w s1 D.length (fun k => D.getD k (0, 0))) (H2 : Pl w s2 C.length (fun k => C.getD k (0, 0))) :
    Calls Tryz.prog 9 #[.agg #[.int .u8 2, .int .i64 x, .int .i64 y, .int .u8 t, .int .i64 z], .slice s1 D.length c1, .slice s2 C.length c2] w fun e w' => ∃ (v : Value) (nx : List Pt), e = .returned (.tuple #[v, .int .i64 0]) ∧ w'.ownsRow w.heap.size 40 2 v nx.length (fl (srt nx)) ∧ nx.Nodup ∧ InT x y (To.fi x) (To.fi y) nx ∧ Eqv (CE x y t z) nx (mulL (D.map neg) C) ∧ w.grownBy w' none := by
  have hG := gc_CE x y t z T.hx.1 T.hy.1
  obtain ⟨W1, hW1, sz1, g1, B1⟩ := boxn w #[.int .u8 2, .int .i64 x, .int .i64 y, .int .u8 t, .int .i64 z] 23
  have q0 := B1.cell 0 (v := .int .u8 2) rfl; have q1 := B1.cell 1 (v := .int .i64 x) rfl; have q2 := B1.cell 2 (v := .int .i64 y) rfl; have q3 := B1.cell 3 (v := .int .u8 t) rfl; have q4 := B1.cell 4 (v := .int .i64 z) rfl
  have kJ0 := jumpL x y t z T s1 c1 D hD h01 s2 c2 C hC hI hl h02 1 (by decide) (fun a b c d e ms => Nat.le_trans (lpL_short a b c d e 1 1 ms (by decide)) (by decide)) W1 (H1.kept g1 (by simp)) (H2.kept g1 (by simp))
  have kJ : Calls Tryz.prog 14 #[.agg #[.int .u8 2, .int .i64 x, .int .i64 y, .int .u8 t, .int .i64 z], .slice s1 D.length c1, .slice s2 C.length c2, .int .i64 1] W1 fun e w' => ∃ (v : Value) (nx : List Pt), e = .returned (.tuple #[v, .int .i64 0]) ∧ w'.ownsRow W1.heap.size 40 2 v nx.length (fl (srt nx)) ∧ Hid (nx.Nodup ∧ InT x y (To.fi x) (To.fi y) nx ∧ Eqv (CE x y t z) nx (mulL (D.map neg) C)) ∧ W1.grownBy w' none := by
    refine kJ0.mono ?_
    rintro e w' ⟨v, nx, he, own, b1, b2, b3, hw⟩
    exact ⟨v, nx, he, own, ⟨b1, b2, b3.trans (mulL_left hG (pw_one _ _) C)⟩, hw⟩
  obtain ⟨n1, hn1⟩ : ∃ n, D.length = n := ⟨_, rfl⟩
  obtain ⟨n2, hn2⟩ : ∃ n, C.length = n := ⟨_, rfl⟩
  rw [hn1, hn2] at kJ
  rw [hn1, hn2]
  clear kJ0 hn1 hn2 hl hC hI hD h01 h02 H1 H2 hG
  go_enter Tryz.func9, Tryz.ntmps9
  go_wp2_with (first | (go_at_call 14; refine kJ.mono ?_; rintro e w2 ⟨v, nx, rfl, own, HN, g2⟩) | go_in)
  go_ret2
  exact ⟨v, nx, rfl, own_less own g1.size, HN.out.1, HN.out.2.1, HN.out.2.2, gb_trans g1 g2⟩
theorem od1_par (p : Pt) (f : Nat → Pt) (q : Pt) : ∀ n, od1 p f n q = parL (fun b => decide (q = padd p b)) (psL f n)
  | 0 => rfl
  | n + 1 => by
    show Bool.xor (od1 p f n q) (decide (q = padd p (f n))) = _
    rw [od1_par p f q n, psL_succ', parL_snoc]
theorem odS_par (S : List Pt) (f : Nat → Pt) (n : Nat) (q : Pt) : odS S f n q = parL (fun p => parL (fun b => decide (q = padd p b)) (psL f n)) S := by
  show parL (fun p => od1 p f n q) S = _
  exact congrArg (fun F => parL F S) (funext fun p => od1_par p f q n)
theorem adL_ps {f : Nat → Pt} : ∀ {n : Nat}, (∀ i j, i < j → j < n → f i ≠ f j) → adL f n = psL f n
  | 0, _ => rfl
  | n + 1, hd => by
    have ih := adL_ps (f := f) (n := n) (fun i j hij hj => hd i j hij (by omega))
    rw [psL_succ', ← ih]
    show adp (adL f n) (f n) = _
    unfold adp
    rw [if_neg (fun hm => by
      obtain ⟨i, hi, e⟩ := (mem_adL f (f n) n).1 hm
      exact hd i n hi (by omega) e.symm)]
theorem mulL_len (A B : List Pt) : (mulL A B).length = A.length * B.length := by
  unfold mulL
  induction A with
  | nil => simp
  | cons a A ih => rw [List.flatMap_cons, List.length_append, ih, List.length_map, List.length_cons, Nat.succ_mul, Nat.add_comm]
theorem timesL (s1 : Option Addr) (c1 : Nat) (D : List Pt) (hD : Of D) (s2 : Option Addr) (c2 : Nat) (E : List Pt) (hE : Of E) (hb : ∀ p, p ∈ D ∨ p ∈ E → (-1000 ≤ p.1 ∧ p.1 ≤ 1000) ∧ (-1000 ≤ p.2 ∧ p.2 ≤ 1000)) (w : World) (H1 : Pl w s1 D.length (fun k => D.getD k (0, 0))) (H2 : Pl w s2 E.length (fun k => E.getD k (0, 0))) :
    Calls Tryz.prog 19 #[.slice s1 D.length c1, .slice s2 E.length c2] w fun e w' => ∃ (v : Value) (T : List Pt), e = .returned (.tuple #[v, .int .i64 0]) ∧ w'.ownsRow w.heap.size 40 2 v T.length (fl (srt T)) ∧ T.Nodup ∧ T.length ≤ D.length * E.length ∧ (∀ p ∈ T, (-2000 ≤ p.1 ∧ p.1 ≤ 2000) ∧ (-2000 ≤ p.2 ∧ p.2 ≤ 2000)) ∧ Eqv id T (mulL D E) ∧ w.grownBy w' none := by
  have l1 := hD.le
  have l2 := hE.le
  refine (timesY s1 s2 D.length c1 E.length c2 (fun k => D.getD k (0, 0)) (fun k => E.getD k (0, 0)) (by omega) (by omega) w H1 H2 hD.ck hE.ck).mono ?_
  rintro e w' ⟨hg, T, ⟨hTn, hT⟩, _, hh⟩
  have hps : adL (fun k => D.getD k (0, 0)) D.length = D := by rw [adL_ps (getD_ne hD.nd), psL_self]
  have hT' : ∀ q, decide (q ∈ T) = parL (fun p => parL (fun b => decide (q = padd p b)) E) D := fun q => by
    rw [hT q, hps, odS_par, psL_self]
  have hm : ∀ q ∈ T, ∃ p ∈ D, ∃ b ∈ E, q = padd p b := fun q hq => by
    have h1 := hT q
    rw [decide_eq_true hq, hps] at h1
    obtain ⟨p, hp, k, hk, e⟩ := odS_ne h1.symm
    exact ⟨p, hp, _, getD_mem E k hk, e⟩
  have hbT : ∀ p ∈ T, (-2000 ≤ p.1 ∧ p.1 ≤ 2000) ∧ (-2000 ≤ p.2 ∧ p.2 ≤ 2000) := fun q hq => by
    obtain ⟨p, hp, b, hb', e⟩ := hm q hq
    have := hb p (.inl hp)
    have := hb b (.inr hb')
    rw [e]
    unfold padd
    simp only
    omega
  have hlT : T.length ≤ D.length * E.length := by
    rw [← mulL_len]
    refine len_sub T _ hTn (fun q hq => ?_)
    obtain ⟨p, hp, b, hb', e⟩ := hm q hq
    unfold mulL
    exact List.mem_flatMap.2 ⟨p, hp, List.mem_map.2 ⟨b, hb', e.symm⟩⟩
  have hEq : Eqv id T (mulL D E) := fun q => by
    rw [cnt2_fix (C := id) hTn (fun p _ => rfl), hT' q]
    unfold cnt2
    rw [parL_mul]
    exact parL_congr fun p _ => parL_congr fun b _ => by rw [decide_eq_decide]; exact eq_comm
  have hls : lsW 1099511627776 (srt T) = true := by
    unfold lsW
    rw [alW_is]
    intro k hk
    have := hbT _ ((srt_perm T).mem_iff.1 (getD_mem (srt T) k hk))
    rw [inW_is, inW_is]
    omega
  rcases hh with ⟨h1, _⟩ | ⟨_, g, cap, he, own⟩
  · rw [hls] at h1; cases h1
  · exact ⟨_, T, he, own, hTn, hlT, hbT, hEq, hg⟩
end Ln
end Go.Proofs.YtbmpiddjakdebaaGreat
namespace Go.Proofs.YtbmpiddjakdebaaGreat
open Go.RowKit
set_option linter.unusedVariables false
set_option linter.unusedSimpArgs false
set_option maxRecDepth 100000

namespace Ln
/-- A place's number. -/
def numP (x y t z : Int) (p : Pt) : Nat := (plN x y t z p.1 p.2).toNat
theorem plN_bd {x y t z a b : Int} (hx : 1 ≤ x) (hy : 1 ≤ y) : 0 ≤ plN x y t z a b ∧ plN x y t z a b < x * y := by
  have a1 := Int.emod_nonneg (plV x y t z a b) (show y ≠ 0 by omega)
  have a2 := Int.emod_lt_of_pos (plV x y t z a b) (show 0 < y by omega)
  have b1 := Int.emod_nonneg (plU x y t z a b) (show x ≠ 0 by omega)
  have b2 := Int.emod_lt_of_pos (plU x y t z a b) (show 0 < x by omega)
  unfold plN
  have h1 : 0 ≤ plV x y t z a b % y * x := Int.mul_nonneg a1 (by omega)
  have h2 : plV x y t z a b % y * x ≤ (y - 1) * x := Int.mul_le_mul_of_nonneg_right (by omega) (by omega)
  have h3 : (y - 1) * x = x * y - x := by rw [Int.sub_mul, Int.one_mul, Int.mul_comm]
  omega
theorem numP_lt {x y t z : Int} (hx : 1 ≤ x) (hy : 1 ≤ y) (p : Pt) : numP x y t z p < (x * y).toNat := by
  have := plN_bd (t := t) (z := z) (a := p.1) (b := p.2) hx hy
  unfold numP
  omega
theorem at_num {x y t z : Int} (hx : 1 ≤ x) (hy : 1 ≤ y) (p : Pt) : atP x y (numP x y t z p) = (plU x y t z p.1 p.2 % x - x / 2, plV x y t z p.1 p.2 % y - y / 2) := by
  have hb := plN_bd (t := t) (z := z) (a := p.1) (b := p.2) hx hy
  have b1 := Int.emod_nonneg (plU x y t z p.1 p.2) (show x ≠ 0 by omega)
  have b2 := Int.emod_lt_of_pos (plU x y t z p.1 p.2) (show 0 < x by omega)
  unfold atP numP
  rw [Int.toNat_of_nonneg hb.1]
  unfold plN
  have e1 : (plV x y t z p.1 p.2 % y * x + plU x y t z p.1 p.2 % x) % x = plU x y t z p.1 p.2 % x := by
    rw [Int.add_comm, Int.add_mul_emod_self_right, Int.emod_emod_of_dvd _ (Int.dvd_refl x)]
  have e2 : (plV x y t z p.1 p.2 % y * x + plU x y t z p.1 p.2 % x) / x = plV x y t z p.1 p.2 % y := by
    rw [Int.add_comm, Int.add_mul_ediv_right _ _ (by omega), Int.ediv_eq_zero_of_lt b1 b2, Int.zero_add]
  rw [e1, e2]
theorem CE_at {x y t z : Int} (hx : 1 ≤ x) (hy : 1 ≤ y) (ht : t = 0 ∨ t = 1 ∨ t = 2) (p : Pt) : CE x y t z p = atP x y (numP x y t z p) := by
  rw [at_num hx hy]
  have ex : To.fi x = -(x / 2) := rfl
  have ey : To.fi y = -(y / 2) := rfl
  unfold CE tC celT plU plV
  rcases ht with rfl | rfl | rfl
  · by_cases h : x < y
    · rw [if_pos (.inr ⟨rfl, h⟩)]
      have ea : To.acT 0 = 0 := rfl
      rw [ea]
      unfold swp
      simp only [Prod.mk.injEq]
      rw [if_neg (by omega), if_neg (by omega), if_neg (by omega), ex, ey]
      refine ⟨?_, ?_⟩
      · rw [show p.1 - -(x / 2) = p.1 + x / 2 by omega]; omega
      · rw [Int.mul_zero, Int.sub_zero, show p.2 - -(y / 2) = p.2 + y / 2 by omega]; omega
    · rw [if_neg (by omega)]
      simp only [Prod.mk.injEq]
      rw [if_neg (by omega), if_neg (by omega), if_neg (by omega), ex, ey]
      refine ⟨?_, ?_⟩
      · rw [Int.mul_zero, Int.sub_zero, show p.1 - -(x / 2) = p.1 + x / 2 by omega]; omega
      · rw [show p.2 - -(y / 2) = p.2 + y / 2 by omega]; omega
  · rw [if_neg (by omega)]
    simp only [Prod.mk.injEq]
    rw [if_pos trivial, if_pos trivial, if_neg (by omega), ex, ey]
    refine ⟨?_, ?_⟩
    · rw [show p.1 - -(x / 2) = p.1 + x / 2 by omega, show p.2 - -(y / 2) = p.2 + y / 2 by omega]; omega
    · rw [show p.2 - -(y / 2) = p.2 + y / 2 by omega]; omega
  · rw [if_pos (.inl rfl)]
    have ea : To.acT 2 = 1 := rfl
    rw [ea]
    unfold swp
    simp only [Prod.mk.injEq]
    rw [if_neg (by omega), if_pos trivial, if_pos trivial, ex, ey]
    refine ⟨?_, ?_⟩
    · rw [show p.1 - -(x / 2) = p.1 + x / 2 by omega]; omega
    · rw [show p.1 - -(x / 2) = p.1 + x / 2 by omega, show p.2 - -(y / 2) = p.2 + y / 2 by omega]; omega
theorem atP_inj {x y : Int} (hx : 1 ≤ x) {m n : Nat} (h : atP x y m = atP x y n) : m = n := by
  unfold atP at h
  simp only [Prod.mk.injEq] at h
  have e1 := Int.emod_add_mul_ediv (m : Int) x
  have e2 := Int.emod_add_mul_ediv (n : Int) x
  have h2 : (m : Int) / x = (n : Int) / x := by omega
  rw [h2] at e1
  omega
theorem atP_in {x y : Int} (hx : 1 ≤ x) (hy : 1 ≤ y) {n : Nat} (h : n < (x * y).toNat) : (To.fi x ≤ (atP x y n).1 ∧ (atP x y n).1 < To.fi x + x) ∧ (To.fi y ≤ (atP x y n).2 ∧ (atP x y n).2 < To.fi y + y) := by
  have ex : To.fi x = -(x / 2) := rfl
  have ey : To.fi y = -(y / 2) := rfl
  have b1 := Int.emod_nonneg (n : Int) (show x ≠ 0 by omega)
  have b2 := Int.emod_lt_of_pos (n : Int) (show 0 < x by omega)
  have b3 : 0 ≤ (n : Int) / x := Int.ediv_nonneg (by omega) (by omega)
  have b4 : (n : Int) / x < y := Int.ediv_lt_of_lt_mul (by omega) (by rw [Int.mul_comm]; omega)
  unfold atP
  simp only
  omega
theorem lsT_mem {x y : Int} {F : Nat → Bool} {q : Pt} : ∀ {n : Nat}, q ∈ lsT x y F n ↔ ∃ i, i < n ∧ F i = true ∧ q = atP x y i
  | 0 => ⟨(fun h => by cases h), (fun ⟨i, hi, _⟩ => by omega)⟩
  | n + 1 => by
    show q ∈ lsT x y F n ++ _ ↔ _
    rw [List.mem_append, lsT_mem]
    constructor
    · rintro (⟨i, hi, h1, h2⟩ | h)
      · exact ⟨i, by omega, h1, h2⟩
      · by_cases hF : F n = true
        · rw [if_pos hF] at h
          exact ⟨n, by omega, hF, by simpa using h⟩
        · rw [if_neg hF] at h
          cases h
    · rintro ⟨i, hi, h1, h2⟩
      by_cases e : i = n
      · subst e
        exact .inr (by rw [if_pos h1]; simpa using h2)
      · exact .inl ⟨i, by omega, h1, h2⟩
theorem lsT_sorted {x y : Int} (hx : 1 ≤ x) (F : Nat → Bool) : ∀ n, (lsT x y F n).Pairwise (fun p q => p.2 < q.2 ∨ (p.2 = q.2 ∧ p.1 < q.1))
  | 0 => List.Pairwise.nil
  | n + 1 => by
    show (lsT x y F n ++ _).Pairwise _
    rw [List.pairwise_append]
    refine ⟨lsT_sorted hx F n, ?_, fun p hp q hq => ?_⟩
    · split
      · exact List.pairwise_singleton _ _
      · exact List.Pairwise.nil
    · obtain ⟨i, hi, _, e⟩ := lsT_mem.1 hp
      have hq' : q = atP x y n := by
        split at hq
        · simpa using hq
        · cases hq
      rw [e, hq']
      have e1 := Int.emod_add_mul_ediv (i : Int) x
      have e2 := Int.emod_add_mul_ediv (n : Int) x
      have b1 := Int.emod_nonneg (i : Int) (show x ≠ 0 by omega)
      have b2 := Int.emod_lt_of_pos (n : Int) (show 0 < x by omega)
      have hle : (i : Int) / x ≤ (n : Int) / x := Int.ediv_le_ediv (by omega) (by omega)
      unfold atP
      simp only
      by_cases e3 : (i : Int) / x = (n : Int) / x
      · rw [e3] at e1
        omega
      · omega
theorem lsT_nodup {x y : Int} (hx : 1 ≤ x) (F : Nat → Bool) (n : Nat) : (lsT x y F n).Nodup :=
  List.nodup_iff_pairwise_ne.2 ((lsT_sorted hx F n).imp (fun {a b} h e => by subst e; omega))
theorem lsT_in {x y : Int} (hx : 1 ≤ x) (hy : 1 ≤ y) (F : Nat → Bool) {n : Nat} (hn : n ≤ (x * y).toNat) : InT x y (To.fi x) (To.fi y) (lsT x y F n) := fun p hp => by
  obtain ⟨i, hi, _, e⟩ := lsT_mem.1 hp
  rw [e]
  exact atP_in hx hy (by omega)
theorem lsT_at {x y : Int} (hx : 1 ≤ x) (F : Nat → Bool) {m n : Nat} (hm : m < n) : decide (atP x y m ∈ lsT x y F n) = F m := by
  cases h : F m with
  | true => exact decide_eq_true (lsT_mem.2 ⟨m, hm, h, rfl⟩)
  | false =>
    refine decide_eq_false (fun hh => ?_)
    obtain ⟨i, hi, h1, h2⟩ := lsT_mem.1 hh
    rw [← atP_inj hx h2, h] at h1
    cases h1
theorem cnt_lsT {x y t z : Int} (hx : 1 ≤ x) (hy : 1 ≤ y) (ht : t = 0 ∨ t = 1 ∨ t = 2) (F : Nat → Bool) (p : Pt) : cnt2 (CE x y t z) (lsT x y F (x * y).toNat) (CE x y t z p) = F (numP x y t z p) := by
  rw [cnt2_fix (lsT_nodup hx F _) (fun q hq => CE_fix (lsT_in hx hy F (Nat.le_refl _) q hq).1 (lsT_in hx hy F (Nat.le_refl _) q hq).2), CE_at hx hy ht, lsT_at hx F (numP_lt hx hy p)]
/-- Two that are alike at every cell are alike. -/
theorem eqv_cells {x y t z : Int} (hx : 1 ≤ x) (hy : 1 ≤ y) {A B : List Pt} (h : ∀ p, cnt2 (CE x y t z) A (CE x y t z p) = cnt2 (CE x y t z) B (CE x y t z p)) : Eqv (CE x y t z) A B := fun q => by
  by_cases hq : ∃ p, CE x y t z p = q
  · obtain ⟨p, rfl⟩ := hq
    exact h p
  · unfold cnt2
    rw [parL_no (fun c _ => decide_eq_false (fun e => hq ⟨c, e⟩)), parL_no (fun c _ => decide_eq_false (fun e => hq ⟨c, e⟩))]
/-- A set in which places are turned one by one. -/
theorem flip_eqv {x y t z : Int} (hx : 1 ≤ x) (hy : 1 ≤ y) (ht : t = 0 ∨ t = 1 ∨ t = 2) {F : Nat → Bool} {ps : List Pt} (h : ∀ m, m < (x * y).toNat → F m = parL (fun p => decide (numP x y t z p = m)) ps) : Eqv (CE x y t z) (lsT x y F (x * y).toNat) ps := eqv_cells hx hy (fun p => by
  rw [cnt_lsT hx hy ht, h _ (numP_lt hx hy p)]
  unfold cnt2
  refine parL_congr fun q _ => ?_
  rw [CE_at hx hy ht, CE_at hx hy ht, decide_eq_decide]
  exact ⟨fun e => by rw [e], fun e => atP_inj hx e⟩)
theorem gc_move {C : Pt → Pt} (hC : Gc C) (a d q : Pt) : C (padd (neg d) a) = C q ↔ C a = C (padd q d) := by
  have e1 : padd (padd (neg d) a) d = a := by
    obtain ⟨a1, a2⟩ := a
    obtain ⟨d1, d2⟩ := d
    unfold padd neg
    simp only [Prod.mk.injEq]
    constructor <;> omega
  have e2 : padd (padd q d) (neg d) = q := by
    obtain ⟨a1, a2⟩ := q
    obtain ⟨d1, d2⟩ := d
    unfold padd neg
    simp only [Prod.mk.injEq]
    constructor <;> omega
  constructor
  · intro h
    conv => lhs; rw [← e1]
    rw [← hC, h, hC]
  · intro h
    rw [padd_comm, ← hC, h, hC, e2]
/-- One generation of a set. -/
theorem next_eqv {x y t z : Int} (hx : 1 ≤ x) (hy : 1 ≤ y) (ht : t = 0 ∨ t = 1 ∨ t = 2) {F G : Nat → Bool} {D : List Pt} (h : ∀ m, m < (x * y).toNat → G m = parL (fun d => F (numP x y t z (padd (atP x y m) d))) D) : Eqv (CE x y t z) (lsT x y G (x * y).toNat) (mulL (D.map neg) (lsT x y F (x * y).toNat)) := eqv_cells hx hy (fun p => by
  have hG := gc_CE x y t z hx hy
  have hid : CE x y t z (CE x y t z p) = CE x y t z p := by
    have := atP_in hx hy (numP_lt (t := t) (z := z) hx hy p)
    rw [← CE_at hx hy ht] at this
    exact CE_fix this.1 this.2
  rw [cnt_lsT hx hy ht, h _ (numP_lt hx hy p), ← CE_at hx hy ht]
  unfold cnt2
  rw [parL_mul, parL_map]
  refine parL_congr fun d _ => ?_
  rw [← cnt_lsT hx hy ht F]
  unfold cnt2
  refine parL_congr fun a _ => ?_
  rw [decide_eq_decide]
  conv => rhs; rw [← hid]
  exact (gc_move hG a d (CE x y t z p)).symm)
end Ln
end Go.Proofs.YtbmpiddjakdebaaGreat
