/- Jump, Next, Times of lists, as sums. -/
import Derived.Test.YthgoillhjajanaaGreatNk
namespace Go.Proofs.YthgoillhjajanaaGreat
open Go.RowKit
set_option linter.unusedVariables false
set_option linter.unusedSimpArgs false
set_option maxRecDepth 100000

namespace Ln
theorem lpL_50 (g : Nat) (hg : g ≤ 1125899906842624) (a b c d e : Int) (ms : List Pt) : (lpL a b c d e ms g).length ≤ 64 := Nat.le_trans (lpL_short a b c d e 51 g ms (by omega)) (by decide)
theorem twN {f : Nat → Pt} {n : Nat} : tw f n = false ↔ ∀ i j, i < j → j < n → f i ≠ f j := by
  have h1 := adL_len f n
  have h2 := adL_full f n
  unfold tw
  constructor
  · intro h
    have := of_decide_eq_false h
    exact h2.1 (by omega)
  · intro h
    have := h2.2 h
    exact decide_eq_false (by omega)
theorem psL_nodup {f : Nat → Pt} : ∀ {n : Nat}, (∀ i j, i < j → j < n → f i ≠ f j) → (psL f n).Nodup
  | 0, _ => List.nodup_nil
  | n + 1, h => by
    rw [psL_succ', List.nodup_append]
    refine ⟨psL_nodup (fun i j hij hj => h i j hij (by omega)), by simp, fun a ha b hb e => ?_⟩
    have hb : b = f n := by simpa using hb
    subst hb
    unfold psL at ha
    obtain ⟨i, hi, e2⟩ := List.mem_map.1 ha
    exact h i n (List.mem_range.1 hi) (by omega) (e2.trans e)
theorem getD_ne {D : List Pt} (h : D.Nodup) : ∀ i j, i < j → j < D.length → D.getD i (0, 0) ≠ D.getD j (0, 0) := fun i j hij hj e => by
  have hi : i < D.length := by omega
  rw [List.getD_eq_getElem?_getD, List.getD_eq_getElem?_getD, List.getElem?_eq_getElem hi, List.getElem?_eq_getElem hj] at e
  have := (List.nodup_iff_pairwise_ne.1 h)
  exact (List.pairwise_iff_getElem.1 this i j hi hj hij) e
theorem nodup_swp {D : List Pt} (h : D.Nodup) : (D.map swp).Nodup := by
  have hh := List.nodup_iff_pairwise_ne.1 h
  refine List.nodup_iff_pairwise_ne.2 ((List.pairwise_map).2 (hh.imp (fun {a b} e e2 => e ?_)))
  have : swp (swp a) = swp (swp b) := by rw [e2]
  exact this
theorem neg_swp (D : List Pt) : (D.map swp).map neg = (D.map neg).map swp := by
  rw [List.map_map, List.map_map]
  rfl
set_option maxHeartbeats 1000000 in
/-- Jump, whatever way the torus lies. -/
theorem jumpG (k x y t z : Int) (ht : 0 ≤ t) (s1 : Option Addr) (n c1 : Nat) (f : Nat → Pt) (hf : ∀ k, k < n → PtOk (f k)) (hn : n < 1073741824) (h01 : s1 = none → n = 0 ∧ c1 = 0) (s2 : Option Addr) (m c2 : Nat) (h : Nat → Pt) (hh : ∀ k, k < m → PtOk (h k)) (hm : m < 1000000000) (h02 : s2 = none → m = 0 ∧ c2 = 0) (g : Nat) (hg : g ≤ 1125899906842624) (hgl : ∀ a b c d e ms, (lpL a b c d e ms g).length ≤ 64) (w : World) (H1 : Pl w s1 n f) (H2 : Pl w s2 m h) (hE : jpE k x y t z f n h m g = 0) :
    Calls Tryz.prog 11 #[.agg #[.int .u8 k, .int .i64 x, .int .i64 y, .int .u8 t, .int .i64 z], .slice s1 n c1, .slice s2 m c2, .int .i64 g] w fun e w' => ∃ (v : Value) (nx : List Pt), e = .returned (.tuple #[v, .int .i64 0]) ∧ w'.ownsRow w.heap.size 42 2 v nx.length (fl (srt nx)) ∧ nx.Nodup ∧ InT x y (To.fi x) (To.fi y) nx ∧ Eqv (CE x y t z) nx (mulL (pwL ((psL f n).map neg) g) (psL h m)) ∧ w.grownBy w' none := by
  obtain ⟨hc, hk, hx, hy, hO, hL, hG, hxy⟩ := jpE_zero hE
  obtain ⟨htw, hin⟩ := ceL_zero hx.1 hy.1 hL
  obtain ⟨hn64, haw, htw1⟩ := ckO_zero hO
  have hfb : ∀ j, j < n → (-1099511627776 ≤ (f j).1 ∧ (f j).1 ≤ 1099511627776) ∧ (-1099511627776 ≤ (f j).2 ∧ (f j).2 ≤ 1099511627776) := fun j hj => by
    have := (alW_is _ f n).1 haw j hj
    rw [inW_is, inW_is] at this
    exact this
  have hnd : (psL h m).Nodup := psL_nodup (twN.1 htw)
  have hI : InT x y (To.fi x) (To.fi y) (psL h m) := fun p hp => by
    unfold psL at hp
    obtain ⟨j, hj, rfl⟩ := List.mem_map.1 hp
    exact hin j (List.mem_range.1 hj)
  have ok := Tp.ok_of hc
  have ht2 := ok.turn
  by_cases ha : t = 2 ∨ (t = 0 ∧ x < y)
  · refine (jumpYA k x y t z ht ha s1 n c1 f hf hn h01 s2 m c2 h hh hm h02 g hg (hgl _ _ _ _ _ _) w H1 H2 hE).mono ?_
    rintro e w' ⟨v, L, nx, he, own, hP, hr, hw⟩
    have ha2 : To.acT t = 0 ∨ To.acT t = 1 := by
      unfold To.acT
      rcases ha with rfl | ⟨rfl, _⟩
      · exact .inr rfl
      · exact .inl rfl
    have h1 : To1 k y x (To.acT t) z := ⟨(chk_ac ht hc).1, hk, ha2, hy.1, hx.1⟩
    rw [psL_comp] at hr
    obtain ⟨a1, a2, a3⟩ := jump_eqv h1 ⟨hy.2, hx.2⟩ (f := fun j => swp (f j)) (fun j hj => by have := hfb j hj; unfold swp; simp only; omega) hP (nodup_swp hnd) (fun p hp => by
      obtain ⟨q, hq, rfl⟩ := List.mem_map.1 hp
      exact ⟨(hI q hq).2, (hI q hq).1⟩) hr
    refine ⟨v, nx.map swp, he, by rw [List.length_map]; exact own, nodup_swp a1, fun p hp => ?_, ?_, hw⟩
    · obtain ⟨q, hq, rfl⟩ := List.mem_map.1 hp
      exact ⟨(a2 q hq).2, (a2 q hq).1⟩
    · unfold CE
      rw [if_pos ha]
      refine eqv_swp ?_
      rw [map_swp_swp, mul_swp, pw_swp, ← neg_swp, ← psL_comp]
      exact a3
  · have ha1 : t ≠ 2 := fun e => ha (.inl e)
    have ha2 : t = 0 → y ≤ x := fun e => by
      by_cases hxy : x < y
      · exact absurd (.inr ⟨e, hxy⟩) ha
      · omega
    refine (jumpY k x y t z ht ha1 ha2 s1 n c1 f hf hn h01 s2 m c2 h hh hm h02 g hg (hgl _ _ _ _ _ _) w H1 H2 hE).mono ?_
    rintro e w' ⟨v, L, nx, he, own, hP, hr, hw⟩
    have h1 : To1 k x y t z := ⟨hc, hk, by omega, hx.1, hy.1⟩
    obtain ⟨a1, a2, a3⟩ := jump_eqv h1 ⟨hx.2, hy.2⟩ (f := f) hfb hP hnd hI hr
    refine ⟨v, nx, he, own, a1, a2, ?_, hw⟩
    unfold CE
    rw [if_neg ha]
    exact a3
theorem ckO_mk {f : Nat → Pt} {n : Nat} (h1 : n ≤ 64) (h2 : ∀ j, j < n → (-1099511627776 ≤ (f j).1 ∧ (f j).1 ≤ 1099511627776) ∧ (-1099511627776 ≤ (f j).2 ∧ (f j).2 ≤ 1099511627776)) (h3 : tw f n = false) : ckO f n 1099511627776 = 0 := by
  unfold ckO
  rw [if_neg (by omega), if_neg (by
    rw [(alW_is _ f n).2 (fun k hk => by rw [inW_is, inW_is]; exact h2 k hk)]
    simp), h3]
  rfl
theorem alH_mk {k x y t z : Int} {f : Nat → Pt} : ∀ {n : Nat}, (∀ j, j < n → To.hasV k x y t z (f j).1 (f j).2 = true) → alH k x y t z f n = true
  | 0, _ => rfl
  | n + 1, h => by
    show (alH k x y t z f n && To.hasV k x y t z (f n).1 (f n).2) = true
    rw [alH_mk (fun j hj => h j (by omega)), h n (by omega)]
    rfl
theorem jpE_mk {x y t z : Int} {f : Nat → Pt} {n : Nat} {h : Nat → Pt} {m : Nat} {g : Int} (hc : Tp.chk 2 x y t z = 0) (hx : 1 ≤ x ∧ x ≤ 1024) (hy : 1 ≤ y ∧ y ≤ 1024) (hO : ckO f n 1099511627776 = 0) (hin : ∀ j, j < m → (To.fi x ≤ (h j).1 ∧ (h j).1 < To.fi x + x) ∧ (To.fi y ≤ (h j).2 ∧ (h j).2 < To.fi y + y)) (htw : tw h m = false) (hg : 0 ≤ g ∧ g ≤ 1125899906842624) : jpE 2 x y t z f n h m g = 0 := by
  have ex : To.fi x = -(x / 2) := rfl
  have ey : To.fi y = -(y / 2) := rfl
  have h0 : toE 2 x y t z = 0 := by
    unfold toE
    rw [if_neg (by omega), if_neg (by omega), if_neg (by
      unfold To.enB
      rw [decide_eq_false (show ¬ x = 0 by omega), decide_eq_false (show ¬ y = 0 by omega), Bool.and_false]
      simp)]
  have h1 : ceL 2 x y t z h m = 0 := by
    unfold ceL
    rw [if_pos (alH_mk (fun j hj => by
      have hb := hin j hj
      unfold To.hasV To.liB To.hasE
      have f1 : To.frB (h j).1 = false := by unfold To.frB; simp; omega
      have f2 : To.frB (h j).2 = false := by unfold To.frB; simp; omega
      simp [hc, f1, f2]
      omega)), htw]
    rfl
  have h2 : ckG g = 0 := by
    unfold ckG
    rw [if_neg (by omega), if_neg (by omega)]
  have h3 : bdE x y = 0 := by
    unfold bdE
    have : x * y ≤ 1024 * 1024 := Int.mul_le_mul hx.2 hy.2 (by omega) (by omega)
    rw [if_neg (by omega)]
  unfold jpE
  rw [h0, if_neg (by simp), hO, h1, h2, h3]
  rfl
/-- Offsets that may be. -/
structure Of (D : List Pt) : Prop where
  nd : D.Nodup
  le : D.length ≤ 64
  bd : ∀ p ∈ D, (-1099511627776 ≤ p.1 ∧ p.1 ≤ 1099511627776) ∧ (-1099511627776 ≤ p.2 ∧ p.2 ≤ 1099511627776)
theorem Of.ck {D : List Pt} (h : Of D) : ckO (fun k => D.getD k (0, 0)) D.length 1099511627776 = 0 := ckO_mk h.le (fun j hj => h.bd _ (getD_mem D j hj)) (twN.2 (getD_ne h.nd))
/-- A torus of the statements. -/
structure Ts (x y t z : Int) : Prop where
  ok : Tp.chk 2 x y t z = 0
  hx : 1 ≤ x ∧ x ≤ 1024
  hy : 1 ≤ y ∧ y ≤ 1024
  ht : 0 ≤ t
theorem ptok_bd {p : Pt} (h : (-1099511627776 ≤ p.1 ∧ p.1 ≤ 1099511627776) ∧ (-1099511627776 ≤ p.2 ∧ p.2 ≤ 1099511627776)) : PtOk p := ⟨⟨by omega, by omega⟩, ⟨by omega, by omega⟩⟩
theorem inT_bd {x y : Int} (hx : 1 ≤ x ∧ x ≤ 1024) (hy : 1 ≤ y ∧ y ≤ 1024) {C : List Pt} (h : InT x y (To.fi x) (To.fi y) C) {p : Pt} (hp : p ∈ C) : (-1099511627776 ≤ p.1 ∧ p.1 ≤ 1099511627776) ∧ (-1099511627776 ≤ p.2 ∧ p.2 ≤ 1099511627776) := by
  have := h p hp
  have ex : To.fi x = -(x / 2) := rfl
  have ey : To.fi y = -(y / 2) := rfl
  omega
theorem jumpL (x y t z : Int) (T : Ts x y t z) (s1 : Option Addr) (c1 : Nat) (D : List Pt) (hD : Of D) (h01 : s1 = none → D.length = 0 ∧ c1 = 0) (s2 : Option Addr) (c2 : Nat) (C : List Pt) (hC : C.Nodup) (hI : InT x y (To.fi x) (To.fi y) C) (hl : C.length < 1000000000) (h02 : s2 = none → C.length = 0 ∧ c2 = 0) (g : Nat) (hg : g ≤ 1125899906842624) (hgl : ∀ a b c d e ms, (lpL a b c d e ms g).length ≤ 64) (w : World) (H1 : Pl w s1 D.length (fun k => D.getD k (0, 0))) (H2 : Pl w s2 C.length (fun k => C.getD k (0, 0))) :
    Calls Tryz.prog 11 #[.agg #[.int .u8 2, .int .i64 x, .int .i64 y, .int .u8 t, .int .i64 z], .slice s1 D.length c1, .slice s2 C.length c2, .int .i64 g] w fun e w' => ∃ (v : Value) (nx : List Pt), e = .returned (.tuple #[v, .int .i64 0]) ∧ w'.ownsRow w.heap.size 42 2 v nx.length (fl (srt nx)) ∧ nx.Nodup ∧ InT x y (To.fi x) (To.fi y) nx ∧ Eqv (CE x y t z) nx (mulL (pwL (D.map neg) g) C) ∧ w.grownBy w' none := by
  have hl64 := hD.le
  have := jumpG 2 x y t z T.ht s1 D.length c1 (fun k => D.getD k (0, 0)) (fun k hk => ptok_bd (hD.bd _ (getD_mem D k hk))) (by omega) h01 s2 C.length c2 (fun k => C.getD k (0, 0)) (fun k hk => ptok_bd (inT_bd T.hx T.hy hI (getD_mem C k hk))) hl h02 g hg hgl w H1 H2 (jpE_mk T.ok T.hx T.hy hD.ck (fun j hj => hI _ (getD_mem C j hj)) (twN.2 (getD_ne hC)) ⟨by omega, by omega⟩)
  rw [psL_self, psL_self] at this
  exact this
set_option maxHeartbeats 1000000 in
theorem nextL (x y t z : Int) (T : Ts x y t z) (s1 : Option Addr) (c1 : Nat) (D : List Pt) (hD : Of D) (h01 : s1 = none → D.length = 0 ∧ c1 = 0) (s2 : Option Addr) (c2 : Nat) (C : List Pt) (hC : C.Nodup) (hI : InT x y (To.fi x) (To.fi y) C) (hl : C.length < 1000000000) (h02 : s2 = none → C.length = 0 ∧ c2 = 0) (w : World) (H1 : Pl w s1 D.length (fun k => D.getD k (0, 0))) (H2 : Pl w s2 C.length (fun k => C.getD k (0, 0))) :
    Calls Tryz.prog 13 #[.agg #[.int .u8 2, .int .i64 x, .int .i64 y, .int .u8 t, .int .i64 z], .slice s1 D.length c1, .slice s2 C.length c2] w fun e w' => ∃ (v : Value) (nx : List Pt), e = .returned (.tuple #[v, .int .i64 0]) ∧ w'.ownsRow w.heap.size 42 2 v nx.length (fl (srt nx)) ∧ nx.Nodup ∧ InT x y (To.fi x) (To.fi y) nx ∧ Eqv (CE x y t z) nx (mulL (D.map neg) C) ∧ w.grownBy w' none := by
  have hG := gc_CE x y t z T.hx.1 T.hy.1
  obtain ⟨W1, hW1, sz1, g1, B1⟩ := boxn w #[.int .u8 2, .int .i64 x, .int .i64 y, .int .u8 t, .int .i64 z] 27
  have q0 := B1.cell 0 (v := .int .u8 2) rfl; have q1 := B1.cell 1 (v := .int .i64 x) rfl; have q2 := B1.cell 2 (v := .int .i64 y) rfl; have q3 := B1.cell 3 (v := .int .u8 t) rfl; have q4 := B1.cell 4 (v := .int .i64 z) rfl
  have kJ0 := jumpL x y t z T s1 c1 D hD h01 s2 c2 C hC hI hl h02 1 (by decide) (fun a b c d e ms => Nat.le_trans (lpL_short a b c d e 1 1 ms (by decide)) (by decide)) W1 (H1.kept g1 (by simp)) (H2.kept g1 (by simp))
  have kJ : Calls Tryz.prog 11 #[.agg #[.int .u8 2, .int .i64 x, .int .i64 y, .int .u8 t, .int .i64 z], .slice s1 D.length c1, .slice s2 C.length c2, .int .i64 1] W1 fun e w' => ∃ (v : Value) (nx : List Pt), e = .returned (.tuple #[v, .int .i64 0]) ∧ w'.ownsRow W1.heap.size 42 2 v nx.length (fl (srt nx)) ∧ Hid (nx.Nodup ∧ InT x y (To.fi x) (To.fi y) nx ∧ Eqv (CE x y t z) nx (mulL (D.map neg) C)) ∧ W1.grownBy w' none := by
    refine kJ0.mono ?_
    rintro e w' ⟨v, nx, he, own, b1, b2, b3, hw⟩
    exact ⟨v, nx, he, own, ⟨b1, b2, b3.trans (mulL_left hG (pw_one _ _) C)⟩, hw⟩
  obtain ⟨n1, hn1⟩ : ∃ n, D.length = n := ⟨_, rfl⟩
  obtain ⟨n2, hn2⟩ : ∃ n, C.length = n := ⟨_, rfl⟩
  rw [hn1, hn2] at kJ
  rw [hn1, hn2]
  clear kJ0 hn1 hn2 hl hC hI hD h01 h02 H1 H2 hG
  go_enter Tryz.func13, Tryz.ntmps13
  go_wp2_with (first | (go_at_call 11; refine kJ.mono ?_; rintro e w2 ⟨v, nx, rfl, own, HN, g2⟩) | go_in)
  go_ret2
  exact ⟨v, nx, rfl, own_less own g1.size, HN.out.1, HN.out.2.1, HN.out.2.2, gb_trans g1 g2⟩
theorem od1_par (p : Pt) (f : Nat → Pt) (q : Pt) : ∀ n, od1 p f n q = parL (fun b => decide (q = padd p b)) (psL f n)
  | 0 => rfl
  | n + 1 => by
    show Bool.xor (od1 p f n q) (decide (q = padd p (f n))) = _
    rw [od1_par p f q n, psL_succ', parL_snoc]
theorem odS_par (S : List Pt) (f : Nat → Pt) (n : Nat) (q : Pt) : odS S f n q = parL (fun p => parL (fun b => decide (q = padd p b)) (psL f n)) S := by
  show parL (fun p => od1 p f n q) S = _
  exact congrArg (fun F => parL F S) (funext fun p => od1_par p f q n)
theorem adL_ps {f : Nat → Pt} : ∀ {n : Nat}, (∀ i j, i < j → j < n → f i ≠ f j) → adL f n = psL f n
  | 0, _ => rfl
  | n + 1, hd => by
    have ih := adL_ps (f := f) (n := n) (fun i j hij hj => hd i j hij (by omega))
    rw [psL_succ', ← ih]
    show adp (adL f n) (f n) = _
    unfold adp
    rw [if_neg (fun hm => by
      obtain ⟨i, hi, e⟩ := (mem_adL f (f n) n).1 hm
      exact hd i n hi (by omega) e.symm)]
theorem mulL_len (A B : List Pt) : (mulL A B).length = A.length * B.length := by
  unfold mulL
  induction A with
  | nil => simp
  | cons a A ih => rw [List.flatMap_cons, List.length_append, ih, List.length_map, List.length_cons, Nat.succ_mul, Nat.add_comm]
theorem timesL (s1 : Option Addr) (c1 : Nat) (D : List Pt) (hD : Of D) (s2 : Option Addr) (c2 : Nat) (E : List Pt) (hE : Of E) (hb : ∀ p, p ∈ D ∨ p ∈ E → (-1000 ≤ p.1 ∧ p.1 ≤ 1000) ∧ (-1000 ≤ p.2 ∧ p.2 ≤ 1000)) (w : World) (H1 : Pl w s1 D.length (fun k => D.getD k (0, 0))) (H2 : Pl w s2 E.length (fun k => E.getD k (0, 0))) :
    Calls Tryz.prog 17 #[.slice s1 D.length c1, .slice s2 E.length c2] w fun e w' => ∃ (v : Value) (T : List Pt), e = .returned (.tuple #[v, .int .i64 0]) ∧ w'.ownsRow w.heap.size 42 2 v T.length (fl (srt T)) ∧ T.Nodup ∧ T.length ≤ D.length * E.length ∧ (∀ p ∈ T, (-2000 ≤ p.1 ∧ p.1 ≤ 2000) ∧ (-2000 ≤ p.2 ∧ p.2 ≤ 2000)) ∧ Eqv id T (mulL D E) ∧ w.grownBy w' none := by
  have l1 := hD.le
  have l2 := hE.le
  refine (timesY s1 s2 D.length c1 E.length c2 (fun k => D.getD k (0, 0)) (fun k => E.getD k (0, 0)) (by omega) (by omega) w H1 H2 hD.ck hE.ck).mono ?_
  rintro e w' ⟨hg, T, ⟨hTn, hT⟩, _, hh⟩
  have hps : adL (fun k => D.getD k (0, 0)) D.length = D := by rw [adL_ps (getD_ne hD.nd), psL_self]
  have hT' : ∀ q, decide (q ∈ T) = parL (fun p => parL (fun b => decide (q = padd p b)) E) D := fun q => by
    rw [hT q, hps, odS_par, psL_self]
  have hm : ∀ q ∈ T, ∃ p ∈ D, ∃ b ∈ E, q = padd p b := fun q hq => by
    have h1 := hT q
    rw [decide_eq_true hq, hps] at h1
    obtain ⟨p, hp, k, hk, e⟩ := odS_ne h1.symm
    exact ⟨p, hp, _, getD_mem E k hk, e⟩
  have hbT : ∀ p ∈ T, (-2000 ≤ p.1 ∧ p.1 ≤ 2000) ∧ (-2000 ≤ p.2 ∧ p.2 ≤ 2000) := fun q hq => by
    obtain ⟨p, hp, b, hb', e⟩ := hm q hq
    have := hb p (.inl hp)
    have := hb b (.inr hb')
    rw [e]
    unfold padd
    simp only
    omega
  have hlT : T.length ≤ D.length * E.length := by
    rw [← mulL_len]
    refine len_sub T _ hTn (fun q hq => ?_)
    obtain ⟨p, hp, b, hb', e⟩ := hm q hq
    unfold mulL
    exact List.mem_flatMap.2 ⟨p, hp, List.mem_map.2 ⟨b, hb', e.symm⟩⟩
  have hEq : Eqv id T (mulL D E) := fun q => by
    rw [cnt2_fix (C := id) hTn (fun p _ => rfl), hT' q]
    unfold cnt2
    rw [parL_mul]
    exact parL_congr fun p _ => parL_congr fun b _ => by rw [decide_eq_decide]; exact eq_comm
  have hls : lsW 1099511627776 (srt T) = true := by
    unfold lsW
    rw [alW_is]
    intro k hk
    have := hbT _ ((srt_perm T).mem_iff.1 (getD_mem (srt T) k hk))
    rw [inW_is, inW_is]
    omega
  rcases hh with ⟨h1, _⟩ | ⟨_, g, cap, he, own⟩
  · rw [hls] at h1; cases h1
  · exact ⟨_, T, he, own, hTn, hlT, hbT, hEq, hg⟩
end Ln
end Go.Proofs.YthgoillhjajanaaGreat
namespace Go.Proofs.YthgoillhjajanaaGreat
open Go.RowKit
set_option linter.unusedVariables false
set_option linter.unusedSimpArgs false
set_option maxRecDepth 100000

namespace Ln
theorem up_val (a n : Int) (h : 0 < n) : Int.tmod (Int.tmod a n + n) n = a % n := by
  have h5 : -n < Int.tmod a n ∧ Int.tmod a n < n := ⟨Int.lt_tmod_of_pos a (by omega), Int.tmod_lt_of_pos a (by omega)⟩
  have h6 : Int.tmod (Int.tmod a n + n) n = (Int.tmod a n + n) % n := Int.tmod_eq_emod_of_nonneg (by omega)
  have h8 := Int.mul_tdiv_add_tmod a n
  have h9 : Int.tmod a n = a + n * -(a.tdiv n) := by rw [Int.mul_neg]; omega
  rw [h6, Int.add_emod_right, h9, Int.add_mul_emod_self_left]
theorem up_bd (a n : Int) (h : 0 < n) : 0 ≤ a % n ∧ a % n < n := ⟨Int.emod_nonneg a (by omega), Int.emod_lt_of_pos a h⟩
theorem upG (a n : Int) (h : 0 < n) (hn : n ≤ 1125899906842624) (w : World) : Calls Tryz.prog 12 #[.int .i64 a, .int .i64 n] w fun e w' => e = .returned (.int .i64 (a % n)) ∧ w' = w := by
  have hv := up_val a n h
  have h5 : -n < Int.tmod a n ∧ Int.tmod a n < n := ⟨Int.lt_tmod_of_pos a (by omega), Int.tmod_lt_of_pos a (by omega)⟩
  have hb := up_bd a n h
  have hn0 : ¬ n = 0 := by omega
  obtain ⟨m, hm⟩ : ∃ m, Int.tmod a n = m := ⟨_, rfl⟩
  obtain ⟨u, hu⟩ : ∃ u, a % n = u := ⟨_, rfl⟩
  rw [hm, hu] at hv
  rw [hm] at h5
  rw [hu] at hb ⊢
  clear hu
  have w1 : IntKind.i64.wrap m = m := by rw [IntKind.wrap_i64]; omega
  have w2 : IntKind.i64.wrap (m + n) = m + n := by rw [IntKind.wrap_i64]; omega
  go_enter Tryz.func12, Tryz.ntmps12
  go_wp2
  go_ret
  exact ⟨rfl, rfl⟩
theorem region_cut {c : Code} {P : Program} {K : Act → World → Prop} {Q : Exit → Act → World → Prop} {a : Act} {w : World} (X : Act → World → Prop) (h : c.wp P (Exit.then X (fun _ _ _ => False)) a w) (hX : ∀ a w, X a w → K a w) : c.wp P (Exit.then K Q) a w := by
  refine Code.wp_mono ?_ h
  intro e a w he
  cases e <;> first | exact hX _ _ he | exact he.elim
theorem bo5x {w : World} {g : Nat} {t : TypeId} {x0 x1 x2 x3 x4 u0 u1 u2 u3 u4 : Value} (h : Bo w g t #[x0, x1, x2, x3, x4]) : Bo (((((w.setCell ⟨g, 0, none⟩ u0).setCell ⟨g, 1, none⟩ u1).setCell ⟨g, 2, none⟩ u2).setCell ⟨g, 3, none⟩ u3).setCell ⟨g, 4, none⟩ u4) g t #[u0, u1, u2, u3, u4] := by simpa using ((((h.set 0 u0).set 1 u1).set 2 u2).set 3 u3).set 4 u4
theorem gb5x {w w' : World} (h : w.grownBy w' none) {b : Nat} (hb : w.heap.size ≤ b) {u0 u1 u2 u3 u4 : Value} : w.grownBy (((((w'.setCell ⟨b, 0, none⟩ u0).setCell ⟨b, 1, none⟩ u1).setCell ⟨b, 2, none⟩ u2).setCell ⟨b, 3, none⟩ u3).setCell ⟨b, 4, none⟩ u4) none := gb_new (gb_new (gb_new (gb_new (gb_new h hb _) hb _) hb _) hb _) hb _
theorem ts_plain {x y : Int} (hx : 1 ≤ x ∧ x ≤ 1024) (hy : 1 ≤ y ∧ y ≤ 1024) : Ts x y 0 0 := by
  refine ⟨?_, hx, hy, by omega⟩
  unfold Tp.chk
  rw [if_neg (by omega), if_neg (by omega), if_neg (by omega), if_neg (by omega), if_pos rfl, if_pos rfl]
theorem ts_turn {x y t z : Int} (hx : 1 ≤ x ∧ x ≤ 1024) (hy : 1 ≤ y ∧ y ≤ 1024) (ht : t = 1 ∨ t = 2) (hz : 0 < z ∧ z < (if t = 2 then y else x)) : Ts x y t z := by
  refine ⟨?_, hx, hy, by omega⟩
  unfold Tp.chk
  have hs : Tp.sd x y t = if t = 2 then y else x := rfl
  rw [if_neg (by omega), if_neg (by omega), if_neg (by omega), if_neg (by omega), if_neg (by omega), hs]
  generalize (if t = 2 then y else x) = sz at hz ⊢
  rw [if_neg (by omega), if_neg (by omega)]
set_option maxHeartbeats 4000000 in
theorem topoC (a b c d : Int) (w : World) : Calls Tryz.prog 8 #[.agg #[.int .i64 a, .int .i64 b, .int .i64 c, .int .i64 d]] w fun e w' => ∃ x y t z : Int, e = .returned (.agg #[.int .u8 2, .int .i64 x, .int .i64 y, .int .u8 t, .int .i64 z]) ∧ Ts x y t z ∧ (x ≤ 12 ∧ y ≤ 12) ∧ w.grownBy w' none := by
  obtain ⟨W1, hW1, sz1, g1, B1⟩ := boxn w #[.int .i64 a, .int .i64 b, .int .i64 c, .int .i64 d] 23
  obtain ⟨W2, hW2, sz2, g2, B2⟩ := boxn W1 #[.int .u8 0, .int .i64 0, .int .i64 0, .int .u8 0, .int .i64 0] 27
  have d1 := up_bd a 12 (by omega)
  have d2 := up_bd b 12 (by omega)
  have d3 := up_bd c 3 (by omega)
  have k1 := fun w => upG a 12 (by omega) (by omega) w
  have k2 := fun w => upG b 12 (by omega) (by omega) w
  have k3 := fun w => upG c 3 (by omega) (by omega) w
  obtain ⟨p, hp⟩ : ∃ p, a % 12 = p := ⟨_, rfl⟩
  obtain ⟨q, hq⟩ : ∃ p, b % 12 = p := ⟨_, rfl⟩
  obtain ⟨t, ht⟩ : ∃ p, c % 3 = p := ⟨_, rfl⟩
  rw [hp] at d1 k1
  rw [hq] at d2 k2
  rw [ht] at d3 k3
  clear hp hq ht
  have lw : w.heap.size ≤ W1.heap.size := g1.size
  have B12 := B1.kept g2 (by simp)
  have b0 := B12.cell 0 (v := .int .i64 a) rfl; have b1 := B12.cell 1 (v := .int .i64 b) rfl
  obtain ⟨W3, hW3, sz3, g3, B3⟩ := boxn W2 #[.int .u8 2, .int .i64 (1 + p), .int .i64 (1 + q), .int .u8 0, .int .i64 0] 27
  have G3 := gb_trans g1 (gb_trans g2 g3)
  have A3 := B12.kept g3 (by simp)
  have a3_0 := A3.cell 0 (v := .int .i64 a) rfl; have a3_1 := A3.cell 1 (v := .int .i64 b) rfl; have a3_2 := A3.cell 2 (v := .int .i64 c) rfl; have a3_3 := A3.cell 3 (v := .int .i64 d) rfl
  have v0 := B3.cell 0 (v := .int .u8 2) rfl; have v1 := B3.cell 1 (v := .int .i64 (1 + p)) rfl; have v2 := B3.cell 2 (v := .int .i64 (1 + q)) rfl; have v3 := B3.cell 3 (v := .int .u8 0) rfl; have v4 := B3.cell 4 (v := .int .i64 0) rfl
  have n0 := World.new_ne W2 _ b0
  have n1 := World.new_ne W2 _ b1
  have hpp : IntKind.i64.wrap (1 + p) = 1 + p := by rw [IntKind.wrap_i64]; omega
  have hqq : IntKind.i64.wrap (1 + q) = 1 + q := by rw [IntKind.wrap_i64]; omega
  go_enter Tryz.func8, Tryz.ntmps8
  go_wp2
  refine region_cut (fun a' w' => a' = { tmps := #[.agg #[.int .i64 a, .int .i64 b, .int .i64 c, .int .i64 d], .pointer (some ⟨w.heap.size, 0, none⟩), .pointer (some ⟨W1.heap.size, 0, none⟩), .pointer (some ⟨W2.heap.size, 0, none⟩), undef, undef, undef, .pointer (some ⟨w.heap.size, 0, none⟩), .int .i64 a, .int .i64 p, .int .i64 (1 + p), .pointer (some ⟨w.heap.size, 1, none⟩), .int .i64 b, .int .i64 q, .int .i64 (1 + q), .agg #[.int .u8 2, .int .i64 (1 + p), .int .i64 (1 + q), .int .u8 0, .int .i64 0], undef, undef, undef, undef, undef, undef, undef, undef, undef, undef, undef, undef, undef, undef, undef, undef, undef, undef, undef, undef, undef, undef, undef, undef, undef], defers := [] } ∧ w' = (W2.alloc (.cells #[.int .u8 2, .int .i64 (1 + p), .int .i64 (1 + q), .int .u8 0, .int .i64 0] 27)).drew) ?_ ?_
  case refine_1 =>
    clear hW3
    go_region_held2 (fun w' => w'.cell? ⟨w.heap.size, 0, none⟩ = some (.int .i64 a) ∧ w'.cell? ⟨w.heap.size, 1, none⟩ = some (.int .i64 b)) (go_keep) (first | (go_at_call 12; (fail_if_success (guard_hyp mk0)); refine (k1 _).mono ?_; rintro e w9 ⟨rfl, h9⟩; subst w9; have mk0 : True := trivial) | (go_at_call 12; guard_hyp mk0; refine (k2 _).mono ?_; rintro e w9 ⟨rfl, h9⟩; subst w9))
    all_goals exact ⟨rfl, rfl⟩
  case refine_2 =>
    rintro a' W ⟨rfl, rfl⟩
    rw [hW3]
    clear hW3 k1 k2
    have Bz := B2.kept g3 (by simp)
    have hne1 : W2.heap.size ≠ W1.heap.size := by have := B2.lt; omega
    have hne2 : W2.heap.size ≠ w.heap.size := by have := B12.lt; omega
    have lw2 : w.heap.size ≤ W2.heap.size := by have := B2.lt; omega
    have z0 := Bz.cell 0 (v := .int .u8 0) rfl; have z1 := Bz.cell 1 (v := .int .i64 0) rfl; have z2 := Bz.cell 2 (v := .int .i64 0) rfl; have z3 := Bz.cell 3 (v := .int .u8 0) rfl; have z4 := Bz.cell 4 (v := .int .i64 0) rfl
    have zf0 := Bz.frozen 0; have zf1 := Bz.frozen 1; have zf2 := Bz.frozen 2; have zf3 := Bz.frozen 3; have zf4 := Bz.frozen 4
    have vf0 := B3.frozen 0; have vf1 := B3.frozen 1; have vf2 := B3.frozen 2; have vf3 := B3.frozen 3; have vf4 := B3.frozen 4
    obtain ⟨fs, hfs⟩ := underTo
    have htc : t = 0 ∨ t = 1 ∨ t = 2 := by omega
    rcases htc with rfl | rfl | rfl
    · have HS : Hid (0 ≤ d % (1 + p)) := (up_bd d (1 + p) (by omega)).1
      have k4 := fun w => upG d (1 + p) (by omega) (by omega) w
      have hsb := up_bd d (1 + p) (by omega)
      obtain ⟨s, hs⟩ : ∃ s, d % (1 + p) = s := ⟨_, rfl⟩
      rw [hs] at k4 hsb HS
      clear hs
      have Z4 := Bz
      have G4 := G3
      obtain ⟨W5, hW5⟩ : ∃ W5, (((((W3.setCell ⟨W1.heap.size, 0, none⟩ (.int .u8 2)).setCell ⟨W1.heap.size, 1, none⟩ (.int .i64 (1 + p))).setCell ⟨W1.heap.size, 2, none⟩ (.int .i64 (1 + q))).setCell ⟨W1.heap.size, 3, none⟩ (.int .u8 0)).setCell ⟨W1.heap.size, 4, none⟩ (.int .i64 0)) = W5 := ⟨_, rfl⟩
      have B5 : Bo W5 W1.heap.size 27 #[.int .u8 2, .int .i64 (1 + p), .int .i64 (1 + q), .int .u8 0, .int .i64 0] := hW5 ▸ bo5x Z4
      have G5 : w.grownBy W5 none := hW5 ▸ gb5x G4 lw
      clear HS
      go_wp2_with (first | ((fail_if_success (guard_hyp mk1)); go_at_call 12; refine (k3 _).mono ?_; rintro e w9 ⟨rfl, h9⟩; subst w9; have mk1 : Hid (1 = 1) := rfl) | (guard_hyp mk1; go_at_call 12; refine (k4 _).mono ?_; rintro e w9 ⟨rfl, h9⟩; subst w9))
      refine ret_c1 (g := W1.heap.size) (cs := #[.int .u8 2, .int .i64 (1 + p), .int .i64 (1 + q), .int .u8 0, .int .i64 0]) rfl hfs infoTo5 rfl B5.dr rfl ?_
      exact ⟨_, _, _, _, rfl, ts_plain (by omega) (by omega), ⟨by omega, by omega⟩, gb_drew G5⟩
    · by_cases hS : 0 < d % (1 + p)
      · have HS : Hid (0 < d % (1 + p)) := hS
        clear hS
        have k4 := fun w => upG d (1 + p) (by omega) (by omega) w
        have hsb := up_bd d (1 + p) (by omega)
        obtain ⟨s, hs⟩ : ∃ s, d % (1 + p) = s := ⟨_, rfl⟩
        rw [hs] at k4 hsb HS
        clear hs
        have hsp : 0 < s := HS.out
        obtain ⟨W4, hW4⟩ : ∃ W4, (W3.setCell ⟨W2.heap.size, 3, none⟩ (.int .u8 1)).setCell ⟨W2.heap.size, 4, none⟩ (.int .i64 s) = W4 := ⟨_, rfl⟩
        have B4 : Bo W4 W2.heap.size 27 #[.int .u8 2, .int .i64 (1 + p), .int .i64 (1 + q), .int .u8 1, .int .i64 s] := hW4 ▸ (by simpa using (B3.set 3 (.int .u8 1)).set 4 (.int .i64 s))
        have Z4 : Bo W4 W1.heap.size 27 #[.int .u8 0, .int .i64 0, .int .i64 0, .int .u8 0, .int .i64 0] := hW4 ▸ Bo.set2 (Bo.set2 Bz hne1) hne1
        have G4 : w.grownBy W4 none := hW4 ▸ gb_new (gb_new G3 lw2 _) lw2 _
        have qq0 := B4.cell 0 (v := .int .u8 2) rfl; have qq1 := B4.cell 1 (v := .int .i64 (1 + p)) rfl; have qq2 := B4.cell 2 (v := .int .i64 (1 + q)) rfl; have qq3 := B4.cell 3 (v := .int .u8 1) rfl; have qq4 := B4.cell 4 (v := .int .i64 s) rfl
        have yy0 := Z4.cell 0 (v := .int .u8 0) rfl; have yy1 := Z4.cell 1 (v := .int .i64 0) rfl; have yy2 := Z4.cell 2 (v := .int .i64 0) rfl; have yy3 := Z4.cell 3 (v := .int .u8 0) rfl; have yy4 := Z4.cell 4 (v := .int .i64 0) rfl
        have yf0 := Z4.frozen 0; have yf1 := Z4.frozen 1; have yf2 := Z4.frozen 2; have yf3 := Z4.frozen 3; have yf4 := Z4.frozen 4
        obtain ⟨W5, hW5⟩ : ∃ W5, (((((W4.setCell ⟨W1.heap.size, 0, none⟩ (.int .u8 2)).setCell ⟨W1.heap.size, 1, none⟩ (.int .i64 (1 + p))).setCell ⟨W1.heap.size, 2, none⟩ (.int .i64 (1 + q))).setCell ⟨W1.heap.size, 3, none⟩ (.int .u8 1)).setCell ⟨W1.heap.size, 4, none⟩ (.int .i64 s)) = W5 := ⟨_, rfl⟩
        have B5 : Bo W5 W1.heap.size 27 #[.int .u8 2, .int .i64 (1 + p), .int .i64 (1 + q), .int .u8 1, .int .i64 s] := hW5 ▸ bo5x Z4
        have G5 : w.grownBy W5 none := hW5 ▸ gb5x G4 lw
        clear HS
        go_wp2_with (first | ((fail_if_success (guard_hyp mk1)); go_at_call 12; refine (k3 _).mono ?_; rintro e w9 ⟨rfl, h9⟩; subst w9; have mk1 : Hid (1 = 1) := rfl) | (guard_hyp mk1; go_at_call 12; refine (k4 _).mono ?_; rintro e w9 ⟨rfl, h9⟩; subst w9))
        refine ret_c1 (g := W1.heap.size) (cs := #[.int .u8 2, .int .i64 (1 + p), .int .i64 (1 + q), .int .u8 1, .int .i64 s]) rfl hfs infoTo5 rfl B5.dr rfl ?_
        exact ⟨_, _, _, _, rfl, ts_turn (by omega) (by omega) (by omega) (by show 0 < s ∧ s < _; simp; omega), ⟨by omega, by omega⟩, gb_drew G5⟩
      · have HS : Hid (d % (1 + p) ≤ 0 ∧ 0 ≤ d % (1 + p)) := ⟨by omega, (up_bd d (1 + p) (by omega)).1⟩
        clear hS
        have k4 := fun w => upG d (1 + p) (by omega) (by omega) w
        have hsb := up_bd d (1 + p) (by omega)
        obtain ⟨s, hs⟩ : ∃ s, d % (1 + p) = s := ⟨_, rfl⟩
        rw [hs] at k4 hsb HS
        clear hs
        have hs0 : s = 0 := by have := HS.out; omega
        subst hs0
        have hsp : decide ((0 : Int) < 0) = false := rfl
        have Z4 := Bz
        have G4 := G3
        obtain ⟨W5, hW5⟩ : ∃ W5, (((((W3.setCell ⟨W1.heap.size, 0, none⟩ (.int .u8 2)).setCell ⟨W1.heap.size, 1, none⟩ (.int .i64 (1 + p))).setCell ⟨W1.heap.size, 2, none⟩ (.int .i64 (1 + q))).setCell ⟨W1.heap.size, 3, none⟩ (.int .u8 0)).setCell ⟨W1.heap.size, 4, none⟩ (.int .i64 0)) = W5 := ⟨_, rfl⟩
        have B5 : Bo W5 W1.heap.size 27 #[.int .u8 2, .int .i64 (1 + p), .int .i64 (1 + q), .int .u8 0, .int .i64 0] := hW5 ▸ bo5x Z4
        have G5 : w.grownBy W5 none := hW5 ▸ gb5x G4 lw
        clear HS
        go_wp2_with (first | ((fail_if_success (guard_hyp mk1)); go_at_call 12; refine (k3 _).mono ?_; rintro e w9 ⟨rfl, h9⟩; subst w9; have mk1 : Hid (1 = 1) := rfl) | (guard_hyp mk1; go_at_call 12; refine (k4 _).mono ?_; rintro e w9 ⟨rfl, h9⟩; subst w9))
        refine ret_c1 (g := W1.heap.size) (cs := #[.int .u8 2, .int .i64 (1 + p), .int .i64 (1 + q), .int .u8 0, .int .i64 0]) rfl hfs infoTo5 rfl B5.dr rfl ?_
        exact ⟨_, _, _, _, rfl, ts_plain (by omega) (by omega), ⟨by omega, by omega⟩, gb_drew G5⟩
    · by_cases hS : 0 < d % (1 + q)
      · have HS : Hid (0 < d % (1 + q)) := hS
        clear hS
        have k4 := fun w => upG d (1 + q) (by omega) (by omega) w
        have hsb := up_bd d (1 + q) (by omega)
        obtain ⟨s, hs⟩ : ∃ s, d % (1 + q) = s := ⟨_, rfl⟩
        rw [hs] at k4 hsb HS
        clear hs
        have hsp : 0 < s := HS.out
        obtain ⟨W4, hW4⟩ : ∃ W4, (W3.setCell ⟨W2.heap.size, 3, none⟩ (.int .u8 2)).setCell ⟨W2.heap.size, 4, none⟩ (.int .i64 s) = W4 := ⟨_, rfl⟩
        have B4 : Bo W4 W2.heap.size 27 #[.int .u8 2, .int .i64 (1 + p), .int .i64 (1 + q), .int .u8 2, .int .i64 s] := hW4 ▸ (by simpa using (B3.set 3 (.int .u8 2)).set 4 (.int .i64 s))
        have Z4 : Bo W4 W1.heap.size 27 #[.int .u8 0, .int .i64 0, .int .i64 0, .int .u8 0, .int .i64 0] := hW4 ▸ Bo.set2 (Bo.set2 Bz hne1) hne1
        have G4 : w.grownBy W4 none := hW4 ▸ gb_new (gb_new G3 lw2 _) lw2 _
        have qq0 := B4.cell 0 (v := .int .u8 2) rfl; have qq1 := B4.cell 1 (v := .int .i64 (1 + p)) rfl; have qq2 := B4.cell 2 (v := .int .i64 (1 + q)) rfl; have qq3 := B4.cell 3 (v := .int .u8 2) rfl; have qq4 := B4.cell 4 (v := .int .i64 s) rfl
        have yy0 := Z4.cell 0 (v := .int .u8 0) rfl; have yy1 := Z4.cell 1 (v := .int .i64 0) rfl; have yy2 := Z4.cell 2 (v := .int .i64 0) rfl; have yy3 := Z4.cell 3 (v := .int .u8 0) rfl; have yy4 := Z4.cell 4 (v := .int .i64 0) rfl
        have yf0 := Z4.frozen 0; have yf1 := Z4.frozen 1; have yf2 := Z4.frozen 2; have yf3 := Z4.frozen 3; have yf4 := Z4.frozen 4
        obtain ⟨W5, hW5⟩ : ∃ W5, (((((W4.setCell ⟨W1.heap.size, 0, none⟩ (.int .u8 2)).setCell ⟨W1.heap.size, 1, none⟩ (.int .i64 (1 + p))).setCell ⟨W1.heap.size, 2, none⟩ (.int .i64 (1 + q))).setCell ⟨W1.heap.size, 3, none⟩ (.int .u8 2)).setCell ⟨W1.heap.size, 4, none⟩ (.int .i64 s)) = W5 := ⟨_, rfl⟩
        have B5 : Bo W5 W1.heap.size 27 #[.int .u8 2, .int .i64 (1 + p), .int .i64 (1 + q), .int .u8 2, .int .i64 s] := hW5 ▸ bo5x Z4
        have G5 : w.grownBy W5 none := hW5 ▸ gb5x G4 lw
        clear HS
        go_wp2_with (first | ((fail_if_success (guard_hyp mk1)); go_at_call 12; refine (k3 _).mono ?_; rintro e w9 ⟨rfl, h9⟩; subst w9; have mk1 : Hid (1 = 1) := rfl) | (guard_hyp mk1; go_at_call 12; refine (k4 _).mono ?_; rintro e w9 ⟨rfl, h9⟩; subst w9))
        refine ret_c1 (g := W1.heap.size) (cs := #[.int .u8 2, .int .i64 (1 + p), .int .i64 (1 + q), .int .u8 2, .int .i64 s]) rfl hfs infoTo5 rfl B5.dr rfl ?_
        exact ⟨_, _, _, _, rfl, ts_turn (by omega) (by omega) (by omega) (by show 0 < s ∧ s < _; simp; omega), ⟨by omega, by omega⟩, gb_drew G5⟩
      · have HS : Hid (d % (1 + q) ≤ 0 ∧ 0 ≤ d % (1 + q)) := ⟨by omega, (up_bd d (1 + q) (by omega)).1⟩
        clear hS
        have k4 := fun w => upG d (1 + q) (by omega) (by omega) w
        have hsb := up_bd d (1 + q) (by omega)
        obtain ⟨s, hs⟩ : ∃ s, d % (1 + q) = s := ⟨_, rfl⟩
        rw [hs] at k4 hsb HS
        clear hs
        have hs0 : s = 0 := by have := HS.out; omega
        subst hs0
        have hsp : decide ((0 : Int) < 0) = false := rfl
        have Z4 := Bz
        have G4 := G3
        obtain ⟨W5, hW5⟩ : ∃ W5, (((((W3.setCell ⟨W1.heap.size, 0, none⟩ (.int .u8 2)).setCell ⟨W1.heap.size, 1, none⟩ (.int .i64 (1 + p))).setCell ⟨W1.heap.size, 2, none⟩ (.int .i64 (1 + q))).setCell ⟨W1.heap.size, 3, none⟩ (.int .u8 0)).setCell ⟨W1.heap.size, 4, none⟩ (.int .i64 0)) = W5 := ⟨_, rfl⟩
        have B5 : Bo W5 W1.heap.size 27 #[.int .u8 2, .int .i64 (1 + p), .int .i64 (1 + q), .int .u8 0, .int .i64 0] := hW5 ▸ bo5x Z4
        have G5 : w.grownBy W5 none := hW5 ▸ gb5x G4 lw
        clear HS
        go_wp2_with (first | ((fail_if_success (guard_hyp mk1)); go_at_call 12; refine (k3 _).mono ?_; rintro e w9 ⟨rfl, h9⟩; subst w9; have mk1 : Hid (1 = 1) := rfl) | (guard_hyp mk1; go_at_call 12; refine (k4 _).mono ?_; rintro e w9 ⟨rfl, h9⟩; subst w9))
        refine ret_c1 (g := W1.heap.size) (cs := #[.int .u8 2, .int .i64 (1 + p), .int .i64 (1 + q), .int .u8 0, .int .i64 0]) rfl hfs infoTo5 rfl B5.dr rfl ?_
        exact ⟨_, _, _, _, rfl, ts_plain (by omega) (by omega), ⟨by omega, by omega⟩, gb_drew G5⟩
end Ln
end Go.Proofs.YthgoillhjajanaaGreat
