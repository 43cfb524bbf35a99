/- The document's next. -/
import Derived.Test.YtbmpiddjakdebaaGreatNl
import Derived.Test.YtbmpiddjakdebaaGreatNq
namespace Go.Proofs.YtbmpiddjakdebaaGreat
open Go.RowKit
set_option linter.unusedVariables false
set_option linter.unusedSimpArgs false
set_option maxRecDepth 100000

namespace Ln
def bR (F : Nat → Bool) (c : Nat) : Value := .bool (F c)
theorem underBS : Tryz.prog.underlying 55 = some (.slice 4) := by kernel_rfl
theorem infoB : (Tryz.prog.info? 4).map (fun i => (i.zero, i.size, i.bytes)) = some (some (.bool false), 1, 1) := by kernel_rfl
theorem makeBN (w : World) (M : Nat) (hM : M ≤ 1048576) : (Instr.makeSlice 55 (.int .i64 M) (.int .i64 M)).run Tryz.prog w = .ok (.slice (some ⟨w.heap.size, 0, none⟩) M M) (w.alloc (.cells (madeCells #[.bool false] M) 4)) := by
  obtain ⟨i, hi, hzz⟩ := Option.map_eq_some_iff.1 infoB
  simp only [Prod.mk.injEq] at hzz
  obtain ⟨hz, hs, hb⟩ := hzz
  have hr := run_make (P := Tryz.prog) w 55 4 i _ underBS hi hz .i64 .i64 M M (by omega) (Int.le_refl _) (by rw [hb]; omega) (by omega)
  simp only [hs] at hr
  simpa [Value.cells] using hr
theorem madeBN (w : World) (M : Nat) : (w.alloc (.cells (madeCells #[.bool false] M) 4)).rowIs w.heap.size 4 M (bR fun _ => false) := by
  refine ⟨_, heap_alloc_new _ _, by rw [size_madeCells], fun i hi => ?_⟩
  simp [madeCells, hi, bR, Nat.mod_one]
theorem Bs.row {w : World} {g M : Nat} {F : Nat → Bool} (h : w.rowIs g 4 M (bR F)) : Bs w (some ⟨g, 0, none⟩) M F := fun i hi => ⟨g, 0, rfl, by rw [Nat.zero_add]; exact h.cell hi⟩
/-- A torus of the document, and what is asked of it. -/
structure Td (x y t z : Int) (M : Nat) : Prop where
  ok : Tp.chk 2 x y t z = 0
  hx : 1 ≤ x ∧ x ≤ 65536
  hy : 1 ≤ y ∧ y ≤ 65536
  ht : 0 ≤ t
  hM : M = (x * y).toNat
  hM2 : M ≤ 1048576
theorem Td.tn {x y t z : Int} {M : Nat} (h : Td x y t z M) : t = 0 ∨ t = 1 ∨ t = 2 := by
  have := (Tp.ok_of h.ok).turn
  have := h.ht
  omega
theorem mul_lim {q z : Int} (hq : -2199023321088 ≤ q ∧ q ≤ 2199023321088) (hz : -65536 ≤ z ∧ z ≤ 65536) : -1152921504606846976 ≤ q * z ∧ q * z ≤ 1152921504606846976 := by
  have h1 := Int.natAbs_mul q z
  have h2 : q.natAbs * z.natAbs ≤ 2199023321088 * 65536 := Nat.mul_le_mul (by omega) (by omega)
  omega
theorem div_lim {a n : Int} (ha : -2199023255552 ≤ a ∧ a ≤ 2199023288320) (hn : 1 ≤ n) : -2199023321088 ≤ a / n ∧ a / n ≤ 2199023321088 := by
  rw [← divZ_pos hn]
  have := Nm.divZ_bd (n := n) ha.1 ha.2 (by omega) (by omega)
  omega
theorem Td.pl {x y t z : Int} {M : Nat} (h : Td x y t z M) {a b : Int} (ha : -2199023255552 ≤ a ∧ a ≤ 2199023255552) (hb : -2199023255552 ≤ b ∧ b ≤ 2199023255552) : PlOk x y t z a b := by
  have hx := h.hx
  have hy := h.hy
  have ok := Tp.ok_of h.ok
  have hz : -65536 ≤ z ∧ z ≤ 65536 := by
    rcases h.tn with e | e | e
    · have := ok.none e; omega
    · have := ok.near (by omega); unfold Tp.sd at this; split at this <;> omega
    · have := ok.near (by omega); unfold Tp.sd at this; split at this <;> omega
  exact ⟨hx, hy, ha, hb, h.tn, mul_lim (div_lim (by omega) hy.1) hz, mul_lim (div_lim (by omega) hx.1) hz⟩
theorem Td.at {x y t z : Int} {M : Nat} (h : Td x y t z M) {n : Nat} (hn : n < M) : (-65536 ≤ (atP x y n).1 ∧ (atP x y n).1 ≤ 65536) ∧ (-65536 ≤ (atP x y n).2 ∧ (atP x y n).2 ≤ 65536) := by
  have hx := h.hx
  have hy := h.hy
  have := atP_in hx.1 hy.1 (by rw [← h.hM]; exact hn)
  have ex : To.fi x = -(x / 2) := rfl
  have ey : To.fi y = -(y / 2) := rfl
  omega
theorem placeN {x y t z : Int} {M : Nat} (h : Td x y t z M) (p : Pt) (ha : -2199023255552 ≤ p.1 ∧ p.1 ≤ 2199023255552) (hb : -2199023255552 ≤ p.2 ∧ p.2 ≤ 2199023255552) (w : World) : Calls Tryz.prog 25 #[.agg #[.int .u8 2, .int .i64 x, .int .i64 y, .int .u8 t, .int .i64 z], .int .i64 p.1, .int .i64 p.2] w fun e w' => e = .returned (.int .i64 (numP x y t z p : Nat)) ∧ w.grownBy w' none := by
  refine (placeC 2 x y t z p.1 p.2 (h.pl ha hb) w).mono ?_
  rintro e w' ⟨he, hw⟩
  have hbd := plN_bd (t := t) (z := z) (a := p.1) (b := p.2) h.hx.1 h.hy.1
  refine ⟨by rw [he]; unfold numP; rw [Int.toNat_of_nonneg hbd.1], hw⟩
/-- What next has reckoned so far. -/
def nxF (x y t z : Int) (F : Nat → Bool) (D : List Pt) (n i c : Nat) : Bool := if c < n then parL (fun d => F (numP x y t z (padd (atP x y c) d))) D else if c = n then parL (fun d => F (numP x y t z (padd (atP x y c) d))) (D.take i) else false
theorem nxF_first (x y t z : Int) (F : Nat → Bool) (D : List Pt) (c : Nat) : nxF x y t z F D 0 0 c = false := by
  unfold nxF
  rw [if_neg (by omega)]
  split
  · rw [List.take_zero]; rfl
  · rfl
theorem nxF_next (x y t z : Int) (F : Nat → Bool) (D : List Pt) (n c : Nat) : nxF x y t z F D n D.length c = nxF x y t z F D (n + 1) 0 c := by
  unfold nxF
  rw [List.take_length, List.take_zero]
  by_cases h1 : c < n
  · rw [if_pos h1, if_pos (by omega)]
  · rw [if_neg h1]
    by_cases h2 : c = n
    · rw [if_pos h2, if_pos (by omega)]
    · rw [if_neg h2, if_neg (by omega)]
      split
      · rfl
      · rfl
theorem nxF_step (x y t z : Int) (F : Nat → Bool) (D : List Pt) (n i c : Nat) (hi : i < D.length) : nxF x y t z F D n (i + 1) c = if c = n then Bool.xor (nxF x y t z F D n i n) (F (numP x y t z (padd (atP x y n) (D.getD i (0, 0))))) else nxF x y t z F D n i c := by
  unfold nxF
  by_cases h1 : c < n
  · rw [if_pos h1, if_pos h1, if_neg (by omega)]
  · rw [if_neg h1, if_neg h1]
    by_cases h2 : c = n
    · subst h2
      rw [if_pos rfl, if_pos rfl, if_neg h1, if_pos rfl, take_getD' D i hi, parL_snoc]
    · rw [if_neg h2, if_neg h2, if_neg h2]
set_option maxHeartbeats 2000000 in
theorem nextD {x y t z : Int} {M : Nat} (T : Td x y t z M) (s1 : Option Addr) (c1 : Nat) (D : List Pt) (hl : D.length ≤ 64) (hD : ∀ p ∈ D, (-1099511627776 ≤ p.1 ∧ p.1 ≤ 1099511627776) ∧ (-1099511627776 ≤ p.2 ∧ p.2 ≤ 1099511627776)) (sp : Option Addr) (c : Nat) (F : Nat → Bool) (w : World) (H1 : Pl w s1 D.length (fun k => D.getD k (0, 0))) (HB : Bs w sp M F) :
    Calls Tryz.prog 47 #[.agg #[.int .u8 2, .int .i64 x, .int .i64 y, .int .u8 t, .int .i64 z], .slice s1 D.length c1, .slice sp M c] w fun e w' => ∃ g, e = .returned (.slice (some ⟨g, 0, none⟩) M M) ∧ w'.rowIs g 4 M (bR fun m => parL (fun d => F (numP x y t z (padd (atP x y m) d))) D) ∧ w.heap.size ≤ g ∧ w.grownBy w' none := by
  obtain ⟨W1, hW1, sz1, g1, B1⟩ := boxn w #[.int .u8 2, .int .i64 x, .int .i64 y, .int .u8 t, .int .i64 z] 23
  have hM2 := T.hM2
  have hmk := makeBN W1 M hM2
  have hm0 := madeBN W1 M
  obtain ⟨W2, hW2⟩ : ∃ W2, W1.alloc (.cells (madeCells #[.bool false] M) 4) = W2 := ⟨_, rfl⟩
  have g2 : W1.grownBy W2 none := (by rw [← hW2]; exact World.grownBy_alloc _ _ _)
  rw [hW2] at hmk hm0
  clear hW2
  have hr0 : W2.rowIs W1.heap.size 4 M (bR (nxF x y t z F D 0 0)) := hm0.congr (fun c hc => by show Value.bool false = Value.bool _; rw [nxF_first])
  clear hm0
  have HT : Hid (Td x y t z M) := T
  obtain ⟨nD, hnD⟩ : ∃ n, D.length = n := ⟨_, rfl⟩
  have HND : Hid (D.length = nD) := hnD
  rw [hnD] at H1 hl ⊢
  clear hnD T
  go_enter Tryz.func47, Tryz.ntmps47
  go_wp2
  have Bw := B1.kept g2 (by simp)
  have G2 := gb_trans g1 g2
  have s1w := g1.size
  have hne2 : W1.heap.size ≠ w.heap.size := by have := B1.lt; omega
  clear hmk
  go_loopw [8] (fun u wr => ∃ n : Nat, n ≤ M ∧ u = .int .i64 n ∧ wr.rowIs W1.heap.size 4 M (bR (nxF x y t z F D n 0)) ∧ Bo wr w.heap.size 23 #[.int .u8 2, .int .i64 x, .int .i64 y, .int .u8 t, .int .i64 z] ∧ w.grownBy wr none) (fun u _ => M - (intOf u).toNat)
  case atStart => exact ⟨0, Nat.zero_le _, rfl, hr0, Bw, G2⟩
  case round =>
    clear hr0
    obtain ⟨n, hn, rfl, hrow, Bn, gn⟩ := hrel
    have b0 := Bn.cell 0 (v := .int .u8 2) rfl; have b1 := Bn.cell 1 (v := .int .i64 x) rfl; have b2 := Bn.cell 2 (v := .int .i64 y) rfl; have b3 := Bn.cell 3 (v := .int .u8 t) rfl; have b4 := Bn.cell 4 (v := .int .i64 z) rfl
    by_cases hlt : n < M
    · have hlt' : (n : Int) < (M : Int) := by omega
      have kA := fun w1 => atC 2 x y t z n HT.out.hx HT.out.hy (by omega) w1
      have hap := HT.out.at hlt
      obtain ⟨wo, hwo⟩ : ∃ W, W = wr := ⟨_, rfl⟩
      subst hwo
      obtain ⟨P, hP⟩ : ∃ P, atP x y n = P := ⟨_, rfl⟩
      have HPn : Hid (atP x y n = P) := hP
      rw [hP] at kA hap
      clear hP
      obtain ⟨pa, pb⟩ := P
      simp only at kA hap
      go_wp2_with (first | (go_at_call 46; refine (kA _).mono ?_; rintro e w3 ⟨rfl, g3⟩; clear kA; obtain ⟨W4, hW4, sz4, g4, B4⟩ := boxn w3 #[.int .i64 pa, .int .i64 pb] 40) | go_in)
      have B4' := B4
      have Bw4 := (Bn.kept g3 (by simp)).kept g4 (by simp)
      have hrow4 := rowIs_kept (rowIs_kept hrow g3 (by simp)) g4 (by simp)
      have G4 := gb_trans gn (gb_trans g3 g4)
      have s3 : w.heap.size ≤ w3.heap.size := (gb_trans gn g3).size
      have hne : W1.heap.size ≠ w3.heap.size := by
        have h5 := hrow.lt
        have h6 := g3.size
        omega
      clear hrow Bn hW4 b0 b1 b2 b3 b4
      go_loopw [10] (fun u wr => ∃ i : Nat, i ≤ nD ∧ u = .int .i64 i ∧ wr.rowIs W1.heap.size 4 M (bR (nxF x y t z F D n i)) ∧ Bo wr w3.heap.size 40 #[.int .i64 pa, .int .i64 pb] ∧ Bo wr w.heap.size 23 #[.int .u8 2, .int .i64 x, .int .i64 y, .int .u8 t, .int .i64 z] ∧ w.grownBy wr none) (fun u _ => nD - (intOf u).toNat)
      case atStart => exact ⟨0, Nat.zero_le _, rfl, hrow4, B4', Bw4, G4⟩
      case round =>
        clear hrow4 B4' B4 Bw4
        obtain ⟨i, hi, rfl, hrow, Bp, Bt, gi⟩ := hrel
        by_cases hil : i < nD
        · have hil' : (i : Int) < (nD : Int) := by omega
          have b0 := Bt.cell 0 (v := .int .u8 2) rfl; have b1 := Bt.cell 1 (v := .int .i64 x) rfl; have b2 := Bt.cell 2 (v := .int .i64 y) rfl; have b3 := Bt.cell 3 (v := .int .u8 t) rfl; have b4 := Bt.cell 4 (v := .int .i64 z) rfl
          have p0 := Bp.cell 0 (v := .int .i64 pa) rfl
          have p1 := Bp.cell 1 (v := .int .i64 pb) rfl
          have HDb : Hid (∀ p ∈ D, (-1099511627776 ≤ p.1 ∧ p.1 ≤ 1099511627776) ∧ (-1099511627776 ≤ p.2 ∧ p.2 ≤ 1099511627776)) := hD
          have hdb := hD _ (getD_mem D i (by rw [HND.out]; exact hil))
          obtain ⟨q, o, rfl, d0, d1⟩ := (H1.kept gi (by simp)) i hil
          simp only at d0 d1
          have HST : Hid (∀ c, nxF x y t z F D n (i + 1) c = if c = n then Bool.xor (nxF x y t z F D n i n) (F (numP x y t z (padd (atP x y n) (D.getD i (0, 0))))) else nxF x y t z F D n i c) := fun c => nxF_step x y t z F D n i c (by rw [HND.out]; exact hil)
          obtain ⟨E, hE⟩ : ∃ E, D.getD i (0, 0) = E := ⟨_, rfl⟩
          rw [hE] at d0 d1 hdb HST
          clear hE
          obtain ⟨e0, e1⟩ := E
          simp only at d0 d1 hdb
          rw [HPn.out] at HST
          have kP := fun w1 => placeN HT.out (padd (pa, pb) (e0, e1)) (by unfold padd; simp only; omega) (by unfold padd; simp only; omega) w1
          have hnum := numP_lt (t := t) (z := z) HT.out.hx.1 HT.out.hy.1 (padd (pa, pb) (e0, e1))
          rw [← HT.out.hM] at hnum
          have hFq := (HB.kept gi (by simp)) _ hnum
          obtain ⟨Q, hQ⟩ : ∃ Q, numP x y t z (padd (pa, pb) (e0, e1)) = Q := ⟨_, rfl⟩
          rw [hQ] at kP hnum hFq HST
          simp only [padd] at kP
          clear hQ
          have wa : IntKind.i64.wrap (pa + e0) = pa + e0 := by rw [IntKind.wrap_i64]; omega
          have wb : IntKind.i64.wrap (pb + e1) = pb + e1 := by rw [IntKind.wrap_i64]; omega
          obtain ⟨q2, o2, rfl, cF⟩ := hFq
          obtain ⟨fb, hfb⟩ : ∃ b, F Q = b := ⟨_, rfl⟩
          rw [hfb] at cF HST
          have HFB : Hid (F Q = fb) := hfb
          clear hfb
          have hQ' : (Q : Int) < (M : Int) := by omega
          have gd : wr.grownBy wr.drew none := gb_drew (World.grownBy.refl _ none)
          have cFd := gd.cell cF (by simp)
          have d0d := gd.cell d0 (by simp)
          have d1d := gd.cell d1 (by simp)
          have Btd := Bt.dr
          have Bpd := Bp.dr
          have HNn : Hid (∃ b0, nxF x y t z F D n i n = b0) := ⟨_, rfl⟩
          clear HB
          go_wp2
          go_region_held2 (fun w' => w'.cell? ⟨w.heap.size, 0, none⟩ = some (.int .u8 2) ∧ w'.cell? ⟨w.heap.size, 1, none⟩ = some (.int .i64 x) ∧ w'.cell? ⟨w.heap.size, 2, none⟩ = some (.int .i64 y) ∧ w'.cell? ⟨w.heap.size, 3, none⟩ = some (.int .u8 t) ∧ w'.cell? ⟨w.heap.size, 4, none⟩ = some (.int .i64 z) ∧ w'.cell? ⟨w3.heap.size, 0, none⟩ = some (.int .i64 pa) ∧ w'.cell? ⟨w3.heap.size, 1, none⟩ = some (.int .i64 pb) ∧ w'.cell? ⟨q, o + i * 2, none⟩ = some (.int .i64 e0) ∧ w'.cell? ⟨q, o + i * 2 + 1, none⟩ = some (.int .i64 e1) ∧ w'.cell? ⟨q2, o2 + Q, none⟩ = some (.bool fb)) (go_keep) (first | (go_at_call 25; refine (kP _).mono ?_; rintro e w5 ⟨rfl, g5⟩; have cF5 := g5.cell cFd (by simp); have y0 := g5.cell d0d (by simp); have y1 := g5.cell d1d (by simp); have Bt5 := Btd.kept g5 (by simp); have Bp5 := Bpd.kept g5 (by simp); have h0 := Bt5.cell 0 (v := .int .u8 2) rfl; have h1 := Bt5.cell 1 (v := .int .i64 x) rfl; have h2 := Bt5.cell 2 (v := .int .i64 y) rfl; have h3 := Bt5.cell 3 (v := .int .u8 t) rfl; have h4 := Bt5.cell 4 (v := .int .i64 z) rfl; have p50 := Bp5.cell 0 (v := .int .i64 pa) rfl; have p51 := Bp5.cell 1 (v := .int .i64 pb) rfl))
          have hrow5 := rowIs_kept (rowIs_kept hrow gd (by simp)) g5 (by simp)
          have G5 := gb_trans gi (gb_trans gd g5)
          obtain ⟨b0, hb0⟩ := HNn.out
          have hc := hrow5.cell (i := n) hlt
          have hcf := hrow5.frozen n
          have hcv : bR (nxF x y t z F D n i) n = .bool b0 := by show Value.bool _ = _; rw [hb0]
          rw [hcv] at hc
          have HST2 : Hid (∀ c, nxF x y t z F D n (i + 1) c = if c = n then Bool.xor b0 fb else nxF x y t z F D n i c) := fun c => by rw [← hb0]; exact HST.out c
          have HB0 : Hid (nxF x y t z F D n i n = b0) := hb0
          clear hb0 hcv HST kP
          cases fb with
          | true =>
            go_wp2
            first | go_roundw | (go_quiet (fail); go_wp2; go_roundw)
            case rel => exact ⟨i + 1, by omega, by go_num, (hrow5.set n _).congr (fun c hc => by
              show _ = Value.bool _
              rw [HST2.out c]
              by_cases e : c = n
              · rw [if_pos e, if_pos e]; cases b0 <;> rfl
              · rw [if_neg e, if_neg e]; rfl), Bo.set2 Bp5 hne, Bo.set2 Bt5 hne2, gb_new G5 (by simp only; omega) _⟩
            case measure => simp [intOf]; omega
          | false =>
            go_wp2
            first | go_roundw | (go_quiet (fail); go_wp2; go_roundw)
            case rel => exact ⟨i + 1, by omega, by go_num, hrow5.congr (fun c hc => by
              show Value.bool _ = Value.bool _
              rw [HST2.out c]
              by_cases e : c = n
              · rw [if_pos e, e, HB0.out]; cases b0 <;> rfl
              · rw [if_neg e]), Bp5, Bt5, G5⟩
            case measure => simp [intOf]; omega
        · have hie : i = nD := by omega
          have hil' : ¬ (i : Int) < (nD : Int) := by omega
          have hr1 : wr.rowIs W1.heap.size 4 M (bR (nxF x y t z F D (n + 1) 0)) := hrow.congr (fun c hc => by show Value.bool _ = Value.bool _; rw [hie, ← HND.out, nxF_next])
          clear hie
          go_wp2
          go_roundw
          case rel => exact ⟨n + 1, by omega, by go_num, hr1, Bt, gi⟩
          case measure => simp [intOf]; omega
    · have hne : n = M := by omega
      have hlt' : ¬ (n : Int) < (M : Int) := by omega
      have hfin : wr.rowIs W1.heap.size 4 M (bR fun m => parL (fun d => F (numP x y t z (padd (atP x y m) d))) D) := hrow.congr (fun c hc => by show Value.bool _ = Value.bool _; unfold nxF; rw [if_pos (by omega)])
      clear hne
      go_wp2
      go_ret
      exact ⟨_, rfl, hfin, s1w, gn⟩
end Ln
end Go.Proofs.YtbmpiddjakdebaaGreat
namespace Go.Proofs.YtbmpiddjakdebaaGreat
open Go.RowKit
set_option linter.unusedVariables false
set_option linter.unusedSimpArgs false
set_option maxRecDepth 100000

namespace Ln
theorem Td.wM {x y t z : Int} {M : Nat} (h : Td x y t z M) : IntKind.i64.wrap (x * y) = (M : Int) := by
  have h1 : 0 ≤ x * y := Int.mul_nonneg (by have := h.hx; omega) (by have := h.hy; omega)
  have h2 := h.hM
  have h3 := h.hM2
  rw [IntKind.wrap_i64]
  omega
theorem Td.eqv1 {x y t z : Int} {M : Nat} (h : Td x y t z M) {F : Nat → Bool} {ps : List Pt} (hh : ∀ m, m < M → F m = parL (fun p => decide (numP x y t z p = m)) ps) : Eqv (CE x y t z) (lsT x y F M) ps := by
  have e := h.hM
  subst e
  exact flip_eqv h.hx.1 h.hy.1 h.tn hh
theorem Td.eqv2 {x y t z : Int} {M : Nat} (h : Td x y t z M) {F G : Nat → Bool} {D : List Pt} (hh : ∀ m, m < M → G m = parL (fun d => F (numP x y t z (padd (atP x y m) d))) D) : Eqv (CE x y t z) (lsT x y G M) (mulL (D.map neg) (lsT x y F M)) := by
  have e := h.hM
  subst e
  exact next_eqv h.hx.1 h.hy.1 h.tn hh
theorem Td.lt {x y t z : Int} {M : Nat} (h : Td x y t z M) (p : Pt) : numP x y t z p < M := by rw [h.hM]; exact numP_lt h.hx.1 h.hy.1 p
set_option maxHeartbeats 1000000 in
theorem power0 {x y t z : Int} {M : Nat} (T : Td x y t z M) (sp : Value) (D : List Pt) (w : World) : Calls Tryz.prog 24 #[.agg #[.int .u8 2, .int .i64 x, .int .i64 y, .int .u8 t, .int .i64 z], sp, .int .i64 0] w fun e w' => ∃ (g : Nat) (G : Nat → Bool), e = .returned (.slice (some ⟨g, 0, none⟩) M M) ∧ w'.rowIs g 4 M (bR G) ∧ Hid (Eqv (CE x y t z) (lsT x y G M) (pwL (D.map neg) 0)) ∧ w.heap.size ≤ g ∧ w.grownBy w' none := by
  obtain ⟨W1, hW1, sz1, g1, B1⟩ := boxn w #[.int .u8 2, .int .i64 x, .int .i64 y, .int .u8 t, .int .i64 z] 23
  have a0 := B1.cell 0 (v := .int .u8 2) rfl; have a1 := B1.cell 1 (v := .int .i64 x) rfl; have a2 := B1.cell 2 (v := .int .i64 y) rfl; have a3 := B1.cell 3 (v := .int .u8 t) rfl; have a4 := B1.cell 4 (v := .int .i64 z) rfl
  have hM2 := T.hM2
  have wM := T.wM
  have hmk := makeBN W1 M hM2
  have hm0 := madeBN W1 M
  obtain ⟨W2, hW2⟩ : ∃ W2, W1.alloc (.cells (madeCells #[.bool false] M) 4) = W2 := ⟨_, rfl⟩
  have g2 : W1.grownBy W2 none := (by rw [← hW2]; exact World.grownBy_alloc _ _ _)
  rw [hW2] at hmk hm0
  clear hW2
  have kP := fun w1 => placeN T (0, 0) (by decide) (by decide) w1
  simp only at kP
  have hQ := T.lt (0, 0)
  have HE : Hid (∀ G : Nat → Bool, (∀ m, G m = decide (m = numP x y t z (0, 0))) → Eqv (CE x y t z) (lsT x y G M) (pwL (D.map neg) 0)) := fun G hG => T.eqv1 (fun m _ => by
    rw [hG m]
    show _ = Bool.xor (decide (numP x y t z (0, 0) = m)) false
    rw [Bool.xor_false, decide_eq_decide]
    exact eq_comm)
  obtain ⟨Q, hQe⟩ : ∃ Q, numP x y t z (0, 0) = Q := ⟨_, rfl⟩
  rw [hQe] at kP hQ HE
  clear hQe
  have B2 := B1.kept g2 (by simp)
  have b0 := B2.cell 0 (v := .int .u8 2) rfl; have b1 := B2.cell 1 (v := .int .i64 x) rfl; have b2 := B2.cell 2 (v := .int .i64 y) rfl; have b3 := B2.cell 3 (v := .int .u8 t) rfl; have b4 := B2.cell 4 (v := .int .i64 z) rfl
  have s1 := g1.size
  have hQ' : (Q : Int) < (M : Int) := by omega
  have HT : Hid (Td x y t z M) := T
  clear T
  go_enter Tryz.func24, Tryz.ntmps24
  go_wp2_with (first | (go_at_call 25; refine (kP _).mono ?_; rintro e w3 ⟨rfl, g3⟩; have hrow3 := rowIs_kept hm0 g3 (by simp); have hc := hrow3.cell (i := Q) hQ; have hcf := hrow3.frozen Q; have hcv : bR (fun _ => false) Q = .bool false := rfl; rw [hcv] at hc; clear hcv kP) | go_in)
  go_ret
  refine ⟨W1.heap.size, fun m => decide (m = Q), rfl, (hrow3.set Q _).congr (fun c hc => by
    show _ = Value.bool _
    by_cases e : c = Q
    · rw [if_pos e]; show _ = Value.bool (decide (c = Q)); rw [decide_eq_true e]
    · rw [if_neg e]; show Value.bool false = Value.bool (decide (c = Q)); rw [decide_eq_false e]), HE.out _ (fun m => rfl), s1, gb_new (gb_trans g1 (gb_trans g2 g3)) (by simp only; omega) _⟩
/-- What power has turned so far. -/
def dbF (x y t z : Int) (H : Nat → Bool) (k c : Nat) : Bool := parL (fun p => decide (numP x y t z (tmsP 2 p) = c)) (lsT x y H k)
theorem dbF_yes (x y t z : Int) (H : Nat → Bool) (k c : Nat) (h : H k = true) : dbF x y t z H (k + 1) c = if c = numP x y t z (tmsP 2 (atP x y k)) then !(dbF x y t z H k c) else dbF x y t z H k c := by
  unfold dbF
  show parL _ (lsT x y H k ++ _) = _
  rw [if_pos h, parL_append]
  show Bool.xor _ (Bool.xor (decide (_ = c)) false) = _
  rw [Bool.xor_false]
  by_cases e : c = numP x y t z (tmsP 2 (atP x y k))
  · rw [if_pos e, decide_eq_true e.symm, Bool.xor_true]
  · rw [if_neg e, decide_eq_false (fun h => e h.symm), Bool.xor_false]
theorem dbF_no (x y t z : Int) (H : Nat → Bool) (k c : Nat) (h : H k = false) : dbF x y t z H (k + 1) c = dbF x y t z H k c := by
  unfold dbF
  show parL _ (lsT x y H k ++ _) = _
  rw [if_neg (by rw [h]; simp), List.append_nil]
theorem half_eqv {x y t z : Int} {M : Nat} (T : Td x y t z M) {H : Nat → Bool} {P : List Pt} {h : Nat} (e : Eqv (CE x y t z) (lsT x y H M) (pwL P h)) : Eqv (CE x y t z) (lsT x y (dbF x y t z H M) M) (pwL P (2 * h)) := by
  have hG := gc_CE x y t z T.hx.1 T.hy.1
  have e1 : Eqv (CE x y t z) (lsT x y (dbF x y t z H M) M) ((lsT x y H M).map (tmsP 2)) := T.eqv1 (fun m _ => by rw [parL_map]; rfl)
  have e2 := ((sq_dbl (CE x y t z) (lsT x y H M)).symm.trans (mul_both hG e e)).trans (pw_add hG P h h)
  rw [show 2 * h = h + h by omega]
  exact e1.trans e2
set_option maxHeartbeats 2000000 in
theorem powerS {x y t z : Int} {M : Nat} (T : Td x y t z M) (s1 : Option Addr) (c1 : Nat) (D : List Pt) (hl : D.length ≤ 64) (hD : ∀ p ∈ D, (-1099511627776 ≤ p.1 ∧ p.1 ≤ 1099511627776) ∧ (-1099511627776 ≤ p.2 ∧ p.2 ≤ 1099511627776)) (n : Nat) (hn : 1 ≤ n ∧ n ≤ 1125899906842624) (w : World) (H1 : Pl w s1 D.length (fun k => D.getD k (0, 0))) (ih : ∀ w1, w.grownBy w1 none → Calls Tryz.prog 24 #[.agg #[.int .u8 2, .int .i64 x, .int .i64 y, .int .u8 t, .int .i64 z], .slice s1 D.length c1, .int .i64 ((n / 2 : Nat) : Int)] w1 fun e w' => ∃ (g : Nat) (G : Nat → Bool), e = .returned (.slice (some ⟨g, 0, none⟩) M M) ∧ w'.rowIs g 4 M (bR G) ∧ Hid (Eqv (CE x y t z) (lsT x y G M) (pwL (D.map neg) (n / 2))) ∧ w1.heap.size ≤ g ∧ w1.grownBy w' none) :
    Calls Tryz.prog 24 #[.agg #[.int .u8 2, .int .i64 x, .int .i64 y, .int .u8 t, .int .i64 z], .slice s1 D.length c1, .int .i64 n] w fun e w' => ∃ (g : Nat) (G : Nat → Bool), e = .returned (.slice (some ⟨g, 0, none⟩) M M) ∧ w'.rowIs g 4 M (bR G) ∧ Hid (Eqv (CE x y t z) (lsT x y G M) (pwL (D.map neg) n)) ∧ w.heap.size ≤ g ∧ w.grownBy w' none := by
  obtain ⟨W1, hW1, sz1, g1, B1⟩ := boxn w #[.int .u8 2, .int .i64 x, .int .i64 y, .int .u8 t, .int .i64 z] 23
  have a0 := B1.cell 0 (v := .int .u8 2) rfl; have a1 := B1.cell 1 (v := .int .i64 x) rfl; have a2 := B1.cell 2 (v := .int .i64 y) rfl; have a3 := B1.cell 3 (v := .int .u8 t) rfl; have a4 := B1.cell 4 (v := .int .i64 z) rfl
  have hM2 := T.hM2
  have wM := T.wM
  have hmk := makeBN W1 M hM2
  have hm0 := madeBN W1 M
  obtain ⟨W2, hW2⟩ : ∃ W2, W1.alloc (.cells (madeCells #[.bool false] M) 4) = W2 := ⟨_, rfl⟩
  have g2 : W1.grownBy W2 none := (by rw [← hW2]; exact World.grownBy_alloc _ _ _)
  rw [hW2] at hmk hm0
  clear hW2
  have G2 := gb_trans g1 g2
  have B2 := B1.kept g2 (by simp)
  have b0 := B2.cell 0 (v := .int .u8 2) rfl; have b1 := B2.cell 1 (v := .int .i64 x) rfl; have b2 := B2.cell 2 (v := .int .i64 y) rfl; have b3 := B2.cell 3 (v := .int .u8 t) rfl; have b4 := B2.cell 4 (v := .int .i64 z) rfl
  have s1w := g1.size
  have hne2 : W1.heap.size ≠ w.heap.size := by have := B1.lt; omega
  have HT : Hid (Td x y t z M) := T
  have kI := ih W2 G2
  have hn0 : ((n : Int) == 0) = false := by simp; omega
  have hdv : Int.tdiv (n : Int) 2 = ((n / 2 : Nat) : Int) := by rw [Int.tdiv_eq_ediv_of_nonneg (by omega)]; omega
  have HMD : Hid (∀ H : Nat → Bool, Eqv (CE x y t z) (lsT x y H M) (pwL (D.map neg) (n / 2)) → Eqv (CE x y t z) (lsT x y (dbF x y t z H M) M) (pwL (D.map neg) (2 * (n / 2)))) := fun H e => half_eqv T e
  obtain ⟨h2, hh2⟩ : ∃ h, n / 2 = h := ⟨_, rfl⟩
  have Hh2 : Hid (n / 2 = h2) := hh2
  rw [hh2] at kI hdv HMD
  have wh : IntKind.i64.wrap (h2 : Int) = (h2 : Int) := by rw [IntKind.wrap_i64]; omega
  clear hh2 ih T
  have hlw : W1.heap.size < W2.heap.size := hm0.lt
  go_enter Tryz.func24, Tryz.ntmps24
  go_wp2_with (first | (go_at_call 24; refine kI.mono ?_; rintro e w3 ⟨gh, Hf, rfl, hrowH, HE, hgh, g3⟩; clear kI) | go_in)
  have hr0 : w3.rowIs W1.heap.size 4 M (bR (dbF x y t z Hf 0)) := (rowIs_kept hm0 g3 (by simp)).congr (fun c hc => rfl)
  have B3 := B2.kept g3 (by simp)
  have G3 := gb_trans G2 g3
  have hneH : W1.heap.size ≠ gh := by omega
  clear hmk hm0
  go_loopw [9] (fun u wr => ∃ k : Nat, k ≤ M ∧ u = .int .i64 k ∧ wr.rowIs W1.heap.size 4 M (bR (dbF x y t z Hf k)) ∧ wr.rowIs gh 4 M (bR Hf) ∧ Bo wr w.heap.size 23 #[.int .u8 2, .int .i64 x, .int .i64 y, .int .u8 t, .int .i64 z] ∧ w.grownBy wr none) (fun u _ => M - (intOf u).toNat)
  case atStart => exact ⟨0, Nat.zero_le _, rfl, hr0, hrowH, B3, G3⟩
  case round =>
    clear hr0 hrowH B3 B2
    obtain ⟨k, hk, rfl, hrow, hrowH, Bk, gk⟩ := hrel
    have d0 := Bk.cell 0 (v := .int .u8 2) rfl; have d1 := Bk.cell 1 (v := .int .i64 x) rfl; have d2 := Bk.cell 2 (v := .int .i64 y) rfl; have d3 := Bk.cell 3 (v := .int .u8 t) rfl; have d4 := Bk.cell 4 (v := .int .i64 z) rfl
    by_cases hlt : k < M
    · have hlt' : (k : Int) < (M : Int) := by omega
      have hH := hrowH.cell (i := k) hlt
      cases hfk : Hf k with
      | true =>
        have hHv : bR Hf k = .bool true := by show Value.bool _ = _; rw [hfk]
        rw [hHv] at hH
        have HST : Hid (∀ c, dbF x y t z Hf (k + 1) c = if c = numP x y t z (tmsP 2 (atP x y k)) then !(dbF x y t z Hf k c) else dbF x y t z Hf k c) := fun c => dbF_yes x y t z Hf k c hfk
        have kA := fun w1 => atC 2 x y t z k HT.out.hx HT.out.hy (by omega) w1
        have hap := HT.out.at hlt
        have kP := fun w1 => placeN HT.out (tmsP 2 (atP x y k)) (by unfold tmsP; simp only; omega) (by unfold tmsP; simp only; omega) w1
        have hQ := HT.out.lt (tmsP 2 (atP x y k))
        obtain ⟨Q, hQe⟩ : ∃ Q, numP x y t z (tmsP 2 (atP x y k)) = Q := ⟨_, rfl⟩
        rw [hQe] at kP hQ HST
        clear hQe hfk hHv
        obtain ⟨P, hP⟩ : ∃ P, atP x y k = P := ⟨_, rfl⟩
        rw [hP] at kA hap kP
        clear hP
        obtain ⟨pa, pb⟩ := P
        simp only [tmsP] at kA hap kP
        have wa : IntKind.i64.wrap (2 * pa) = 2 * pa := by rw [IntKind.wrap_i64]; omega
        have wb : IntKind.i64.wrap (2 * pb) = 2 * pb := by rw [IntKind.wrap_i64]; omega
        have hQ' : (Q : Int) < (M : Int) := by omega
        obtain ⟨b0, hb0⟩ : ∃ b, dbF x y t z Hf k Q = b := ⟨_, rfl⟩
        have HB0 : Hid (dbF x y t z Hf k Q = b0) := hb0
        have hcv : bR (dbF x y t z Hf k) Q = .bool b0 := by show Value.bool _ = _; rw [hb0]
        clear hb0
        have key : ∀ w7, wr.grownBy w7 none → w7.rowIs W1.heap.size 4 M (bR (dbF x y t z Hf k)) ∧ w7.rowIs gh 4 M (bR Hf) ∧ Bo w7 w.heap.size 23 #[.int .u8 2, .int .i64 x, .int .i64 y, .int .u8 t, .int .i64 z] := fun w7 g7 => ⟨rowIs_kept hrow g7 (by simp), rowIs_kept hrowH g7 (by simp), Bk.kept g7 (by simp)⟩
        clear hrow hrowH Bk
        go_wp2_with (first | (go_at_call 46; refine (kA _).mono ?_; rintro e w4 ⟨rfl, g4⟩; clear kA; obtain ⟨W5, hW5, sz5, g5, B5⟩ := boxn w4 #[.int .i64 pa, .int .i64 pb] 40; have c50 := B5.cell 0 (v := .int .i64 pa) rfl; have c51 := B5.cell 1 (v := .int .i64 pb) rfl; have G5 := gb_trans g4 g5; obtain ⟨hrow5, hrowH5, Bt5⟩ := key W5 G5; have f0 := Bt5.cell 0 (v := .int .u8 2) rfl; have f1 := Bt5.cell 1 (v := .int .i64 x) rfl; have f2 := Bt5.cell 2 (v := .int .i64 y) rfl; have f3 := Bt5.cell 3 (v := .int .u8 t) rfl; have f4 := Bt5.cell 4 (v := .int .i64 z) rfl) | (go_at_call 25; refine (kP _).mono ?_; rintro e w6 ⟨rfl, g6⟩; clear kP; obtain ⟨hrow6, hrowH6, Bt6⟩ := key w6 (gb_trans G5 g6); have hc := hrow6.cell (i := Q) hQ; have hcf := hrow6.frozen Q; rw [hcv] at hc) | go_in)
        go_roundw
        case rel => exact ⟨k + 1, by omega, by go_num, (hrow6.set Q _).congr (fun c hc => by
          show _ = Value.bool _
          rw [HST.out c]
          by_cases e : c = Q
          · rw [if_pos e, if_pos e, e, HB0.out]
          · rw [if_neg e, if_neg e]; rfl), rowIs_kept hrowH6 (gb_set (World.grownBy.refl _ _) Q (.bool !b0)) (fun e => hneH (Option.some.inj e).symm), Bo.set2 Bt6 hne2, gb_new (gb_trans gk (gb_trans G5 g6)) (by simp only; omega) _⟩
        case measure => simp [intOf]; omega
      | false =>
        have hHv : bR Hf k = .bool false := by show Value.bool _ = _; rw [hfk]
        rw [hHv] at hH
        have HST : Hid (∀ c, dbF x y t z Hf (k + 1) c = dbF x y t z Hf k c) := fun c => dbF_no x y t z Hf k c hfk
        clear hfk hHv
        go_wp2
        go_roundw
        case rel => exact ⟨k + 1, by omega, by go_num, hrow.congr (fun c hc => by show Value.bool _ = Value.bool _; rw [HST.out c]), hrowH, Bk, gk⟩
        case measure => simp [intOf]; omega
    · obtain rfl : k = M := by omega
      have hlt' : ¬ (k : Int) < (k : Int) := by omega
      have HE2 : Hid (Eqv (CE x y t z) (lsT x y (dbF x y t z Hf k) k) (pwL (D.map neg) (2 * h2))) := HMD.out Hf HE.out
      clear HMD HE hrowH
      by_cases ho : n % 2 = 1
      · have hrm : Int.tmod (n : Int) 2 = 1 := by rw [Int.tmod_eq_emod_of_nonneg (by omega)]; omega
        have kN := nextD HT.out s1 c1 D hl hD (some ⟨W1.heap.size, 0, none⟩) k (dbF x y t z Hf k) wr (H1.kept gk (by simp)) (Bs.row hrow)
        have HEN : Hid (Eqv (CE x y t z) (lsT x y (fun m => parL (fun d => dbF x y t z Hf k (numP x y t z (padd (atP x y m) d))) D) k) (pwL (D.map neg) n)) := by
          have e := Hh2.out
          have e2 : n = 2 * h2 + 1 := by omega
          have h1 := HT.out.eqv2 (F := dbF x y t z Hf k) (G := fun m => parL (fun d => dbF x y t z Hf k (numP x y t z (padd (atP x y m) d))) D) (D := D) (fun m _ => rfl)
          have h3 := h1.trans (mulL_right (gc_CE x y t z HT.out.hx.1 HT.out.hy.1) (D.map neg) HE2.out)
          rw [e2]
          exact h3
        generalize (fun m => parL (fun d => dbF x y t z Hf k (numP x y t z (padd (atP x y m) d))) D) = GG at kN HEN
        clear ho
        go_wp2_with (first | (go_at_call 47; refine kN.mono ?_; rintro e w7 ⟨g7, rfl, hrow7, hg7, gg7⟩; clear kN) | go_in)
        go_ret
        have := gk.size
        exact ⟨g7, GG, rfl, hrow7, HEN, by omega, gb_trans gk gg7⟩
      · have hrm : Int.tmod (n : Int) 2 = 0 := by rw [Int.tmod_eq_emod_of_nonneg (by omega)]; omega
        have HEN : Hid (Eqv (CE x y t z) (lsT x y (dbF x y t z Hf k) k) (pwL (D.map neg) n)) := by
          have e := Hh2.out
          have e2 : n = 2 * h2 := by omega
          rw [e2]
          exact HE2.out
        clear ho
        go_wp2
        go_ret
        first | exact ⟨W1.heap.size, _, rfl, hrow, HEN, s1w, gk⟩ | exact ⟨W1.heap.size, rfl, _, hrow, HEN, s1w, gk⟩
theorem powerD {x y t z : Int} {M : Nat} (T : Td x y t z M) (s1 : Option Addr) (c1 : Nat) (D : List Pt) (hl : D.length ≤ 64) (hD : ∀ p ∈ D, (-1099511627776 ≤ p.1 ∧ p.1 ≤ 1099511627776) ∧ (-1099511627776 ≤ p.2 ∧ p.2 ≤ 1099511627776)) : ∀ (n : Nat), n ≤ 1125899906842624 → ∀ (w : World), Pl w s1 D.length (fun k => D.getD k (0, 0)) → Calls Tryz.prog 24 #[.agg #[.int .u8 2, .int .i64 x, .int .i64 y, .int .u8 t, .int .i64 z], .slice s1 D.length c1, .int .i64 n] w fun e w' => ∃ (g : Nat) (G : Nat → Bool), e = .returned (.slice (some ⟨g, 0, none⟩) M M) ∧ w'.rowIs g 4 M (bR G) ∧ Hid (Eqv (CE x y t z) (lsT x y G M) (pwL (D.map neg) n)) ∧ w.heap.size ≤ g ∧ w.grownBy w' none := by
  intro n
  induction n using Nat.strongRecOn with
  | _ n ih =>
    intro hn w H1
    by_cases h0 : n = 0
    · subst h0
      exact power0 T (.slice s1 D.length c1) D w
    · exact powerS T s1 c1 D hl hD n ⟨by omega, hn⟩ w H1 (fun w1 g1 => ih (n / 2) (by omega) (by omega) w1 (H1.kept g1 (by simp)))
end Ln
end Go.Proofs.YtbmpiddjakdebaaGreat
namespace Go.Proofs.YtbmpiddjakdebaaGreat
open Go.RowKit
set_option linter.unusedVariables false
set_option linter.unusedSimpArgs false
set_option maxRecDepth 100000

namespace Ln
/-- What Jump has turned so far: all of the first cells, and the first so many of the next. -/
def juF (x y t z : Int) (C O : List Pt) (i k c : Nat) : Bool := parL (fun p => decide (numP x y t z p = c)) (mulL (C.take i) O ++ (O.take k).map (padd (C.getD i (0, 0))))
theorem juF_first (x y t z : Int) (C O : List Pt) (c : Nat) : juF x y t z C O 0 0 c = false := by
  unfold juF
  rw [List.take_zero, List.take_zero]
  rfl
theorem mulL_snoc (A O : List Pt) (p : Pt) : mulL (A ++ [p]) O = mulL A O ++ O.map (padd p) := by
  unfold mulL
  rw [List.flatMap_append]
  simp
theorem juF_next (x y t z : Int) (C O : List Pt) (i c : Nat) (hi : i < C.length) : juF x y t z C O i O.length c = juF x y t z C O (i + 1) 0 c := by
  unfold juF
  rw [List.take_length, List.take_zero, take_getD' C i hi, mulL_snoc]
  simp
theorem juF_step (x y t z : Int) (C O : List Pt) (i k c : Nat) (hk : k < O.length) : juF x y t z C O i (k + 1) c = if c = numP x y t z (padd (C.getD i (0, 0)) (O.getD k (0, 0))) then !(juF x y t z C O i k c) else juF x y t z C O i k c := by
  unfold juF
  rw [take_getD' O k hk, List.map_append, ← List.append_assoc, parL_append]
  show Bool.xor _ (Bool.xor (decide (_ = c)) false) = _
  rw [Bool.xor_false]
  by_cases e : c = numP x y t z (padd (C.getD i (0, 0)) (O.getD k (0, 0)))
  · rw [if_pos e, decide_eq_true e.symm, Bool.xor_true]
  · rw [if_neg e, decide_eq_false (fun h => e h.symm), Bool.xor_false]
theorem juF_all (x y t z : Int) (C O : List Pt) (c : Nat) : juF x y t z C O C.length 0 c = parL (fun p => decide (numP x y t z p = c)) (mulL C O) := by
  unfold juF
  rw [List.take_length, List.take_zero]
  simp
/-- What is answered: by rows, none twice, of the grid, alike to a sum. -/
structure Rs (x y t z : Int) (X A : List Pt) : Prop where
  nd : X.Nodup
  inn : InT x y (To.fi x) (To.fi y) X
  st : srt X = X
  eqv : Eqv (CE x y t z) X A
theorem srt_srt (X : List Pt) : srt (srt X) = srt X := srt_congr (srt_perm X)
theorem rs_of {x y t z : Int} {nx A : List Pt} (h1 : nx.Nodup) (h2 : InT x y (To.fi x) (To.fi y) nx) (h3 : Eqv (CE x y t z) nx A) : Rs x y t z (srt nx) A :=
  ⟨(srt_perm nx).nodup_iff.2 h1, fun p hp => h2 p ((srt_perm nx).mem_iff.1 hp), srt_srt nx, (eqv_of_perm _ (srt_perm nx)).trans h3⟩
theorem Rs.eq {x y t z : Int} {X Y A B : List Pt} (h : Rs x y t z X A) (h' : Rs x y t z Y B) (e : Eqv (CE x y t z) A B) : X = Y := by
  have hp : X.Perm Y := eqv_perm h.nd h'.nd (fun p hp => CE_fix (h.inn p hp).1 (h.inn p hp).2) (fun p hp => CE_fix (h'.inn p hp).1 (h'.inn p hp).2) ((h.eqv.trans e).trans h'.eqv.symm)
  rw [← h.st, ← h'.st]
  exact srt_congr hp
/-- The document's answer. -/
theorem Td.rs {x y t z : Int} {M : Nat} (T : Td x y t z M) {F : Nat → Bool} {P C O : List Pt} (hO : Eqv (CE x y t z) O P) (hF : ∀ m, m < M → F m = parL (fun p => decide (numP x y t z p = m)) (mulL C O)) : Rs x y t z (lsT x y F M) (mulL P C) := by
  have hG := gc_CE x y t z T.hx.1 T.hy.1
  refine ⟨lsT_nodup T.hx.1 F M, lsT_in T.hx.1 T.hy.1 F (by rw [T.hM]; exact Nat.le_refl _), srtA (List.Perm.refl _) (lsT_sorted T.hx.1 F M), ?_⟩
  exact ((T.eqv1 hF).trans (mulL_comm _ _ _)).trans (mulL_left hG hO C)
end Ln
end Go.Proofs.YtbmpiddjakdebaaGreat
