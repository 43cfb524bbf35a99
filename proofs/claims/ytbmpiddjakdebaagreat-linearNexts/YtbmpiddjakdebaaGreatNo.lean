/- stable. -/
import Derived.Test.YtbmpiddjakdebaaGreatN79
namespace Go.Proofs.YtbmpiddjakdebaaGreat
open Go.RowKit Go.Shelf Go.Lib Go.Sort
set_option linter.unusedVariables false
set_option linter.unusedSimpArgs false
set_option maxRecDepth 100000

namespace Ln
set_option maxHeartbeats 1000000 in
theorem insC (base g cap N : Nat) (hN : N < 1099511627776) (a b : Nat) (hab : a ≤ b) (hb : b ≤ N) (L : List Ml) (w : World) (own : w.ownsRow base 24 1 (.slice (some ⟨g, 0, none⟩) N cap) N (L.map encM)) :
    Calls Tryz.prog 89 #[.slice (some ⟨g, 0, none⟩) N cap, .int .i64 a, .int .i64 b, .func (.func 58) #[] #[]] w fun e w' => e = .returned (.tuple #[]) ∧ ∃ L', Pm base g cap N L w w' L' := by
  have hlen : L.length = N := (Pm.refl own).len
  subst hlen
  obtain ⟨hx, hh⟩ := own
  rcases hh with ⟨h0, _⟩ | ⟨g', cap', cur, hv, hbase, hb', h1, h2, h3, h4⟩
  · cases h0
  cases hv
  have hH : Holds encM w g 0 L.toArray := holdsM hb' (by simpa using h4)
  have eg : ∀ args w, (callFunc 58 args).run Tryz.prog w = .ok (.enter 58 args) w := enters_of Tryz.func58 (by kernel_rfl) rfl
  have hcon := Any.insertionSortCmpFunc_s laysIns encM cmpM 58 #[] g 0 cap a b L.toArray L.toArray w w eg (cmpLaysM g 0 _ w) ⟨oneM, hH, (Array.getElem?_eq_some_iff.1 hb').1⟩ rfl (SW.start hH) hab (by simpa using hb) (by simp; omega)
  change Calls Tryz.prog 89 _ _ _ at hcon
  have ez : L.toArray.size = L.length := by simp
  rw [ez] at hcon
  have hins := insertionSort_holds (lt := ltOf cmpM) swoM L.toArray a b hab (by simpa using hb)
  refine hcon.mono ?_
  rintro e w' ⟨he, n, os, rfl⟩
  refine ⟨he, ?_⟩
  obtain ⟨d', hd'⟩ : ∃ d', Sort.insertionSort (ltOf cmpM) L.toArray a b = d' := ⟨_, rfl⟩
  rw [hd'] at hins ⊢
  obtain ⟨hp, _⟩ := hins
  obtain ⟨p1, p2, p3⟩ := permIn_mono L.toArray d' a b 0 L.toArray.size (Nat.zero_le _) (by simpa using hb) (Nat.le_refl _) hp
  rw [ez] at p3
  have hsz0 : d'.size = L.length := by rw [p1, ez]
  have e1 : d'.extract 0 L.length = d' := by rw [← hsz0]; exact Array.extract_size
  have e2 : L.toArray.extract 0 L.length = L.toArray := by rw [← ez]; exact Array.extract_size
  rw [e1, e2] at p3
  have p3' : d'.toList.Perm L := by simpa using p3
  have hsz : d'.size = L.length := by have := p3'.length_eq; simpa using this
  have hll : d'.toList.length = L.length := by simpa using hsz
  refine ⟨d'.toList, p3', ?_, grownM _⟩
  unfold sortWorld
  refine ⟨by simp [hsz], .inr ⟨g, cap, _, rfl, hbase, heapM _ hb', h1, h2, by simp [putCells, h3], ?_⟩⟩
  have ht := takeM cur d'.toList (by rw [hll, h3]; omega)
  rw [hll] at ht
  rw [Nat.mul_one]
  simpa using ht
set_option maxHeartbeats 2000000 in
theorem stabC (base g cap N : Nat) (hN : N < 1099511627776) (L : List Ml) (w : World) (own : w.ownsRow base 24 1 (.slice (some ⟨g, 0, none⟩) N cap) N (L.map encM)) :
    Calls Tryz.prog 75 #[.slice (some ⟨g, 0, none⟩) N cap, .int .i64 N, .func (.func 58) #[] #[]] w fun e w' => e = .returned (.tuple #[]) ∧ ∃ L', Pm base g cap N L w w' L' := by
  have P0 : Hid (Pm base g cap N L w w L) := Pm.refl own
  clear own
  go_enter Tryz.func75, Tryz.ntmps75
  go_wp2
  go_loopw [7, 8] (fun u v wr => ∃ (a : Nat) (L' : List Ml), a ≤ N ∧ u = .int .i64 a ∧ v = .int .i64 ((a : Int) + 20) ∧ Hid (Pm base g cap N L w wr L')) (fun u v _ => N - (intOf u).toNat)
  case atStart => exact ⟨0, L, Nat.zero_le _, rfl, rfl, P0.out⟩
  case round =>
    obtain ⟨a, L', ha, rfl, rfl, HP⟩ := hrel
    by_cases hlt : a + 20 ≤ N
    · have hlt' : (a : Int) + 20 ≤ (N : Int) := by omega
      have w1 : IntKind.i64.wrap ((a : Int) + 20 + 20) = (a : Int) + 20 + 20 := by rw [IntKind.wrap_i64]; omega
      have kI := insC base g cap N hN a (a + 20) (by omega) hlt L' wr HP.out.own
      have e20 : ((a + 20 : Nat) : Int) = (a : Int) + 20 := by omega
      rw [e20] at kI
      clear e20
      go_wp2_with (first | (go_at_call 89; refine kI.mono ?_; rintro e w3 ⟨rfl, L3, P3⟩; have HP3 : Hid (Pm base g cap N L w w3 L3) := HP.out.trans P3; clear P3 kI) | go_in)
      go_roundw
      case rel => exact ⟨a + 20, L3, by omega, by go_num, by go_num, HP3.out⟩
      case measure => simp [intOf]; omega
    · have hlt' : ¬ (a : Int) + 20 ≤ (N : Int) := by omega
      have kI := insC base g cap N hN a N ha (Nat.le_refl _) L' wr HP.out.own
      go_wp2_with (first | (go_at_call 89; refine kI.mono ?_; rintro e w3 ⟨rfl, L3, P3⟩; have HP3 : Hid (Pm base g cap N L w w3 L3) := HP.out.trans P3; clear P3 kI HP) | go_in)
      go_loopw [6] (fun u wr => ∃ (B : Nat) (L' : List Ml), 20 ≤ B ∧ B ≤ 2 * N + 20 ∧ u = .int .i64 B ∧ Hid (Pm base g cap N L w wr L')) (fun u _ => 2 * N + 20 - (intOf u).toNat)
      case atStart => exact ⟨20, L3, by omega, by omega, rfl, HP3.out⟩
      case round =>
        clear HP3
        obtain ⟨B, L4, hB1, hB2, rfl, HP⟩ := hrel
        by_cases hbn : B < N
        · have hbn' : (B : Int) < (N : Int) := by omega
          have w2 : IntKind.i64.wrap (2 * (B : Int)) = 2 * (B : Int) := by rw [IntKind.wrap_i64]; omega
          have w2' : IntKind.i64.wrap ((B : Int) * 2) = 2 * (B : Int) := by rw [IntKind.wrap_i64]; omega
          go_wp2
          go_loopw [7, 8] (fun u v wr => ∃ (a : Nat) (L' : List Ml), a ≤ N ∧ u = .int .i64 a ∧ v = .int .i64 ((a : Int) + 2 * (B : Int)) ∧ Hid (Pm base g cap N L w wr L')) (fun u v _ => N - (intOf u).toNat)
          case atStart => exact ⟨0, L4, Nat.zero_le _, rfl, by simp, HP.out⟩
          case round =>
            clear HP
            obtain ⟨a, L5, ha, rfl, rfl, HQ⟩ := hrel
            have w3 : IntKind.i64.wrap ((a : Int) + (B : Int)) = (a : Int) + (B : Int) := by rw [IntKind.wrap_i64]; omega
            by_cases hlt : a + 2 * B ≤ N
            · have hlt' : (a : Int) + 2 * (B : Int) ≤ (N : Int) := by omega
              have w4 : IntKind.i64.wrap ((a : Int) + 2 * (B : Int) + 2 * (B : Int)) = (a : Int) + 2 * (B : Int) + 2 * (B : Int) := by rw [IntKind.wrap_i64]; omega
              have kY := symC base g cap N hN _ a (a + B) (a + 2 * B) (Nat.le_refl _) (by omega) (by omega) hlt L5 wr HQ.out.own
              have e1 : ((a + B : Nat) : Int) = (a : Int) + (B : Int) := by omega
              have e2 : ((a + 2 * B : Nat) : Int) = (a : Int) + 2 * (B : Int) := by omega
              rw [e1, e2] at kY
              clear e1 e2
              go_wp2_with (first | (go_at_call 90; refine kY.mono ?_; rintro e w6 ⟨rfl, L6, P6⟩; have HP6 : Hid (Pm base g cap N L w w6 L6) := HQ.out.trans P6; clear P6 kY) | go_in)
              go_roundw
              case rel => exact ⟨a + 2 * B, L6, by omega, by go_num, by go_num, HP6.out⟩
              case measure => simp [intOf]; omega
            · have hlt' : ¬ (a : Int) + 2 * (B : Int) ≤ (N : Int) := by omega
              by_cases hm : a + B < N
              · have hm' : (a : Int) + (B : Int) < (N : Int) := by omega
                have kY := symC base g cap N hN _ a (a + B) N (Nat.le_refl _) (by omega) hm (Nat.le_refl _) L5 wr HQ.out.own
                have e1 : ((a + B : Nat) : Int) = (a : Int) + (B : Int) := by omega
                rw [e1] at kY
                clear e1
                go_wp2_with (first | (go_at_call 90; refine kY.mono ?_; rintro e w6 ⟨rfl, L6, P6⟩; have HP6 : Hid (Pm base g cap N L w w6 L6) := HQ.out.trans P6; clear P6 kY) | go_in)
                go_roundw
                case rel => exact ⟨2 * B, L6, by omega, by omega, by go_num, HP6.out⟩
                case measure => simp [intOf]; omega
              · have hm' : ¬ (a : Int) + (B : Int) < (N : Int) := by omega
                go_wp2
                go_roundw
                case rel => exact ⟨2 * B, L5, by omega, by omega, by go_num, HQ.out⟩
                case measure => simp [intOf]; omega
        · have hbn' : ¬ (B : Int) < (N : Int) := by omega
          go_wp2
          go_end0
          exact ⟨rfl, L4, HP.out⟩
theorem stableG (w : World) (base g cap n : Nat) (L : List Ml) (hn : L.length = n) (h : w.ownsRow base 24 1 (.slice (some ⟨g, 0, none⟩) n cap) n (L.map encM)) (hl : n < 1099511627776) :
    Calls Tryz.prog 57 #[.slice (some ⟨g, 0, none⟩) n cap, .func (.func 58) #[] #[]] w fun e w' => e = .returned (.tuple #[]) ∧ ∃ L' : List Ml, L'.Perm L ∧ w'.ownsRow base 24 1 (.slice (some ⟨g, 0, none⟩) n cap) n (L'.map encM) ∧ w.grownBy w' (some g) := by
  have hst := stabC base g cap n hl L w h
  clear h hn
  go_enter Tryz.func57, Tryz.ntmps57
  go_wp2_with (first | (go_at_call 75; refine hst.mono ?_; rintro e w' ⟨rfl, L', hA⟩) | go_in)
  go_end0
  exact ⟨rfl, L', hA.pm, hA.own, hA.gr⟩
end Ln
end Go.Proofs.YtbmpiddjakdebaaGreat
namespace Go.Proofs.YtbmpiddjakdebaaGreat
open Go.RowKit
set_option linter.unusedVariables false
set_option linter.unusedSimpArgs false
set_option maxRecDepth 100000

namespace Ln
theorem flF_mem (F : Nat → Pt) (q : Pt) : ∀ n, q ∈ flF F n → ∃ i, i < n ∧ q = F i
  | 0, h => by cases h
  | n + 1, h => by
    have h' : q ∈ flp (flF F n) (F n) := h
    unfold flp at h'
    split at h'
    · obtain ⟨i, hi, e⟩ := flF_mem F q n (List.mem_of_mem_erase h')
      exact ⟨i, by omega, e⟩
    · rcases List.mem_append.1 h' with h' | h'
      · obtain ⟨i, hi, e⟩ := flF_mem F q n h'
        exact ⟨i, by omega, e⟩
      · exact ⟨n, by omega, by simpa using h'⟩
/-- Moves so many times as far. -/
def mvT (k x y t z tm : Int) (f : Nat → Pt) (n : Nat) : List Pt := srt (flF (fun j => cellP k x y t z (tmsP tm (f j))) n)
theorem mvT_mem {k x y t z tm : Int} {f : Nat → Pt} {n : Nat} {q : Pt} (h : q ∈ mvT k x y t z tm f n) : ∃ p, q = cellP k x y t z p := by
  obtain ⟨i, _, e⟩ := flF_mem _ q n ((srt_perm _).mem_iff.1 h)
  exact ⟨_, e⟩
theorem mvT_len (k x y t z tm : Int) (f : Nat → Pt) (n : Nat) : (mvT k x y t z tm f n).length ≤ n := by
  unfold mvT
  rw [srt_len]
  exact flF_len _ n
def nxT (k x y t z : Int) (ms : List Pt) : List Pt := mvT k x y t z 2 (fun j => ms.getD j (0, 0)) ms.length
/-- The leaps by which n generations are done. -/
def lpL (k x y t z : Int) (ms : List Pt) (n : Nat) : List (List Pt) :=
  if hn : n = 0 then [] else (if n % 2 = 1 then [ms] else []) ++ lpL k x y t z (nxT k x y t z ms) (n / 2)
termination_by n
decreasing_by omega
theorem lpL_zero (k x y t z : Int) (ms : List Pt) : lpL k x y t z ms 0 = [] := by rw [lpL]; simp
theorem lpL_pos (k x y t z : Int) (ms : List Pt) {n : Nat} (hn : n ≠ 0) : lpL k x y t z ms n = (if n % 2 = 1 then [ms] else []) ++ lpL k x y t z (nxT k x y t z ms) (n / 2) := by
  rw [lpL]; simp [hn]
theorem stableN (w : World) : Calls Tryz.prog 57 #[.slice none 0 0, .func (.func 58) #[] #[]] w fun e w' => e = .returned (.tuple #[]) ∧ w' = w := by
  have hin : Calls Tryz.prog 89 #[.slice none 0 0, .int .i64 0, .int .i64 0, .func (.func 58) #[] #[]] w fun e w' => e = .returned (.tuple #[]) ∧ w' = w := by
    go_enter Tryz.func89, Tryz.ntmps89
    go_wp2
    refine wp_loop_rounds 1 ?_
    rw [rounds_succ]
    go_wp2
    go_end0
    exact ⟨rfl, rfl⟩
  have hst : Calls Tryz.prog 75 #[.slice none 0 0, .int .i64 0, .func (.func 58) #[] #[]] w fun e w' => e = .returned (.tuple #[]) ∧ w' = w := by
    go_enter Tryz.func75, Tryz.ntmps75
    go_wp2
    refine wp_loop_rounds 1 ?_
    rw [rounds_succ]
    go_wp2_with (first | (go_at_call 89; refine hin.mono ?_; rintro e w' ⟨rfl, hw'⟩; subst w') | go_in)
    refine wp_loop_rounds 1 ?_
    rw [rounds_succ]
    go_wp2
    go_end0
    exact ⟨rfl, rfl⟩
  go_enter Tryz.func57, Tryz.ntmps57
  go_wp2_with (first | (go_at_call 75; refine hst.mono ?_; rintro e w' ⟨rfl, hw'⟩; subst w') | go_in)
  go_end0
  exact ⟨rfl, rfl⟩
theorem underPSS : Tryz.prog.underlying 29 = some (.slice 24) := by kernel_rfl
theorem infoPS : (Tryz.prog.info? 24).map (fun i => (i.zero, i.size, i.bytes)) = some (some (.slice none 0 0), 1, 24) := by kernel_rfl
/-- Lists in memory. -/
def Ow (w : World) (base : Nat) (L : List Ml) : Prop := ∀ l ∈ L, w.ownsRow base 40 2 (encM l) l.ps.length (fl l.ps)
theorem Ow.kept {w w' : World} {base : Nat} {L : List Ml} {r : Option Nat} (h : Ow w base L) (hg : w.grownBy w' r) (hne : ∀ l ∈ L, some l.g ≠ r) : Ow w' base L := fun l hl => (h l hl).kept hg (.inr (hne l hl))
set_option maxHeartbeats 4000000 in
theorem leapsC (k x y t z X Y U V : Int) (ac : Bool) (ht : 0 ≤ t) (hB : ∀ p, -65536 ≤ (cellP k x y t z p).1 ∧ (cellP k x y t z p).1 ≤ 65536 ∧ -65536 ≤ (cellP k x y t z p).2 ∧ (cellP k x y t z p).2 ≤ 65536) (sp : Option Addr) (m cap : Nat) (f : Nat → Pt) (hf : ∀ j, j < m → (-1099511627776 ≤ (f j).1 ∧ (f j).1 ≤ 1099511627776) ∧ (-1099511627776 ≤ (f j).2 ∧ (f j).2 ≤ 1099511627776)) (hm : m < 1000000000) (n : Nat) (hn : n ≤ 1125899906842624) (hRl : (lpL k x y t z (mvT k x y t z 1 f m) n).length ≤ 64) (w : World) (h : Pl w sp m f) :
    Calls Tryz.prog 29 #[.agg #[.int .u8 k, .int .i64 x, .int .i64 y, .int .u8 t, .int .i64 z, .int .i64 X, .int .i64 Y, .int .i64 U, .int .i64 V, .bool ac], .slice sp m cap, .int .i64 n] w fun e w' => ∃ (v : Value) (L : List Ml), e = .returned v ∧ w'.ownsRow w.heap.size 24 1 v L.length (L.map encM) ∧ Ow w' w.heap.size L ∧ (L.map Ml.ps).Perm (lpL k x y t z (mvT k x y t z 1 f m) n) ∧ w.grownBy w' none := by
  have hok : ∀ p, PtOk (cellP k x y t z p) := fun p => by have := hB p; exact ⟨⟨by omega, by omega⟩, ⟨by omega, by omega⟩⟩
  obtain ⟨iS, HIS⟩ : ∃ i, Hid (Tryz.prog.info? 24 = some i ∧ i.zero = some (.slice none 0 0) ∧ i.size = 1 ∧ i.bytes = 24) := by
    obtain ⟨i, h1, h2, h3, h4⟩ := info_parts infoPS
    exact ⟨i, h1, h2, h3, h4⟩
  obtain ⟨W1, hW1, sz1, g1, B1⟩ := boxn w #[.int .u8 k, .int .i64 x, .int .i64 y, .int .u8 t, .int .i64 z, .int .i64 X, .int .i64 Y, .int .i64 U, .int .i64 V, .bool ac] 62
  have c0 := B1.cell 0 (v := .int .u8 k) rfl; have c1 := B1.cell 1 (v := .int .i64 x) rfl; have c2 := B1.cell 2 (v := .int .i64 y) rfl; have c3 := B1.cell 3 (v := .int .u8 t) rfl; have c4 := B1.cell 4 (v := .int .i64 z) rfl; have c5 := B1.cell 5 (v := .int .i64 X) rfl; have c6 := B1.cell 6 (v := .int .i64 Y) rfl; have c7 := B1.cell 7 (v := .int .i64 U) rfl; have c8 := B1.cell 8 (v := .int .i64 V) rfl; have c9 := B1.cell 9 (v := .bool ac) rfl
  have k1 := foldedC k x y t z X Y U V ac ht sp m cap f 1 (fun j hj => by have := hf j hj; omega) hok hm W1 (h.kept g1 (by simp))
  obtain ⟨R, hR⟩ : ∃ R, lpL k x y t z (mvT k x y t z 1 f m) n = R := ⟨_, rfl⟩
  have HR : Hid (lpL k x y t z (mvT k x y t z 1 f m) n = R) := hR
  have HR19 : Hid (R.length ≤ 64) := by rw [← hR]; exact hRl
  rw [hR]
  clear hR hRl
  have k2 := fun (wr : World) (ms : List Pt) (gm cm : Nat) (hms : ∀ p ∈ ms, ∃ q, p = cellP k x y t z q) (hl : ms.length < 1000000000) (hP : Pl wr (some ⟨gm, 0, none⟩) ms.length (fun j => ms.getD j (0, 0))) => foldedC k x y t z X Y U V ac ht (some ⟨gm, 0, none⟩) ms.length cm (fun j => ms.getD j (0, 0)) 2 (fun j hj => by
    obtain ⟨q, hq⟩ := hms (ms.getD j (0, 0)) (by rw [List.getD_eq_getElem?_getD, List.getElem?_eq_getElem hj]; exact List.getElem_mem hj)
    have := hB q
    simp only [hq]
    omega) hok hl wr hP
  clear hB hok hf
  go_enter Tryz.func29, Tryz.ntmps29
  go_wp2_with (first | (go_at_call 56; refine k1.mono ?_; rintro e w2 ⟨gm, cm, mm, hmm, rfl, own2, g2⟩) | go_in)
  have B2 := B1.kept g2 (by simp)
  have G2 := gb_trans g1 g2
  have own2' := own2
  have hl1 : w.heap.size < W1.heap.size := B1.lt
  have hlm : (mvT k x y t z 1 f m).length = mm := by unfold mvT; rw [srt_len]; exact hmm
  have hmm2 : mm ≤ m := by rw [← hlm]; exact mvT_len _ _ _ _ _ _ _ _
  have HLM : Hid ((mvT k x y t z 1 f m).length = mm) := hlm
  have hne0 : ∀ l ∈ ([] : List Ml), (Value.slice none 0 0).ownBlock ≠ some l.g := fun l hl => by cases hl
  have HM0 : Hid (∀ p ∈ mvT k x y t z 1 f m, ∃ q, p = cellP k x y t z q) := fun p hp => mvT_mem hp
  clear k1 own2 hmm hlm
  go_loopw [7, 1, 2] (fun u v a wr => ∃ (N q c gm cm : Nat) (ms : List Pt) (L : List Ml) (ov : Value), u = ov ∧ v = .slice (some ⟨gm, 0, none⟩) q cm ∧ a = .int .i64 N ∧ Hid (ms.length = q) ∧ Hid (L.length = c) ∧ wr.ownsRow W1.heap.size 40 2 (.slice (some ⟨gm, 0, none⟩) q cm) q (fl ms) ∧ wr.ownsRow W1.heap.size 24 1 ov c (L.map encM) ∧ Hid (Ow wr W1.heap.size L) ∧ Hid (∀ l ∈ L, ov.ownBlock ≠ some l.g) ∧ Hid (ov.ownBlock ≠ some gm) ∧ Hid (L.map Ml.ps ++ lpL k x y t z ms N = R) ∧ Hid (∀ p ∈ ms, ∃ q, p = cellP k x y t z q) ∧ q < 1000000000 ∧ c ≤ 64 ∧ N ≤ 1125899906842624 ∧ Bo wr w.heap.size 62 #[.int .u8 k, .int .i64 x, .int .i64 y, .int .u8 t, .int .i64 z, .int .i64 X, .int .i64 Y, .int .i64 U, .int .i64 V, .bool ac] ∧ W1.grownBy wr none) (fun _ _ a _ => (intOf a).toNat)
  case atStart => exact ⟨n, mm, 0, gm, cm, _, [], _, rfl, rfl, rfl, HLM.out, rfl, own2', World.ownsRow_nil _ _ _ _, (fun l hl => by cases hl), hne0, (by unfold Hid; simp [Value.ownBlock]), HR.out, HM0.out, by omega, by omega, hn, B2, g2⟩
  case round =>
    obtain ⟨N, q, c, gm, cm, ms, L, ov, rfl, rfl, rfl, HQ, HC, ownM, ownA, HO, HNE, HNM, HRR, HMS, hq, hc, hN, Bj, gj⟩ := hrel
    have gw := gb_trans g1 gj
    have e0 := Bj.cell 0 (v := .int .u8 k) rfl; have e1 := Bj.cell 1 (v := .int .i64 x) rfl; have e2 := Bj.cell 2 (v := .int .i64 y) rfl; have e3 := Bj.cell 3 (v := .int .u8 t) rfl; have e4 := Bj.cell 4 (v := .int .i64 z) rfl; have e5 := Bj.cell 5 (v := .int .i64 X) rfl; have e6 := Bj.cell 6 (v := .int .i64 Y) rfl; have e7 := Bj.cell 7 (v := .int .i64 U) rfl; have e8 := Bj.cell 8 (v := .int .i64 V) rfl; have e9 := Bj.cell 9 (v := .bool ac) rfl
    by_cases hN0 : N = 0
    · subst hN0
      have hRL : L.map Ml.ps = R := by have := HRR.out; rw [lpL_zero, List.append_nil] at this; exact this
      have HRL : Hid (L.map Ml.ps = R) := hRL
      clear hRL HRR k2
      have hshape := ownA.2
      rcases hshape with ⟨rfl, hnil⟩ | ⟨ga, ca, cur, rfl, hba, _⟩
      · have hc0 : c = 0 := by simpa using hnil
        have ks := fun w1 => stableN w1
        subst hc0
        go_wp2_with (first | (go_at_call 57; refine (ks _).mono ?_; rintro e w' ⟨rfl, hw'⟩; subst w') | go_in)
        go_ret
        exact ⟨_, L, rfl, by rw [HC.out]; exact own_less ownA g1.size, fun l hl => own_less (HO.out l hl) g1.size, by rw [HRL.out], gw⟩
      · have ks := stableG wr W1.heap.size ga ca c L HC.out ownA (by omega)
        have hga := ownA.lt ga rfl
        go_wp2_with (first | (go_at_call 57; refine ks.mono ?_; rintro e w5 ⟨rfl, L', hp, own5, g5⟩) | go_in)
        go_ret
        have hlen : L'.length = c := by rw [hp.length_eq]; exact HC.out
        have ho5 := HO.out.kept g5 (fun l hl e => HNE.out l hl (by rw [e]; rfl))
        exact ⟨_, L', rfl, by rw [hlen]; exact own_less own5 g1.size, fun l hl => own_less (ho5 l (hp.mem_iff.1 hl)) g1.size, by rw [← HRL.out]; exact hp.map _, gw.andThen g5 (fun j hj => .inl (by injection hj with hj; omega))⟩
    · have hNp : (0 : Int) < (N : Int) := by omega
      obtain ⟨M, hM⟩ : ∃ M, N / 2 = M := ⟨_, rfl⟩
      have hdv : Int.tdiv (N : Int) 2 = (M : Int) := by rw [Int.tdiv_eq_ediv_of_nonneg (by omega)]; omega
      have hMb : M ≤ 1125899906842624 := by omega
      have hMN : M < N := by omega
      have hwM : IntKind.i64.wrap (M : Int) = (M : Int) := by rw [IntKind.wrap_i64]; omega
      have hst := HRR.out
      rw [lpL_pos k x y t z ms hN0, hM] at hst
      have hPl := pl_own ownM HQ.out
      obtain ⟨nx, hnx⟩ : ∃ nx, nxT k x y t z ms = nx := ⟨_, rfl⟩
      have HNX : Hid (nxT k x y t z ms = nx) := hnx
      rw [hnx] at hst
      have hnxl : nx.length ≤ q := by rw [← hnx, ← HQ.out]; exact mvT_len _ _ _ _ _ _ _ _
      have HM1 : Hid (∀ p ∈ nx, ∃ q, p = cellP k x y t z q) := fun p hp => mvT_mem (by rw [← hnx] at hp; exact hp)
      have kF := fun (w1 : World) (hP : Pl w1 (some ⟨gm, 0, none⟩) q (fun j => ms.getD j (0, 0))) => k2 w1 ms gm cm HMS.out (by rw [HQ.out]; exact hq) (by rw [HQ.out]; exact hP)
      have hflx : fl (srt (flF (fun j => cellP k x y t z (tmsP 2 (ms.getD j (0, 0)))) q)) = fl nx := by rw [← hnx, ← HQ.out]; rfl
      have hfln : (flF (fun j => cellP k x y t z (tmsP 2 (ms.getD j (0, 0)))) q).length = nx.length := by rw [← hnx, ← HQ.out]; unfold nxT mvT; rw [srt_len]
      rw [HQ.out, hflx, hfln] at kF
      clear hnx hflx hfln k2
      have hgmlt := ownM.lt gm rfl
      have HPl : Hid (Pl wr (some ⟨gm, 0, none⟩) q (fun j => ms.getD j (0, 0))) := hPl
      have HST : Hid (L.map Ml.ps ++ ((if N % 2 = 1 then [ms] else []) ++ lpL k x y t z nx M) = R) := hst
      clear hst hPl
      have HLT : Hid (∀ l ∈ L, l.g < wr.heap.size) := fun l hl => ((HO.out l hl).lt l.g rfl).2
      by_cases hodd : N % 2 = 1
      · have hrm : Int.tmod (N : Int) 2 = 1 := by rw [Int.tmod_eq_emod_of_nonneg (by omega)]; omega
        have hc18 : c ≤ 64 - 1 := by
          have h1 := congrArg List.length HST.out
          rw [if_pos hodd] at h1
          simp only [List.length_append, List.length_map, List.length_cons, List.length_nil] at h1
          have h2 := HC.out
          have h3 := HR19.out
          omega
        have HST1 : Hid ((L ++ [Ml.mk gm cm ms]).map Ml.ps ++ lpL k x y t z nx M = R) := by
          have := HST.out
          rw [if_pos hodd, ← List.append_assoc] at this
          unfold Hid
          rw [List.map_append]
          exact this
        have HEN : Hid ((L ++ [Ml.mk gm cm ms]).map encM = L.map encM ++ [.slice (some ⟨gm, 0, none⟩) q cm]) := by
          unfold Hid
          rw [List.map_append]
          show _ ++ [encM (Ml.mk gm cm ms)] = _
          unfold encM
          simp only
          rw [HQ.out]
        obtain ⟨W3, hW3⟩ : ∃ W3, wr.alloc (.cells #[.slice (some ⟨gm, 0, none⟩) q cm] 24) = W3 := ⟨_, rfl⟩
        have g3 : wr.grownBy W3 none := (by rw [← hW3]; exact World.grownBy_alloc _ _ _)
        have nX : ∀ l u, [Value.slice (some ⟨gm, 0, none⟩) q cm][l]? = some u → W3.cell? ((⟨wr.heap.size, 0, none⟩ : Addr).add l) = some u := by rw [← hW3]; exact World.news_of_block (heap_alloc_new _ _)
        have ownA3 := ownA.kept g3 (Classical.em _)
        have hs3 : W1.heap.size ≤ W3.heap.size := (gb_trans gj g3).size
        clear hodd HRR
        go_wp2_with (first | (at_builtin; refine wpList_append_lies _ rfl _ _ 29 rfl W1.heap.size 24 iS (.slice none 0 0) 1 24 underPSS HIS.out.1 HIS.out.2.1 HIS.out.2.2.1 HIS.out.2.2.2 rfl (by decide) _ c _ rfl ownA3 ⟨wr.heap.size, 0, none⟩ 1 1 [.slice (some ⟨gm, 0, none⟩) q cm] rfl rfl nX (by intro u hu; simp at hu; subst hu; rfl) (by decide) (by unfold maxLen; omega) (by omega) hs3 _ rfl ?_; intro g6 c6 w4 own4 g4 at4 lt4; have ownM4 := (ownM.kept g3 (Classical.em _)).kept g4 (.inr (fun e => HNM.out e.symm)); have Bq := (Bj.kept g3 (by simp)).kept g4 (fun e => by have := ownA.lt w.heap.size e.symm; omega); have a0 := Bq.cell 0 (v := .int .u8 k) rfl; have a1 := Bq.cell 1 (v := .int .i64 x) rfl; have a2 := Bq.cell 2 (v := .int .i64 y) rfl; have a3 := Bq.cell 3 (v := .int .u8 t) rfl; have a4 := Bq.cell 4 (v := .int .i64 z) rfl; have a5 := Bq.cell 5 (v := .int .i64 X) rfl; have a6 := Bq.cell 6 (v := .int .i64 Y) rfl; have a7 := Bq.cell 7 (v := .int .i64 U) rfl; have a8 := Bq.cell 8 (v := .int .i64 V) rfl; have a9 := Bq.cell 9 (v := .bool ac) rfl; have kF4 := kF w4 (pl_own ownM4 HQ.out)) | (go_at_call 56; refine kF4.mono ?_; rintro e w5 ⟨g5, c5, m5, hm5, rfl, own5, gg5⟩) | go_in)
        go_roundw
        case rel =>
          have hO4 := (HO.out.kept g3 (by simp)).kept g4 (fun l hl e => HNE.out l hl e.symm)
          have hg5 := own5.lt g5 rfl
          have s4 := g4.size
          have s3 : wr.heap.size ≤ W3.heap.size := g3.size
          have hnl : ∀ l ∈ L ++ [Ml.mk gm cm ms], g6 ≠ l.g := fun l hl e => by
            rcases List.mem_append.1 hl with hl | hl
            · rcases at4 with h | h
              · exact HNE.out l hl (h.trans (congrArg some e))
              · have := HLT.out l hl
                omega
            · have hll : l = Ml.mk gm cm ms := by simpa using hl
              subst hll
              rcases at4 with h | h
              · exact HNM.out (h.trans (congrArg some e))
              · simp only at e
                omega
          have hOw : Ow w5 W1.heap.size (L ++ [Ml.mk gm cm ms]) := fun l hl => by
            rcases List.mem_append.1 hl with hl | hl
            · exact (hO4 l hl).kept gg5 (Classical.em _)
            · have hll : l = Ml.mk gm cm ms := by simpa using hl
              subst hll
              have := ownM4.kept gg5 (Classical.em _)
              unfold encM
              simp only
              rw [HQ.out]
              exact this
          refine ⟨M, m5, c + 1, g5, c5, nx, L ++ [Ml.mk gm cm ms], _, rfl, rfl, by go_num, hm5, (by unfold Hid; rw [List.length_append, HC.out]; rfl), own_less own5 (by omega), by rw [HEN.out]; exact own4.kept gg5 (Classical.em _), hOw, (fun l hl e => hnl l hl (Option.some.inj e)), (fun e => by have e : g6 = g5 := Option.some.inj e; omega), HST1.out, HM1.out, by omega, by omega, hMb, Bq.kept gg5 (by simp), (((gb_trans gj g3).andThen g4 (fun j hj => .inl (ownA.lt j hj).1))).andThen gg5 (fun j hj => by cases hj)⟩
        case measure => simp [intOf]; omega
      · have hrm : Int.tmod (N : Int) 2 = 0 := by rw [Int.tmod_eq_emod_of_nonneg (by omega)]; omega
        have HST1 : Hid (L.map Ml.ps ++ lpL k x y t z nx M = R) := by
          have := HST.out
          rw [if_neg hodd, List.nil_append] at this
          exact this
        have kF4 := kF wr HPl.out
        clear hodd HRR
        go_wp2_with (first | (go_at_call 56; refine kF4.mono ?_; rintro e w5 ⟨g5, c5, m5, hm5, rfl, own5, gg5⟩) | go_in)
        go_roundw
        case rel =>
          have hg5 := own5.lt g5 rfl
          refine ⟨M, m5, c, g5, c5, nx, L, _, rfl, rfl, by go_num, hm5, HC, own_less own5 gj.size, ownA.kept gg5 (Classical.em _), HO.out.kept gg5 (by simp), HNE.out, (fun e => by have := ownA.lt g5 e; omega), HST1.out, HM1.out, by omega, hc, hMb, Bj.kept gg5 (by simp), gb_trans gj gg5⟩
        case measure => simp [intOf]; omega
end Ln
end Go.Proofs.YtbmpiddjakdebaaGreat
