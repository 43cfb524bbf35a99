/- The walk of PlainTells. -/
import Derived.Test.YtjacoifhjfipaabHt
import Derived.Test.YtjacoifhjfipaabAl
import Derived.Deep.RegionHeld2
namespace Go.Proofs.Ytjacoifhjfipaab
open Go.RowKit Ln
set_option linter.unusedVariables false
set_option linter.unusedSimpArgs false
set_option maxRecDepth 100000

theorem rd_of {n : Nat} {g : Nat → Nat → Nat} {m : Nat} (hg : ∀ j i, g j i < 256) (hz : (PT n g m).size ≤ 1680) : rdE (PT n g m) = 0 ∧ rdP (PT n g m) = 0 ∧ rdC (PT n g m) = pic n g m := by
  have h := rd_PT n g hg m
  have hs : ¬ 1048576 < (PT n g m).size := by omega
  unfold rdE rdP rdC
  rw [h, if_neg hs, if_neg hs, if_neg hs]
  exact ⟨rfl, rfl, rfl⟩
theorem rcF_len : ∀ (l : List Nat) (x y : Nat), (rcF l x y).length ≤ l.length
  | [], _, _ => Nat.le_refl _
  | v :: l, x, y => by
    have h := rcF_len l (x + 1) y
    rw [rcF, List.length_append, List.length_cons]
    split
    · simp; omega
    · simp; omega
theorem pic_len (n : Nat) (g : Nat → Nat → Nat) : ∀ m, (pic n g m).length ≤ n * m
  | 0 => Nat.zero_le _
  | m + 1 => by
    have h := pic_len n g m
    have h2 := rcF_len (rowS n g m) 0 m
    have h3 : (rowS n g m).length = n := by unfold rowS; simp
    rw [pic_succ, List.length_append, Nat.mul_succ]
    omega
theorem underTB : Try.prog.underlying 38 = some (.slice 4) := by kernel_rfl
theorem infoTB : (Try.prog.info? 4).map (fun i => (i.zero, i.size, i.bytes)) = some (some (.bool false), 1, 1) := by kernel_rfl
theorem wrap_n {a b : Nat} (h : a = b) (hb : b ≤ 4611686018427387904) : IntKind.i64.wrap (a : Int) = (b : Int) := by subst h; rw [IntKind.wrap_i64]; omega
theorem wrap_21 {b : Nat} (hb : b ≤ 100000) : IntKind.i64.wrap (21 * (b : Int)) = ((21 * b : Nat) : Int) := by rw [IntKind.wrap_i64]; omega
theorem wrap_pl {a b : Nat} (ha : a ≤ 4000000) (hb : b ≤ 100000) : IntKind.i64.wrap ((a : Int) + (b : Int)) = ((a + b : Nat) : Int) := by rw [IntKind.wrap_i64]; omega
theorem wrap_p1 {k : Nat} (h : k ≤ 1000000) : IntKind.i64.wrap ((k : Int) + 1) = (k : Int) + 1 := by rw [IntKind.wrap_i64]; omega
theorem wrap_p2 {k : Nat} (h : k ≤ 1000000) : IntKind.i64.wrap ((k : Int) + 2) = (k : Int) + 2 := by rw [IntKind.wrap_i64]; omega
theorem wrap_half {m M : Nat} (h : (m + 1) / 2 = M) (hm : m ≤ 100) : wrap64 (((m : Int) + 1).tdiv 2) = (M : Int) := by
  have e : ((m : Int) + 1).tdiv 2 = (M : Int) := by rw [Int.tdiv_eq_ediv_of_nonneg (by omega)]; omega
  rw [e]; unfold wrap64; omega
def lb (l : List Cx) (q : Nat) : Value := .bool (lvT l q)
theorem lb_snoc (l : List Cx) (a b : Nat) (z q : Nat) : (if q = 21 * b + a then Value.bool true else lb l q) = lb (l ++ [((a : Int), (b : Int), z)]) q := by
  unfold lb
  rw [lvT_snoc]
  split <;> rfl
set_option maxHeartbeats 8000000 in
theorem tells_walk (X0 Y0 V0 H0 : Int) (sp : Option Addr) (L cap : Nat) (st : Nat → Nat) (hL : L < 4611686018427387904) (h8 : ∀ q, q < L → st q < 256) (w : World) (hs : Sb w sp L st) :
    Calls Try.prog 4 #[.agg #[.int .i64 X0, .int .i64 Y0, .int .i64 V0, .int .i64 H0], .slice sp L cap] w fun e w' => e = .returned (.bool true) ∧ Below w.heap.size w w' := by
  obtain ⟨i0, hi⟩ := info_parts infoCx
  have HI : Hid (Try.prog.info? 40 = some i0 ∧ i0.zero = some (.agg #[.int .i64 0, .int .i64 0, .int .u8 0]) ∧ i0.size = 3 ∧ i0.bytes = 24) := hi
  have HS : Hid (Sb w sp L st) := hs
  have H8 : Hid (∀ q, q < L → st q < 256) := h8
  clear hi hs h8
  obtain ⟨V1, hV1, sV1, gV1, BV1⟩ := boxn w #[.int .i64 X0, .int .i64 Y0, .int .i64 V0, .int .i64 H0] 28
  obtain ⟨mc, hmk, hmr⟩ : ∃ mc : Array Value, (∀ w, (Instr.makeSlice 38 (.int .i64 462) (.int .i64 462)).run Try.prog w = .ok (.slice (some ⟨w.heap.size, 0, none⟩) 462 462) (w.alloc (.cells mc 4))) ∧ ∀ w : World, (w.alloc (.cells mc 4)).rowIs w.heap.size 4 462 (lb []) :=
    ⟨madeCells #[.bool false] 462, fun w => run_make_row' (P := Try.prog) 38 4 (.bool false) 1 underTB infoTB rfl .i64 .i64 462 (by decide) (by decide) w, fun w => World.rowIs_made w (.bool false) 462 4⟩
  have HMR : Hid (∀ w : World, (w.alloc (.cells mc 4)).rowIs w.heap.size 4 462 (lb [])) := hmr
  clear hmr
  go_enter Try.func4, Try.ntmps4
  go_wp2_with (first
    | (go_at_call 5; refine (aliveC V1).mono ?_; rintro e w1 ⟨rfl, g1⟩; have G1 := gb_trans gV1 g1; have a0 := (BV1.kept g1 (by simp)).cell 0 (v := .int .i64 X0) rfl; have a1 := (BV1.kept g1 (by simp)).cell 1 (v := .int .i64 Y0) rfl; have a2 := (BV1.kept g1 (by simp)).cell 2 (v := .int .i64 V0) rfl; have a3 := (BV1.kept g1 (by simp)).cell 3 (v := .int .i64 H0) rfl)
    | (go_at_call 8; refine (fewC X0 Y0 V0 H0 w1).mono ?_; rintro e w2 ⟨⟨x, y, n, m, hx, hy, hn, hm, rfl⟩, g2⟩; have G2 := gb_trans G1 g2; have HXY : Hid ((-1000 ≤ x ∧ x ≤ 1000) ∧ (-1000 ≤ y ∧ y ≤ 1000) ∧ n ≤ 20 ∧ m ≤ 20) := ⟨hx, hy, hn, hm⟩; clear hx hy hn hm a0 a1 a2 a3; obtain ⟨V3, hV3, sV3, gV3, BV3⟩ := boxn w2 #[.int .i64 x, .int .i64 y, .int .i64 (n : Nat), .int .i64 (m : Nat)] 28; have G3 := gb_trans G2 gV3; have b0 := (BV3).cell 0 (v := .int .i64 x) rfl; have b1 := (BV3).cell 1 (v := .int .i64 y) rfl; have b2 := (BV3).cell 2 (v := .int .i64 (n : Nat)) rfl; have b3 := (BV3).cell 3 (v := .int .i64 (m : Nat)) rfl)
    | (go_at_call 9; refine (laidC x y HXY.out.1 HXY.out.2.1 n m HXY.out.2.2.1 HXY.out.2.2.2 sp L cap hL st V3 (HS.out.kept G3 (by simp))).mono ?_; rintro e w4 ⟨v4, rfl, o4, g4⟩; have G4 := gb_trans G3 g4; have hll := ldP_len x y n L st (m + 2); have hok := ld_ok x y n L st HXY.out.1 HXY.out.2.1 HXY.out.2.2.1 HXY.out.2.2.2 H8.out; have hWW := ld_W x y n L st HXY.out.1 HXY.out.2.1 HXY.out.2.2.1 HXY.out.2.2.2 H8.out; have hRD := rd_of (gA_lt n L st H8.out) hWW.2.2; have hhv := ld_H x y n L st HXY.out.1 HXY.out.2.1 HXY.out.2.2.1 HXY.out.2.2.2 H8.out; obtain ⟨l, hl⟩ : ∃ l, ldP x y n L st (m + 2) = l := ⟨_, rfl⟩; rw [hl] at o4 hll hok hWW hhv; obtain ⟨T, hT⟩ : ∃ T, PT n (gA n L st) m = T := ⟨_, rfl⟩; rw [hT] at hWW hRD; obtain ⟨PC, hPC⟩ : ∃ PC, pic n (gA n L st) m = PC := ⟨_, rfl⟩; rw [hPC] at hRD; have hpl := pic_len n (gA n L st) m; rw [hPC] at hpl; have hpi : ∀ c ∈ PC, ∃ i j z : Nat, c = ((i : Int), (j : Int), z) ∧ i < n ∧ j < m := (by rw [← hPC]; exact pic_in); have hpm : n * m ≤ 20 * 20 := Nat.mul_le_mul (by have := HXY.out; omega) (by have := HXY.out; omega); have hlv : ∀ y x, x < n → lvT PC (21 * y + x) = lvA (gA n L st) m y x := fun y x hx => (by rw [← hPC]; exact lvT_pic _ m HXY.out.2.2.1 hx); obtain ⟨g, hg⟩ : ∃ g, gA n L st = g := ⟨_, rfl⟩; simp only [hg] at hhv hlv; obtain ⟨SS, hSS⟩ : ∃ SS, runesBytes (dwP n (hG g m) ((m + 1) / 2)) = SS := ⟨_, rfl⟩; rw [hSS] at hhv; have HLV : Hid (∀ y x, x < n → lvT PC (21 * y + x) = lvA g m y x) := hlv; have HPI : Hid (∀ c ∈ PC, ∃ i j z : Nat, c = ((i : Int), (j : Int), z) ∧ i < n ∧ j < m) := hpi; have HPL : Hid (PC.length ≤ 400) := Nat.le_trans hpl hpm; have HSS : Hid (runesBytes (dwP n (hG g m) ((m + 1) / 2)) = SS) := hSS; have HHV : Hid (hvE l x y (n : Int) (m : Int) = 0 ∧ hvS l x y (n : Int) (m : Int) = SS ∧ SS.size ≤ 1680) := hhv; clear hl hT hPC hg hSS hhv hpl hpm hpi hlv; have hmul : (m + 2) * (n + 2) ≤ 22 * 22 := Nat.mul_le_mul (by have := HXY.out; omega) (by have := HXY.out; omega); have HLL : Hid (l.length ≤ 484) := Nat.le_trans hll hmul; have HOK : Hid (∀ c ∈ l, CxOk c ∧ farC c = false) := hok; have HWW : Hid (wrE l x y (n : Int) (m : Int) = 0 ∧ wrS l x y (n : Int) (m : Int) = T ∧ T.size ≤ 1680) := hWW; have HRD : Hid (rdE T = 0 ∧ rdP T = 0 ∧ rdC T = PC) := hRD; clear hll hok hWW hRD hmul; obtain ⟨sp4, cp4, rfl, ce4, _⟩ := ce_of o4; have c0 := (BV3.kept g4 (by simp)).cell 0 (v := .int .i64 x) rfl; have c1 := (BV3.kept g4 (by simp)).cell 1 (v := .int .i64 y) rfl; have c2 := (BV3.kept g4 (by simp)).cell 2 (v := .int .i64 (n : Nat)) rfl; have c3 := (BV3.kept g4 (by simp)).cell 3 (v := .int .i64 (m : Nat)) rfl; clear b0 b1 b2 b3)
    | (go_at_call 10; refine (halvesC sp4 cp4 l (by have := HLL.out; omega) (fun c hc => (HOK.out c hc).1) x y n m w4 ce4).mono ?_; rintro e w5 ⟨he, g5⟩; rw [HHV.out.1, HHV.out.2.1] at he; subst he; have G5 := gb_trans G4 g5; have H5 : Hid (Ce w5 sp4 l) := ce4.kept g5 (by simp); have BV5 := BV3.kept (gb_trans g4 g5) (by simp); clear c0 c1 c2 c3; have d0 := (BV5).cell 0 (v := .int .i64 x) rfl; have d1 := (BV5).cell 1 (v := .int .i64 y) rfl; have d2 := (BV5).cell 2 (v := .int .i64 (n : Nat)) rfl; have d3 := (BV5).cell 3 (v := .int .i64 (m : Nat)) rfl)
    | (go_at_call 11; refine (writeC sp4 cp4 l (by have := HLL.out; omega) (fun c hc => (HOK.out c hc).1) x y n m w5 H5.out).mono ?_; rintro e w6 ⟨he, g6⟩; rw [HWW.out.1, HWW.out.2.1] at he; subst he; have G6 := gb_trans G5 g6; clear d0 d1 d2 d3)
    | (go_at_call 12; refine (readAll T w6).mono ?_; rintro e w7 ⟨v7, he, o7, g7⟩; rw [HRD.out.1, HRD.out.2.1] at he; rw [HRD.out.2.2] at o7; subst he; obtain ⟨sp7, cp7, rfl, ce7, _⟩ := ce_of o7; have H7 : Hid (Ce w7 sp7 PC) := ce7; have G7 := gb_trans G6 g7; clear ce7 o7)
    | go_in)
  obtain ⟨W8, hW8⟩ : ∃ W8, w7.alloc (.cells mc 4) = W8 := ⟨_, rfl⟩
  have R8 : Hid (W8.rowIs w7.heap.size 4 462 (lb [])) := by rw [← hW8]; exact HMR.out w7
  have g8 : w7.grownBy W8 none := by rw [← hW8]; exact World.grownBy_alloc _ _ _
  have G8 := gb_trans G7 g8
  have H8c : Hid (Ce W8 sp7 PC) := H7.out.kept g8 (by simp)
  have BV8 := BV5.kept (gb_trans g6 (gb_trans g7 g8)) (by simp)
  rw [hW8]
  clear hW8 hmk
  have hw27 := BV5.kept (gb_trans g6 g7) (by simp)
  have BB : Hid (w2.heap.size < w7.heap.size) := hw27.lt
  have BV7 : Hid (Bo w7 w2.heap.size 28 #[.int .i64 x, .int .i64 y, .int .i64 (n : Nat), .int .i64 (m : Nat)]) := hw27
  obtain ⟨LB, hLB⟩ : ∃ LB, w7.heap.size = LB := ⟨_, rfl⟩
  have HLB : Hid (w7.heap.size = LB) := hLB
  rw [hLB] at R8 BB
  rw [hLB]
  clear hLB hw27 BV8 H8c BV5 o4 ce4 BV3 BV1
  obtain ⟨PL, hPLn⟩ : ∃ PL, PC.length = PL := ⟨_, rfl⟩
  have HPN : Hid (PC.length = PL) := hPLn
  have HPL' : Hid (PL ≤ 400) := by rw [← hPLn]; exact HPL.out
  rw [hPLn]
  clear hPLn
  have g8' : Hid (w7.grownBy W8 none) := g8
  clear g8
  go_loopw [16] (fun vk wr => ∃ k : Nat, k ≤ PL ∧ vk = .int .i64 (k : Nat) ∧ Hid (wr.rowIs LB 4 462 (lb (PC.take k))) ∧ Hid (w7.grownBy wr none)) (fun vk _ => PL - (intOf vk).toNat)
  case atStart => exact ⟨0, Nat.zero_le _, rfl, R8, g8'⟩
  case round =>
    obtain ⟨k, hk, rfl, HRow, HG⟩ := hrel
    have r2 := (BV7.out.kept HG.out (by simp)).cell 2 (v := .int .i64 (n : Nat)) rfl
    have r3 := (BV7.out.kept HG.out (by simp)).cell 3 (v := .int .i64 (m : Nat)) rfl
    by_cases hlt : k < PL
    · have hlt' : (k : Int) < (PL : Int) := Int.ofNat_lt.2 hlt
      have hkl : k < PC.length := by rw [HPN.out]; exact hlt
      obtain ⟨q, o, rfl, c0, c1, c2⟩ := (H7.out.kept HG.out (by simp)) k hkl
      obtain ⟨q', o', hq', d0, _, _⟩ := H7.out k hkl
      cases hq'
      have hqlt : q < LB := by rw [← HLB.out]; exact cell_lt d0
      have hqn : q ≠ LB := Nat.ne_of_lt hqlt
      have hqn' : LB ≠ q := fun e => hqn e.symm
      clear d0 hqlt
      obtain ⟨a, b, z, hc, han, hbm⟩ := HPI.out _ (List.getElem_mem hkl)
      rw [hc] at c0 c1 c2
      have HC : Hid (PC[k] = ((a : Int), (b : Int), z)) := hc
      have ha20 : a < 20 := Nat.lt_of_lt_of_le han HXY.out.2.2.1
      have hb20 : b < 20 := Nat.lt_of_lt_of_le hbm HXY.out.2.2.2
      have hwk : IntKind.i64.wrap ((k : Int) + 1) = (k : Int) + 1 := wrap_p1 (by have := HPL'.out; omega)
      have hw21 : IntKind.i64.wrap (21 * (b : Int)) = ((21 * b : Nat) : Int) := wrap_21 (by omega)
      have hwp : IntKind.i64.wrap (((21 * b : Nat) : Int) + (a : Int)) = ((21 * b + a : Nat) : Int) := wrap_pl (by omega) (by omega)
      obtain ⟨P, hP⟩ : ∃ P, 21 * b = P := ⟨_, rfl⟩
      obtain ⟨Q, hQ⟩ : ∃ Q, P + a = Q := ⟨_, rfl⟩
      have HQ : Hid (21 * b + a = Q) := by unfold Hid; rw [hP]; exact hQ
      rw [hP] at hw21 hwp
      rw [hQ] at hwp
      have hq1 : (Q : Int) < 462 := by have := HQ.out; omega
      have hq0 : (0 : Int) ≤ (Q : Int) := Int.natCast_nonneg _
      have HAB : Hid (a < n ∧ b < m) := ⟨han, hbm⟩
      clear hP hQ hc han hbm ha20 hb20
      go_wp2
      have t1 : decide ((a : Int) < 0) = false := decide_eq_false (by omega)
      have t2 : decide ((n : Int) ≤ (a : Int)) = false := decide_eq_false (by have := HAB.out; omega)
      have t3 : decide ((b : Int) < 0) = false := decide_eq_false (by omega)
      have t4 : decide ((m : Int) ≤ (b : Int)) = false := decide_eq_false (by have := HAB.out; omega)
      have t5 : decide (n ≤ a) = false := decide_eq_false (by have := HAB.out; omega)
      have t6 : decide (m ≤ b) = false := decide_eq_false (by have := HAB.out; omega)
      go_quiet (fail)
      generalize hU : World.drewN wr _ = U
      have HRU : U.rowIs LB 4 462 (lb (PC.take k)) := by rw [← hU]; exact HRow.out
      have HGU : Hid (w7.grownBy U none) := by rw [← hU]; exact gb_drewN HG.out _
      have u0 : U.cell? ⟨q, o + k * 3, none⟩ = some (.int .i64 (a : Int)) := by rw [← hU]; exact c0
      have u1 : U.cell? ⟨q, o + k * 3 + 1, none⟩ = some (.int .i64 (b : Int)) := by rw [← hU]; exact c1
      have y5 := HRU.frozen Q
      have y6 := HRU.cell (i := Q) (by have := hq1; omega)
      have HRU' : Hid (U.rowIs LB 4 462 (lb (PC.take k))) := HRU
      clear hU c0 c1 c2 r2 r3 t1 t2 t3 t4 t5 t6 HRU HRow HG
      go_wp2
      go_region_held2 (fun w' => w'.cell? ⟨q, o + k * 3 + 1, none⟩ = some (.int .i64 (b : Int)) ∧ w'.cell? ⟨q, o + k * 3, none⟩ = some (.int .i64 (a : Int))) (go_keep) (fail)
      have HR1 : Hid ((U.setCell ⟨LB, Q, none⟩ (.bool true)).drew.rowIs LB 4 462 (lb (PC.take (k + 1)))) := by
        have h1 := HRU'.out.set Q (.bool true)
        have h2 := h1.congr (g := lb (PC.take (k + 1))) (fun j hj => by rw [take_succ PC k hkl, HC.out, ← HQ.out]; exact lb_snoc _ a b z j)
        exact h2.drew
      have HG1 : Hid (w7.grownBy (U.setCell ⟨LB, Q, none⟩ (.bool true)).drew none) := gb_drew (gb_new HGU.out (a := ⟨LB, Q, none⟩) (Nat.le_of_eq HLB.out) _)
      obtain ⟨V, hV⟩ : ∃ V, (U.setCell ⟨LB, Q, none⟩ (.bool true)).drew = V := ⟨_, rfl⟩
      rw [hV] at HR1 HG1
      rw [hV]
      clear hV y5 y6 u0 u1
      go_wp2
      go_roundw
      case rel => exact ⟨k + 1, hlt, by go_num, HR1, HG1⟩
      case measure => simp [intOf]; omega
    · have hkn : k = PL := Nat.le_antisymm hk (Nat.not_lt.1 hlt)
      have hlt' : ¬ (k : Int) < (PL : Int) := fun h => hlt (Int.ofNat_lt.1 h)
      have HR2 : Hid (wr.rowIs LB 4 462 (lb PC)) := by
        have h9 := HRow.out
        rw [hkn, ← HPN.out, List.take_length] at h9
        exact h9
      clear HRow hkn
      go_wp2
      obtain ⟨IB, hIB⟩ : ∃ IB, wr.heap.size = IB := ⟨_, rfl⟩
      obtain ⟨W9, hW9⟩ : ∃ W9, wr.iter SS 0 = W9 := ⟨_, rfl⟩
      have hit0 : It W9 IB SS 0 := by rw [← hW9, ← hIB]; exact World.iter_heap wr SS 0
      have HR9 : Hid (W9.rowIs LB 4 462 (lb PC)) := by rw [← hW9]; exact HR2.out.alloc _
      have HG9 : Hid (w7.grownBy W9 none) := by rw [← hW9]; exact gb_alloc HG.out _
      have hIL : w7.heap.size ≤ IB := by rw [← hIB]; exact HG.out.size
      have HIL : Hid (w7.heap.size ≤ IB) := hIL
      have hLI : LB < IB := by rw [← hIB]; exact HR2.out.lt
      have HLI : Hid (LB < IB) := hLI
      rw [hIB, hW9]
      obtain ⟨M, hM⟩ : ∃ M, (m + 1) / 2 = M := ⟨_, rfl⟩
      have HM : Hid ((m + 1) / 2 = M) := hM
      obtain ⟨F, hF⟩ : ∃ F, hG g m = F := ⟨_, rfl⟩
      have HF : Hid (∀ j i, F j i = hfR (lvA g m (2 * j) i) (lvA g m (2 * j + 1) i)) := by rw [← hF]; exact fun j i => rfl
      have HS2 : Hid (runesBytes (dwP n F M) = SS) := by rw [← hF, ← hM]; exact HSS.out
      have hp0 : It W9 IB SS (pos n F 0 0) := by
        have e : pos n F 0 0 = 0 := by unfold pos; rw [rwP_zero]; rfl
        rw [e]; exact hit0
      clear hIB hW9 hIL hLI hM hF hit0 HR2 HG hlt' hlt hk r2 r3
      go_loopw [17, 18, 19] (fun vx vy vl wr => ∃ j i y2 : Nat, (j ≤ M ∧ i ≤ n ∧ (j = M → i = 0)) ∧ 2 * j = y2 ∧ vx = .int .i64 (i : Nat) ∧ vy = .int .i64 (y2 : Nat) ∧ vl = .int .i64 (j : Nat) ∧ It wr IB SS (pos n F j i) ∧ Hid (wr.rowIs LB 4 462 (lb PC)) ∧ Hid (w7.grownBy wr none)) (fun _ _ _ wr => SS.size - itP wr IB)
      case atStart => exact ⟨0, 0, 0, ⟨Nat.zero_le _, Nat.zero_le _, fun _ => rfl⟩, rfl, rfl, rfl, rfl, hp0, HR9, HG9⟩
      case round =>
        obtain ⟨j, i, y2, ⟨hj, hi, hji⟩, hy2, rfl, rfl, rfl, hit, HRow, HG⟩ := hrel
        have r2 := (BV7.out.kept HG.out (by simp)).cell 2 (v := .int .i64 (n : Nat)) rfl
        have r3 := (BV7.out.kept HG.out (by simp)).cell 3 (v := .int .i64 (m : Nat)) rfl
        have hIp : itP wr IB = pos n F j i := hit.pos
        have HIp : Hid (itP wr IB = pos n F j i) := hIp
        have HY2 : Hid (2 * j = y2) := hy2
        have HB : Hid (j ≤ M ∧ i ≤ n ∧ (j = M → i = 0)) := ⟨hj, hi, hji⟩
        by_cases hjM : j < M
        · have hy20 : y2 < m := by have := HM.out; omega
          have hm20 : m ≤ 20 := HXY.out.2.2.2
          have hn20 : n ≤ 20 := HXY.out.2.2.1
          by_cases hin : i < n
          · have hst := st_in n F (M := M) hjM hin (by rw [HF.out]; exact rn_hf _ _)
            rw [HS2.out] at hst
            have hnx : ∀ ty, (Instr.next (.pointer (some ⟨IB, 0, none⟩)) true ty).run Try.prog wr = _ := fun ty => run_next_at wr IB SS (pos n F j i) ty hit hst.1
            have hitU := hit.put (q := pos n F j i + (Utf8.decode SS (pos n F j i)).2)
            have hgU := grownBy_putObj' wr IB (.stringIter SS (pos n F j i + (Utf8.decode SS (pos n F j i)).2))
            simp only [hst.2.1, hst.2.2] at hnx hitU hgU
            have HST : Hid (pos n F j i < SS.size ∧ pos n F j i < pos n F j (i + 1)) := ⟨hst.1, by rw [← hst.2.2]; have := dec_pos SS _ hst.1; omega⟩
            rw [HF.out] at hnx
            obtain ⟨V, hV⟩ : ∃ V, wr.putObj IB (.stringIter SS (pos n F j (i + 1))) = V := ⟨_, rfl⟩
            simp only [hV] at hnx hitU hgU
            have HRV : Hid (V.rowIs LB 4 462 (lb PC)) := rowIs_kept HRow.out hgU (fun e => by cases e; exact Nat.lt_irrefl _ HLI.out)
            have HGV : Hid (w7.grownBy V none) := gb_row HG.out hgU (fun r e => by cases e; exact HIL.out)
            have HIT : Hid (It V IB SS (pos n F j (i + 1))) := hitU
            have v2 := (BV7.out.kept HGV.out (by simp)).cell 2 (v := .int .i64 (n : Nat)) rfl
            have v3 := (BV7.out.kept HGV.out (by simp)).cell 3 (v := .int .i64 (m : Nat)) rfl
            obtain ⟨P1, hP1⟩ : ∃ P1, 21 * y2 = P1 := ⟨_, rfl⟩
            obtain ⟨Q1, hQ1⟩ : ∃ Q1, P1 + i = Q1 := ⟨_, rfl⟩
            obtain ⟨y3, hy3⟩ : ∃ y3, y2 + 1 = y3 := ⟨_, rfl⟩
            obtain ⟨P2, hP2⟩ : ∃ P2, 21 * y3 = P2 := ⟨_, rfl⟩
            obtain ⟨Q2, hQ2⟩ : ∃ Q2, P2 + i = Q2 := ⟨_, rfl⟩
            have ww1 : IntKind.i64.wrap (21 * (y2 : Int)) = (P1 : Int) := by rw [← hP1]; exact wrap_21 (by omega)
            have ww2 : IntKind.i64.wrap ((P1 : Int) + (i : Int)) = (Q1 : Int) := by rw [← hQ1]; exact wrap_pl (by omega) (by omega)
            have ww3 : IntKind.i64.wrap ((y2 : Int) + 1) = (y3 : Int) := by rw [← hy3]; exact wrap_p1 (by omega)
            have ww4 : IntKind.i64.wrap (21 * (y3 : Int)) = (P2 : Int) := by rw [← hP2]; exact wrap_21 (by omega)
            have ww5 : IntKind.i64.wrap ((P2 : Int) + (i : Int)) = (Q2 : Int) := by rw [← hQ2]; exact wrap_pl (by omega) (by omega)
            have ww6 : IntKind.i64.wrap ((i : Int) + 1) = (i : Int) + 1 := wrap_p1 (by omega)
            have q1 : (Q1 : Int) < 462 := by omega
            have q2 : (Q2 : Int) < 462 := by omega
            have q3 : (0 : Int) ≤ (Q1 : Int) := Int.natCast_nonneg _
            have q4 : (0 : Int) ≤ (Q2 : Int) := Int.natCast_nonneg _
            have z1 := HRV.out.cell (i := Q1) (by omega)
            have z2 := HRV.out.cell (i := Q2) (by omega)
            have l1 : lb PC Q1 = .bool (lvA g m (2 * j) i) := by unfold lb; rw [← HLV.out _ _ hin, show 21 * (2 * j) + i = Q1 by omega]
            have l2 : lb PC Q2 = .bool (lvA g m (2 * j + 1) i) := by unfold lb; rw [← HLV.out _ _ hin, show 21 * (2 * j + 1) + i = Q2 by omega]
            rw [l1] at z1
            rw [l2] at z2
            have HB2 : Hid (i < n ∧ y2 < m) := ⟨hin, hy20⟩
            clear l1 l2 hP1 hQ1 hy3 hP2 hQ2 hV hgU hitU hit HRow HG r2 r3 hIp hy2 hj hi hji hy20 hm20 hn20 hst
            cases hA : lvA g m (2 * j) i <;> cases hB : lvA g m (2 * j + 1) i <;> simp only [hA, hB, hfR, if_true, if_false] at hnx z1 z2
            all_goals clear hA hB hin
            all_goals go_wp2
            all_goals first
              | (exfalso; have hb := HB2.out; omega)
              | (refine ⟨⟨j, i + 1, y2, ⟨HB.out.1, HB2.out.1, fun e => absurd e (Nat.ne_of_lt hjM)⟩, HY2.out, by go_num, rfl, rfl, HIT.out, HRV, HGV⟩, ?_⟩; rw [HIT.out.pos, HIp.out]; have := HST.out; omega)
              | skip
          · have hine : n = i := by omega
            subst hine
            have hst := st_end n F (M := M) hjM
            rw [HS2.out] at hst
            have hnx : ∀ ty, (Instr.next (.pointer (some ⟨IB, 0, none⟩)) true ty).run Try.prog wr = _ := fun ty => run_next_at wr IB SS (pos n F j n) ty hit hst.1
            have hitU := hit.put (q := pos n F j n + (Utf8.decode SS (pos n F j n)).2)
            have hgU := grownBy_putObj' wr IB (.stringIter SS (pos n F j n + (Utf8.decode SS (pos n F j n)).2))
            simp only [hst.2.1, hst.2.2] at hnx hitU hgU
            have HST : Hid (pos n F j n < SS.size ∧ pos n F j n < pos n F (j + 1) 0) := ⟨hst.1, by rw [← hst.2.2]; have := dec_pos SS _ hst.1; omega⟩
            obtain ⟨V, hV⟩ : ∃ V, wr.putObj IB (.stringIter SS (pos n F (j + 1) 0)) = V := ⟨_, rfl⟩
            simp only [hV] at hnx hitU hgU
            have HRV : Hid (V.rowIs LB 4 462 (lb PC)) := rowIs_kept HRow.out hgU (fun e => by cases e; exact Nat.lt_irrefl _ HLI.out)
            have HGV : Hid (w7.grownBy V none) := gb_row HG.out hgU (fun r e => by cases e; exact HIL.out)
            have HIT : Hid (It V IB SS (pos n F (j + 1) 0)) := hitU
            have v2 := (BV7.out.kept HGV.out (by simp)).cell 2 (v := .int .i64 (n : Nat)) rfl
            have ww3 : IntKind.i64.wrap ((y2 : Int) + 2) = (y2 : Int) + 2 := wrap_p2 (by omega)
            have ww6 : IntKind.i64.wrap ((j : Int) + 1) = (j : Int) + 1 := wrap_p1 (by omega)
            clear hV hgU hitU hit HRow HG r2 r3 hIp hy2 hj hi hji hy20 hm20 hn20 hst hin
            go_wp2
            · refine ⟨⟨j + 1, 0, y2 + 2, ⟨hjM, Nat.zero_le _, fun _ => rfl⟩, by have := HY2.out; omega, rfl, by go_num, by go_num, HIT.out, HRV, HGV⟩, ?_⟩
              rw [HIT.out.pos, HIp.out]; have := HST.out; omega
        · have hjM' : M = j := by omega
          subst hjM'
          obtain rfl : i = 0 := hji rfl
          have hnx : ∀ ty, (Instr.next (.pointer (some ⟨IB, 0, none⟩)) true ty).run Try.prog wr = _ := fun ty => run_next_out wr IB SS (pos n F M 0) ty hit (by rw [st_out, HS2.out]; exact Nat.lt_irrefl _)
          have ww1 : IntKind.i64.wrap ((m : Int) + 1) = (m : Int) + 1 := wrap_p1 (by have := HXY.out; omega)
          have ww2 : wrap64 (((m : Int) + 1).tdiv 2) = (M : Int) := wrap_half HM.out (by have := HXY.out; omega)
          clear hit HRow hIp hy2 hj hi hji r2 hjM
          go_wp2
          go_ret
          exact ⟨rfl, gb_below (gb_trans G7 HG.out)⟩
end Go.Proofs.Ytjacoifhjfipaab
