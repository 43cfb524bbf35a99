/- Rows of package ring, of a grid of two states. -/
import Derived.Test.YtjndljjpbkfmiaaGreatDoorKz
import Derived.Test.YtjndljjpbkfmiaaGreatDoorWq
import Derived.Test.YtjndljjpbkfmiaaGreatDoorKu
import Derived.Test.YtjndljjpbkfmiaaGreatDoorKv
import Derived.ArgAppend
import Derived.Test.YtjndljjpbkfmiaaGreatDoorOg
import Derived.Test.YtjndljjpbkfmiaaGreatDoorCards
import Derived.Test.YtjndljjpbkfmiaaGreatDoorTie
import Derived.ProofKit
import Derived.LaidMore
import Derived.Lay
import Derived.OpenShut
import Derived.ChangeOld
import Derived.Carry
import Derived.Stop.Joined
import Derived.Stop.LaidErr
import Derived.SizedLaws
import Derived.SevenTiedAt
import Derived.ShutString
namespace Go.Proofs.YtjndljjpbkfmiaaGreatDoor
open Go.RowKit
set_option linter.unusedVariables false
set_option linter.unusedSimpArgs false
set_option maxRecDepth 100000

/-- How many words hold so many bits. -/
def nwN (m : Nat) : Nat := (m + 63) / 64
theorem underRS : Tryz.prog.underlying 44 = some (.slice 86) := by first | exact Tryz.underlying44 | kernel_rfl
theorem infoRW : (Tryz.prog.info? 86).map (fun i => (i.zero, i.size, i.bytes)) = some (some (.agg #[.int .i64 0, .slice none 0 0]), 2, 32) := by kernel_rfl
/-- The cells of a list of rows, of which the first q are laid. -/
def rwC (m : Nat) (wb : Nat → Nat) (q c : Nat) : Value := if c / 2 < q then (if c % 2 = 0 then .int .i64 (m : Nat) else .slice (some ⟨wb (c / 2), 0, none⟩) (nwN m) (nwN m)) else (if c % 2 = 0 then .int .i64 0 else .slice none 0 0)
theorem rwC_step (m : Nat) (wb : Nat → Nat) (q b' c : Nat) : (if c = q * 2 + 1 then (.slice (some ⟨b', 0, none⟩) (nwN m) (nwN m) : Value) else if c = q * 2 then .int .i64 (m : Nat) else rwC m wb q c) = rwC m (fun j => if j = q then b' else wb j) (q + 1) c := by
  unfold rwC
  dsimp only
  by_cases h1 : c = q * 2 + 1
  · rw [if_pos h1, if_pos (show c / 2 < q + 1 by omega), if_neg (show ¬ c % 2 = 0 by omega), if_pos (show c / 2 = q by omega)]
  · rw [if_neg h1]
    by_cases h2 : c = q * 2
    · rw [if_pos h2, if_pos (show c / 2 < q + 1 by omega), if_pos (show c % 2 = 0 by omega)]
    · rw [if_neg h2]
      by_cases h3 : c / 2 < q
      · rw [if_pos h3, if_pos (show c / 2 < q + 1 by omega), if_neg (show ¬ c / 2 = q by omega)]
      · rw [if_neg h3, if_neg (show ¬ c / 2 < q + 1 by omega)]
theorem make2 (n : Nat) (hn : n ≤ 65538) (w : World) : (Instr.makeSlice 44 (.int .i64 (n : Int)) (.int .i64 (n : Int))).run Tryz.prog w = .ok (.slice (some ⟨w.heap.size, 0, none⟩) n n) (w.alloc (.cells (madeCells #[.int .i64 0, .slice none 0 0] (n * 2)) 86)) := by
  obtain ⟨i, hi, hzz⟩ := Option.map_eq_some_iff.1 infoRW
  simp only [Prod.mk.injEq] at hzz
  obtain ⟨hz, hs, hb⟩ := hzz
  have hr := run_make (P := Tryz.prog) w 44 86 i _ underRS hi hz .i64 .i64 n n (by omega) (Int.le_refl _) (by rw [hb]; omega) (by omega)
  simp only [Int.toNat_natCast, hs] at hr
  exact hr
theorem made2 (w : World) (n m : Nat) (wb : Nat → Nat) : (w.alloc (.cells (madeCells #[.int .i64 0, .slice none 0 0] (n * 2)) 86)).rowIs w.heap.size 86 (2 * n) (rwC m wb 0) := by
  refine ⟨_, heap_alloc_new _ _, by rw [size_madeCells]; omega, fun i hi => ?_⟩
  unfold rwC
  rw [if_neg (by omega)]
  have h1 : i < n * 2 := by omega
  rcases Nat.mod_two_eq_zero_or_one i with h | h
  · simp [madeCells, h1, h]
  · simp [madeCells, h1, h]
set_option maxHeartbeats 1000000 in
theorem rowsY {k t z : Int} {C R : Nat} (G : Gr k t z C R) (hall : C * R ≤ 1048576) {M : World → Prop} {n0 b S : Nat} {g : Nat → Nat} (F : FdM M n0 b C R S g) (h256 : ∀ i, g i < 256) (hS : S ≤ 2) (w : World) (hn0 : n0 ≤ w.heap.size) (hM : M w) :
    Calls Tryz.prog 19 #[.agg #[.int .u8 k, .int .i64 (C : Nat), .int .i64 (R : Nat), .int .u8 t, .int .i64 z], .pointer (some ⟨b, 0, none⟩)] w fun e w' => ∃ rb wb, e = .returned (.tuple #[.slice (some ⟨rb, 0, none⟩) (R + 2) (R + 2), .int .i64 0]) ∧ w'.rowIs rb 86 (2 * (R + 2)) (rwC (C + 2) wb (R + 2)) ∧ w.heap.size ≤ rb ∧ (∀ i, i < R + 2 → w.heap.size ≤ wb i ∧ wb i ≠ rb ∧ Row w' 94 (wb i) (nwN (C + 2)) (fun j => decide (j < C + 2) && lvB (frV k t z C R g (i * (C + 2) + j)))) ∧ (∀ i j, i < R + 2 → j < R + 2 → wb i = wb j → i = j) ∧ w.grownBy w' none := by
  have hc0 := G.c0
  have c1 := G.c1
  have r1 := G.r1
  have hcg := cg_gr G
  obtain ⟨W1, hW1, sz1, g1, B1⟩ := boxn w #[.int .u8 k, .int .i64 (C : Nat), .int .i64 (R : Nat), .int .u8 t, .int .i64 z] 23
  obtain ⟨W2, hW2, sz2, g2, B2⟩ := boxn W1 #[.pointer (some ⟨b, 0, none⟩)] 28
  have G2 := gb_trans g1 g2
  have T2 := B1.kept g2 (by simp)
  have F2 := B2
  have t2_0 := T2.cell 0 (v := .int .u8 k) rfl
  have t2_1 := T2.cell 1 (v := .int .i64 (C : Nat)) rfl
  have t2_2 := T2.cell 2 (v := .int .i64 (R : Nat)) rfl
  have t2_3 := T2.cell 3 (v := .int .u8 t) rfl
  have t2_4 := T2.cell 4 (v := .int .i64 z) rfl
  have f2 := F2.cell 0 (v := .pointer (some ⟨b, 0, none⟩)) rfl
  have M2 := F.grown hM G2
  have hc2 := checkGridC F hc0 k C R t z G.t0 W2 M2
  rw [hcg] at hc2
  have hmk := fun w => make2 (R + 2) (by omega) w
  have eR : ((R + 2 : Nat) : Int) = (R : Int) + 2 := by omega
  simp only [eR] at hmk
  clear eR
  have hS' : decide ((2 : Int) < (S : Int)) = false := decide_eq_false (by omega)
  go_enter Tryz.func19, Tryz.ntmps19
  go_wp2_with (first | (go_at_call 36; refine hc2.mono ?_; rintro e V1 ⟨rfl, g4⟩; have F4 := F2.kept g4 (by simp); have T4 := T2.kept g4 (by simp); have f4 := F4.cell 0 (v := .pointer (some ⟨b, 0, none⟩)) rfl; have M4 := F.grown M2 g4) | (go_at_call 43; refine (F.states V1 M4).mono ?_; rintro e V2 ⟨rfl, g5⟩; have F5 := F4.kept g5 (by simp); have T5 := T4.kept g5 (by simp); have M5 := F.grown M4 g5; have t5_0 := T5.cell 0 (v := .int .u8 k) rfl; have t5_1 := T5.cell 1 (v := .int .i64 (C : Nat)) rfl; have t5_2 := T5.cell 2 (v := .int .i64 (R : Nat)) rfl; have t5_3 := T5.cell 3 (v := .int .u8 t) rfl; have t5_4 := T5.cell 4 (v := .int .i64 z) rfl; have hfr := framed_b G g W1.heap.size (fun X => M X ∧ Bo X W1.heap.size 28 #[.pointer (some ⟨b, 0, none⟩)]) V2 ⟨M5, F5⟩ (fun X Y q h hg hq => ⟨F.kept X Y q h.1 hg (fun i e => by have := hq i e; have := g4.size; have := g5.size; have := G2.size; omega), h.2.kept hg (fun e => by have := hq _ e.symm; have := F5.lt; omega)⟩) (fun y hy X h => rows1C F c1 h256 W1.heap.size y hy X h.1 h.2)) | (go_at_call 48; refine hfr.mono ?_; rintro e V3 ⟨d, rfl, r5, ld, g6⟩; have T6 := T5.kept g6 (by simp); have t6_0 := T6.cell 0 (v := .int .u8 k) rfl; have t6_1 := T6.cell 1 (v := .int .i64 (C : Nat)) rfl; have t6_2 := T6.cell 2 (v := .int .i64 (R : Nat)) rfl; have t6_3 := T6.cell 3 (v := .int .u8 t) rfl; have t6_4 := T6.cell 4 (v := .int .i64 z) rfl; obtain ⟨V4, hV4, sz4, g7, BV4⟩ := boxn V3 (madeCells #[.int .i64 0, .slice none 0 0] ((R + 2) * 2)) 86; have T7 := T6.kept g7 (by simp)))
  have lw : w.heap.size ≤ V3.heap.size := by have := G2.size; have := g4.size; have := g5.size; have := g6.size; omega
  have G7 := gb_trans G2 (gb_trans g4 (gb_trans g5 (gb_trans g6 g7)))
  have ldlt : d < V3.heap.size := by
    obtain ⟨c, hc, _⟩ := r5
    exact (Array.getElem?_eq_some_iff.1 hc).1
  have lT := T6.lt
  have r7 := rowIs_kept r5 g7 (by simp)
  have hm0 := made2 V3 (R + 2) (C + 2) (fun _ => 0)
  rw [hV4] at hm0
  have lV : V3.heap.size < V4.heap.size := BV4.lt
  obtain ⟨m, hm⟩ : ∃ m, C + 2 = m := ⟨_, rfl⟩
  have hmI : (C : Int) + 2 = (m : Int) := by omega
  have hmb : m ≤ 65538 := by omega
  go_loopw [28] (fun i wr => ∃ (q : Nat) (wb : Nat → Nat), q ≤ R + 2 ∧ i = .int .i64 (q : Nat) ∧ wr.rowIs V3.heap.size 86 (2 * (R + 2)) (rwC (C + 2) wb q) ∧ (∀ i, i < q → V4.heap.size ≤ wb i ∧ Row wr 94 (wb i) (nwN (C + 2)) (fun j => decide (j < C + 2) && lvB (frV k t z C R g (i * (C + 2) + j)))) ∧ (∀ i j, i < q → j < q → wb i = wb j → i = j) ∧ V4.grownBy wr (some V3.heap.size)) (fun i _ => R + 2 - (intOf i).toNat)
  case atStart => exact ⟨0, fun _ => 0, Nat.zero_le _, rfl, hm0, fun i hi => absurd hi (Nat.not_lt_zero _), fun i j hi => absurd hi (Nat.not_lt_zero _), World.grownBy.refl _ _⟩
  case round =>
    obtain ⟨q, wb, hq, rfl, hrow, hws, hinj, gw⟩ := hrel
    have Tq := T7.kept gw (by simp; omega)
    have tq_0 := Tq.cell 0 (v := .int .u8 k) rfl
    have tq_1 := Tq.cell 1 (v := .int .i64 (C : Nat)) rfl
    have tq_2 := Tq.cell 2 (v := .int .i64 (R : Nat)) rfl
    have tq_3 := Tq.cell 3 (v := .int .u8 t) rfl
    have tq_4 := Tq.cell 4 (v := .int .i64 z) rfl
    by_cases hlt : q < R + 2
    · have hi1 : (q : Int) < (R : Int) + 2 := by omega
      have hmul : q * m + m ≤ (C + 2) * (R + 2) := by
        have h1 := Nat.mul_le_mul_right m (show q + 1 ≤ R + 2 from hlt)
        rw [Nat.succ_mul] at h1
        rw [hm, Nat.mul_comm m]
        exact h1
      have hnb : (C + 2) * (R + 2) ≤ 65538 * 65538 := Nat.mul_le_mul (by omega) (by omega)
      obtain ⟨n, hn⟩ : ∃ n, (C + 2) * (R + 2) = n := ⟨_, rfl⟩
      obtain ⟨lo, hlo⟩ : ∃ lo, q * m = lo := ⟨_, rfl⟩
      have w1 : IntKind.i64.wrap ((q : Int) * (m : Int)) = (lo : Int) := by
        rw [← Int.natCast_mul, hlo, IntKind.wrap_i64]; omega
      have w2 : IntKind.i64.wrap (((q : Int) + 1) * (m : Int)) = (lo : Int) + (m : Int) := by
        have e : ((q : Int) + 1) * (m : Int) = ((q * m + m : Nat) : Int) := by rw [Int.add_mul, Int.one_mul, Int.natCast_add, Int.natCast_mul]
        rw [e, hlo, IntKind.wrap_i64]; omega
      rw [hlo, hn] at hmul
      rw [hn] at hnb
      have b1 : (0 : Int) ≤ (lo : Int) := by omega
      have b2 : (lo : Int) ≤ (lo : Int) + (m : Int) := by omega
      have b3 : (lo : Int) + (m : Int) ≤ (n : Int) := by omega
      have hrq := rowIs_kept r7 gw (by simp; omega)
      have hof := fun (X : World) (hX : wr.grownBy X none) cap => Wo.ofC m cap (some ⟨d, lo, none⟩) (fun j => lvB (frV k t z C R g (lo + j))) hmb X (fun j hj => ⟨_, rfl, by rw [add_mid]; exact hX.cell (hrq.cell (by rw [hn]; omega)) (by simp)⟩)
      rw [hn]
      go_wp2_with (go_at_call 51; refine (hof wr (World.grownBy.refl _ _) _).mono ?_; rintro e X1 ⟨b', rfl, hR, gX, lX⟩; have rX := rowIs_kept hrow gX (by simp); have z0 := rX.cell (i := q * 2) (by omega); have z1 := rX.cell (i := q * 2 + 1) (by omega); have y0 := rX.frozen (q * 2); have y1 := rX.frozen (q * 2 + 1))
      go_roundw
      case rel =>
        have gs := gw.size
        have hb' : b' ≠ V3.heap.size := by omega
        refine ⟨q + 1, fun j => if j = q then b' else wb j, hlt, by go_num, ((rX.set (q * 2) _).set (q * 2 + 1) _).congr (fun c hc => ?_), fun i hi => ?_, fun i j hi hj he => ?_, gb_set (gb_set (gb_none gw gX) _ _) _ _⟩
        · have := rwC_step (C + 2) wb q b' c
          rw [← this]
          unfold nwN
          rw [hm]
        · dsimp only
          by_cases h1 : i = q
          · subst h1
            rw [if_pos rfl]
            refine ⟨by omega, Row.congr (n := nwN (C + 2)) (World.rowIs.setOther (World.rowIs.setOther ?_ hb' _) hb' _) (fun j _ => ?_) (p := fun j => decide (j < m) && lvB (frV k t z C R g (lo + j)))⟩
            · have := hR
              unfold Row at this
              rw [← hm] at this ⊢
              exact this
            · rw [← hm] at hlo ⊢
              rw [← hlo]
          · rw [if_neg h1]
            obtain ⟨h2, h3⟩ := hws i (by omega)
            have h4 : wb i ≠ V3.heap.size := by omega
            exact ⟨h2, World.rowIs.setOther (World.rowIs.setOther (h3.kept gX (by simp)) h4 _) h4 _⟩
        · dsimp only at he
          have hbw : ∀ i, i < q → wb i < wr.heap.size := fun i hi => by
            obtain ⟨c, hc, _⟩ := (hws i hi).2
            exact (Array.getElem?_eq_some_iff.1 hc).1
          by_cases h1 : i = q
          · by_cases h2 : j = q
            · omega
            · rw [if_pos h1, if_neg h2] at he
              have := hbw j (by omega)
              omega
          · by_cases h2 : j = q
            · rw [if_neg h1, if_pos h2] at he
              have := hbw i (by omega)
              omega
            · rw [if_neg h1, if_neg h2] at he
              exact hinj i j (by omega) (by omega) he
      case measure => simp [intOf]; omega
    · obtain rfl : q = R + 2 := by omega
      go_wp2
      go_ret2
      exact ⟨V3.heap.size, wb, rfl, hrow, lw, fun i hi => ⟨by have := (hws i hi).1; omega, by have := (hws i hi).1; omega, (hws i hi).2⟩, hinj, gb_past G7 gw lw⟩
end Go.Proofs.YtjndljjpbkfmiaaGreatDoor
namespace Go.Proofs.YtjndljjpbkfmiaaGreatDoor.Wo
open Go.RowKit
set_option linter.unusedVariables false
set_option maxRecDepth 100000

theorem packN_more (p : Nat → Bool) (j : Nat) (hp : p j = false) : ∀ m, Pk.packN (fun i => p i || i == j) m = Pk.packN p m + (if j < m then 2 ^ j else 0)
  | 0 => rfl
  | m + 1 => by
    rw [Pk.packN, Pk.packN, packN_more p j hp m]
    by_cases e : m = j
    · subst e
      have h1 : ¬ m < m := by omega
      have h2 : m < m + 1 := by omega
      simp [hp]
    · have e1 : (m == j) = false := by simp [e]
      have e2 : (j < m) = (j < m + 1) := by simp; omega
      simp only [e1, Bool.or_false, e2]
      omega
theorem pack_more (p : Nat → Bool) (i : Nat) (hp : p i = false) : Pk.pack p (i / 64) + Pk.one i = Pk.pack (fun j => p j || j == i) (i / 64) := by
  unfold Pk.pack Pk.one
  have h := packN_more (fun j => p (64 * (i / 64) + j)) (i % 64) (by show p (64 * (i / 64) + i % 64) = false; rw [show 64 * (i / 64) + i % 64 = i by omega]; exact hp) 64
  rw [if_pos (by omega)] at h
  rw [← h]
  congr 1
  funext j
  have : (j == i % 64) = (64 * (i / 64) + j == i) := by
    rw [Bool.eq_iff_iff]
    simp
    omega
  rw [this]

theorem refRowC (n cap : Nat) (sp : Option Addr) (g : Nat → Bool) (h1 : n ≤ 65538) (w : World) (hb : Bd w sp n g) :
    Calls Tryz.prog 47 #[.slice sp n cap] w fun e w' => ∃ b, e = .returned (.agg #[.int .i64 n, .slice (some ⟨b, 0, none⟩) ((n + 63) / 64) ((n + 63) / 64)]) ∧ Row w' 94 b ((n + 63) / 64) (fun i => decide (i < n) && g i) ∧ w.grownBy w' none ∧ w.heap.size ≤ b := by
  obtain ⟨c, hcc⟩ : ∃ c : Nat, Hid (c = (n + 63) / 64) := ⟨(n + 63) / 64, by unfold Hid; rfl⟩
  rw [← hcc.out]
  have hc1 : n ≤ 64 * c := by have := hcc.out; omega
  have hc2 : c ≤ 1025 := by have := hcc.out; omega
  have hq : ((n : Int) + 63) / 64 = (c : Int) := by have := hcc.out; omega
  have hq2 : ((n : Int) + 63).tdiv 64 = (c : Int) := by rw [Int.tdiv_eq_ediv_of_nonneg (by omega)]; exact hq
  have hmk := run_make_row' (P := Tryz.prog) 84 94 (.int .u64 0) 8 underS infoW rfl .i64 .i64 c (by omega) (by omega)
  obtain ⟨W1, hW, c0, c1, sz, hg, hB⟩ := box2 w (.int .i64 0) (.slice none 0 0) 86
  obtain ⟨W2, hW2⟩ : ∃ W2, W1.alloc (.cells (madeCells #[.int .u64 0] c) 94) = W2 := ⟨_, rfl⟩
  have g2 : W1.grownBy W2 none := by rw [← hW2]; exact World.grownBy_alloc _ _ _
  have hr2 : Row W2 94 W1.heap.size c (fun _ => false) := by
    rw [← hW2]
    exact World.rowIs.congr (World.rowIs_made W1 (.int .u64 0) c 94) fun i hi => by rw [Pk.pack_zero]; rfl
  have lt2 := World.rowIs.lt hr2
  obtain ⟨W3, hW3, x0, x1, sz3, g3, hB3⟩ := box2 W2 (.int .i64 n) (.slice (some ⟨W1.heap.size, 0, none⟩) c c) 86
  have hr3 := hr2.kept g3 (by simp)
  have g23 := gb_trans g2 g3
  have hB13 := hB.kept g23 (by simp)
  have hb3 := (hb.kept hg (by simp)).kept g23 (by simp)
  have hs : w.heap.size < W1.heap.size := by have := sz.out; omega
  go_enter Tryz.func47, Tryz.ntmps47
  go_wp2
  go_loopw [4] (fun i wr => ∃ k : Nat, k ≤ n ∧ i = .int .i64 k ∧ Row wr 94 W1.heap.size c (fun j => decide (j < k) && g j) ∧ W3.grownBy wr (some W1.heap.size)) (fun i _ => n - (intOf i).toNat)
  case atStart => exact ⟨0, Nat.zero_le _, rfl, hr3.congr fun i hi => by simp, World.grownBy.refl _ _⟩
  case round =>
    obtain ⟨k, hk, rfl, hrk, hgk⟩ := hrel
    have hBk := hB3.kept hgk (by simp; omega)
    have y0 := hBk.cell0
    have y1 := hBk.cell1
    by_cases hlt : k < n
    · obtain ⟨a, rfl⟩ := hb.some (by omega)
      have hlt' : (k : Int) < (n : Int) := by omega
      have hca := hgk.cell (hb3.at hlt) (by
        have := cell_lt (hb.at hlt)
        simp; omega)
      cases hgv : g k with
      | true =>
        rw [hgv] at hca
        have hkc := World.rowIs.cell hrk (i := k / 64) (by omega)
        have hkf := World.rowIs.frozen hrk (k / 64)
        have hbi : (k : Int) / 64 < c := by omega
        have hi0 : (0 : Int) ≤ (k : Int) / 64 := by omega
        have ht : ((k : Int) / 64).toNat = k / 64 := by omega
        have hd : IntKind.i64.wrap ((k : Int) / 64) = ((k / 64 : Nat) : Int) := by rw [IntKind.wrap_i64]; omega
        have hmin : min (k % 64) 64 = k % 64 := by omega
        have hone : IntKind.u64.wrap (2 ^ (k % 64)) = (Pk.one k : Int) := by
          have h := Pk.one_lt k
          rw [IntKind.wrap_u64]
          have e : (2 : Int) ^ (k % 64) = (Pk.one k : Int) := by unfold Pk.one; simp
          rw [e]
          omega
        have hsum := pack_more (fun j => decide (j < k) && g j) k (by simp)
        have hpl := Pk.pack_lt (fun j => (decide (j < k) && g j) || j == k) (k / 64)
        have hadd : IntKind.u64.wrap ((Pk.pack (fun j => decide (j < k) && g j) (k / 64) : Int) + (Pk.one k : Int)) = (Pk.pack (fun j => (decide (j < k) && g j) || j == k) (k / 64) : Int) := by
          rw [IntKind.wrap_u64]; omega
        have R : Row (wr.setCell ⟨W1.heap.size, k / 64, none⟩ (.int .u64 (Pk.pack (fun j => (decide (j < k) && g j) || j == k) (k / 64)))) 94 W1.heap.size c (fun j => decide (j < k + 1) && g j) := by
          refine Row.congr (p := fun j => (decide (j < k) && g j) || j == k) (hrk.set rfl fun j _ hj => ?_) fun j hj => ?_
          · have : j ≠ k := fun e => hj (by rw [e])
            have e1 : (j == k) = false := by simp [this]
            simp only [e1, Bool.or_false]
          · by_cases e : j = k
            · subst e; simp [hgv]
            · have e1 : (j == k) = false := by simp [e]
              have e2 : decide (j < k) = decide (j < k + 1) := by simp; omega
              simp only [e1, Bool.or_false, e2]
        clear hsum hpl
        go_wp2
        refine region_tail 15 mixed (by kernel_rfl) ?_
        simp only [List.take_succ_cons, List.take_zero, List.drop_succ_cons, List.drop_zero]
        repeat still_step
        refine wpStill_nil ?_
        go_wp2
        go_roundw
        case rel => exact ⟨k + 1, by omega, by go_num, R, gb_drew (gb_set hgk _ _)⟩
        case measure => simp [intOf]; omega
      | false =>
        rw [hgv] at hca
        go_wp2
        go_roundw
        case rel => exact ⟨k + 1, by omega, by go_num, hrk.congr fun i hi => by
          by_cases hik : i = k
          · subst hik; simp [hgv]
          · have e2 : decide (i < k) = decide (i < k + 1) := by simp; omega
            simp only [e2], hgk⟩
        case measure => simp [intOf]; omega
    · have hkn : k = n := by omega
      have hB1k := hB13.kept hgk (by simp; omega)
      have z0 := hB1k.cell0
      have z1 := hB1k.cell1
      have z2 := hB1k.free0
      have z3 := hB1k.free1
      have hlt' : ¬ (k : Int) < (n : Int) := by omega
      have HK : Hid (k = n) := hkn
      clear hkn
      go_wp2
      obtain ⟨fs, hfs⟩ := underR
      refine ret_box1 (g := w.heap.size) (t := 86) rfl hfs infoR rfl (hB1k.set _ _) rfl ?_
      have G : w.grownBy wr none := gb_past (gb_trans hg g23) hgk (by omega)
      have hne : W1.heap.size ≠ w.heap.size := by omega
      refine ⟨W1.heap.size, rfl, ?_, gb_new (gb_new G (Nat.le_refl _) _) (Nat.le_refl _) _, by omega⟩
      have R := (World.rowIs.setOther (World.rowIs.setOther hrk (a := ⟨w.heap.size, 0, none⟩) hne (.int .i64 n)) (a := ⟨w.heap.size, 1, none⟩) hne (.slice (some ⟨W1.heap.size, 0, none⟩) c c))
      rw [HK.out] at R
      exact R

theorem sameYes (N : Int) (n ca cb : Nat) (sa sb : Option Addr) (f : Nat → Nat) (hn : n ≤ 9223372036854775807) (w : World) (ha : Wd w sa n f) (hb : Wd w sb n f) :
    Calls Tryz.prog 52 #[.agg #[.int .i64 N, .slice sa n ca], .agg #[.int .i64 N, .slice sb n cb]] w fun e w' => e = .returned (.bool true) ∧ w.grownBy w' none := by
  obtain ⟨W1, hW, c0, c1, sz, hg1, hA⟩ := box2 w (.int .i64 N) (.slice sa n ca) 86
  obtain ⟨W2, hW2, d0, d1, sz2, hg2, hB⟩ := box2 W1 (.int .i64 N) (.slice sb n cb) 86
  have g2 := gb_trans hg1 hg2
  have hA2 := hA.kept hg2 (by simp)
  have a0 := hA2.cell0
  have a1 := hA2.cell1
  have ha2 := ha.kept g2 (by simp)
  have hb2 := hb.kept g2 (by simp)
  go_enter Tryz.func52, Tryz.ntmps52
  go_wp2
  go_loopw [5] (fun i wr => ∃ k : Nat, k ≤ n ∧ i = .int .i64 k ∧ W2.grownBy wr none) (fun i _ => n - (intOf i).toNat)
  case atStart => exact ⟨0, Nat.zero_le _, rfl, World.grownBy.refl _ _⟩
  case round =>
    obtain ⟨k, hk, rfl, hgk⟩ := hrel
    have hAk := hA2.kept hgk (by simp)
    have hBk := hB.kept hgk (by simp)
    have u0 := hAk.cell0
    have u1 := hAk.cell1
    have u2 := hBk.cell0
    have u3 := hBk.cell1
    by_cases hlt : k < n
    · obtain ⟨aa, rfl⟩ := ha.some (by omega)
      obtain ⟨ab, rfl⟩ := hb.some (by omega)
      have v0 := hgk.cell (ha2.at hlt) (by simp)
      have v1 := hgk.cell (hb2.at hlt) (by simp)
      have hlt' : (k : Int) < (n : Int) := by omega
      have hnn : ((f k : Int) != (f k : Int)) = false := by simp
      go_wp2
      go_quiet (fail)
      go_wp2
      go_roundw
      case rel => exact ⟨k + 1, by omega, by go_num, gb_drewN hgk _⟩
      case measure => simp [intOf]; omega
    · have hlt' : ¬ (k : Int) < (n : Int) := by omega
      go_wp2
      go_ret
      exact ⟨rfl, gb_trans g2 hgk⟩

end Go.Proofs.YtjndljjpbkfmiaaGreatDoor.Wo
namespace Go.Proofs.YtjndljjpbkfmiaaGreatDoor
open Go.RowKit
set_option linter.unusedVariables false
set_option linter.unusedSimpArgs false
set_option maxRecDepth 100000

/-- A list of q rows of m bits each, in block r; the words in the blocks wb. -/
structure Rs (w : World) (r q m : Nat) (wb : Nat → Nat) (P : Nat → Nat → Bool) : Prop where
  n_ : ∀ i, i < q → w.cell? ⟨r, i * 2, none⟩ = some (.int .i64 (m : Nat))
  s_ : ∀ i, i < q → w.cell? ⟨r, i * 2 + 1, none⟩ = some (.slice (some ⟨wb i, 0, none⟩) (nwN m) (nwN m))
  w_ : ∀ i, i < q → Row w 94 (wb i) (nwN m) (P i)
theorem Rs.kept {w w' : World} {r q m : Nat} {wb : Nat → Nat} {P : Nat → Nat → Bool} {x : Option Nat} (h : Rs w r q m wb P) (hg : w.grownBy w' x) (h1 : some r ≠ x) (h2 : ∀ i, i < q → some (wb i) ≠ x) : Rs w' r q m wb P :=
  ⟨fun i hi => hg.cell (h.n_ i hi) h1, fun i hi => hg.cell (h.s_ i hi) h1, fun i hi => (h.w_ i hi).kept hg (h2 i hi)⟩
/-- The program's own rows are such a list. -/
theorem rs_of {w : World} {r q m : Nat} {wb : Nat → Nat} {P : Nat → Nat → Bool} (h : w.rowIs r 86 (2 * q) (rwC m wb q)) (hw : ∀ i, i < q → Row w 94 (wb i) (nwN m) (P i)) : Rs w r q m wb P :=
  ⟨fun i hi => by have := h.cell (show i * 2 < 2 * q by omega); rw [this]; unfold rwC; rw [if_pos (by omega), if_pos (by omega)],
   fun i hi => by have := h.cell (show i * 2 + 1 < 2 * q by omega); rw [this]; unfold rwC; rw [if_pos (by omega), if_neg (by omega), show (i * 2 + 1) / 2 = i by omega], hw⟩
theorem sameRowsC (ra rb q m ca cb : Nat) (wa wb : Nat → Nat) (P : Nat → Nat → Bool) (hq : q ≤ 65538) (hm : m ≤ 65538) (w : World) (ha : Rs w ra q m wa P) (hb : Rs w rb q m wb P) :
    Calls Tryz.prog 20 #[.slice (some ⟨ra, 0, none⟩) q ca, .slice (some ⟨rb, 0, none⟩) q cb] w fun e w' => e = .returned (.bool true) ∧ w.grownBy w' none := by
  have hmw : nwN m ≤ 1025 := by unfold nwN; omega
  obtain ⟨nm, hnm⟩ : ∃ v, nwN m = v := ⟨_, rfl⟩
  go_enter Tryz.func20, Tryz.ntmps20
  go_wp2
  go_loopw [5] (fun i wr => ∃ k : Nat, k ≤ q ∧ i = .int .i64 k ∧ w.grownBy wr none) (fun i _ => q - (intOf i).toNat)
  case atStart => exact ⟨0, Nat.zero_le _, rfl, World.grownBy.refl _ _⟩
  case round =>
    obtain ⟨k, hk, rfl, gk⟩ := hrel
    by_cases hlt : k < q
    · have ak := ha.kept (gb_drew gk) (by simp) (by simp)
      have bk := hb.kept (gb_drew gk) (by simp) (by simp)
      have ak0 := ha.kept gk (by simp) (by simp)
      have bk0 := hb.kept gk (by simp) (by simp)
      have hs := fun w' (g : w.grownBy w' none) => Wo.sameYes m (nwN m) (nwN m) (nwN m) (some ⟨wa k, 0, none⟩) (some ⟨wb k, 0, none⟩) (Pk.pack (P k)) (by omega) w' (((ha.w_ k hlt).kept g (by simp)).wd) (((hb.w_ k hlt).kept g (by simp)).wd)
      have a0 := ak.n_ k hlt
      have a1 := ak.s_ k hlt
      have b0 := bk.n_ k hlt
      have b1 := bk.s_ k hlt
      have x0 := ak0.n_ k hlt
      have x1 := ak0.s_ k hlt
      have y0 := bk0.n_ k hlt
      have y1 := bk0.s_ k hlt
      rw [hnm] at hs a1 b1 x1 y1
      have hlt' : (k : Int) < (q : Int) := by omega
      have hs1 := hs _ (gb_drew gk)
      clear hs
      go_wp2
      go_region_held2 (fun w' => w'.cell? ⟨ra, k * 2, none⟩ = some (.int .i64 (m : Nat)) ∧ w'.cell? ⟨ra, k * 2 + 1, none⟩ = some (.slice (some ⟨wa k, 0, none⟩) nm nm) ∧ w'.cell? ⟨rb, k * 2, none⟩ = some (.int .i64 (m : Nat)) ∧ w'.cell? ⟨rb, k * 2 + 1, none⟩ = some (.slice (some ⟨wb k, 0, none⟩) nm nm)) (go_keep) (first | (go_at_call 52; refine hs1.mono ?_; rintro e X1 ⟨rfl, g1⟩; have ax := ak.kept g1 (by simp) (by simp); have bx := bk.kept g1 (by simp) (by simp); have p0 := ax.n_ k hlt; have p1 := ax.s_ k hlt; have q0 := bx.n_ k hlt; have q1 := bx.s_ k hlt; rw [hnm] at p1 q1))
      all_goals go_wp2
      all_goals go_roundw
      all_goals first
        | exact ⟨k + 1, by omega, by go_num, gb_none (gb_drew gk) g1⟩
        | (simp [intOf]; omega)
    · have hlt' : ¬ (k : Int) < (q : Int) := by omega
      go_wp2
      go_ret
      exact ⟨rfl, gk⟩
theorem sameRowsN (w : World) : Calls Tryz.prog 20 #[.slice none 0 0, .slice none 0 0] w fun e w' => e = .returned (.bool true) ∧ w.grownBy w' none := by
  go_enter Tryz.func20, Tryz.ntmps20
  go_wp2
  go_loopw [5] (fun i wr => i = .int .i64 0 ∧ w.grownBy wr none) (fun i _ => 0)
  case atStart => exact ⟨rfl, World.grownBy.refl _ _⟩
  case round =>
    obtain ⟨rfl, gk⟩ := hrel
    go_wp2
    go_ret
    exact ⟨rfl, gk⟩
end Go.Proofs.YtjndljjpbkfmiaaGreatDoor
namespace Go.Proofs.YtjndljjpbkfmiaaGreatDoor
open Go.RowKit
set_option linter.unusedVariables false
set_option linter.unusedSimpArgs false
set_option maxRecDepth 100000

theorem own_cell {w : World} {base : Nat} {e : TypeId} {size : Nat} {v : Value} {n : Nat} {xs : List Value} (h : w.ownsRow base e size v n xs) (hn : 0 < n) : ∃ g cap, v = .slice (some ⟨g, 0, none⟩) n cap ∧ base ≤ g ∧ ∀ j u, xs[j]? = some u → w.cell? ⟨g, j, none⟩ = some u := by
  rcases h.2 with ⟨_, h0⟩ | ⟨g, cap, cur, rfl, hb, hg, _, _, _, hx⟩
  · omega
  · refine ⟨g, cap, rfl, hb, fun j u hu => ?_⟩
    rw [cell_of_row w g j cur e (0, 0) hg]
    rw [← hx, List.getElem?_take] at hu
    split at hu
    · simpa using hu
    · cases hu
def btV (f : Nat → Bool) (m : Nat) : List Value := (List.range m).map fun i => .bool (f i)
theorem btV_succ (f : Nat → Bool) (m : Nat) : btV f (m + 1) = btV f m ++ [.bool (f m)] := by simp [btV, List.range_succ]
theorem own_bd {w : World} {base m : Nat} {v : Value} {f : Nat → Bool} (hm : 0 < m) (h : w.ownsRow base 4 1 v m (btV f m)) : ∃ d c, v = .slice (some ⟨d, 0, none⟩) m c ∧ base ≤ d ∧ Bd w (some ⟨d, 0, none⟩) m f := by
  obtain ⟨g, cap, rfl, hb, hc⟩ := own_cell h hm
  refine ⟨g, cap, rfl, hb, fun k hk => ⟨_, rfl, ?_⟩⟩
  rw [add_mid, Nat.zero_add]
  exact hc k _ (by simp [btV, hk])
def rwV (m : Nat) (wb : Nat → Nat) (q : Nat) : List Value := (List.range q).flatMap fun i => [.int .i64 (m : Nat), .slice (some ⟨wb i, 0, none⟩) (nwN m) (nwN m)]
theorem rwV_len (m : Nat) (wb : Nat → Nat) : ∀ q, (rwV m wb q).length = q * 2
  | 0 => rfl
  | q + 1 => by
    have := rwV_len m wb q
    unfold rwV at this ⊢
    rw [List.range_succ, List.flatMap_append, List.length_append, this]
    simp
    omega
theorem rwV_congr (m : Nat) {wb wc : Nat → Nat} (q : Nat) (h : ∀ i, i < q → wb i = wc i) : rwV m wb q = rwV m wc q := by
  unfold rwV
  induction q with
  | zero => rfl
  | succ n ih =>
    rw [List.range_succ, List.flatMap_append, List.flatMap_append, ih (fun i hi => h i (by omega))]
    simp [h n (by omega)]
theorem rwV_succ (m : Nat) (wb : Nat → Nat) (q b : Nat) : rwV m (fun j => if j = q then b else wb j) (q + 1) = rwV m wb q ++ [.int .i64 (m : Nat), .slice (some ⟨b, 0, none⟩) (nwN m) (nwN m)] := by
  rw [← rwV_congr m (wb := fun j => if j = q then b else wb j) (wc := wb) q (fun i hi => if_neg (by omega))]
  unfold rwV
  rw [List.range_succ, List.flatMap_append]
  simp
theorem rwV_get (m : Nat) (wb : Nat → Nat) : ∀ (q i : Nat), i < q → (rwV m wb q)[i * 2]? = some (.int .i64 (m : Nat)) ∧ (rwV m wb q)[i * 2 + 1]? = some (.slice (some ⟨wb i, 0, none⟩) (nwN m) (nwN m))
  | 0, i, h => absurd h (Nat.not_lt_zero _)
  | q + 1, i, h => by
    have e : rwV m wb (q + 1) = rwV m wb q ++ [.int .i64 (m : Nat), .slice (some ⟨wb q, 0, none⟩) (nwN m) (nwN m)] := by
      unfold rwV
      rw [List.range_succ, List.flatMap_append]
      simp
    have hl := rwV_len m wb q
    rw [e]
    by_cases hi : i < q
    · have := rwV_get m wb q i hi
      rw [List.getElem?_append_left (by omega), List.getElem?_append_left (by omega)]
      exact this
    · obtain rfl : i = q := by omega
      rw [List.getElem?_append_right (by omega), List.getElem?_append_right (by omega), hl, show i * 2 - i * 2 = 0 by omega, show i * 2 + 1 - i * 2 = 1 by omega]
      exact ⟨rfl, rfl⟩
theorem own_rs {w : World} {base m q : Nat} {v : Value} {wb : Nat → Nat} {P : Nat → Nat → Bool} (hq : 0 < q) (h : w.ownsRow base 86 2 v q (rwV m wb q)) (hw : ∀ i, i < q → Row w 94 (wb i) (nwN m) (P i)) : ∃ r c, v = .slice (some ⟨r, 0, none⟩) q c ∧ base ≤ r ∧ Rs w r q m wb P := by
  obtain ⟨g, cap, rfl, hb, hc⟩ := own_cell h hq
  exact ⟨g, cap, rfl, hb, fun i hi => hc _ _ (rwV_get m wb q i hi).1, fun i hi => hc _ _ (rwV_get m wb q i hi).2, hw⟩
theorem underBS : Tryz.prog.underlying 83 = some (.slice 4) := by first | exact Tryz.underlying83 | kernel_rfl
theorem infoBo : (Tryz.prog.info? 4).map (fun i => (i.zero, i.size, i.bytes)) = some (some (.bool false), 1, 1) := by kernel_rfl

theorem refRowsX (k x y t z E : Int) (p : Option Addr) (hE : (E == 0) = false) (w : World) (ha : ∀ w', w.grownBy w' none → Calls Tryz.prog 34 #[.agg #[.int .u8 k, .int .i64 x, .int .i64 y, .int .u8 t, .int .i64 z], .pointer p] w' fun e w2 => e = .returned (.int .i64 E) ∧ w'.grownBy w2 none) : Calls Tryz.prog 18 #[.agg #[.int .u8 k, .int .i64 x, .int .i64 y, .int .u8 t, .int .i64 z], .pointer p] w fun e w' => e = .returned (.tuple #[.slice none 0 0, .int .i64 E]) ∧ w.grownBy w' none := by
  obtain ⟨W1, hW1, sz1, g1, B1⟩ := boxn w #[.int .u8 k, .int .i64 x, .int .i64 y, .int .u8 t, .int .i64 z] 23
  have b0 := B1.cell 0 (v := .int .u8 k) rfl
  have b1 := B1.cell 1 (v := .int .i64 x) rfl
  have b2 := B1.cell 2 (v := .int .i64 y) rfl
  have b3 := B1.cell 3 (v := .int .u8 t) rfl
  have b4 := B1.cell 4 (v := .int .i64 z) rfl
  have ha2 := ha W1 g1
  go_enter Tryz.func18, Tryz.ntmps18
  go_wp2_with (go_at_call 34; refine ha2.mono ?_; rintro e V1 ⟨rfl, g3⟩)
  go_ret2
  exact ⟨rfl, gb_trans g1 g3⟩
theorem refRowsP {k t z : Int} {C R : Nat} (G : Gr k t z C R) (r d S : Nat) (hS : 2 < S) (pk : Bool) (g : Nat → Nat) (w : World) (h : Rf w r d C R S pk g) : Calls Tryz.prog 18 #[.agg #[.int .u8 k, .int .i64 (C : Nat), .int .i64 (R : Nat), .int .u8 t, .int .i64 z], .pointer (some ⟨r, 0, none⟩)] w fun e w' => e = .returned (.tuple #[.slice none 0 0, .int .i64 132]) ∧ w.grownBy w' none := by
  have hcg := cg_gr G
  obtain ⟨W1, hW1, sz1, g1, B1⟩ := boxn w #[.int .u8 k, .int .i64 (C : Nat), .int .i64 (R : Nat), .int .u8 t, .int .i64 z] 23
  have b0 := B1.cell 0 (v := .int .u8 k) rfl
  have b1 := B1.cell 1 (v := .int .i64 (C : Nat)) rfl
  have b2 := B1.cell 2 (v := .int .i64 (R : Nat)) rfl
  have b3 := B1.cell 3 (v := .int .u8 t) rfl
  have b4 := B1.cell 4 (v := .int .i64 z) rfl
  have h2 := h.kept g1 (by simp) (by simp)
  have ha2 := askedC k C R t z G.t0 r d C R S pk g W1 h2
  rw [hcg] at ha2
  have hS' : (2 : Int) < (S : Int) := by omega
  go_enter Tryz.func18, Tryz.ntmps18
  go_wp2_with (go_at_call 34; refine ha2.mono ?_; rintro e V1 ⟨rfl, g3⟩; have h3 := h2.kept g3 (by simp) (by simp); have s2 := h3.fld.cell 2 (v := .int .i64 (S : Nat)) rfl)
  go_ret2
  exact ⟨rfl, gb_trans g1 g3⟩
set_option maxHeartbeats 2000000 in
theorem refRowsY {k t z : Int} {C R : Nat} (G : Gr k t z C R) (r d S : Nat) (hS : S ≤ 2) (pk : Bool) (g : Nat → Nat) (hz : Sz C R S) (w : World) (h : Rf w r d C R S pk g) : Calls Tryz.prog 18 #[.agg #[.int .u8 k, .int .i64 (C : Nat), .int .i64 (R : Nat), .int .u8 t, .int .i64 z], .pointer (some ⟨r, 0, none⟩)] w fun e w' => ∃ rb c wb, e = .returned (.tuple #[.slice (some ⟨rb, 0, none⟩) (R + 2) c, .int .i64 0]) ∧ Rs w' rb (R + 2) (C + 2) wb (fun i j => decide (j < C + 2) && lvB (frV k t z C R g (i * (C + 2) + j))) ∧ w.heap.size ≤ rb ∧ (∀ i, i < R + 2 → w.heap.size ≤ wb i) ∧ w.grownBy w' none := by
  have hcg := cg_gr G
  have c1 := G.c1
  have r1 := G.r1
  obtain ⟨W1, hW1, sz1, g1, B1⟩ := boxn w #[.int .u8 k, .int .i64 (C : Nat), .int .i64 (R : Nat), .int .u8 t, .int .i64 z] 23
  have b0 := B1.cell 0 (v := .int .u8 k) rfl
  have b1 := B1.cell 1 (v := .int .i64 (C : Nat)) rfl
  have b2 := B1.cell 2 (v := .int .i64 (R : Nat)) rfl
  have b3 := B1.cell 3 (v := .int .u8 t) rfl
  have b4 := B1.cell 4 (v := .int .i64 z) rfl
  have h2 := h.kept g1 (by simp) (by simp)
  have ha2 := askedC k C R t z G.t0 r d C R S pk g W1 h2
  rw [hcg] at ha2
  have hS' : ¬ (2 : Int) < (S : Int) := by omega
  go_enter Tryz.func18, Tryz.ntmps18
  go_wp2_with (go_at_call 34; refine ha2.mono ?_; rintro e V1 ⟨rfl, g3⟩; have h3 := h2.kept g3 (by simp) (by simp); have s2 := h3.fld.cell 2 (v := .int .i64 (S : Nat)) rfl)
  have G3 := gb_trans g1 g3
  have T3 := B1.kept g3 (by simp)
  have t0 := T3.cell 0 (v := .int .u8 k) rfl
  have t1 := T3.cell 1 (v := .int .i64 (C : Nat)) rfl
  have t2 := T3.cell 2 (v := .int .i64 (R : Nat)) rfl
  have t3 := T3.cell 3 (v := .int .u8 t) rfl
  have t4 := T3.cell 4 (v := .int .i64 z) rfl
  obtain ⟨iB, HIB⟩ : ∃ i, Hid (Tryz.prog.info? 4 = some i ∧ i.zero = some (.bool false) ∧ i.size = 1 ∧ i.bytes = 1) := by
    obtain ⟨i, h1, h2, h3, h4⟩ := info_parts infoBo
    exact ⟨i, h1, h2, h3, h4⟩
  obtain ⟨iR, HIR⟩ : ∃ i, Hid (Tryz.prog.info? 86 = some i ∧ i.zero = some (.agg #[.int .i64 0, .slice none 0 0]) ∧ i.size = 2 ∧ i.bytes = 32) := by
    obtain ⟨i, h1, h2, h3, h4⟩ := info_parts infoRW
    exact ⟨i, h1, h2, h3, h4⟩
  obtain ⟨F, hF⟩ : ∃ F : Nat → Nat, frV k t z C R g = F := ⟨_, rfl⟩
  have HF : Hid (frV k t z C R g = F) := hF
  obtain ⟨m2, hm2⟩ : ∃ m2, C + 2 = m2 := ⟨_, rfl⟩
  have HM2 : Hid (C + 2 = m2) := hm2
  have hmb : m2 ≤ 65538 := by omega
  have hm0 : 0 < m2 := by omega

  clear hF hm2 hcg
  go_loopw [7, 8] (fun o i wr => ∃ (Y : Nat) (v : Int) (ov : Value) (wb : Nat → Nat), Hid (v = (Y : Int) - 1) ∧ Y ≤ R + 2 ∧ o = ov ∧ i = .int .i64 v ∧ wr.ownsRow V1.heap.size 86 2 ov Y (rwV m2 wb Y) ∧ Hid (∀ i, i < Y → Row wr 94 (wb i) (nwN m2) (fun j => decide (j < m2) && lvB (F (i * m2 + j))) ∧ V1.heap.size ≤ wb i ∧ wb i < wr.heap.size ∧ ov.ownBlock ≠ some (wb i)) ∧ V1.grownBy wr none) (fun _ i _ => (R + 2 : Int).toNat - (intOf i + 1).toNat)
  case atStart => exact ⟨0, -1, _, fun _ => 0, (by unfold Hid; omega), Nat.zero_le _, rfl, rfl, World.ownsRow_nil _ _ _ _, (fun i hi => absurd hi (Nat.not_lt_zero _)), World.grownBy.refl _ _⟩
  case round =>
    obtain ⟨Y, v, ov, wb, HV, hY, rfl, rfl, own, HW, gw⟩ := hrel
    obtain ⟨U, hU⟩ : ∃ U, U = wr := ⟨_, rfl⟩
    subst hU
    have hv := HV.out
    have Ty := T3.kept gw (by simp)
    have y0 := Ty.cell 0 (v := .int .u8 k) rfl
    have y1 := Ty.cell 1 (v := .int .i64 (C : Nat)) rfl
    have y2 := Ty.cell 2 (v := .int .i64 (R : Nat)) rfl
    have y3 := Ty.cell 3 (v := .int .u8 t) rfl
    have y4 := Ty.cell 4 (v := .int .i64 z) rfl
    by_cases hlt : Y < R + 2
    · have hv1 : v ≤ (R : Int) := by omega
      have hv0 : -1 ≤ v := by omega
      clear hv
      go_wp2
      go_loopw [9, 10] (fun o i wr2 => ∃ (X : Nat) (u : Int) (bv : Value), Hid (u = (X : Int) - 1) ∧ X ≤ m2 ∧ o = bv ∧ i = .int .i64 u ∧ wr2.ownsRow U.heap.size 4 1 bv X (btV (fun j => lvB (F (Y * m2 + j))) X) ∧ U.grownBy wr2 none) (fun _ i _ => (m2 : Int).toNat - (intOf i + 1).toNat)
      case atStart => exact ⟨0, -1, _, (by unfold Hid; omega), Nat.zero_le _, rfl, rfl, World.ownsRow_nil _ _ _ _, World.grownBy.refl _ _⟩
      case round =>
        obtain ⟨X, u, bv, HU, hX, rfl, rfl, ownb, gx⟩ := hrel
        have hu := HU.out
        have hm2 := HM2.out
        have gwx := gb_trans gw gx
        have Tx := T3.kept gwx (by simp)
        have x0 := Tx.cell 0 (v := .int .u8 k) rfl
        have x1 := Tx.cell 1 (v := .int .i64 (C : Nat)) rfl
        have x2 := Tx.cell 2 (v := .int .i64 (R : Nat)) rfl
        have x3 := Tx.cell 3 (v := .int .u8 t) rfl
        have x4 := Tx.cell 4 (v := .int .i64 z) rfl
        by_cases hxl : X < m2
        · have hu1 : u ≤ (C : Int) := by omega
          have hu0 : -1 ≤ u := by omega
          have hx := h3.kept gwx (by simp) (by simp)
          have hst := stateC G r d S pk g hz u v ⟨hu0, hu1⟩ ⟨hv0, hv1⟩ _ hx
          have hq : plS k t z C R g u v = F (Y * m2 + X) := by
            rw [← HF.out, ← fr_ix k t z g ⟨hu0, hu1⟩ hv0]
            obtain ⟨a, b, ea, eb, ei⟩ := ix_nat (C := C) hu0 hv0
            have ea' : a = X := by omega
            have eb' : b = Y := by have := HV.out; omega
            rw [ei, ea', eb', hm2]
          rw [hq] at hst
          obtain ⟨fq, hfq⟩ : ∃ fq, F (Y * m2 + X) = fq := ⟨_, rfl⟩
          rw [hfq] at hst
          have HFQ : Hid (F (Y * m2 + X) = fq) := hfq
          obtain ⟨lb, hlb⟩ : ∃ lb, decide (0 < fq) = lb := ⟨_, rfl⟩
          have HLB : Hid (lvB fq = lb) := by
            unfold Hid
            rw [← hlb]
            unfold lvB
            rw [decide_eq_decide]
            omega
          clear hfq hq hu hm2
          go_wp2_with (first | (go_at_call 35; refine hst.mono ?_; rintro e X1 ⟨rfl, gX⟩; obtain ⟨X2, hX2⟩ : ∃ X2, X1.alloc (.cells #[.bool lb] 4) = X2 := ⟨_, rfl⟩; have gX2 : X1.grownBy X2 none := (by rw [← hX2]; exact World.grownBy_alloc _ _ _); have nX : ∀ l w9, [Value.bool lb][l]? = some w9 → X2.cell? ((⟨X1.heap.size, 0, none⟩ : Addr).add l) = some w9 := (by rw [← hX2]; exact World.news_of_block (heap_alloc_new _ _)); have own2 := (ownb.kept gX (Classical.em _)).kept gX2 (Classical.em _); have gwr2 := gb_trans gx (gb_trans gX gX2)) | (at_builtin; refine wpList_append_lies _ rfl _ _ 83 rfl U.heap.size 4 iB (.bool false) 1 1 underBS HIB.out.1 HIB.out.2.1 HIB.out.2.2.1 HIB.out.2.2.2 rfl (by decide) _ X _ rfl own2 ⟨X1.heap.size, 0, none⟩ 1 1 [.bool lb] rfl rfl nX (by intro u hu; simp at hu; subst hu; rfl) (by decide) (by unfold maxLen; omega) (by omega) gwr2.size _ rfl ?_; intro g6 c6 w' own' g' at' lt'))
          go_roundw
          case rel =>
            refine ⟨X + 1, u + 1, _, (by unfold Hid; have := HU.out; omega), hxl, rfl, rfl, ?_, gb_beyondX gwr2 g' (fun i e => (own2.lt _ e).1)⟩
            rw [btV_succ, HFQ.out, HLB.out]
            exact own'
          case measure => simp [intOf]; have := HU.out; omega
        · have hXm : X = m2 := by omega
          subst X
          have hu2 : ¬ u ≤ (C : Int) := by omega
          clear hu hm2
          obtain ⟨db, cb, hbv, hdb, hBd⟩ := own_bd hm0 ownb
          subst hbv
          have hrw := Wo.refRowC m2 cb (some ⟨db, 0, none⟩) _ hmb _ hBd
          obtain ⟨nm, hnm⟩ : ∃ q, (m2 + 63) / 64 = q := ⟨_, rfl⟩
          have HNM : Hid (nwN m2 = nm) := hnm
          rw [hnm] at hrw
          clear hnm
          have ownx := own.kept gx (Classical.em _)
          have HLT : Hid (∀ q, _ = some q → q < U.heap.size) := fun q hq => (own.lt q hq).2
          go_wp2_with (first | (go_at_call 47; refine hrw.mono ?_; rintro e X1 ⟨b9, rfl, hRow, gX, lb9⟩; obtain ⟨X2, hX2⟩ : ∃ X2, X1.alloc (.cells #[.int .i64 (m2 : Nat), .slice (some ⟨b9, 0, none⟩) nm nm] 86) = X2 := ⟨_, rfl⟩; have gX2 : X1.grownBy X2 none := (by rw [← hX2]; exact World.grownBy_alloc _ _ _); have nX : ∀ l w9, [Value.int .i64 (m2 : Nat), .slice (some ⟨b9, 0, none⟩) nm nm][l]? = some w9 → X2.cell? ((⟨X1.heap.size, 0, none⟩ : Addr).add l) = some w9 := (by rw [← hX2]; exact World.news_of_block (heap_alloc_new _ _)); have own2 := (ownx.kept gX (Classical.em _)).kept gX2 (Classical.em _); have gwr2 := gb_trans (gb_trans gw gx) (gb_trans gX gX2)) | (at_builtin; refine wpList_append_lies _ rfl _ _ 44 rfl V1.heap.size 86 iR (.agg #[.int .i64 0, .slice none 0 0]) 2 32 underRS HIR.out.1 HIR.out.2.1 HIR.out.2.2.1 HIR.out.2.2.2 rfl (by decide) _ Y _ rfl own2 ⟨X1.heap.size, 0, none⟩ 1 1 [.int .i64 (m2 : Nat), .slice (some ⟨b9, 0, none⟩) nm nm] rfl rfl nX (by intro u hu; simp at hu; rcases hu with rfl | rfl <;> rfl) (by decide) (by unfold maxLen; omega) (by omega) gwr2.size _ rfl ?_; intro g6 c6 w' own' g' at' lt'))
          go_roundw
          case rel =>
            have lU := gw.size
            have lX := gx.size
            have lX1 := gX.size
            have lX2 := gX2.size
            have lw' := g'.size
            have lr := World.rowIs.lt hRow
            refine ⟨Y + 1, v + 1, _, fun j => if j = Y then b9 else wb j, (by unfold Hid; have := HV.out; omega), hlt, rfl, rfl, ?_, ?_, gb_beyondX gwr2 g' (fun i e => (own2.lt _ e).1)⟩
            · rw [rwV_succ, HNM.out]
              exact own'
            · intro i hi
              by_cases e : i = Y
              · subst i
                simp only [if_true, reduceIte]
                refine ⟨?_, by omega, by omega, fun e => ?_⟩
                · rw [HNM.out]
                  exact (hRow.kept gX2 (by simp)).kept g' (fun e => by have := HLT.out b9 e.symm; omega)
                · have e1 : g6 = b9 := by simpa [Value.ownBlock] using e
                  rcases at' with h | h
                  · have := HLT.out g6 h; omega
                  · omega
              · simp only [if_neg e]
                obtain ⟨q1, q2, q3, q4⟩ := HW.out i (by omega)
                refine ⟨(((q1.kept gx (by simp)).kept gX (by simp)).kept gX2 (by simp)).kept g' (fun e => q4 e.symm), q2, by omega, fun e => ?_⟩
                have e1 : g6 = wb i := by simpa [Value.ownBlock] using e
                rcases at' with h | h
                · exact q4 (h.trans (by rw [e1]))
                · omega
          case measure => simp [intOf]; have := HV.out; omega
    · have hYR : Y = R + 2 := by omega
      subst Y
      have hv2 : ¬ v ≤ (R : Int) := by omega
      clear hv
      obtain ⟨rb, c, hov, hrb, hrs⟩ := own_rs (by omega) own (fun i hi => (HW.out i hi).1)
      subst hov
      have RR : Hid (Rs U rb (R + 2) (C + 2) wb (fun i j => decide (j < C + 2) && lvB (frV k t z C R g (i * (C + 2) + j))) ∧ w.heap.size ≤ rb ∧ (∀ i, i < R + 2 → w.heap.size ≤ wb i) ∧ w.grownBy U none) := by
        refine ⟨?_, Nat.le_trans G3.size hrb, fun i hi => Nat.le_trans G3.size (HW.out i hi).2.1, gb_trans G3 gw⟩
        rw [HM2.out, HF.out]
        exact hrs
      clear hrs hrb
      go_wp2
      go_ret2
      first
        | exact ⟨rb, c, wb, rfl, RR.out.1, RR.out.2.1, RR.out.2.2.1, RR.out.2.2.2⟩
        | exact ⟨rb, ⟨c, rfl⟩, wb, RR.out.1, RR.out.2.1, RR.out.2.2.1, RR.out.2.2.2⟩
        | (trace_state; fail)
end Go.Proofs.YtjndljjpbkfmiaaGreatDoor
namespace Go.Proofs.YtjndljjpbkfmiaaGreatDoor
open Go.RowKit
set_option linter.unusedVariables false
set_option linter.unusedSimpArgs false
set_option maxRecDepth 100000

/-- What is grown step by step, and written in L alone. -/
inductive Gc (L : Nat → Prop) (w : World) : World → Prop
  | refl : Gc L w w
  | step {a b : World} {o : Option Nat} : Gc L w a → a.grownBy b o → (∀ i, o = some i → L i) → Gc L w b
theorem Gc.gx {L : Nat → Prop} {w w' : World} (h : Gc L w w') : Gx L w w' := by
  induction h with
  | refl => exact Gx.refl _ _
  | step _ hg ho ih => exact ih.trans (Gx.of hg ho)
theorem FdX.chain {M : (Nat → Nat) → World → Prop} {L L1 : Nat → Prop} {b C R S : Nat} {pk : Bool} (F : FdX M L b C R S pk) {g : Nat → Nat} {X Y : World} (h : M g X) (hg : Gc L1 X Y) (hL : ∀ i, L1 i → ¬ L i) : M g Y := by
  induction hg with
  | refl => exact h
  | step _ hg ho ih => exact F.kept _ _ _ _ ih hg (fun i e => hL i (ho i e))
/-- The words of q rows, of which those before row i, and the first k of row i, are written over. -/
def Wf (wr : World) (wb : Nat → Nat) (q nm i k : Nat) : Prop := ∀ j, j < q → ∃ f : Nat → Nat, wr.rowIs (wb j) 94 nm (fun c => .int .u64 (f c : Nat)) ∧ ∀ c, c < nm → (j < i ∨ j = i ∧ c < k) → f c = 1000 + j
theorem Wf.kept {w w' : World} {wb : Nat → Nat} {q nm i k : Nat} {x : Option Nat} (h : Wf w wb q nm i k) (hg : w.grownBy w' x) (hx : ∀ j, j < q → some (wb j) ≠ x) : Wf w' wb q nm i k := fun j hj => by
  obtain ⟨f, h1, h2⟩ := h j hj
  exact ⟨f, rowIs_kept h1 hg (hx j hj), h2⟩
theorem Wf.step {w : World} {wb : Nat → Nat} {q nm i k : Nat} (h : Wf w wb q nm i k) (hi : i < q) (hk : k < nm) (hne : ∀ a b, a < q → b < q → wb a = wb b → a = b) : Wf (w.setCell ⟨wb i, k, none⟩ (.int .u64 ((1000 + i : Nat) : Int))) wb q nm i (k + 1) := fun j hj => by
  obtain ⟨f, h1, h2⟩ := h j hj
  by_cases e : j = i
  · subst j
    refine ⟨fun c => if c = k then 1000 + i else f c, ?_, fun c hc hh => ?_⟩
    · refine World.rowIs.congr (World.rowIs.set h1 k _) fun c hc => ?_
      by_cases hck : c = k <;> simp [hck]
    · by_cases hck : c = k
      · simp [hck]
      · simp only [if_neg hck]
        exact h2 c hc (by omega)
  · refine ⟨f, World.rowIs.setOther h1 (a := ⟨wb i, k, none⟩) (fun hh => e (hne j i hj hi hh)) _, fun c hc hh => h2 c hc (by omega)⟩
theorem Wf.next {w : World} {wb : Nat → Nat} {q nm i : Nat} (h : Wf w wb q nm i nm) : Wf w wb q nm (i + 1) 0 := fun j hj => by
  obtain ⟨f, h1, h2⟩ := h j hj
  exact ⟨f, h1, fun c hc hh => h2 c hc (by omega)⟩
theorem underWS : Tryz.prog.underlying 84 = some (.slice 94) := by first | exact Tryz.underlying84 | kernel_rfl
theorem underWSS : Tryz.prog.underlying 95 = some (.slice 84) := by first | exact Tryz.underlying95 | kernel_rfl
theorem infoW1 : (Tryz.prog.info? 94).map (fun i => (i.zero, i.size, i.bytes)) = some (some (.int .u64 0), 1, 8) := by kernel_rfl
theorem infoWS : (Tryz.prog.info? 84).map (fun i => (i.zero, i.size, i.bytes)) = some (some (.slice none 0 0), 1, 24) := by kernel_rfl
def wdV (x n : Nat) : List Value := List.replicate n (.int .u64 (x : Nat))
theorem wdV_len (x n : Nat) : (wdV x n).length = n := by simp [wdV]
theorem wdV_succ (x n : Nat) : wdV x (n + 1) = wdV x n ++ [.int .u64 (x : Nat)] := List.replicate_succ'
def slV (mb mc : Nat → Nat) (n q : Nat) : List Value := (List.range q).map fun j => .slice (some ⟨mb j, 0, none⟩) n (mc j)
theorem slV_succ (mb mc : Nat → Nat) (n q b c : Nat) : slV (fun j => if j = q then b else mb j) (fun j => if j = q then c else mc j) n (q + 1) = slV mb mc n q ++ [.slice (some ⟨b, 0, none⟩) n c] := by
  unfold slV
  rw [List.range_succ, List.map_append]
  congr 1
  · refine List.map_congr_left fun j hj => ?_
    have : j ≠ q := by have := List.mem_range.1 hj; omega
    simp [this]
  · simp
set_option maxHeartbeats 2000000 in
theorem rowsFullC (rb q m : Nat) (wb : Nat → Nat) (hm0 : 0 < m) (hq0 : 0 < q) (hq : q ≤ 65538) (hm : m ≤ 65538) (w : World) (hr : w.rowIs rb 86 (2 * q) (rwC m wb q)) (hw : Wf w wb q (nwN m) 0 0) (hrb : ∀ j, j < q → wb j ≠ rb) (hne : ∀ a b, a < q → b < q → wb a = wb b → a = b) :
    Calls Tryz.prog 21 #[.slice (some ⟨rb, 0, none⟩) q q] w fun e w' => e = .returned (.bool true) ∧ Gc (fun b => ∃ j, j < q ∧ wb j = b) w w' := by
  have hmw : nwN m ≤ 1025 := by unfold nwN; omega
  obtain ⟨nm, hnm⟩ : ∃ v, nwN m = v := ⟨_, rfl⟩
  have HNM : Hid (nwN m = nm) := hnm
  rw [hnm] at hmw hw
  clear hnm
  have HRB : Hid (∀ j, j < q → wb j ≠ rb) := hrb
  have HNE : Hid (∀ a b, a < q → b < q → wb a = wb b → a = b) := hne
  have hcell : Hid (∀ W : World, W.rowIs rb 86 (2 * q) (rwC m wb q) → ∀ i, i < q → W.cell? ⟨rb, i * 2 + 1, none⟩ = some (.slice (some ⟨wb i, 0, none⟩) nm nm)) := fun W h i hi => by
    have := h.cell (show i * 2 + 1 < 2 * q by omega)
    rw [this]
    unfold rwC
    rw [if_pos (by omega), if_neg (by omega), show (i * 2 + 1) / 2 = i by omega, HNM.out]
  clear hrb hne
  go_enter Tryz.func21, Tryz.ntmps21
  go_wp2
  go_loopw [3] (fun o wr => ∃ (i : Nat), i ≤ q ∧ o = .int .i64 (i : Nat) ∧ wr.rowIs rb 86 (2 * q) (rwC m wb q) ∧ Hid (Wf wr wb q nm i 0) ∧ Gc (fun b => ∃ j, j < q ∧ wb j = b) w wr) (fun o _ => q - (intOf o).toNat)
  case atStart => exact ⟨0, Nat.zero_le _, rfl, hr, hw, Gc.refl⟩
  case round =>
    obtain ⟨i, hi, rfl, hri, HWi, gi⟩ := hrel
    by_cases hlt : i < q
    · have hlt' : (i : Int) < (q : Int) := by omega
      go_wp2
      go_loopw [4] (fun o wr => ∃ (k : Nat), k ≤ nm ∧ o = .int .i64 (k : Nat) ∧ wr.rowIs rb 86 (2 * q) (rwC m wb q) ∧ Hid (Wf wr wb q nm i k) ∧ Gc (fun b => ∃ j, j < q ∧ wb j = b) w wr) (fun o _ => nm - (intOf o).toNat)
      case atStart => exact ⟨0, Nat.zero_le _, rfl, hri, HWi, gi⟩
      case round =>
        obtain ⟨k, hk, rfl, hrk, HWk, gk⟩ := hrel
        have ck := hcell.out _ hrk i hlt
        by_cases hkl : k < nm
        · have hkl' : (k : Int) < (nm : Int) := by omega
          obtain ⟨f, hf1, hf2⟩ := HWk.out i hlt
          have cw := hf1.cell hkl
          have fw := World.rowIs.frozen hf1 k
          clear hf2
          go_wp2
          go_roundw
          case rel =>
            refine ⟨k + 1, hkl, by go_num, ?_, ?_, ?_⟩
            · exact World.rowIs.setOther hrk (a := ⟨wb i, k, none⟩) (fun e => HRB.out i hlt e.symm) _
            · exact HWk.out.step hlt hkl HNE.out
            · exact gk.step (gb_set (World.grownBy.refl _ (some (wb i))) _ _) (fun j e => ⟨i, hlt, by cases e; rfl⟩)
          case measure => simp [intOf]; omega
        · have hkn : k = nm := by omega
          subst k
          have hkl' : ¬ (nm : Int) < (nm : Int) := by omega
          go_wp2
          go_roundw
          case rel => exact ⟨i + 1, hlt, by go_num, hrk, HWk.out.next, gk⟩
          case measure => simp [intOf]; omega
    · have hiq : i = q := by omega
      subst i
      have hlt' : ¬ (q : Int) < (q : Int) := by omega
      go_wp2
      have hnm0 : 0 < nm := by have := HNM.out; unfold nwN at this; omega
      obtain ⟨U, hU⟩ : ∃ U, U = wr := ⟨_, rfl⟩
      subst hU
      have HWQ : Hid (∀ j, j < q → U.rowIs (wb j) 94 nm (fun _ => .int .u64 ((1000 + j : Nat) : Int))) := fun j hj => by
        obtain ⟨f, h1, h2⟩ := HWi.out j hj
        exact h1.congr fun c hc => by rw [h2 c hc (.inl hj)]
      obtain ⟨iW, HIW⟩ : ∃ i, Hid (Tryz.prog.info? 94 = some i ∧ i.zero = some (.int .u64 0) ∧ i.size = 1 ∧ i.bytes = 8) := by
        obtain ⟨i, h1, h2, h3, h4⟩ := info_parts infoW1
        exact ⟨i, h1, h2, h3, h4⟩
      obtain ⟨iS, HIS⟩ : ∃ i, Hid (Tryz.prog.info? 84 = some i ∧ i.zero = some (.slice none 0 0) ∧ i.size = 1 ∧ i.bytes = 24) := by
        obtain ⟨i, h1, h2, h3, h4⟩ := info_parts infoWS
        exact ⟨i, h1, h2, h3, h4⟩
      clear hr hw HWi
      go_loopw [5, 6] (fun o x wr => ∃ (i : Nat) (ov : Value) (mb mc : Nat → Nat), i ≤ q ∧ o = ov ∧ x = .int .i64 (i : Nat) ∧ wr.ownsRow U.heap.size 84 1 ov i (slV mb mc (nm + 40) i) ∧ Hid (∀ j, j < i → Wd wr (some ⟨mb j, 0, none⟩) (nm + 40) (fun _ => 1000 + j) ∧ U.heap.size ≤ mb j ∧ mb j < wr.heap.size ∧ ov.ownBlock ≠ some (mb j)) ∧ U.grownBy wr none) (fun _ x _ => q - (intOf x).toNat)
      case atStart => exact ⟨0, _, fun _ => 0, fun _ => 0, Nat.zero_le _, rfl, rfl, World.ownsRow_nil _ _ _ _, (fun j hj => absurd hj (Nat.not_lt_zero _)), World.grownBy.refl _ _⟩
      case round =>
        obtain ⟨i, ov, mb, mc, hi, rfl, rfl, own, HL, gy⟩ := hrel
        obtain ⟨Z, hZ⟩ : ∃ Z, Z = wr := ⟨_, rfl⟩
        subst hZ
        by_cases hil : i < q
        · have hil' : (i : Int) < (q : Int) := by omega
          have cz := hcell.out _ (rowIs_kept hri gy (by simp)) i hil
          have rz := rowIs_kept (HWQ.out i hil) gy (by simp)
          go_wp2
          go_loopw [7, 8] (fun o x wr => ∃ (k : Nat) (lv : Value), o = lv ∧ k ≤ 40 ∧ x = .int .i64 (k : Nat) ∧ Z.grownBy wr none ∧ (k = 0 ∧ lv = .slice (some ⟨wb i, 0, none⟩) nm nm ∨ 0 < k ∧ wr.ownsRow Z.heap.size 94 1 lv (nm + k) (wdV (1000 + i) (nm + k)))) (fun _ x _ => 40 - (intOf x).toNat)
          case atStart => exact ⟨0, _, rfl, Nat.zero_le _, rfl, World.grownBy.refl _ _, .inl ⟨rfl, rfl⟩⟩
          case round =>
            obtain ⟨k, lv, rfl, hk, rfl, gz, hor⟩ := hrel
            by_cases hkl : k < 40
            · have hkl' : (k : Int) < 40 := by omega
              obtain ⟨X2, hX2⟩ : ∃ X2, wr.alloc (.cells #[.int .u64 (1000 + (i : Int))] 94) = X2 := ⟨_, rfl⟩
              have gX2 : wr.grownBy X2 none := by rw [← hX2]; exact World.grownBy_alloc _ _ _
              have nX : ∀ l u, [Value.int .u64 (1000 + (i : Int))][l]? = some u → X2.cell? ((⟨wr.heap.size, 0, none⟩ : Addr).add l) = some u := by rw [← hX2]; exact World.news_of_block (heap_alloc_new _ _)
              have sX : Z.heap.size ≤ X2.heap.size := Nat.le_trans gz.size gX2.size
              rcases hor with ⟨rfl, rfl⟩ | ⟨hq0, hown⟩
              · have rX := rowIs_kept (rowIs_kept rz gz (by simp)) gX2 (by simp)
                have hold : ∀ j u, (wdV (1000 + i) nm)[j]? = some u → X2.cell? ((⟨wb i, 0, none⟩ : Addr).add j) = some u := fun j u hu => by
                  unfold wdV at hu
                  rw [List.getElem?_replicate] at hu
                  split at hu
                  · rename_i hj
                    rw [add_mid, Nat.zero_add, rX.cell hj, hu]
                  · cases hu
                clear rX
                go_wp2_with (at_builtin; refine wpList_append_grows _ rfl _ _ 84 rfl 94 iW (.int .u64 0) 1 8 underWS HIW.out.1 HIW.out.2.1 HIW.out.2.2.1 HIW.out.2.2.2 rfl (by decide) (some ⟨wb i, 0, none⟩) nm nm (wdV (1000 + i) nm) rfl (by simp) (by rw [wdV_len]; omega) (fun b e => by cases e; exact hold) ⟨wr.heap.size, 0, none⟩ 1 1 [.int .u64 (1000 + (i : Int))] rfl rfl nX (by intro u hu; simp at hu; subst hu; rfl) (by omega) (by unfold maxLen; omega) (by omega) ?_; intro v' w' own' g')
                go_roundw
                case rel =>
                  refine ⟨0 + 1, v', rfl, by omega, by go_num, gb_trans gz (gb_trans gX2 g'), .inr ⟨by omega, ?_⟩⟩
                  have e : wdV (1000 + i) (nm + (0 + 1)) = wdV (1000 + i) nm ++ [.int .u64 (1000 + (i : Int))] := wdV_succ _ _
                  rw [e]; exact own_mono own' sX
                case measure => simp [intOf]
              · have own2 := hown.kept gX2 (Classical.em _)
                clear hown
                go_wp2_with (at_builtin; refine wpList_append_own_at _ rfl _ _ 84 rfl Z.heap.size 94 iW (.int .u64 0) 1 8 underWS HIW.out.1 HIW.out.2.1 HIW.out.2.2.1 HIW.out.2.2.2 rfl (by decide) _ _ _ rfl own2 ⟨wr.heap.size, 0, none⟩ 1 1 [.int .u64 (1000 + (i : Int))] rfl rfl nX (by intro u hu; simp at hu; subst hu; rfl) (by unfold maxLen; omega) (by omega) sX ?_; intro v' w' own' g' hnil' hat')
                go_roundw
                case rel =>
                  refine ⟨k + 1, v', rfl, hkl, by go_num, gb_beyond (gb_trans gz gX2) g' (fun i e => (own2.lt _ e).1), .inr ⟨by omega, ?_⟩⟩
                  have e : wdV (1000 + i) (nm + (k + 1)) = wdV (1000 + i) (nm + k) ++ [.int .u64 (1000 + (i : Int))] := wdV_succ _ _
                  rw [e]; exact own'
                case measure => simp [intOf]; omega
            · have hk40 : k = 40 := by omega
              subst k
              rcases hor with ⟨h1, _⟩ | ⟨_, hown⟩
              · omega
              · obtain ⟨lg, lc, hlv, hlg, hlc⟩ := own_cell hown (by omega)
                have hllt := (hown.lt lg (by rw [hlv]; rfl)).2
                subst hlv
                have HLC : Hid (∀ j u, (wdV (1000 + i) (nm + 40))[j]? = some u → wr.cell? ⟨lg, j, none⟩ = some u) := hlc
                clear hlc hown
                obtain ⟨X2, hX2⟩ : ∃ X2, wr.alloc (.cells #[.slice (some ⟨lg, 0, none⟩) (nm + 40) lc] 84) = X2 := ⟨_, rfl⟩
                have gX2 : wr.grownBy X2 none := by rw [← hX2]; exact World.grownBy_alloc _ _ _
                have nX : ∀ l u, [Value.slice (some ⟨lg, 0, none⟩) (nm + 40) lc][l]? = some u → X2.cell? ((⟨wr.heap.size, 0, none⟩ : Addr).add l) = some u := by rw [← hX2]; exact World.news_of_block (heap_alloc_new _ _)
                have HLT : Hid (∀ q, _ = some q → q < Z.heap.size) := fun q hq => (own.lt q hq).2
                have own2 := (own.kept gz (Classical.em _)).kept gX2 (Classical.em _)
                have gu := gb_trans gy (gb_trans gz gX2)
                go_wp2_with (at_builtin; refine wpList_append_lies _ rfl _ _ 95 rfl U.heap.size 84 iS (.slice none 0 0) 1 24 underWSS HIS.out.1 HIS.out.2.1 HIS.out.2.2.1 HIS.out.2.2.2 rfl (by decide) _ i _ rfl own2 ⟨wr.heap.size, 0, none⟩ 1 1 [.slice (some ⟨lg, 0, none⟩) (nm + 40) lc] rfl rfl nX (by intro u hu; simp at hu; subst hu; rfl) (by decide) (by unfold maxLen; omega) (by omega) gu.size _ rfl ?_; intro g6 c6 w' own' g' at' lt')
                go_roundw
                case rel =>
                  have lU := gy.size
                  have lX := gz.size
                  have lX2 := gX2.size
                  have lw' := g'.size
                  refine ⟨i + 1, _, fun j => if j = i then lg else mb j, fun j => if j = i then lc else mc j, hil, rfl, by go_num, ?_, ?_, gb_beyondX gu g' (fun i e => (own2.lt _ e).1)⟩
                  · rw [slV_succ]
                    exact own'
                  · intro j hj
                    by_cases e : j = i
                    · subst j
                      simp only [if_true, reduceIte]
                      refine ⟨?_, by omega, by omega, fun e => ?_⟩
                      · have h0 : Wd wr (some ⟨lg, 0, none⟩) (nm + 40) (fun _ => 1000 + i) := fun c hc => ⟨_, rfl, by
                          rw [add_mid, Nat.zero_add]
                          exact HLC.out c _ (by unfold wdV; rw [List.getElem?_replicate, if_pos hc])⟩
                        exact (h0.kept gX2 (by simp)).kept g' (fun a ha e => by cases ha; have := HLT.out lg e.symm; omega)
                      · have e1 : g6 = lg := by simpa [Value.ownBlock] using e
                        rcases at' with h | h
                        · have := HLT.out g6 h; omega
                        · omega
                    · simp only [if_neg e]
                      obtain ⟨q1, q2, q3, q4⟩ := HL.out j (by omega)
                      refine ⟨((q1.kept gz (by simp)).kept gX2 (by simp)).kept g' (fun a ha e => by cases ha; exact q4 e.symm), q2, by omega, fun e => ?_⟩
                      have e1 : g6 = mb j := by simpa [Value.ownBlock] using e
                      rcases at' with h | h
                      · exact q4 (h.trans (by rw [e1]))
                      · omega
                case measure => simp [intOf]; omega
        · have hiq : i = q := by omega
          subst i
          have hil' : ¬ (q : Int) < (q : Int) := by omega
          obtain ⟨mg, mk, hov, hmg, hmc⟩ := own_cell own hq0
          subst hov
          have HMC : Hid (∀ j, j < q → Z.cell? ⟨mg, j, none⟩ = some (.slice (some ⟨mb j, 0, none⟩) (nm + 40) (mc j))) := fun j hj => hmc j _ (by simp [slV, hj])
          clear hmc own
          have GZ := gi.step gy (fun i e => by cases e)
          have hriZ := rowIs_kept hri gy (by simp)
          go_wp2
          go_loopw [9] (fun x wr => ∃ (i : Nat), i ≤ q ∧ x = .int .i64 (i : Nat) ∧ Z.grownBy wr none) (fun x _ => q - (intOf x).toNat)
          case atStart => exact ⟨0, Nat.zero_le _, rfl, World.grownBy.refl _ _⟩
          case round =>
            obtain ⟨i, hi, rfl, g3⟩ := hrel
            by_cases h3l : i < q
            · have h3l' : (i : Int) < (q : Int) := by omega
              go_wp2
              go_loopw [10] (fun x wr => ∃ (k : Nat), k ≤ nm + 40 ∧ x = .int .i64 (k : Nat) ∧ Z.grownBy wr none) (fun x _ => nm + 40 - (intOf x).toNat)
              case atStart => exact ⟨0, Nat.zero_le _, rfl, g3⟩
              case round =>
                obtain ⟨k, hk, rfl, g4⟩ := hrel
                have m0 := g4.cell (HMC.out i h3l) (by simp)
                by_cases hkl : k < nm + 40
                · have hkl' : (k : Int) < (nm : Int) + 40 := by omega
                  have r0 := hcell.out _ (rowIs_kept hriZ g4 (by simp)) i h3l
                  have m1 := g4.cell ((HL.out i h3l).1.at hkl) (by simp)
                  rw [add_mid, Nat.zero_add] at m1
                  have hvv : ((1000 + i : Nat) : Int) = 1000 + (i : Int) := by omega
                  rw [hvv] at m1
                  clear hvv
                  by_cases hkn : k < nm
                  · have hkn' : (k : Int) < (nm : Int) := by omega
                    have r1 := (rowIs_kept (rowIs_kept (HWQ.out i h3l) gy (by simp)) g4 (by simp)).cell hkn
                    have hvv : ((1000 + i : Nat) : Int) = 1000 + (i : Int) := by omega
                    rw [hvv] at r1
                    clear hvv
                    go_wp2
                    go_roundw
                    case rel => exact ⟨k + 1, hkl, by go_num, g4⟩
                    case measure => simp [intOf]; omega
                  · have hkn' : ¬ (k : Int) < (nm : Int) := by omega
                    go_wp2
                    go_roundw
                    case rel => exact ⟨k + 1, hkl, by go_num, g4⟩
                    case measure => simp [intOf]; omega
                · have hk40 : k = nm + 40 := by omega
                  subst k
                  have hkl' : ¬ ((nm + 40 : Nat) : Int) < (nm : Int) + 40 := by omega
                  go_wp2
                  go_roundw
                  case rel => exact ⟨i + 1, h3l, by go_num, g4⟩
                  case measure => simp [intOf]; omega
            · have hiq : i = q := by omega
              subst i
              have h3l' : ¬ (q : Int) < (q : Int) := by omega
              go_wp2
              go_ret
              exact ⟨rfl, GZ.step g3 (fun i e => by cases e)⟩
end Go.Proofs.YtjndljjpbkfmiaaGreatDoor
namespace Go.Proofs.YtjndljjpbkfmiaaGreatDoor
open Go.RowKit
set_option linter.unusedVariables false
set_option linter.unusedSimpArgs false
set_option maxRecDepth 100000

theorem rowsFullN (w : World) : Calls Tryz.prog 21 #[.slice none 0 0] w fun e w' => e = .returned (.bool true) ∧ w.grownBy w' none := by
  go_enter Tryz.func21, Tryz.ntmps21
  go_wp2
  go_loopw [3] (fun o wr => o = .int .i64 0 ∧ w.grownBy wr none) (fun _ _ => 0)
  case atStart => exact ⟨rfl, World.grownBy.refl _ _⟩
  case round =>
    obtain ⟨rfl, g1⟩ := hrel
    go_wp2
    go_loopw [5, 6] (fun o x wr => o = .slice none 0 0 ∧ x = .int .i64 0 ∧ w.grownBy wr none) (fun _ _ _ => 0)
    case atStart => exact ⟨rfl, rfl, g1⟩
    case round =>
      obtain ⟨rfl, rfl, g2⟩ := hrel
      go_wp2
      go_loopw [9] (fun x wr => x = .int .i64 0 ∧ w.grownBy wr none) (fun _ _ => 0)
      case atStart => exact ⟨rfl, g2⟩
      case round =>
        obtain ⟨rfl, g3⟩ := hrel
        go_wp2
        go_ret
        exact ⟨rfl, g3⟩
/-- A field, or none, whose rows are refused. -/
structure Zr (k x y t z E : Int) (Q : World → Prop) (pf pg : Option Addr) : Prop where
  kept : ∀ X Y, Q X → X.grownBy Y none → Q Y
  ref : ∀ X, Q X → Calls Tryz.prog 18 #[.agg #[.int .u8 k, .int .i64 x, .int .i64 y, .int .u8 t, .int .i64 z], .pointer pg] X fun e Y => e = .returned (.tuple #[.slice none 0 0, .int .i64 E]) ∧ X.grownBy Y none
  prg : ∀ X, Q X → Calls Tryz.prog 19 #[.agg #[.int .u8 k, .int .i64 x, .int .i64 y, .int .u8 t, .int .i64 z], .pointer pf] X fun e Y => e = .returned (.tuple #[.slice none 0 0, .int .i64 E]) ∧ X.grownBy Y none
  sty : ∀ X, Q X → Calls Tryz.prog 13 #[.pointer pf, .pointer pg] X fun e Y => e = .returned (.bool true) ∧ X.grownBy Y none
set_option maxHeartbeats 2000000 in
theorem rowsZ (k x y t z E : Int) (hE : (E == 0) = false) (x2 y2 s2 : Int) (pk : Bool) (sp : Option Addr) (n c : Nat) (w : World) (hT : Tab w)
    (hgr : ∀ w, Calls Tryz.prog 8 #[.agg #[.int .i64 x2, .int .i64 y2, .int .i64 s2, .bool pk, .slice sp n c]] w fun e w' => e = .returned (.bool false) ∧ w.grownBy w' none)
    (hfield : ∀ w', w.grownBy w' none → Calls Tryz.prog 9 #[.agg #[.int .i64 x2, .int .i64 y2, .int .i64 s2, .bool pk, .slice sp n c]] w' fun e w2 => ∃ pf pg Q, e = .returned (.tuple #[.pointer pf, .pointer pg, .bool true]) ∧ Zr k x y t z E Q pf pg ∧ Q w2 ∧ w'.grownBy w2 none) :
    Calls Tryz.prog 4 #[.agg #[.int .u8 k, .int .i64 x, .int .i64 y, .int .u8 t, .int .i64 z], .agg #[.int .i64 x2, .int .i64 y2, .int .i64 s2, .bool pk, .slice sp n c]] w fun e w' => e = .returned (.bool true) ∧ Below w.heap.size w w' := by
  obtain ⟨W1, hW1, sz1, g1, B1⟩ := boxn w #[.int .u8 k, .int .i64 x, .int .i64 y, .int .u8 t, .int .i64 z] 23
  obtain ⟨W2, hW2, sz2, g2, B2⟩ := boxn W1 #[.int .i64 x2, .int .i64 y2, .int .i64 s2, .bool pk, .slice sp n c] 26
  have B1x := B1.kept g2 (by simp)
  have t0_0 := B1x.cell 0 (v := .int .u8 k) rfl
  have t0_1 := B1x.cell 1 (v := .int .i64 x) rfl
  have t0_2 := B1x.cell 2 (v := .int .i64 y) rfl
  have t0_3 := B1x.cell 3 (v := .int .u8 t) rfl
  have t0_4 := B1x.cell 4 (v := .int .i64 z) rfl
  have k0_0 := B2.cell 0 (v := .int .i64 x2) rfl
  have k0_1 := B2.cell 1 (v := .int .i64 y2) rfl
  have k0_2 := B2.cell 2 (v := .int .i64 s2) rfl
  have k0_3 := B2.cell 3 (v := .bool pk) rfl
  have k0_4 := B2.cell 4 (v := .slice sp n c) rfl
  have hT2 := hT.kept (gb_trans g1 g2)
  go_enter Tryz.func4, Tryz.ntmps4
  go_wp2_with (first | (go_at_call 7; refine (aliveC W2 hT2).mono ?_; rintro e V1 ⟨rfl, g3⟩; have tB1 := B1x.kept g3 (by simp); have t1_0 := tB1.cell 0 (v := .int .u8 k) rfl; have t1_1 := tB1.cell 1 (v := .int .i64 x) rfl; have t1_2 := tB1.cell 2 (v := .int .i64 y) rfl; have t1_3 := tB1.cell 3 (v := .int .u8 t) rfl; have t1_4 := tB1.cell 4 (v := .int .i64 z) rfl; have kB1 := B2.kept g3 (by simp); have k1_0 := kB1.cell 0 (v := .int .i64 x2) rfl; have k1_1 := kB1.cell 1 (v := .int .i64 y2) rfl; have k1_2 := kB1.cell 2 (v := .int .i64 s2) rfl; have k1_3 := kB1.cell 3 (v := .bool pk) rfl; have k1_4 := kB1.cell 4 (v := .slice sp n c) rfl) | (go_at_call 8; refine (hgr V1).mono ?_; rintro e V2 ⟨rfl, g4⟩; have tB2 := tB1.kept g4 (by simp); have t2_0 := tB2.cell 0 (v := .int .u8 k) rfl; have t2_1 := tB2.cell 1 (v := .int .i64 x) rfl; have t2_2 := tB2.cell 2 (v := .int .i64 y) rfl; have t2_3 := tB2.cell 3 (v := .int .u8 t) rfl; have t2_4 := tB2.cell 4 (v := .int .i64 z) rfl; have kB2 := kB1.kept g4 (by simp); have k2_0 := kB2.cell 0 (v := .int .i64 x2) rfl; have k2_1 := kB2.cell 1 (v := .int .i64 y2) rfl; have k2_2 := kB2.cell 2 (v := .int .i64 s2) rfl; have k2_3 := kB2.cell 3 (v := .bool pk) rfl; have k2_4 := kB2.cell 4 (v := .slice sp n c) rfl; have hfd := hfield V2 (gb_trans (gb_trans g1 g2) (gb_trans g3 g4))) | (go_at_call 9; refine hfd.mono ?_; rintro e V3 ⟨pf, pg, Q, rfl, ZQ, q3, g5⟩; have tB3 := tB2.kept g5 (by simp); have t3_0 := tB3.cell 0 (v := .int .u8 k) rfl; have t3_1 := tB3.cell 1 (v := .int .i64 x) rfl; have t3_2 := tB3.cell 2 (v := .int .i64 y) rfl; have t3_3 := tB3.cell 3 (v := .int .u8 t) rfl; have t3_4 := tB3.cell 4 (v := .int .i64 z) rfl; have kB3 := kB2.kept g5 (by simp); have k3_0 := kB3.cell 0 (v := .int .i64 x2) rfl; have k3_1 := kB3.cell 1 (v := .int .i64 y2) rfl; have k3_2 := kB3.cell 2 (v := .int .i64 s2) rfl; have k3_3 := kB3.cell 3 (v := .bool pk) rfl; have k3_4 := kB3.cell 4 (v := .slice sp n c) rfl; have hrb := ZQ.ref V3 q3) | (go_at_call 18; refine hrb.mono ?_; rintro e V4 ⟨rfl, g6⟩; have tB4 := tB3.kept g6 (by simp); have t4_0 := tB4.cell 0 (v := .int .u8 k) rfl; have t4_1 := tB4.cell 1 (v := .int .i64 x) rfl; have t4_2 := tB4.cell 2 (v := .int .i64 y) rfl; have t4_3 := tB4.cell 3 (v := .int .u8 t) rfl; have t4_4 := tB4.cell 4 (v := .int .i64 z) rfl; have kB4 := kB3.kept g6 (by simp); have k4_0 := kB4.cell 0 (v := .int .i64 x2) rfl; have k4_1 := kB4.cell 1 (v := .int .i64 y2) rfl; have k4_2 := kB4.cell 2 (v := .int .i64 s2) rfl; have k4_3 := kB4.cell 3 (v := .bool pk) rfl; have k4_4 := kB4.cell 4 (v := .slice sp n c) rfl; have q4 := ZQ.kept _ _ q3 g6; have hb1 := ZQ.prg V4 q4) | ((fail_if_success (guard_hyp g8)); go_at_call 19; refine hb1.mono ?_; rintro e V6 ⟨rfl, g8⟩; have tB5 := tB4.kept g8 (by simp); have t5_0 := tB5.cell 0 (v := .int .u8 k) rfl; have t5_1 := tB5.cell 1 (v := .int .i64 x) rfl; have t5_2 := tB5.cell 2 (v := .int .i64 y) rfl; have t5_3 := tB5.cell 3 (v := .int .u8 t) rfl; have t5_4 := tB5.cell 4 (v := .int .i64 z) rfl; have kB5 := kB4.kept g8 (by simp); have k5_0 := kB5.cell 0 (v := .int .i64 x2) rfl; have k5_1 := kB5.cell 1 (v := .int .i64 y2) rfl; have k5_2 := kB5.cell 2 (v := .int .i64 s2) rfl; have k5_3 := kB5.cell 3 (v := .bool pk) rfl; have k5_4 := kB5.cell 4 (v := .slice sp n c) rfl; have q6 := ZQ.kept _ _ q4 g8; have hb2 := ZQ.prg V6 q6) | (guard_hyp g8; go_at_call 19; refine hb2.mono ?_; rintro e V8 ⟨rfl, g10⟩; have tB6 := tB5.kept g10 (by simp); have t6_0 := tB6.cell 0 (v := .int .u8 k) rfl; have t6_1 := tB6.cell 1 (v := .int .i64 x) rfl; have t6_2 := tB6.cell 2 (v := .int .i64 y) rfl; have t6_3 := tB6.cell 3 (v := .int .u8 t) rfl; have t6_4 := tB6.cell 4 (v := .int .i64 z) rfl; have kB6 := kB5.kept g10 (by simp); have k6_0 := kB6.cell 0 (v := .int .i64 x2) rfl; have k6_1 := kB6.cell 1 (v := .int .i64 y2) rfl; have k6_2 := kB6.cell 2 (v := .int .i64 s2) rfl; have k6_3 := kB6.cell 3 (v := .bool pk) rfl; have k6_4 := kB6.cell 4 (v := .slice sp n c) rfl; have q8 := ZQ.kept _ _ q6 g10) | ((fail_if_success (guard_hyp g12)); go_at_call 20; refine (sameRowsN _).mono ?_; rintro e V10 ⟨rfl, g12⟩; have tB7 := tB6.kept g12 (by simp); have t7_0 := tB7.cell 0 (v := .int .u8 k) rfl; have t7_1 := tB7.cell 1 (v := .int .i64 x) rfl; have t7_2 := tB7.cell 2 (v := .int .i64 y) rfl; have t7_3 := tB7.cell 3 (v := .int .u8 t) rfl; have t7_4 := tB7.cell 4 (v := .int .i64 z) rfl; have kB7 := kB6.kept g12 (by simp); have k7_0 := kB7.cell 0 (v := .int .i64 x2) rfl; have k7_1 := kB7.cell 1 (v := .int .i64 y2) rfl; have k7_2 := kB7.cell 2 (v := .int .i64 s2) rfl; have k7_3 := kB7.cell 3 (v := .bool pk) rfl; have k7_4 := kB7.cell 4 (v := .slice sp n c) rfl; have q10 := ZQ.kept _ _ q8 g12) | ((fail_if_success (guard_hyp g13)); go_at_call 20; refine (sameRowsN _).mono ?_; rintro e V11 ⟨rfl, g13⟩; have tB8 := tB7.kept g13 (by simp); have t8_0 := tB8.cell 0 (v := .int .u8 k) rfl; have t8_1 := tB8.cell 1 (v := .int .i64 x) rfl; have t8_2 := tB8.cell 2 (v := .int .i64 y) rfl; have t8_3 := tB8.cell 3 (v := .int .u8 t) rfl; have t8_4 := tB8.cell 4 (v := .int .i64 z) rfl; have kB8 := kB7.kept g13 (by simp); have k8_0 := kB8.cell 0 (v := .int .i64 x2) rfl; have k8_1 := kB8.cell 1 (v := .int .i64 y2) rfl; have k8_2 := kB8.cell 2 (v := .int .i64 s2) rfl; have k8_3 := kB8.cell 3 (v := .bool pk) rfl; have k8_4 := kB8.cell 4 (v := .slice sp n c) rfl; have q11 := ZQ.kept _ _ q10 g13) | (go_at_call 21; refine (rowsFullN _).mono ?_; rintro e V12 ⟨rfl, g14⟩; have tB9 := tB8.kept g14 (by simp); have t9_0 := tB9.cell 0 (v := .int .u8 k) rfl; have t9_1 := tB9.cell 1 (v := .int .i64 x) rfl; have t9_2 := tB9.cell 2 (v := .int .i64 y) rfl; have t9_3 := tB9.cell 3 (v := .int .u8 t) rfl; have t9_4 := tB9.cell 4 (v := .int .i64 z) rfl; have kB9 := kB8.kept g14 (by simp); have k9_0 := kB9.cell 0 (v := .int .i64 x2) rfl; have k9_1 := kB9.cell 1 (v := .int .i64 y2) rfl; have k9_2 := kB9.cell 2 (v := .int .i64 s2) rfl; have k9_3 := kB9.cell 3 (v := .bool pk) rfl; have k9_4 := kB9.cell 4 (v := .slice sp n c) rfl; have q12 := ZQ.kept _ _ q11 g14) | ((fail_if_success (guard_hyp g15)); go_at_call 20; refine (sameRowsN _).mono ?_; rintro e V13 ⟨rfl, g15⟩; have tB10 := tB9.kept g15 (by simp); have t10_0 := tB10.cell 0 (v := .int .u8 k) rfl; have t10_1 := tB10.cell 1 (v := .int .i64 x) rfl; have t10_2 := tB10.cell 2 (v := .int .i64 y) rfl; have t10_3 := tB10.cell 3 (v := .int .u8 t) rfl; have t10_4 := tB10.cell 4 (v := .int .i64 z) rfl; have kB10 := kB9.kept g15 (by simp); have k10_0 := kB10.cell 0 (v := .int .i64 x2) rfl; have k10_1 := kB10.cell 1 (v := .int .i64 y2) rfl; have k10_2 := kB10.cell 2 (v := .int .i64 s2) rfl; have k10_3 := kB10.cell 3 (v := .bool pk) rfl; have k10_4 := kB10.cell 4 (v := .slice sp n c) rfl; have q13 := ZQ.kept _ _ q12 g15; have hst := ZQ.sty V13 q13) | (go_at_call 13; refine hst.mono ?_; rintro e V14 ⟨rfl, g16⟩; have tB11 := tB10.kept g16 (by simp); have t11_0 := tB11.cell 0 (v := .int .u8 k) rfl; have t11_1 := tB11.cell 1 (v := .int .i64 x) rfl; have t11_2 := tB11.cell 2 (v := .int .i64 y) rfl; have t11_3 := tB11.cell 3 (v := .int .u8 t) rfl; have t11_4 := tB11.cell 4 (v := .int .i64 z) rfl; have kB11 := kB10.kept g16 (by simp); have k11_0 := kB11.cell 0 (v := .int .i64 x2) rfl; have k11_1 := kB11.cell 1 (v := .int .i64 y2) rfl; have k11_2 := kB11.cell 2 (v := .int .i64 s2) rfl; have k11_3 := kB11.cell 3 (v := .bool pk) rfl; have k11_4 := kB11.cell 4 (v := .slice sp n c) rfl))
  go_ret
  exact ⟨rfl, gb_below (gb_trans (gb_trans g1 g2) (gb_trans (gb_trans g3 g4) (gb_trans g5 (gb_trans g6 (gb_trans g8 (gb_trans g10 (gb_trans g12 (gb_trans g13 (gb_trans g14 (gb_trans g15 g16))))))))))⟩
set_option maxHeartbeats 1000000 in
theorem rowsG (k x y t z x2 y2 s2 : Int) (pk : Bool) (sp : Option Addr) (n c : Nat) (w : World) (hT : Tab w)
    (hgr : ∀ w, Calls Tryz.prog 8 #[.agg #[.int .i64 x2, .int .i64 y2, .int .i64 s2, .bool pk, .slice sp n c]] w fun e w' => e = .returned (.bool true) ∧ w.grownBy w' none) :
    Calls Tryz.prog 4 #[.agg #[.int .u8 k, .int .i64 x, .int .i64 y, .int .u8 t, .int .i64 z], .agg #[.int .i64 x2, .int .i64 y2, .int .i64 s2, .bool pk, .slice sp n c]] w fun e w' => e = .returned (.bool true) ∧ Below w.heap.size w w' := by
  obtain ⟨W1, hW1, sz1, g1, B1⟩ := boxn w #[.int .u8 k, .int .i64 x, .int .i64 y, .int .u8 t, .int .i64 z] 23
  obtain ⟨W2, hW2, sz2, g2, B2⟩ := boxn W1 #[.int .i64 x2, .int .i64 y2, .int .i64 s2, .bool pk, .slice sp n c] 26
  have k0_0 := B2.cell 0 (v := .int .i64 x2) rfl
  have k0_1 := B2.cell 1 (v := .int .i64 y2) rfl
  have k0_2 := B2.cell 2 (v := .int .i64 s2) rfl
  have k0_3 := B2.cell 3 (v := .bool pk) rfl
  have k0_4 := B2.cell 4 (v := .slice sp n c) rfl
  have hT2 := hT.kept (gb_trans g1 g2)
  go_enter Tryz.func4, Tryz.ntmps4
  go_wp2_with (first | (go_at_call 7; refine (aliveC W2 hT2).mono ?_; rintro e V1 ⟨rfl, g3⟩; have B3 := B2.kept g3 (by simp); have k1_0 := B3.cell 0 (v := .int .i64 x2) rfl; have k1_1 := B3.cell 1 (v := .int .i64 y2) rfl; have k1_2 := B3.cell 2 (v := .int .i64 s2) rfl; have k1_3 := B3.cell 3 (v := .bool pk) rfl; have k1_4 := B3.cell 4 (v := .slice sp n c) rfl) | (go_at_call 8; refine (hgr V1).mono ?_; rintro e V2 ⟨rfl, g4⟩))
  go_ret
  exact ⟨rfl, gb_below (gb_trans (gb_trans g1 g2) (gb_trans g3 g4))⟩
end Go.Proofs.YtjndljjpbkfmiaaGreatDoor
namespace Go.Proofs.YtjndljjpbkfmiaaGreatDoor
open Go.RowKit
set_option linter.unusedVariables false
set_option linter.unusedSimpArgs false
set_option maxRecDepth 100000

theorem gx_cell {L : Nat → Prop} {w w' : World} {b o : Nat} {v : Value} (h : Gx L w w') (hc : w.cell? ⟨b, o, none⟩ = some v) (hb : ¬ L b) : w'.cell? ⟨b, o, none⟩ = some v := by
  have hbk := h.block b (cell_lt hc) hb
  rw [← hc]
  unfold World.cell?
  rw [hbk]
theorem Rs.gx {w w' : World} {r q m : Nat} {wb : Nat → Nat} {P : Nat → Nat → Bool} {L : Nat → Prop} (h : Rs w r q m wb P) (hg : Gx L w w') (h1 : ¬ L r) (h2 : ∀ i, i < q → ¬ L (wb i)) : Rs w' r q m wb P :=
  ⟨fun i hi => gx_cell hg (h.n_ i hi) h1, fun i hi => gx_cell hg (h.s_ i hi) h1, fun i hi => hg.row (h.w_ i hi) (h2 i hi)⟩
theorem Rs.lt {w : World} {r q m : Nat} {wb : Nat → Nat} {P : Nat → Nat → Bool} (h : Rs w r q m wb P) (hq : 0 < q) : r < w.heap.size ∧ ∀ i, i < q → wb i < w.heap.size := ⟨cell_lt (h.n_ 0 hq), fun i hi => World.rowIs.lt (h.w_ i hi)⟩
theorem Rs.wf {w : World} {r q m : Nat} {wb : Nat → Nat} {P : Nat → Nat → Bool} (h : Rs w r q m wb P) : Wf w wb q (nwN m) 0 0 := fun j hj => ⟨_, h.w_ j hj, fun c hc hh => by omega⟩
set_option maxHeartbeats 8000000 in
theorem rowsA {k t z : Int} {C R S : Nat} (G : Gr k t z C R) (hz : Sz C R S) (hS2 : S ≤ 2) (pk : Bool) (hpk : pk = true → S = 2) (sp : Option Addr) (n c : Nat) (f : Nat → Nat) (hn : n ≤ 140737488351232) (h256 : ∀ i, f i < 256) (w : World) (hb : By w sp n f) (hT : Tab w)
    (hgr : ∀ w, Calls Tryz.prog 8 #[.agg #[.int .i64 (C : Nat), .int .i64 (R : Nat), .int .i64 (S : Nat), .bool pk, .slice sp n c]] w fun e w' => e = .returned (.bool false) ∧ w.grownBy w' none) :
    Calls Tryz.prog 4 #[.agg #[.int .u8 k, .int .i64 (C : Nat), .int .i64 (R : Nat), .int .u8 t, .int .i64 z], .agg #[.int .i64 (C : Nat), .int .i64 (R : Nat), .int .i64 (S : Nat), .bool pk, .slice sp n c]] w fun e w' => e = .returned (.bool true) ∧ Below w.heap.size w w' := by
  obtain ⟨W1, hW1, sz1, g1, B1⟩ := boxn w #[.int .u8 k, .int .i64 (C : Nat), .int .i64 (R : Nat), .int .u8 t, .int .i64 z] 23
  obtain ⟨W2, hW2, sz2, g2, B2⟩ := boxn W1 #[.int .i64 (C : Nat), .int .i64 (R : Nat), .int .i64 (S : Nat), .bool pk, .slice sp n c] 26
  have B1x := B1.kept g2 (by simp)
  have t0_0 := B1x.cell 0 (v := .int .u8 k) rfl
  have t0_1 := B1x.cell 1 (v := .int .i64 (C : Nat)) rfl
  have t0_2 := B1x.cell 2 (v := .int .i64 (R : Nat)) rfl
  have t0_3 := B1x.cell 3 (v := .int .u8 t) rfl
  have t0_4 := B1x.cell 4 (v := .int .i64 z) rfl
  have k0_0 := B2.cell 0 (v := .int .i64 (C : Nat)) rfl
  have k0_1 := B2.cell 1 (v := .int .i64 (R : Nat)) rfl
  have k0_2 := B2.cell 2 (v := .int .i64 (S : Nat)) rfl
  have k0_3 := B2.cell 3 (v := .bool pk) rfl
  have k0_4 := B2.cell 4 (v := .slice sp n c) rfl
  have hT2 := hT.kept (gb_trans g1 g2)
  obtain ⟨gK, hgK⟩ : ∃ gK, kpG n f S = gK := ⟨_, rfl⟩
  have HGK : Hid (kpG n f S = gK) := hgK
  have hS0 := hz.s0
  have hS1 := hz.s1
  have hC1 := G.c1
  have hR1 := G.r1
  have HGB : Hid (∀ i, gK i < 256) := fun i => by rw [← hgK]; exact Nat.lt_of_lt_of_le (kpG_lt (by omega) i) hS1
  have HGN : Hid (∀ i, (fun k => (gK k + 1) % S) i < 256) := fun i => Nat.lt_of_lt_of_le (Nat.mod_lt _ (by omega)) hS1
  clear hgK
  go_enter Tryz.func4, Tryz.ntmps4
  go_wp2_with (first | (go_at_call 7; refine (aliveC W2 hT2).mono ?_; rintro e V1 ⟨rfl, g3⟩; have tB1 := B1x.kept g3 (by simp); have t1_0 := tB1.cell 0 (v := .int .u8 k) rfl; have t1_1 := tB1.cell 1 (v := .int .i64 (C : Nat)) rfl; have t1_2 := tB1.cell 2 (v := .int .i64 (R : Nat)) rfl; have t1_3 := tB1.cell 3 (v := .int .u8 t) rfl; have t1_4 := tB1.cell 4 (v := .int .i64 z) rfl; have kB1 := B2.kept g3 (by simp); have k1_0 := kB1.cell 0 (v := .int .i64 (C : Nat)) rfl; have k1_1 := kB1.cell 1 (v := .int .i64 (R : Nat)) rfl; have k1_2 := kB1.cell 2 (v := .int .i64 (S : Nat)) rfl; have k1_3 := kB1.cell 3 (v := .bool pk) rfl; have k1_4 := kB1.cell 4 (v := .slice sp n c) rfl) | (go_at_call 8; refine (hgr V1).mono ?_; rintro e V2 ⟨rfl, g4⟩; have tB2 := tB1.kept g4 (by simp); have t2_0 := tB2.cell 0 (v := .int .u8 k) rfl; have t2_1 := tB2.cell 1 (v := .int .i64 (C : Nat)) rfl; have t2_2 := tB2.cell 2 (v := .int .i64 (R : Nat)) rfl; have t2_3 := tB2.cell 3 (v := .int .u8 t) rfl; have t2_4 := tB2.cell 4 (v := .int .i64 z) rfl; have kB2 := kB1.kept g4 (by simp); have k2_0 := kB2.cell 0 (v := .int .i64 (C : Nat)) rfl; have k2_1 := kB2.cell 1 (v := .int .i64 (R : Nat)) rfl; have k2_2 := kB2.cell 2 (v := .int .i64 (S : Nat)) rfl; have k2_3 := kB2.cell 3 (v := .bool pk) rfl; have k2_4 := kB2.cell 4 (v := .slice sp n c) rfl; have G4 := gb_trans (gb_trans g1 g2) (gb_trans g3 g4); have hfd := keptY C R S pk hz hpk sp n c f hn h256 V2 (hb.kept G4 (by simp)); rw [HGK.out] at hfd) | (go_at_call 9; refine hfd.mono ?_; rintro e V3 ⟨b, M, L, r, d, rfl, F, hM, hRf, hL, lr, ld, hnr, hnd, g5⟩; have tB3 := tB2.kept g5 (by simp); have t3_0 := tB3.cell 0 (v := .int .u8 k) rfl; have t3_1 := tB3.cell 1 (v := .int .i64 (C : Nat)) rfl; have t3_2 := tB3.cell 2 (v := .int .i64 (R : Nat)) rfl; have t3_3 := tB3.cell 3 (v := .int .u8 t) rfl; have t3_4 := tB3.cell 4 (v := .int .i64 z) rfl; have kB3 := kB2.kept g5 (by simp); have k3_0 := kB3.cell 0 (v := .int .i64 (C : Nat)) rfl; have k3_1 := kB3.cell 1 (v := .int .i64 (R : Nat)) rfl; have k3_2 := kB3.cell 2 (v := .int .i64 (S : Nat)) rfl; have k3_3 := kB3.cell 3 (v := .bool pk) rfl; have k3_4 := kB3.cell 4 (v := .slice sp n c) rfl; have hrb := refRowsY G r d S hS2 pk gK hz V3 hRf) | ((fail_if_success (guard_hyp g6)); go_at_call 18; refine hrb.mono ?_; rintro e V4 ⟨rw_, cw, ww, rfl, RSw, lw, lww, g6⟩; have Hlww : Hid _ := lww; clear lww; have tB4 := tB3.kept g6 (by simp); have t4_0 := tB4.cell 0 (v := .int .u8 k) rfl; have t4_1 := tB4.cell 1 (v := .int .i64 (C : Nat)) rfl; have t4_2 := tB4.cell 2 (v := .int .i64 (R : Nat)) rfl; have t4_3 := tB4.cell 3 (v := .int .u8 t) rfl; have t4_4 := tB4.cell 4 (v := .int .i64 z) rfl; have kB4 := kB3.kept g6 (by simp); have k4_0 := kB4.cell 0 (v := .int .i64 (C : Nat)) rfl; have k4_1 := kB4.cell 1 (v := .int .i64 (R : Nat)) rfl; have k4_2 := kB4.cell 2 (v := .int .i64 (S : Nat)) rfl; have k4_3 := kB4.cell 3 (v := .bool pk) rfl; have k4_4 := kB4.cell 4 (v := .slice sp n c) rfl; have hM4 := F.grown hM g6; have hb1 := rowsY G hz.all (F.fdm gK V4.heap.size (F.lts _ _ hM4)) HGB.out hS2 V4 (Nat.le_refl _) hM4) | ((fail_if_success (guard_hyp g8)); go_at_call 19; refine hb1.mono ?_; rintro e V6 ⟨ra, wa, rfl, rIa, la, hwa, dna, g8⟩; have Hhwa : Hid _ := hwa; clear hwa; have Hdna : Hid _ := dna; clear dna; have tB5 := tB4.kept g8 (by simp); have t5_0 := tB5.cell 0 (v := .int .u8 k) rfl; have t5_1 := tB5.cell 1 (v := .int .i64 (C : Nat)) rfl; have t5_2 := tB5.cell 2 (v := .int .i64 (R : Nat)) rfl; have t5_3 := tB5.cell 3 (v := .int .u8 t) rfl; have t5_4 := tB5.cell 4 (v := .int .i64 z) rfl; have kB5 := kB4.kept g8 (by simp); have k5_0 := kB5.cell 0 (v := .int .i64 (C : Nat)) rfl; have k5_1 := kB5.cell 1 (v := .int .i64 (R : Nat)) rfl; have k5_2 := kB5.cell 2 (v := .int .i64 (S : Nat)) rfl; have k5_3 := kB5.cell 3 (v := .bool pk) rfl; have k5_4 := kB5.cell 4 (v := .slice sp n c) rfl; have hM6 := F.grown hM4 g8; have RSa := rs_of rIa (fun i hi => (Hhwa.out i hi).2.2); have hb2 := rowsY G hz.all (F.fdm gK V6.heap.size (F.lts _ _ hM6)) HGB.out hS2 V6 (Nat.le_refl _) hM6) | ((fail_if_success (guard_hyp g10)); go_at_call 19; refine hb2.mono ?_; rintro e V8 ⟨rb, wb, rfl, rIb, lb, hwb, dnb, g10⟩; have Hhwb : Hid _ := hwb; clear hwb; have Hdnb : Hid _ := dnb; clear dnb; have tB6 := tB5.kept g10 (by simp); have t6_0 := tB6.cell 0 (v := .int .u8 k) rfl; have t6_1 := tB6.cell 1 (v := .int .i64 (C : Nat)) rfl; have t6_2 := tB6.cell 2 (v := .int .i64 (R : Nat)) rfl; have t6_3 := tB6.cell 3 (v := .int .u8 t) rfl; have t6_4 := tB6.cell 4 (v := .int .i64 z) rfl; have kB6 := kB5.kept g10 (by simp); have k6_0 := kB6.cell 0 (v := .int .i64 (C : Nat)) rfl; have k6_1 := kB6.cell 1 (v := .int .i64 (R : Nat)) rfl; have k6_2 := kB6.cell 2 (v := .int .i64 (S : Nat)) rfl; have k6_3 := kB6.cell 3 (v := .bool pk) rfl; have k6_4 := kB6.cell 4 (v := .slice sp n c) rfl; have RSb := rs_of rIb (fun i hi => (Hhwb.out i hi).2.2); have RSa8 := RSa.kept g10 (by simp) (by simp); have RSw8 := RSw.kept (gb_trans g8 g10) (by simp) (by simp); have hs1 := sameRowsC ra rw_ (R + 2) (C + 2) (R + 2) cw wa ww _ (by omega) (by omega) V8 RSa8 RSw8) | ((fail_if_success (guard_hyp g12)); go_at_call 20; refine hs1.mono ?_; rintro e V10 ⟨rfl, g12⟩; have tB7 := tB6.kept g12 (by simp); have t7_0 := tB7.cell 0 (v := .int .u8 k) rfl; have t7_1 := tB7.cell 1 (v := .int .i64 (C : Nat)) rfl; have t7_2 := tB7.cell 2 (v := .int .i64 (R : Nat)) rfl; have t7_3 := tB7.cell 3 (v := .int .u8 t) rfl; have t7_4 := tB7.cell 4 (v := .int .i64 z) rfl; have kB7 := kB6.kept g12 (by simp); have k7_0 := kB7.cell 0 (v := .int .i64 (C : Nat)) rfl; have k7_1 := kB7.cell 1 (v := .int .i64 (R : Nat)) rfl; have k7_2 := kB7.cell 2 (v := .int .i64 (S : Nat)) rfl; have k7_3 := kB7.cell 3 (v := .bool pk) rfl; have k7_4 := kB7.cell 4 (v := .slice sp n c) rfl; have hs2 := sameRowsC rb rw_ (R + 2) (C + 2) (R + 2) cw wb ww _ (by omega) (by omega) V10 (RSb.kept g12 (by simp) (by simp)) (RSw8.kept g12 (by simp) (by simp))) | ((fail_if_success (guard_hyp g13)); go_at_call 20; refine hs2.mono ?_; rintro e V11 ⟨rfl, g13⟩; have tB8 := tB7.kept g13 (by simp); have t8_0 := tB8.cell 0 (v := .int .u8 k) rfl; have t8_1 := tB8.cell 1 (v := .int .i64 (C : Nat)) rfl; have t8_2 := tB8.cell 2 (v := .int .i64 (R : Nat)) rfl; have t8_3 := tB8.cell 3 (v := .int .u8 t) rfl; have t8_4 := tB8.cell 4 (v := .int .i64 z) rfl; have kB8 := kB7.kept g13 (by simp); have k8_0 := kB8.cell 0 (v := .int .i64 (C : Nat)) rfl; have k8_1 := kB8.cell 1 (v := .int .i64 (R : Nat)) rfl; have k8_2 := kB8.cell 2 (v := .int .i64 (S : Nat)) rfl; have k8_3 := kB8.cell 3 (v := .bool pk) rfl; have k8_4 := kB8.cell 4 (v := .slice sp n c) rfl))
  have g123 := gb_trans g12 g13
  have RSa11 := RSa8.kept g123 (by simp) (by simp)
  have RSb11 := RSb.kept g123 (by simp) (by simp)
  have RSw11 := RSw8.kept g123 (by simp) (by simp)
  have g3to := gb_trans g6 (gb_trans g8 (gb_trans g10 g123))
  have hM11 := F.grown hM g3to
  have hR11 := hRf.kept g3to (by simp) (by simp)
  have hfu := rowsFullC ra (R + 2) (C + 2) wa (by omega) (by omega) (by omega) (by omega) V11 (rowIs_kept rIa (gb_trans g10 g123) (by simp)) RSa11.wf (fun j hj => (Hhwa.out j hj).2.1) Hdna.out
  have zz1 := B1.lt
  have zz2 := B2.lt
  have zz3 := g3.size
  have zz4 := g4.size
  have zz5 := g5.size
  have zz6 := g6.size
  have zz8 := g8.size
  have zr := hRf.lts
  have zw := RSw.lt (by omega)
  have za := RSa.lt (by omega)
  have zb := RSb.lt (by omega)
  have zL : ∀ i, L i → V2.heap.size ≤ i ∧ i < V3.heap.size := fun i hi => ⟨hL i hi, F.lts _ _ hM i hi⟩
  have z1 : ∀ i, (∃ j, j < R + 2 ∧ wa j = i) → V4.heap.size ≤ i ∧ i < V6.heap.size := fun i ⟨j, hj, e⟩ => by subst e; exact ⟨(Hhwa.out j hj).1, za.2 j hj⟩
  have nt : ¬ ∃ j, j < R + 2 ∧ wa j = w.heap.size := fun h => by have := z1 _ h; omega
  have nk : ¬ ∃ j, j < R + 2 ∧ wa j = W1.heap.size := fun h => by have := z1 _ h; omega
  have nr : ¬ ∃ j, j < R + 2 ∧ wa j = r := fun h => by have := z1 _ h; omega
  have nd : ¬ ∃ j, j < R + 2 ∧ wa j = d := fun h => by have := z1 _ h; omega
  have nL : ∀ i, (∃ j, j < R + 2 ∧ wa j = i) → ¬ L i := fun i h hi => by have := z1 _ h; have := zL _ hi; omega
  have nrb : ¬ ∃ j, j < R + 2 ∧ wa j = rb := fun h => by have := z1 _ h; omega
  have nwb : ∀ i, i < R + 2 → ¬ ∃ j, j < R + 2 ∧ wa j = wb i := fun i hi h => by have := z1 _ h; have := (Hhwb.out i hi).1; omega
  have nrw : ¬ ∃ j, j < R + 2 ∧ wa j = rw_ := fun h => by have := z1 _ h; omega
  have nww : ∀ i, i < R + 2 → ¬ ∃ j, j < R + 2 ∧ wa j = ww i := fun i hi h => by have := z1 _ h; have := zw.2 i hi; omega
  have n1 : ∀ i, (∃ j, j < R + 2 ∧ wa j = i) → w.heap.size ≤ i := fun i h => by have := z1 _ h; omega
  have mt : ¬ (L w.heap.size ∨ w.heap.size = d) := fun h => h.elim (fun h => by have := zL _ h; omega) (fun h => by omega)
  have mk : ¬ (L W1.heap.size ∨ W1.heap.size = d) := fun h => h.elim (fun h => by have := zL _ h; omega) (fun h => by omega)
  have mrb : ¬ (L rb ∨ rb = d) := fun h => h.elim (fun h => by have := zL _ h; omega) (fun h => by omega)
  have mrw : ¬ (L rw_ ∨ rw_ = d) := fun h => h.elim (fun h => by have := zL _ h; omega) (fun h => by omega)
  have mwb : ∀ i, i < R + 2 → ¬ (L (wb i) ∨ wb i = d) := fun i hi h => by have := (Hhwb.out i hi).1; exact h.elim (fun h => by have := zL _ h; omega) (fun h => by omega)
  have mww : ∀ i, i < R + 2 → ¬ (L (ww i) ∨ ww i = d) := fun i hi h => by have := Hlww.out i hi; exact h.elim (fun h => by have := zL _ h; omega) (fun h => by omega)
  have mL : ∀ i, (L i ∨ i = d) → w.heap.size ≤ i := fun i h => h.elim (fun h => by have := zL _ h; omega) (fun h => by omega)
  clear zz1 zz2 zz3 zz4 zz5 zz6 zz8 zr zL zw za zb z1
  refine hfu.mono ?_
  rintro e V12 ⟨rfl, gc⟩
  have gx1 := gc.gx
  have tB9 := gx1.bo tB8 nt
  have t9_0 := tB9.cell 0 (v := .int .u8 k) rfl
  have t9_1 := tB9.cell 1 (v := .int .i64 (C : Nat)) rfl
  have t9_2 := tB9.cell 2 (v := .int .i64 (R : Nat)) rfl
  have t9_3 := tB9.cell 3 (v := .int .u8 t) rfl
  have t9_4 := tB9.cell 4 (v := .int .i64 z) rfl
  have kB9 := gx1.bo kB8 nk
  have k9_0 := kB9.cell 0 (v := .int .i64 (C : Nat)) rfl
  have k9_1 := kB9.cell 1 (v := .int .i64 (R : Nat)) rfl
  have k9_2 := kB9.cell 2 (v := .int .i64 (S : Nat)) rfl
  have k9_3 := kB9.cell 3 (v := .bool pk) rfl
  have k9_4 := kB9.cell 4 (v := .slice sp n c) rfl
  have hM12 := F.chain hM11 gc nL
  have hR12 : Rf V12 r d C R S pk gK := ⟨gx1.bo hR11.fld nr, gx1.row hR11.row nd⟩
  have RSb12 := RSb11.gx gx1 nrb nwb
  have RSw12 := RSw11.gx gx1 nrw nww
  have hs3 := sameRowsC rb rw_ (R + 2) (C + 2) (R + 2) cw wb ww _ (by omega) (by omega) V12 RSb12 RSw12
  clear nt nk nr nd nL nrb nwb nrw nww
  go_wp2_with (first | ((fail_if_success (guard_hyp g15)); go_at_call 20; refine hs3.mono ?_; rintro e V13 ⟨rfl, g15⟩; have tB10 := tB9.kept g15 (by simp); have t10_0 := tB10.cell 0 (v := .int .u8 k) rfl; have t10_1 := tB10.cell 1 (v := .int .i64 (C : Nat)) rfl; have t10_2 := tB10.cell 2 (v := .int .i64 (R : Nat)) rfl; have t10_3 := tB10.cell 3 (v := .int .u8 t) rfl; have t10_4 := tB10.cell 4 (v := .int .i64 z) rfl; have kB10 := kB9.kept g15 (by simp); have k10_0 := kB10.cell 0 (v := .int .i64 (C : Nat)) rfl; have k10_1 := kB10.cell 1 (v := .int .i64 (R : Nat)) rfl; have k10_2 := kB10.cell 2 (v := .int .i64 (S : Nat)) rfl; have k10_3 := kB10.cell 3 (v := .bool pk) rfl; have k10_4 := kB10.cell 4 (v := .slice sp n c) rfl; have hM13 := F.grown hM12 g15; have hR13 := hR12.kept g15 (by simp) (by simp); have hst := staysY F hz r d gK HGB.out V13 hM13 hR13) | (go_at_call 13; refine hst.mono ?_; rintro e V14 ⟨rfl, g16⟩; have tB11 := tB10.kept g16 (by simp); have t11_0 := tB11.cell 0 (v := .int .u8 k) rfl; have t11_1 := tB11.cell 1 (v := .int .i64 (C : Nat)) rfl; have t11_2 := tB11.cell 2 (v := .int .i64 (R : Nat)) rfl; have t11_3 := tB11.cell 3 (v := .int .u8 t) rfl; have t11_4 := tB11.cell 4 (v := .int .i64 z) rfl; have kB11 := kB10.kept g16 (by simp); have k11_0 := kB11.cell 0 (v := .int .i64 (C : Nat)) rfl; have k11_1 := kB11.cell 1 (v := .int .i64 (R : Nat)) rfl; have k11_2 := kB11.cell 2 (v := .int .i64 (S : Nat)) rfl; have k11_3 := kB11.cell 3 (v := .bool pk) rfl; have k11_4 := kB11.cell 4 (v := .slice sp n c) rfl; have g156 := gb_trans g15 g16; have hM14 := F.grown hM13 g16; have hR14 := hR13.kept g16 (by simp) (by simp); have RSb14 := RSb12.kept g156 (by simp) (by simp); have RSw14 := RSw12.kept g156 (by simp) (by simp); have htu := turnedY F hz r d gK HGB.out V14 hM14 hR14 hnr hnd))
  refine htu.mono ?_
  rintro e V18 ⟨rfl, hM18, hR18, gx⟩
  have tB12 := gx.bo tB11 mt
  have t12_0 := tB12.cell 0 (v := .int .u8 k) rfl
  have t12_1 := tB12.cell 1 (v := .int .i64 (C : Nat)) rfl
  have t12_2 := tB12.cell 2 (v := .int .i64 (R : Nat)) rfl
  have t12_3 := tB12.cell 3 (v := .int .u8 t) rfl
  have t12_4 := tB12.cell 4 (v := .int .i64 z) rfl
  have kB12 := gx.bo kB11 mk
  have k12_0 := kB12.cell 0 (v := .int .i64 (C : Nat)) rfl
  have k12_1 := kB12.cell 1 (v := .int .i64 (R : Nat)) rfl
  have k12_2 := kB12.cell 2 (v := .int .i64 (S : Nat)) rfl
  have k12_3 := kB12.cell 3 (v := .bool pk) rfl
  have k12_4 := kB12.cell 4 (v := .slice sp n c) rfl
  have RSb18 := RSb14.gx gx mrb mwb
  have RSw18 := RSw14.gx gx mrw mww
  have hs4 := sameRowsC rb rw_ (R + 2) (C + 2) (R + 2) cw wb ww _ (by omega) (by omega) V18 RSb18 RSw18
  clear mt mk mrb mrw mwb mww
  go_wp2_with (first | ((fail_if_success (guard_hyp g21)); go_at_call 20; refine hs4.mono ?_; rintro e V19 ⟨rfl, g21⟩; have tB13 := tB12.kept g21 (by simp); have t13_0 := tB13.cell 0 (v := .int .u8 k) rfl; have t13_1 := tB13.cell 1 (v := .int .i64 (C : Nat)) rfl; have t13_2 := tB13.cell 2 (v := .int .i64 (R : Nat)) rfl; have t13_3 := tB13.cell 3 (v := .int .u8 t) rfl; have t13_4 := tB13.cell 4 (v := .int .i64 z) rfl; have kB13 := kB12.kept g21 (by simp); have k13_0 := kB13.cell 0 (v := .int .i64 (C : Nat)) rfl; have k13_1 := kB13.cell 1 (v := .int .i64 (R : Nat)) rfl; have k13_2 := kB13.cell 2 (v := .int .i64 (S : Nat)) rfl; have k13_3 := kB13.cell 3 (v := .bool pk) rfl; have k13_4 := kB13.cell 4 (v := .slice sp n c) rfl; have hM19 := F.grown hM18 g21; have hR19 := hR18.kept g21 (by simp) (by simp); have hrb2 := refRowsY G r d S hS2 pk _ hz V19 hR19) | (go_at_call 18; refine hrb2.mono ?_; rintro e V20 ⟨rn, cn, wn, rfl, RSn, ln, lnn, g22⟩; have Hlnn : Hid _ := lnn; clear lnn; have tB14 := tB13.kept g22 (by simp); have t14_0 := tB14.cell 0 (v := .int .u8 k) rfl; have t14_1 := tB14.cell 1 (v := .int .i64 (C : Nat)) rfl; have t14_2 := tB14.cell 2 (v := .int .i64 (R : Nat)) rfl; have t14_3 := tB14.cell 3 (v := .int .u8 t) rfl; have t14_4 := tB14.cell 4 (v := .int .i64 z) rfl; have kB14 := kB13.kept g22 (by simp); have k14_0 := kB14.cell 0 (v := .int .i64 (C : Nat)) rfl; have k14_1 := kB14.cell 1 (v := .int .i64 (R : Nat)) rfl; have k14_2 := kB14.cell 2 (v := .int .i64 (S : Nat)) rfl; have k14_3 := kB14.cell 3 (v := .bool pk) rfl; have k14_4 := kB14.cell 4 (v := .slice sp n c) rfl; have hM20 := F.grown hM19 g22; have hb3 := rowsY G hz.all (F.fdm _ V20.heap.size (F.lts _ _ hM20)) HGN.out hS2 V20 (Nat.le_refl _) hM20) | (go_at_call 19; refine hb3.mono ?_; rintro e V22 ⟨rh, wh, rfl, rIh, lh, hwh, dnh, g24⟩; have Hhwh : Hid _ := hwh; clear hwh; have Hdnh : Hid _ := dnh; clear dnh; have tB15 := tB14.kept g24 (by simp); have t15_0 := tB15.cell 0 (v := .int .u8 k) rfl; have t15_1 := tB15.cell 1 (v := .int .i64 (C : Nat)) rfl; have t15_2 := tB15.cell 2 (v := .int .i64 (R : Nat)) rfl; have t15_3 := tB15.cell 3 (v := .int .u8 t) rfl; have t15_4 := tB15.cell 4 (v := .int .i64 z) rfl; have kB15 := kB14.kept g24 (by simp); have k15_0 := kB15.cell 0 (v := .int .i64 (C : Nat)) rfl; have k15_1 := kB15.cell 1 (v := .int .i64 (R : Nat)) rfl; have k15_2 := kB15.cell 2 (v := .int .i64 (S : Nat)) rfl; have k15_3 := kB15.cell 3 (v := .bool pk) rfl; have k15_4 := kB15.cell 4 (v := .slice sp n c) rfl; have RSh := rs_of rIh (fun i hi => (Hhwh.out i hi).2.2); have hs5 := sameRowsC rh rn (R + 2) (C + 2) (R + 2) cn wh wn _ (by omega) (by omega) V22 RSh (RSn.kept g24 (by simp) (by simp))) | (guard_hyp g21; go_at_call 20; refine hs5.mono ?_; rintro e V24 ⟨rfl, g26⟩; have tB16 := tB15.kept g26 (by simp); have t16_0 := tB16.cell 0 (v := .int .u8 k) rfl; have t16_1 := tB16.cell 1 (v := .int .i64 (C : Nat)) rfl; have t16_2 := tB16.cell 2 (v := .int .i64 (R : Nat)) rfl; have t16_3 := tB16.cell 3 (v := .int .u8 t) rfl; have t16_4 := tB16.cell 4 (v := .int .i64 z) rfl; have kB16 := kB15.kept g26 (by simp); have k16_0 := kB16.cell 0 (v := .int .i64 (C : Nat)) rfl; have k16_1 := kB16.cell 1 (v := .int .i64 (R : Nat)) rfl; have k16_2 := kB16.cell 2 (v := .int .i64 (S : Nat)) rfl; have k16_3 := kB16.cell 3 (v := .bool pk) rfl; have k16_4 := kB16.cell 4 (v := .slice sp n c) rfl))
  go_ret
  have G11 := gb_trans G4 (gb_trans g5 g3to)
  exact ⟨rfl, Gx.below (Gx.below (gb_below G11) (gx1.trans (Gx.none g156)) n1) (gx.trans (Gx.none (gb_trans g21 (gb_trans g22 (gb_trans g24 g26))))) mL⟩
end Go.Proofs.YtjndljjpbkfmiaaGreatDoor
namespace Go.Proofs.YtjndljjpbkfmiaaGreatDoor
open Go.RowKit
set_option linter.unusedVariables false
set_option linter.unusedSimpArgs false
set_option maxRecDepth 100000

theorem rows_walk (k x y t z x2 y2 s2 : Int) (pk : Bool) (sp : Option Addr) (n c : Nat) (f : Nat → Nat) (ht : 0 ≤ t) (hx2 : x2 ≤ 9223372036854775807) (hy2 : y2 ≤ 9223372036854775807) (hn : n ≤ 140737488351232) (h256 : ∀ i, f i < 256) (w : World) (hb : By w sp n f) (hT : Tab w) :
    Calls Tryz.prog 4 #[.agg #[.int .u8 k, .int .i64 x, .int .i64 y, .int .u8 t, .int .i64 z], .agg #[.int .i64 x2, .int .i64 y2, .int .i64 s2, .bool pk, .slice sp n c]] w fun e w' => e = .returned (.bool true) ∧ Below w.heap.size w w' := by
  have hg := fun w => greatC x2 y2 hx2 hy2 (.int .i64 s2) (.bool pk) (.slice sp n c) w
  cases hq : grB x2 y2 with
  | true =>
    rw [hq] at hg
    exact rowsG k x y t z x2 y2 s2 pk sp n c w hT hg
  | false =>
    rw [hq] at hg
    by_cases hck : ckE x2 y2 s2 pk = 0
    · obtain ⟨C, R, S, rfl, rfl, rfl, hz, hpk⟩ := ck_sz hck
      have hS1 := hz.s1
      have hS0 := hz.s0
      have hgb : ∀ i, kpG n f S i < 256 := fun i => Nat.lt_of_lt_of_le (kpG_lt (by omega) i) hS1
      by_cases hE : cgE k x y t z C R = 0
      · obtain ⟨rfl, rfl, G⟩ := gr_of ht hE
        by_cases hS2 : S ≤ 2
        · exact rowsA G hz hS2 pk hpk sp n c f hn h256 w hb hT hg
        · have hS3 : 2 < S := by omega
          refine rowsZ k C R t z 132 (by decide) C R S pk sp n c w hT hg (fun w' g' => (keptY C R S pk hz hpk sp n c f hn h256 w' (hb.kept g' (by simp))).mono ?_)
          rintro e w2 ⟨b, M, L, r, d, rfl, F, hM, hRf, hL, lr, ld, hnr, hnd, g5⟩
          refine ⟨_, _, fun X => M (kpG n f S) X ∧ Rf X r d C R S pk (kpG n f S), rfl, ⟨?_, ?_, ?_, ?_⟩, ⟨hM, hRf⟩, g5⟩
          · exact fun X Y h hg => ⟨F.grown h.1 hg, h.2.kept hg (by simp) (by simp)⟩
          · exact fun X h => refRowsP G r d S hS3 pk _ X h.2
          · exact fun X h => rowsP G (F.fdm (kpG n f S) X.heap.size (F.lts _ _ h.1)) hS3 X h.1
          · exact fun X h => staysY F hz r d _ hgb X h.1 h.2
      · have hEb : (cgE k x y t z C R == 0) = false := by simpa using hE
        refine rowsZ k x y t z (cgE k x y t z C R) hEb C R S pk sp n c w hT hg (fun w' g' => (keptY C R S pk hz hpk sp n c f hn h256 w' (hb.kept g' (by simp))).mono ?_)
        rintro e w2 ⟨b, M, L, r, d, rfl, F, hM, hRf, hL, lr, ld, hnr, hnd, g5⟩
        refine ⟨_, _, fun X => M (kpG n f S) X ∧ Rf X r d C R S pk (kpG n f S), rfl, ⟨?_, ?_, ?_, ?_⟩, ⟨hM, hRf⟩, g5⟩
        · exact fun X Y h hg => ⟨F.grown h.1 hg, h.2.kept hg (by simp) (by simp)⟩
        · exact fun X h => refRowsX k x y t z _ _ hEb X (fun Y hY => askedC k x y t z ht r d C R S pk _ Y (h.2.kept hY (by simp) (by simp)))
        · exact fun X h => rowsX k x y t z _ _ X hEb (fun Y hY => checkGridC (F.fdm (kpG n f S) Y.heap.size (F.lts _ _ (F.grown h.1 hY))) hz.c0 k x y t z ht Y (F.grown h.1 hY))
        · exact fun X h => staysY F hz r d _ hgb X h.1 h.2
    · refine rowsZ k x y t z 1 (by decide) x2 y2 s2 pk sp n c w hT hg (fun w' g' => (keptN x2 y2 s2 pk hck (.slice sp n c) w').mono ?_)
      rintro e w2 ⟨rfl, g5⟩
      refine ⟨none, none, fun _ => True, rfl, ⟨fun _ _ _ _ => trivial, ?_, ?_, ?_⟩, trivial, g5⟩
      · exact fun X _ => refRowsX k x y t z 1 none (by decide) X (fun Y _ => askedN (.bool true) k x y t z Y)
      · exact fun X _ => rowsX k x y t z 1 none X (by decide) (fun Y _ => checkGridN k x y t z none Y (.inl rfl))
      · exact fun X _ => staysN X
end Go.Proofs.YtjndljjpbkfmiaaGreatDoor
namespace Go.Proofs.YtjndljjpbkfmiaaGreatDoor.ringRows
open Go.ChangeShapes Go.WideShapes Go.ChangeAt Go.RowKit
open Go.ChangeMaps (open_string shut_string)
set_option linter.unusedVariables false

theorem bdu8 {x : Int} (h : (Lit.int .u8 x).wf = true) : 0 ≤ x ∧ x ≤ 255 := by simpa [Lit.wf, IntKind.min, IntKind.max, IntKind.signed, IntKind.bits] using h
theorem bd64 {x : Int} (h : (Lit.int .i64 x).wf = true) : -9223372036854775808 ≤ x ∧ x ≤ 9223372036854775807 := by simpa [Lit.wf, IntKind.min, IntKind.max, IntKind.signed, IntKind.bits] using h
theorem bdu16 {x : Int} (h : (Lit.int .u16 x).wf = true) : 0 ≤ x ∧ x ≤ 65535 := by simpa [Lit.wf, IntKind.min, IntKind.max, IntKind.signed, IntKind.bits] using h
theorem bdu64 {x : Int} (h : (Lit.int .u64 x).wf = true) : 0 ≤ x ∧ x ≤ 18446744073709551615 := by simpa [Lit.wf, IntKind.min, IntKind.max, IntKind.signed, IntKind.bits] using h
theorem own : ownKnob Tryz.prog.godebug = none := by kernel_rfl
theorem laidOut : laidOutB Tryz.prog = true := by kernel_rfl
theorem hv_laid {W : World} (h : laidMetH Tryz.prog Rows.ringRowsRow.laid W) : Tab W := by
  rw [MakeChecks.laidMetH_plain _ _ _ (by kernel_rfl)] at h
  have h1 : laidMet Tryz.prog [("vivarium/ring.offsets", Rows.laid_vivarium_ring_offsets)] W := h
  obtain ⟨ps, ⟨g', t', cs, fuel, p, q, hg', ht', hvar, hd, _, _⟩, _⟩ := h1
  obtain rfl := Option.some.inj (gTab.symm.trans hg')
  obtain rfl := Option.some.inj (gTabType.symm.trans ht')
  exact tab_of hvar hd

set_option maxRecDepth 100000 in
theorem lifted (os : Os) (started : os.Started) (H : Type) (enc : TypeId × Value → H) :
    ReturnsInHanded {} Tryz.checked os 4 .any (fun w args => (Rows.ringRowsSpec.pre enc Tryz.prog Tryz.f4 [] false w args ∧ laidMetH Tryz.prog Rows.ringRowsRow.laid w) ∧ sizedMet enc Tryz.prog Tryz.f4 (OpenSpec.ofChange Rows.ringRowsSpec) false w args)
      (Rows.ringRowsSpec.post enc Tryz.prog Tryz.f4 false true false false) := by
  refine returnsInHanded_of_change_and (C := Tryz.checked) (X := fun w _ => laidMetH Tryz.prog Rows.ringRowsRow.laid w) (fun _ _ _ hh h => h.of_heap hh) own started (by kernel_rfl) Tryz.func4
    (ChangeSpec.witness_shaped (enc := enc) (C := Tryz.checked) (os := os) (X := fun w _ => laidMetH Tryz.prog Rows.ringRowsRow.laid w) false (World.laidAll Tryz.prog os Rows.ringRowsRow.laid) #[.agg #[.int .u8 0, .int .i64 0, .int .i64 0, .int .u8 0, .int .i64 0], .agg #[.int .i64 0, .int .i64 0, .int .i64 0, .bool false, .slice none 0 0]] 8 (World.laidAll_os _ _ _) (World.shaped_of_ZipB (by kernel_rfl) (by kernel_rfl)) (by kernel_rfl) (by kernel_rfl) (by kernel_rfl)
      (by rw [MakeChecks.laidMetH_plain _ _ _ (by kernel_rfl)]; exact laidMet_laidAll _ (by kernel_rfl) (by kernel_rfl))) ?_
  intro W base args ds gs before hval0 hW _ hsz0 hL _
  have hval : ∀ (j : Nat) t v, Tryz.f4.params[j]? = some t → args[j]? = some v → Value.okWide Tryz.prog W .any base t v := hval0
  have hW' := hW
  obtain ⟨p, q, hA0, hV, rfl, hfz, hnd⟩ := hW
  have hA : DataW.TrodAll enc Tryz.prog W 0 (fun _ => true) true Tryz.f4.params.toList args.toList ds p := hA0
  have hsz : (DataW.weightsEach Tryz.prog (Tryz.f4.params.toList ++ Rows.ringRowsSpec.plain.varTypes Tryz.prog) (ds ++ gs)).all (· ≤ reachBytes) = true := hsz0
  rw [Tryz.params4] at hA hval hsz
  obtain ⟨v0, vs0, d0, ds0, p0, q0, hargs, rfl, rfl, h0, r0⟩ := trodAll_cons hA
  obtain ⟨v1, vs1, d1, ds1, p1, q1, rfl, rfl, rfl, h1, r1⟩ := trodAll_cons r0
  obtain ⟨rfl, rfl, rfl⟩ := trodAll_nil r1
  obtain rfl : args = #[v0, v1] := by cases args; simp_all
  obtain ⟨rfl, rfl⟩ := trodVars_none hV
  have k0 := h0
  have lt0 : ∀ x ∈ p0, x.block < W.heap.size := by obtain ⟨m, hm⟩ := k0; exact DataW.trod_lt m _ _ _ hm
  obtain ⟨xa0, xb0, xc0, xd0, xe0, rfl, ya0, yb0, yc0, yd0, ye0⟩ := openTopo (hval 0 _ v0 rfl rfl) h0
  have k1 := h1
  have lt1 : ∀ x ∈ p1, x.block < W.heap.size := by obtain ⟨m, hm⟩ := k1; exact DataW.trod_lt m _ _ _ hm
  have hw1 : ∀ y ∈ d1.weights Tryz.prog 26, y ≤ reachBytes := fun y hy => by
    simpa using List.all_eq_true.1 hsz _ (DataW.weights_mem_each (j := 1) (t := 26) rfl rfl y hy)
  obtain ⟨xa1, xb1, xc1, xd1, sp1, n1, c1, f1, rfl, bx1, by1, e11, e12, e13, e14⟩ := openKept (hval 1 _ v1 rfl rfl) h1 hw1
  clear hA0 hval0
  refine (rows_walk xa0 xb0 xc0 xd0 xe0 xa1 xb1 xc1 xd1 sp1 n1 c1 f1 yd0.1 bx1.2 by1.2 e14 e13 W  e12 (hv_laid hL)).mono fun e W' ⟨he, bel⟩ => ?_
  subst he
  exact ⟨_, rfl, _, _, _, [], _, [], hW', trodAll_mk1 (shut_bool Tryz.underlying4 _), (trodAll_cons_mk (Below.trod laidOut (by kernel_rfl) (of_decide_eq_true (by kernel_rfl)) k0 bel lt0) (trodAll_cons_mk (Below.trod laidOut (by kernel_rfl) (of_decide_eq_true (by kernel_rfl)) k1 bel lt1) trodAll_mk0)), rfl, bel.frame _, fun h => by cases h⟩

theorem said : Rows.RingRowsSaid :=
  OpenClaim.holds_of_wide 4 Tryz.f4 rfl rfl rfl rfl rfl rfl rfl ⟨rfl, rfl, rfl, rfl, rfl⟩ rfl rfl rfl rfl rfl (by kernel_rfl) Tryz.func4 (by kernel_rfl)
    (of_decide_eq_true (by kernel_rfl)) (by unfold Func.isWrapper; first | (rw [if_pos (by decide +kernel)]; kernel_rfl) | (rw [if_neg (by decide +kernel)]; exact ⟨rfl, rfl⟩))
    (fun os started H enc _ => lifted os started H enc)

theorem plain (f : FuncId) (fn : Func) (hf : Tryz.pinned.checked.prog.funcNamed "vivarium/vivariumlaw14.RingRows" = some f) (hfn : Tryz.pinned.checked.prog.funcs[f]? = some fn) :
    false = Tryz.pinned.checked.prog.looks [] ∧ ∀ (j : Nat) t, fn.params[j]? = some t → Tryz.pinned.checked.prog.wantsStandIn t = false := by
  obtain rfl : f = 4 := Option.some.inj ((show Tryz.prog.funcNamed "vivarium/vivariumlaw14.RingRows" = some 4 by kernel_rfl).symm.trans hf) |>.symm
  obtain rfl : fn = Tryz.f4 := (Option.some.inj (Tryz.func4.symm.trans hfn)).symm
  refine ⟨by kernel_rfl, fun j t ht => ?_⟩
  rw [Tryz.params4] at ht
  have hm : t ∈ [23, 26] := by simpa using Array.mem_of_getElem? ht
  have hall : ([23, 26].all fun u => !Tryz.prog.wantsStandIn u) = true := by kernel_rfl
  exact (show Tryz.prog.wantsStandIn t = false by simpa using List.all_eq_true.1 hall t hm)

theorem card : Rows.RingRowsCardSaid :=
  Claim7.holds_tied_plain_at .later [] _ _ _ _ said (fun _ h => by cases h) (by kernel_rfl) (fun _ h => by cases h) ringRows_row_tie rfl ⟨rfl, rfl⟩ (by kernel_rfl) rfl plain (by kernel_rfl)
end Go.Proofs.YtjndljjpbkfmiaaGreatDoor.ringRows
namespace Go.Proofs.YtjndljjpbkfmiaaGreatDoor
theorem ringRows_holds : Rows.RingRowsCardSaid := ringRows.card
#print axioms ringRows_holds
end Go.Proofs.YtjndljjpbkfmiaaGreatDoor
