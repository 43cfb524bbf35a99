/- A field as the statements make it. -/
import Derived.Test.YtjndljjpbkfmiaaGreatDoorKq
namespace Go.Proofs.YtjndljjpbkfmiaaGreatDoor
open Go.RowKit
set_option linter.unusedVariables false
set_option linter.unusedSimpArgs false
set_option maxRecDepth 100000

/-- The cells of a field that is made of a list. -/
def kpG (n : Nat) (f : Nat → Nat) (S k : Nat) : Nat := if k < n then f k % S else 0
theorem kpG_lt {n : Nat} {f : Nat → Nat} {S : Nat} (h : 0 < S) (k : Nat) : kpG n f S k < S := by
  unfold kpG
  split
  · exact Nat.mod_lt _ h
  · exact h
/-- The first m of them. -/
def upG (g : Nat → Nat) (m k : Nat) : Nat := if k < m then g k else 0
theorem upG_lay (g : Nat → Nat) (C y k : Nat) : (if y * C ≤ k ∧ k < y * C + C then g (y * C + (k - y * C)) else upG g (y * C) k) = upG g ((y + 1) * C) k := by
  unfold upG
  rw [Nat.succ_mul]
  by_cases h1 : y * C ≤ k ∧ k < y * C + C
  · rw [if_pos h1, if_pos h1.2, show y * C + (k - y * C) = k by omega]
  · rw [if_neg h1]
    by_cases h2 : k < y * C
    · rw [if_pos h2, if_pos (by omega)]
    · rw [if_neg h2, if_neg (by omega)]
set_option maxHeartbeats 4000000 in
theorem keptY (C R S : Nat) (pk : Bool) (hz : Sz C R S) (hpk : pk = true → S = 2) (sp : Option Addr) (n c : Nat) (f : Nat → Nat) (hn : n ≤ 140737488351232) (h256 : ∀ k, f k < 256) (w : World) (hb : By w sp n f) :
    Calls Tryz.prog 9 #[.agg #[.int .i64 (C : Nat), .int .i64 (R : Nat), .int .i64 (S : Nat), .bool pk, .slice sp n c]] w fun e w' => ∃ b M L r d, e = .returned (.tuple #[.pointer (some ⟨b, 0, none⟩), .pointer (some ⟨r, 0, none⟩), .bool true]) ∧ FdX M L b C R S pk ∧ M (kpG n f S) w' ∧ Rf w' r d C R S pk (kpG n f S) ∧ (∀ i, L i → w.heap.size ≤ i) ∧ w.heap.size ≤ r ∧ w.heap.size ≤ d ∧ ¬ L r ∧ ¬ L d ∧ w.grownBy w' none := by
  have hc0 := hz.c0
  have hc1 := hz.c1
  have hr0 := hz.r0
  have hr1 := hz.r1
  have hs0 := hz.s0
  have hs1 := hz.s1
  have hall := hz.all
  obtain ⟨W1, hW1, sz1, g1, B1⟩ := boxn w #[.int .i64 (C : Nat), .int .i64 (R : Nat), .int .i64 (S : Nat), .bool pk, .slice sp n c] 26
  have b1_0 := B1.cell 0 (v := .int .i64 (C : Nat)) rfl
  have b1_1 := B1.cell 1 (v := .int .i64 (R : Nat)) rfl
  have b1_2 := B1.cell 2 (v := .int .i64 (S : Nat)) rfl
  have b1_3 := B1.cell 3 (v := .bool pk) rfl
  have b1_4 := B1.cell 4 (v := .slice sp n c) rfl
  have hb1 := hb.kept g1 (by simp)
  have HRN := fun X => refNewY C R S pk hz hpk X
  have HNX := fun X => newX C R S pk hz hpk X
  have hmk := run_make_row' (P := Tryz.prog) 24 5 (.int .u8 0) 1 under8S info8 rfl .i64 .i64 C (by omega) (by omega)
  clear hpk
  obtain ⟨gK, hgK⟩ : ∃ gK, kpG n f S = gK := ⟨_, rfl⟩
  have HK : Hid (∀ k, gK k < S) := fun k => by rw [← hgK]; exact kpG_lt (by omega) k
  have HKv : Hid (∀ k, gK k = if k < n then f k % S else 0) := fun k => by rw [← hgK]; rfl
  rw [hgK]
  clear hgK
  go_enter Tryz.func9, Tryz.ntmps9
  go_wp2_with (first | (go_at_call 33; refine (HRN W1).mono ?_; rintro e V1 ⟨r, d, rfl, hRf, lr, ld, g2⟩; have B2 := B1.kept g2 (by simp); have b2_0 := B2.cell 0 (v := .int .i64 (C : Nat)) rfl; have b2_1 := B2.cell 1 (v := .int .i64 (R : Nat)) rfl; have b2_2 := B2.cell 2 (v := .int .i64 (S : Nat)) rfl; have b2_3 := B2.cell 3 (v := .bool pk) rfl; have b2_4 := B2.cell 4 (v := .slice sp n c) rfl) | (go_at_call 31; refine (HNX V1).mono ?_; rintro e V2 ⟨b, M, L, rfl, F, hM, hL, g3⟩; have B3 := B2.kept g3 (by simp); have b3_0 := B3.cell 0 (v := .int .i64 (C : Nat)) rfl; have b3_1 := B3.cell 1 (v := .int .i64 (R : Nat)) rfl; have b3_2 := B3.cell 2 (v := .int .i64 (S : Nat)) rfl; have b3_3 := B3.cell 3 (v := .bool pk) rfl; have b3_4 := B3.cell 4 (v := .slice sp n c) rfl; have hRf3 := hRf.kept g3 (by simp) (by simp)))
  have lV1 : w.heap.size < V1.heap.size := by have := B2.lt; exact this
  have hnr : ¬ L r := fun h => by have := hL r h; have := hRf.lts; omega
  have hnd : ¬ L d := fun h => by have := hL d h; have := hRf.lts; omega
  have hnb : ∀ i, L i → i ≠ w.heap.size := fun i h e => by have := hL i h; omega
  have hLw : ∀ i, L i → w.heap.size ≤ i := fun i h => by have := hL i h; omega
  have lr' : w.heap.size ≤ r := by have := g1.size; omega
  have ld' : w.heap.size ≤ d := by have := g1.size; omega
  have hrb : r ≠ w.heap.size := by have := B1.lt; omega
  have hdb : d ≠ w.heap.size := by have := B1.lt; omega
  have hrd := hRf.apart
  have G3 := gb_trans g1 (gb_trans g2 g3)
  go_loopw [9] (fun i wr => ∃ y : Nat, y ≤ R ∧ i = .int .i64 (y : Nat) ∧ M (upG gK (y * C)) wr ∧ Rf wr r d C R S pk (upG gK (y * C)) ∧ Bo wr w.heap.size 26 #[.int .i64 (C : Nat), .int .i64 (R : Nat), .int .i64 (S : Nat), .bool pk, .slice sp n c] ∧ w.grownBy wr none) (fun i _ => R - (intOf i).toNat)
  case atStart =>
    refine ⟨0, Nat.zero_le _, rfl, F.congr _ _ _ hM (fun k _ => by unfold upG; rw [Nat.zero_mul, if_neg (by omega)]), hRf3.congr (fun k _ => by unfold upG; rw [Nat.zero_mul, if_neg (by omega)]), B3, G3⟩
  case round =>
    obtain ⟨y, hy, rfl, hMy, hRy, By, Gy⟩ := hrel
    have y_0 := By.cell 0 (v := .int .i64 (C : Nat)) rfl
    have y_1 := By.cell 1 (v := .int .i64 (R : Nat)) rfl
    have y_2 := By.cell 2 (v := .int .i64 (S : Nat)) rfl
    have y_3 := By.cell 3 (v := .bool pk) rfl
    have y_4 := By.cell 4 (v := .slice sp n c) rfl
    by_cases hlt : y < R
    · have hlt' : (y : Int) < (R : Int) := by omega
      obtain ⟨W5, hW5, sz5, g5, B5⟩ := boxn wr (madeCells #[.int .u8 0] C) 5
      have hr5 := World.rowIs_made wr (.int .u8 0) C 5
      rw [hW5] at hr5
      have lwr := Gy.size
      have hnl : ¬ L wr.heap.size := fun h => by have := F.lts _ _ hMy _ h; omega
      have hM5 := F.grown hMy g5
      have hR5 := hRy.kept g5 (by simp) (by simp)
      have By5 := By.kept g5 (by simp)
      have lts := hRy.lts
      have G5 := gb_trans Gy g5
      obtain ⟨ln, hln⟩ : ∃ ln, wr.heap.size = ln := ⟨_, rfl⟩
      rw [hln] at hr5 hnl B5 lwr lts
      have lb := By.lt
      rw [hln] at lb
      have hrow := row_le (C := C) hlt
      obtain ⟨a, ha⟩ : ∃ a, y * C = a := ⟨_, rfl⟩
      have w1 : IntKind.i64.wrap ((y : Int) * (C : Int)) = (a : Int) := by rw [← Int.natCast_mul, ha, IntKind.wrap_i64]; omega
      have HA : Hid (y * C = a) := ha
      rw [ha] at hM5 hR5 hrow
      clear ha
      go_wp2
      go_loopw [11] (fun j wr2 => ∃ x : Nat, x ≤ C ∧ j = .int .i64 (x : Nat) ∧ wr2.rowIs ln 5 C (fun t => if t < x then .int .u8 (gK (a + t) : Nat) else .int .u8 0) ∧ M (upG gK a) wr2 ∧ Rf wr2 r d C R S pk (upG gK (a + x)) ∧ Bo wr2 w.heap.size 26 #[.int .i64 (C : Nat), .int .i64 (R : Nat), .int .i64 (S : Nat), .bool pk, .slice sp n c] ∧ w.grownBy wr2 none) (fun j _ => C - (intOf j).toNat)
      case atStart => exact ⟨0, Nat.zero_le _, rfl, hr5.congr (fun t _ => by rw [if_neg (by omega)]), hM5, hR5, By5, G5⟩
      case round =>
        obtain ⟨x, hx, rfl, hlx, hMx, hRx, Bx, Gx⟩ := hrel
        have x_0 := Bx.cell 0 (v := .int .i64 (C : Nat)) rfl
        have x_1 := Bx.cell 1 (v := .int .i64 (R : Nat)) rfl
        have x_2 := Bx.cell 2 (v := .int .i64 (S : Nat)) rfl
        have x_3 := Bx.cell 3 (v := .bool pk) rfl
        have x_4 := Bx.cell 4 (v := .slice sp n c) rfl
        by_cases hxl : x < C
        · have hxl' : (x : Int) < (C : Int) := by omega
          have hkC : a + x < C * R := by omega
          have w2 : IntKind.i64.wrap ((a : Int) + (x : Int)) = ((a + x : Nat) : Int) := by rw [IntKind.wrap_i64]; omega
          obtain ⟨mm, hmm⟩ : ∃ mm, C * R = mm := ⟨_, rfl⟩
          have hr4 := hRx.fld.cell 4 (v := .slice (some ⟨d, 0, none⟩) mm mm) (by rw [← hmm]; rfl)
          have hdc := hRx.row.cell hkC
          have hdf := hRx.row.frozen (a + x)
          have hlc := hlx.cell hxl
          have hlf := hlx.frozen x
          rw [if_neg (by omega)] at hlc
          have hln2 : ln ≠ r := by omega
          have hln3 : ln ≠ d := by omega
          have hln4 : ln ≠ w.heap.size := by omega
          have hb2 : (a : Int) + (x : Int) < ((C * R : Nat) : Int) := by omega
          have hgk := HKv.out (a + x)
          obtain ⟨k, hk⟩ : ∃ k, a + x = k := ⟨_, rfl⟩
          have hkI : (a : Int) + (x : Int) = (k : Int) := by omega
          have HKx : Hid (a + x = k) := hk
          rw [hk] at hdc hdf hkC w2 hgk
          have hkR : (k : Int) < (mm : Int) := by omega
          have HMM : Hid (C * R = mm) := hmm
          have wk : IntKind.i64.wrap (k : Int) = (k : Int) := by rw [IntKind.wrap_i64]; omega
          clear hk hb2 hmm
          by_cases hkn : k < n
          · have hkn' : (k : Int) < (n : Int) := by omega
            obtain ⟨ad, rfl⟩ := hb.some (by omega)
            have hba := (hb.kept Gx (by simp)).at hkn
            have hfk := h256 k
            have htm : Int.tmod (f k : Int) (S : Int) = ((f k % S : Nat) : Int) := by rw [Int.tmod_eq_emod_of_nonneg (Int.natCast_nonneg _)]; rfl
            have hS0 : ¬ S = 0 := by omega
            have wf : IntKind.i64.wrap (f k : Int) = (f k : Int) := by rw [IntKind.wrap_i64]; omega
            rw [if_pos hkn] at hgk
            have hvl : f k % S < 256 := by have := Nat.mod_lt (f k) (show 0 < S by omega); omega
            obtain ⟨v, hv⟩ : ∃ v, f k % S = v := ⟨_, rfl⟩
            rw [hv] at htm hgk hvl
            clear hv
            have wv : IntKind.i64.wrap (v : Int) = (v : Int) := by rw [IntKind.wrap_i64]; omega
            have wv8 : IntKind.u8.wrap (v : Int) = (v : Int) := by rw [IntKind.wrap_u8]; omega
            obtain ⟨W6, hW6⟩ : ∃ W6, wr.setCell ⟨ln, x, none⟩ (.int .u8 (v : Nat)) = W6 := ⟨_, rfl⟩
            have hl6 : W6.rowIs ln 5 C (fun t => if t < x + 1 then .int .u8 (gK (a + t) : Nat) else .int .u8 0) := by
              rw [← hW6]
              refine (hlx.set x (.int .u8 (v : Nat))).congr fun t _ => ?_
              by_cases h1 : t = x
              · subst h1; rw [if_pos rfl, if_pos (by omega), HKx.out, hgk]
              · rw [if_neg h1]
                by_cases h2 : t < x
                · rw [if_pos h2, if_pos (by omega)]
                · rw [if_neg h2, if_neg (by omega)]
            have g6 : wr.grownBy W6 (some ln) := hW6 ▸ gb_set (World.grownBy.refl _ _) _ _
            have hR6 := hRx.kept g6 (by simp; omega) (by simp; omega)
            have B6 := Bx.kept g6 (by simp; omega)
            have hM6 := F.kept _ _ _ _ hMx g6 (fun i e => by cases e; exact hnl)
            have G6 := gb_past Gx g6 lwr
            have z_0 := B6.cell 0 (v := .int .i64 (C : Nat)) rfl
            have zr4 := hR6.fld.cell 4 (v := .slice (some ⟨d, 0, none⟩) mm mm) (by rw [← HMM.out]; rfl)
            have zdf := hR6.row.frozen k
            have zdc := hR6.row.cell hkC
            have zlc := hl6.cell hxl
            rw [if_pos (by omega), HKx.out, hgk] at zlc
            go_wp2
            refine region_tail 18 (by kernel_rfl) (by kernel_rfl) ?_
            simp only [List.take_succ_cons, List.take_zero, List.drop_succ_cons, List.drop_zero]
            repeat still_step
            refine wpStill_nil ?_
            go_wp2
            refine region_tail 15 (by kernel_rfl) (by kernel_rfl) ?_
            simp only [List.take_succ_cons, List.take_zero, List.drop_succ_cons, List.drop_zero]
            repeat still_step
            refine wpStill_nil ?_
            go_wp2
            go_roundw
            case rel =>
              have g7 : W6.grownBy (W6.setCell ⟨d, k, none⟩ (.int .u8 (v : Nat))).drew.drew (some d) := gb_drew (gb_drew (gb_set (World.grownBy.refl _ _) _ _))
              refine ⟨x + 1, hxl, by go_num, rowIs_kept hl6 g7 (by simp; omega), F.kept _ _ _ _ hM6 g7 (fun i e => by cases e; exact hnd), ⟨hR6.fld.kept g7 (by simp; exact hrd), ?_⟩, B6.kept g7 (by simp; exact Ne.symm hdb), gb_past G6 g7 ld'⟩
              refine World.rowIs.congr (World.rowIs.set hR6.row k (.int .u8 (v : Nat))) fun t _ => ?_
              have hkx := HKx.out
              by_cases h1 : t = k
              · subst h1; rw [if_pos rfl]; unfold upG; rw [if_pos (by omega), hgk]
              · rw [if_neg h1]
                unfold upG
                by_cases h2 : t < a + x
                · rw [if_pos h2, if_pos (by omega)]
                · rw [if_neg h2, if_neg (by omega)]
            case measure => simp [intOf]; omega
          · have hkn' : ¬ (k : Int) < (n : Int) := by omega
            rw [if_neg hkn] at hgk
            go_wp2
            refine region_tail 15 (by kernel_rfl) (by kernel_rfl) ?_
            simp only [List.take_succ_cons, List.take_zero, List.drop_succ_cons, List.drop_zero]
            repeat still_step
            refine wpStill_nil ?_
            go_wp2
            go_roundw
            case rel =>
              have g7 : wr.grownBy (wr.setCell ⟨d, k, none⟩ (.int .u8 0)).drew (some d) := gb_drew (gb_set (World.grownBy.refl _ _) _ _)
              refine ⟨x + 1, hxl, by go_num, (rowIs_kept hlx g7 (by simp; omega)).congr (fun t _ => ?_), F.kept _ _ _ _ hMx g7 (fun i e => by cases e; exact hnd), ⟨hRx.fld.kept g7 (by simp; exact hrd), ?_⟩, Bx.kept g7 (by simp; exact Ne.symm hdb), gb_past Gx g7 ld'⟩
              · by_cases h2 : t < x
                · rw [if_pos h2, if_pos (by omega)]
                · rw [if_neg h2]
                  by_cases h3 : t < x + 1
                  · obtain rfl : t = x := by omega
                    rw [if_pos h3, HKx.out, hgk]
                    rfl
                  · rw [if_neg h3]
              · refine World.rowIs.congr (World.rowIs.set hRx.row k (.int .u8 0)) fun t _ => ?_
                have hkx := HKx.out
                by_cases h1 : t = k
                · subst h1; rw [if_pos rfl]; unfold upG; rw [if_pos (by omega), hgk]; rfl
                · rw [if_neg h1]
                  unfold upG
                  by_cases h2 : t < a + x
                  · rw [if_pos h2, if_pos (by omega)]
                  · rw [if_neg h2, if_neg (by omega)]
            case measure => simp [intOf]; omega
        · have hxC : x = C := by omega
          subst x
          have hlay := F.lay (upG gK a) y hlt (some ⟨ln, 0, none⟩) C (fun t => gK (a + t)) (fun t => by have := HK.out (a + t); omega) (fun t _ => HK.out (a + t)) wr hMx (rowIs_by (hlx.congr (fun t ht => by rw [if_pos ht]))) (fun ad e => by cases e; exact hnl)
          go_wp2_with (go_at_call 32; refine hlay.mono ?_; rintro e V7 ⟨rfl, hM7, li, hLi, g7⟩)
          go_roundw
          case rel =>
            have haa := HA.out
            have e1 : (y + 1) * C = a + C := by rw [Nat.succ_mul, haa]
            have hiw := hLw li hLi
            have hib := hnb li hLi
            refine ⟨y + 1, hlt, by go_num, F.congr _ _ _ hM7 (fun j _ => ?_), (hRx.kept g7 (fun e => hnr (by cases e; exact hLi)) (fun e => hnd (by cases e; exact hLi))).congr (fun j _ => by rw [e1]), Bx.kept g7 (fun e => hib (by cases e; rfl)), gb_past Gx g7 hiw⟩
            have h := upG_lay gK C y j
            rw [haa] at h ⊢
            exact h
          case measure => simp [intOf]; omega
    · have hyR : y = R := by omega
      subst y
      go_wp2
      go_ret3
      have e1 : R * C = C * R := Nat.mul_comm _ _
      exact ⟨b, M, L, r, d, rfl, F, F.congr _ _ _ hMy (fun k hk => by unfold upG; rw [if_pos (by omega)]), hRy.congr (fun k hk => by unfold upG; rw [if_pos (by omega)]), hLw, lr', ld', hnr, hnd, Gy⟩
theorem keptN (C R S : Int) (pk : Bool) (hE : ckE C R S pk ≠ 0) (v : Value) (w : World) :
    Calls Tryz.prog 9 #[.agg #[.int .i64 C, .int .i64 R, .int .i64 S, .bool pk, v]] w fun e w' => e = .returned (.tuple #[.pointer none, .pointer none, .bool true]) ∧ w.grownBy w' none := by
  obtain ⟨W1, hW1, sz1, g1, B1⟩ := boxn w #[.int .i64 C, .int .i64 R, .int .i64 S, .bool pk, v] 26
  have b1_0 := B1.cell 0 (v := .int .i64 C) rfl
  have b1_1 := B1.cell 1 (v := .int .i64 R) rfl
  have b1_2 := B1.cell 2 (v := .int .i64 S) rfl
  have b1_3 := B1.cell 3 (v := .bool pk) rfl
  have hr := refNewN C R S pk hE W1
  have hn := newN C R S (ckE C R S pk) pk rfl hE W1
  obtain ⟨E, hE'⟩ : ∃ E, ckE C R S pk = E := ⟨_, rfl⟩
  rw [hE'] at hr hn hE
  have hb : (E == 0) = false := by simpa using hE
  clear hE hE'
  go_enter Tryz.func9, Tryz.ntmps9
  go_wp2_with (first | (go_at_call 33; refine hr.mono ?_; rintro e V1 ⟨rfl, hV1⟩; subst V1) | (go_at_call 31; refine hn.mono ?_; rintro e V2 ⟨rfl, g2⟩))
  go_ret3
  exact ⟨rfl, gb_trans g1 g2⟩
end Go.Proofs.YtjndljjpbkfmiaaGreatDoor
namespace Go.Proofs.YtjndljjpbkfmiaaGreatDoor
open Go.RowKit
set_option linter.unusedVariables false
set_option linter.unusedSimpArgs false
set_option maxRecDepth 100000

theorem up_val (a n : Int) (h : 0 < n) : Int.tmod (Int.tmod a n + n) n = a % n := by
  have h5 : -n < Int.tmod a n ∧ Int.tmod a n < n := ⟨Int.lt_tmod_of_pos a (by omega), Int.tmod_lt_of_pos a (by omega)⟩
  have h6 : Int.tmod (Int.tmod a n + n) n = (Int.tmod a n + n) % n := Int.tmod_eq_emod_of_nonneg (by omega)
  have h8 := Int.mul_tdiv_add_tmod a n
  have h9 : Int.tmod a n = a + n * -(a.tdiv n) := by rw [Int.mul_neg]; omega
  rw [h6, Int.add_emod_right, h9, Int.add_mul_emod_self_left]
theorem up_bd (a n : Int) (h : 0 < n) : 0 ≤ a % n ∧ a % n < n := ⟨Int.emod_nonneg a (by omega), Int.emod_lt_of_pos a h⟩
theorem upC (a n : Int) (h : 0 < n) (hn : n ≤ 65536) (w : World) : Calls Tryz.prog 57 #[.int .i64 a, .int .i64 n] w fun e w' => e = .returned (.int .i64 (a % n)) ∧ w' = w := by
  have hv := up_val a n h
  have h5 : -n < Int.tmod a n ∧ Int.tmod a n < n := ⟨Int.lt_tmod_of_pos a (by omega), Int.tmod_lt_of_pos a (by omega)⟩
  have hb := up_bd a n h
  have hn0 : ¬ n = 0 := by omega
  obtain ⟨m, hm⟩ : ∃ m, Int.tmod a n = m := ⟨_, rfl⟩
  obtain ⟨u, hu⟩ : ∃ u, a % n = u := ⟨_, rfl⟩
  rw [hm, hu] at hv
  rw [hm] at h5
  rw [hu] at hb ⊢
  clear hu
  have w1 : IntKind.i64.wrap m = m := by rw [IntKind.wrap_i64]; omega
  have w2 : IntKind.i64.wrap (m + n) = m + n := by rw [IntKind.wrap_i64]; omega
  go_enter Tryz.func57, Tryz.ntmps57
  go_wp2
  go_ret
  exact ⟨rfl, rfl⟩
/-- Topologies as Grid makes them may be. -/
theorem gr_plain {k : Int} {C R : Nat} (hk : k = 1 ∨ k = 2 ∨ k = 4) (hC : 1 ≤ C ∧ C ≤ 9) (hR : 1 ≤ R ∧ R ≤ 9) : Gr k 0 0 C R := by
  refine ⟨?_, by omega, by omega, by omega⟩
  unfold Tp.chk
  rw [if_neg (by omega), if_neg (by omega), if_neg (by omega), if_neg (by omega), if_pos rfl, if_pos rfl]
theorem gr_sph {C : Nat} (hC : 1 ≤ C ∧ C ≤ 9) : Gr 5 0 0 C C := by
  refine ⟨?_, by omega, by omega, by omega⟩
  unfold Tp.chk
  rw [if_neg (by omega), if_neg (by omega), if_neg (by omega), if_neg (by omega), if_pos rfl, if_pos rfl]
theorem gr_turn {k t z : Int} {C R : Nat} (hk : k = 2 ∧ 0 < z ∨ k = 3) (hC : 1 ≤ C ∧ C ≤ 9) (hR : 1 ≤ R ∧ R ≤ 9) (ht : t = 1 ∨ t = 2) (hz : 0 ≤ z ∧ z < (if t = 2 then (R : Int) else C)) : Gr k t z C R := by
  refine ⟨?_, by omega, by omega, by omega⟩
  unfold Tp.chk
  have hs : Tp.sd C R t = if t = 2 then (R : Int) else C := rfl
  rw [if_neg (by omega), if_neg (by omega), if_neg (by omega), if_neg (by omega), if_neg (by omega), hs]
  generalize (if t = 2 then (R : Int) else C) = sz at hz ⊢
  rw [if_neg (by omega), if_neg (by omega)]
theorem bo5' {w : World} {g : Nat} {t : TypeId} {x0 x1 x2 x3 x4 u0 u1 u2 u3 u4 : Value} (h : Bo w g t #[x0, x1, x2, x3, x4]) : Bo (((((w.setCell ⟨g, 0, none⟩ u0).setCell ⟨g, 1, none⟩ u1).setCell ⟨g, 2, none⟩ u2).setCell ⟨g, 3, none⟩ u3).setCell ⟨g, 4, none⟩ u4) g t #[u0, u1, u2, u3, u4] := by simpa using ((((h.set 0 u0).set 1 u1).set 2 u2).set 3 u3).set 4 u4
theorem gb5' {w w' : World} (h : w.grownBy w' none) {b : Nat} (hb : w.heap.size ≤ b) {u0 u1 u2 u3 u4 : Value} : w.grownBy (((((w'.setCell ⟨b, 0, none⟩ u0).setCell ⟨b, 1, none⟩ u1).setCell ⟨b, 2, none⟩ u2).setCell ⟨b, 3, none⟩ u3).setCell ⟨b, 4, none⟩ u4) none := gb_new (gb_new (gb_new (gb_new (gb_new h hb _) hb _) hb _) hb _) hb _
theorem region_cut {c : Code} {P : Program} {K : Act → World → Prop} {Q : Exit → Act → World → Prop} {a : Act} {w : World} (X : Act → World → Prop) (h : c.wp P (Exit.then X (fun _ _ _ => False)) a w) (hX : ∀ a w, X a w → K a w) : c.wp P (Exit.then K Q) a w := by
  refine Code.wp_mono ?_ h
  intro e a w he
  cases e <;> first | exact hX _ _ he | exact he.elim
theorem underT : ∃ fs, Tryz.prog.underlying 23 = some (.struct fs) := by
  first | exact ⟨_, Tryz.underlying23⟩ | exact ⟨_, by kernel_rfl⟩
theorem infoT : (Tryz.prog.info? 23).map (·.size) = some 5 := by kernel_rfl
set_option maxHeartbeats 8000000 in
/-- The topology of a grid, kind by kind. -/
theorem topoK (a0 a1 a2 a3 a4 : Int) (k t s : Int) (C R : Nat) (hk : a0 % 5 = k) (hC : a1 % 9 = (C : Int)) (hR : a2 % 9 = (R : Int)) (ht : a3 % 2 = t) (hs : a4 % (if t = 1 then 1 + (R : Int) else 1 + (C : Int)) = s) (w : World) : Calls Tryz.prog 26 #[.agg #[.int .i64 a0, .int .i64 a1, .int .i64 a2, .int .i64 a3, .int .i64 a4]] w fun e w' => ∃ (k t z : Int) (C R : Nat), e = .returned (.agg #[.int .u8 k, .int .i64 (C : Nat), .int .i64 (R : Nat), .int .u8 t, .int .i64 z]) ∧ Gr k t z C R ∧ C ≤ 9 ∧ R ≤ 9 ∧ w.grownBy w' none := by
  obtain ⟨W1, hW1, sz1, g1, B1⟩ := boxn w #[.int .i64 a0, .int .i64 a1, .int .i64 a2, .int .i64 a3, .int .i64 a4] 55
  obtain ⟨W2, hW2, sz2, g2, B2⟩ := boxn W1 #[.int .u8 0, .int .i64 0, .int .i64 0, .int .u8 0, .int .i64 0] 23
  have d0 := up_bd a0 5 (by omega)
  have d1 := up_bd a1 9 (by omega)
  have d2 := up_bd a2 9 (by omega)
  have d3 := up_bd a3 2 (by omega)
  rw [hk] at d0
  rw [hC] at d1
  rw [hR] at d2
  rw [ht] at d3
  have lw : w.heap.size ≤ W1.heap.size := g1.size
  have B12 := B1.kept g2 (by simp)
  have b0 := B12.cell 0 (v := .int .i64 a0) rfl
  have b1 := B12.cell 1 (v := .int .i64 a1) rfl
  have b2 := B12.cell 2 (v := .int .i64 a2) rfl
  obtain ⟨W3, hW3, sz3, g3, B3⟩ := boxn W2 #[.int .u8 (1 + k), .int .i64 (1 + (C : Int)), .int .i64 (1 + (R : Int)), .int .u8 0, .int .i64 0] 23
  have G3 := gb_trans g1 (gb_trans g2 g3)
  have A3 := B12.kept g3 (by simp)
  have a3_3 := A3.cell 3 (v := .int .i64 a3) rfl
  have a3_4 := A3.cell 4 (v := .int .i64 a4) rfl
  have v0 := B3.cell 0 (v := .int .u8 (1 + k)) rfl
  have v1 := B3.cell 1 (v := .int .i64 (1 + (C : Int))) rfl
  have v2 := B3.cell 2 (v := .int .i64 (1 + (R : Int))) rfl
  have v3 := B3.cell 3 (v := .int .u8 0) rfl
  have v4 := B3.cell 4 (v := .int .i64 0) rfl
  have n0 := World.new_ne W2 _ b0
  have n1 := World.new_ne W2 _ b1
  have n2 := World.new_ne W2 _ b2
  have hk8 : IntKind.u8.wrap (1 + k) = 1 + k := by rw [IntKind.wrap_u8]; omega
  have hkk : IntKind.i64.wrap (1 + k) = 1 + k := by rw [IntKind.wrap_i64]; omega
  have hCC : IntKind.i64.wrap (1 + (C : Int)) = 1 + (C : Int) := by rw [IntKind.wrap_i64]; omega
  have hRR : IntKind.i64.wrap (1 + (R : Int)) = 1 + (R : Int) := by rw [IntKind.wrap_i64]; omega
  have htt : IntKind.i64.wrap (1 + t) = 1 + t := by rw [IntKind.wrap_i64]; omega
  have ht8 : IntKind.u8.wrap (1 + t) = 1 + t := by rw [IntKind.wrap_u8]; omega
  go_enter Tryz.func26, Tryz.ntmps26
  go_wp2
  refine region_cut (fun a' w' => a' = { tmps := #[.agg #[.int .i64 a0, .int .i64 a1, .int .i64 a2, .int .i64 a3, .int .i64 a4], .pointer (some ⟨w.heap.size, 0, none⟩), .pointer (some ⟨W1.heap.size, 0, none⟩), .pointer (some ⟨W2.heap.size, 0, none⟩), undef, undef, undef, .pointer (some ⟨w.heap.size, 0, none⟩), .int .i64 a0, .int .i64 k, .int .i64 (1 + k), .int .u8 (1 + k), .pointer (some ⟨w.heap.size, 1, none⟩), .int .i64 a1, .int .i64 (C : Int), .int .i64 (1 + (C : Int)), .pointer (some ⟨w.heap.size, 2, none⟩), .int .i64 a2, .int .i64 (R : Int), .int .i64 (1 + (R : Int)), .agg #[.int .u8 (1 + k), .int .i64 (1 + (C : Int)), .int .i64 (1 + (R : Int)), .int .u8 0, .int .i64 0], undef, undef, undef, undef, undef, undef, undef, undef, undef, undef, undef, undef, undef, undef, undef, undef, undef, undef, undef, undef, undef, undef, undef, undef, undef, undef, undef, undef, undef, undef, undef, undef, undef, undef, undef, undef, undef], defers := [] } ∧ w' = (W2.alloc (.cells #[.int .u8 (1 + k), .int .i64 (1 + (C : Int)), .int .i64 (1 + (R : Int)), .int .u8 0, .int .i64 0] 23)).drew) ?_ ?_
  case refine_1 =>
    clear hW3
    go_region_held2 (fun w' => w'.cell? ⟨w.heap.size, 0, none⟩ = some (.int .i64 a0) ∧ w'.cell? ⟨w.heap.size, 1, none⟩ = some (.int .i64 a1) ∧ w'.cell? ⟨w.heap.size, 2, none⟩ = some (.int .i64 a2)) (go_keep) (first | (go_at_call 57; refine (upC _ _ (by omega) (by omega) _).mono ?_; rintro e w9 ⟨rfl, h9⟩; subst w9))
    all_goals exact ⟨rfl, rfl⟩
  case refine_2 =>
    rintro a' W ⟨rfl, rfl⟩
    rw [hW3]
    clear hW3 hk hC hR
    have Bz := B2.kept g3 (by simp)
    have hne1 : W2.heap.size ≠ W1.heap.size := by have := B2.lt; omega
    have hne2 : W2.heap.size ≠ w.heap.size := by have := B12.lt; omega
    have lw2 : w.heap.size ≤ W2.heap.size := by have := B2.lt; omega
    have z0 := Bz.cell 0 (v := .int .u8 0) rfl
    have z1 := Bz.cell 1 (v := .int .i64 0) rfl
    have z2 := Bz.cell 2 (v := .int .i64 0) rfl
    have z3 := Bz.cell 3 (v := .int .u8 0) rfl
    have z4 := Bz.cell 4 (v := .int .i64 0) rfl
    have zf0 := Bz.frozen 0
    have zf1 := Bz.frozen 1
    have zf2 := Bz.frozen 2
    have zf3 := Bz.frozen 3
    have zf4 := Bz.frozen 4
    have vf2 := B3.frozen 2
    have vf3 := B3.frozen 3
    have vf4 := B3.frozen 4
    obtain ⟨fs, hfs⟩ := underT
    have hup2 := fun w => upC a3 2 (by omega) (by omega) w
    rw [ht] at hup2
    clear ht
    have hkc : k = 0 ∨ k = 1 ∨ k = 2 ∨ k = 3 ∨ k = 4 := by omega
    have htc : t = 0 ∨ t = 1 := by omega
    rcases htc with rfl | rfl
    · rw [if_neg (by omega)] at hs
      rcases hkc with rfl | rfl | rfl | rfl | rfl
      · have Z4 := Bz
        have G4 := G3
        have hup4 := fun w => upC a4 (1 + (C : Int)) (by omega) (by omega) w
        rw [hs] at hup4
        have hsb := up_bd a4 (1 + (C : Int)) (by omega)
        rw [hs] at hsb
        clear hs
        obtain ⟨W5, hW5⟩ : ∃ W5, ((((W3.setCell ⟨W1.heap.size, 0, none⟩ (.int .u8 1)).setCell ⟨W1.heap.size, 1, none⟩ (.int .i64 (1 + (C : Int)))).setCell ⟨W1.heap.size, 2, none⟩ (.int .i64 (1 + (R : Int)))).setCell ⟨W1.heap.size, 3, none⟩ (.int .u8 0)).setCell ⟨W1.heap.size, 4, none⟩ (.int .i64 0) = W5 := ⟨_, rfl⟩
        have B5 : Bo W5 W1.heap.size 23 #[.int .u8 1, .int .i64 (1 + (C : Int)), .int .i64 (1 + (R : Int)), .int .u8 0, .int .i64 0] := hW5 ▸ bo5' Z4
        have G5 : w.grownBy W5 none := hW5 ▸ gb5' G4 lw
        go_wp2_with (first | ((fail_if_success (guard_hyp mk1)); go_at_call 57; refine (hup2 _).mono ?_; rintro e w9 ⟨rfl, h9⟩; subst w9; have mk1 : Hid (1 = 1) := rfl) | (guard_hyp mk1; go_at_call 57; refine (hup4 _).mono ?_; rintro e w9 ⟨rfl, h9⟩; subst w9))
        refine ret_c1 (g := W1.heap.size) (cs := #[.int .u8 1, .int .i64 (1 + (C : Int)), .int .i64 (1 + (R : Int)), .int .u8 0, .int .i64 0]) rfl hfs infoT rfl B5.dr rfl ?_
        exact ⟨1, 0, 0, 1 + C, 1 + R, by simp, gr_plain (k := 1) (C := 1 + C) (R := 1 + R) (by omega) (by omega) (by omega), by omega, by omega, gb_drew G5⟩
      · by_cases hs0 : 0 < s
        · obtain ⟨W4, hW4⟩ : ∃ W4, (W3.setCell ⟨W2.heap.size, 3, none⟩ (.int .u8 1)).setCell ⟨W2.heap.size, 4, none⟩ (.int .i64 s) = W4 := ⟨_, rfl⟩
          have B4 : Bo W4 W2.heap.size 23 #[.int .u8 2, .int .i64 (1 + (C : Int)), .int .i64 (1 + (R : Int)), .int .u8 1, .int .i64 s] := hW4 ▸ (by simpa using (B3.set 3 (.int .u8 1)).set 4 (.int .i64 s))
          have Z4 : Bo W4 W1.heap.size 23 #[.int .u8 0, .int .i64 0, .int .i64 0, .int .u8 0, .int .i64 0] := hW4 ▸ Bo.set2 (Bo.set2 Bz hne1) hne1
          have G4 : w.grownBy W4 none := hW4 ▸ gb_new (gb_new G3 lw2 _) lw2 _
          have q0 := B4.cell 0 (v := .int .u8 2) rfl
          have q1 := B4.cell 1 (v := .int .i64 (1 + (C : Int))) rfl
          have q2 := B4.cell 2 (v := .int .i64 (1 + (R : Int))) rfl
          have q3 := B4.cell 3 (v := .int .u8 1) rfl
          have q4 := B4.cell 4 (v := .int .i64 s) rfl
          have y0 := Z4.cell 0 (v := .int .u8 0) rfl
          have yf0 := Z4.frozen 0
          have y1 := Z4.cell 1 (v := .int .i64 0) rfl
          have yf1 := Z4.frozen 1
          have y2 := Z4.cell 2 (v := .int .i64 0) rfl
          have yf2 := Z4.frozen 2
          have y3 := Z4.cell 3 (v := .int .u8 0) rfl
          have yf3 := Z4.frozen 3
          have y4 := Z4.cell 4 (v := .int .i64 0) rfl
          have yf4 := Z4.frozen 4
          have hup4 := fun w => upC a4 (1 + (C : Int)) (by omega) (by omega) w
          rw [hs] at hup4
          have hsb := up_bd a4 (1 + (C : Int)) (by omega)
          rw [hs] at hsb
          clear hs
          have hsp : 0 < s := by omega
          obtain ⟨W5, hW5⟩ : ∃ W5, ((((W4.setCell ⟨W1.heap.size, 0, none⟩ (.int .u8 2)).setCell ⟨W1.heap.size, 1, none⟩ (.int .i64 (1 + (C : Int)))).setCell ⟨W1.heap.size, 2, none⟩ (.int .i64 (1 + (R : Int)))).setCell ⟨W1.heap.size, 3, none⟩ (.int .u8 1)).setCell ⟨W1.heap.size, 4, none⟩ (.int .i64 s) = W5 := ⟨_, rfl⟩
          have B5 : Bo W5 W1.heap.size 23 #[.int .u8 2, .int .i64 (1 + (C : Int)), .int .i64 (1 + (R : Int)), .int .u8 1, .int .i64 s] := hW5 ▸ bo5' Z4
          have G5 : w.grownBy W5 none := hW5 ▸ gb5' G4 lw
          go_wp2_with (first | ((fail_if_success (guard_hyp mk1)); go_at_call 57; refine (hup2 _).mono ?_; rintro e w9 ⟨rfl, h9⟩; subst w9; have mk1 : Hid (1 = 1) := rfl) | (guard_hyp mk1; go_at_call 57; refine (hup4 _).mono ?_; rintro e w9 ⟨rfl, h9⟩; subst w9))
          refine ret_c1 (g := W1.heap.size) (cs := #[.int .u8 2, .int .i64 (1 + (C : Int)), .int .i64 (1 + (R : Int)), .int .u8 1, .int .i64 s]) rfl hfs infoT rfl B5.dr rfl ?_
          exact ⟨2, 1, s, 1 + C, 1 + R, by simp, gr_turn (k := 2) (t := 1) (z := s) (C := 1 + C) (R := 1 + R) (by omega) (by omega) (by omega) (by omega) (by rw [Int.natCast_add, Int.natCast_add]; simp; omega), by omega, by omega, gb_drew G5⟩
        · have Z4 := Bz
          have G4 := G3
          have hup4 := fun w => upC a4 (1 + (C : Int)) (by omega) (by omega) w
          rw [hs] at hup4
          have hsb := up_bd a4 (1 + (C : Int)) (by omega)
          rw [hs] at hsb
          clear hs
          have hsp : decide (0 < s) = false := decide_eq_false (by omega)
          obtain ⟨W5, hW5⟩ : ∃ W5, ((((W3.setCell ⟨W1.heap.size, 0, none⟩ (.int .u8 2)).setCell ⟨W1.heap.size, 1, none⟩ (.int .i64 (1 + (C : Int)))).setCell ⟨W1.heap.size, 2, none⟩ (.int .i64 (1 + (R : Int)))).setCell ⟨W1.heap.size, 3, none⟩ (.int .u8 0)).setCell ⟨W1.heap.size, 4, none⟩ (.int .i64 0) = W5 := ⟨_, rfl⟩
          have B5 : Bo W5 W1.heap.size 23 #[.int .u8 2, .int .i64 (1 + (C : Int)), .int .i64 (1 + (R : Int)), .int .u8 0, .int .i64 0] := hW5 ▸ bo5' Z4
          have G5 : w.grownBy W5 none := hW5 ▸ gb5' G4 lw
          go_wp2_with (first | ((fail_if_success (guard_hyp mk1)); go_at_call 57; refine (hup2 _).mono ?_; rintro e w9 ⟨rfl, h9⟩; subst w9; have mk1 : Hid (1 = 1) := rfl) | (guard_hyp mk1; go_at_call 57; refine (hup4 _).mono ?_; rintro e w9 ⟨rfl, h9⟩; subst w9))
          refine ret_c1 (g := W1.heap.size) (cs := #[.int .u8 2, .int .i64 (1 + (C : Int)), .int .i64 (1 + (R : Int)), .int .u8 0, .int .i64 0]) rfl hfs infoT rfl B5.dr rfl ?_
          exact ⟨2, 0, 0, 1 + C, 1 + R, by simp, gr_plain (k := 2) (C := 1 + C) (R := 1 + R) (by omega) (by omega) (by omega), by omega, by omega, gb_drew G5⟩
      · obtain ⟨W4, hW4⟩ : ∃ W4, (W3.setCell ⟨W2.heap.size, 3, none⟩ (.int .u8 1)).setCell ⟨W2.heap.size, 4, none⟩ (.int .i64 s) = W4 := ⟨_, rfl⟩
        have B4 : Bo W4 W2.heap.size 23 #[.int .u8 3, .int .i64 (1 + (C : Int)), .int .i64 (1 + (R : Int)), .int .u8 1, .int .i64 s] := hW4 ▸ (by simpa using (B3.set 3 (.int .u8 1)).set 4 (.int .i64 s))
        have Z4 : Bo W4 W1.heap.size 23 #[.int .u8 0, .int .i64 0, .int .i64 0, .int .u8 0, .int .i64 0] := hW4 ▸ Bo.set2 (Bo.set2 Bz hne1) hne1
        have G4 : w.grownBy W4 none := hW4 ▸ gb_new (gb_new G3 lw2 _) lw2 _
        have q0 := B4.cell 0 (v := .int .u8 3) rfl
        have q1 := B4.cell 1 (v := .int .i64 (1 + (C : Int))) rfl
        have q2 := B4.cell 2 (v := .int .i64 (1 + (R : Int))) rfl
        have q3 := B4.cell 3 (v := .int .u8 1) rfl
        have q4 := B4.cell 4 (v := .int .i64 s) rfl
        have y0 := Z4.cell 0 (v := .int .u8 0) rfl
        have yf0 := Z4.frozen 0
        have y1 := Z4.cell 1 (v := .int .i64 0) rfl
        have yf1 := Z4.frozen 1
        have y2 := Z4.cell 2 (v := .int .i64 0) rfl
        have yf2 := Z4.frozen 2
        have y3 := Z4.cell 3 (v := .int .u8 0) rfl
        have yf3 := Z4.frozen 3
        have y4 := Z4.cell 4 (v := .int .i64 0) rfl
        have yf4 := Z4.frozen 4
        have hup4 := fun w => upC a4 (1 + (C : Int)) (by omega) (by omega) w
        rw [hs] at hup4
        have hsb := up_bd a4 (1 + (C : Int)) (by omega)
        rw [hs] at hsb
        clear hs
        obtain ⟨W5, hW5⟩ : ∃ W5, ((((W4.setCell ⟨W1.heap.size, 0, none⟩ (.int .u8 3)).setCell ⟨W1.heap.size, 1, none⟩ (.int .i64 (1 + (C : Int)))).setCell ⟨W1.heap.size, 2, none⟩ (.int .i64 (1 + (R : Int)))).setCell ⟨W1.heap.size, 3, none⟩ (.int .u8 1)).setCell ⟨W1.heap.size, 4, none⟩ (.int .i64 s) = W5 := ⟨_, rfl⟩
        have B5 : Bo W5 W1.heap.size 23 #[.int .u8 3, .int .i64 (1 + (C : Int)), .int .i64 (1 + (R : Int)), .int .u8 1, .int .i64 s] := hW5 ▸ bo5' Z4
        have G5 : w.grownBy W5 none := hW5 ▸ gb5' G4 lw
        go_wp2_with (first | ((fail_if_success (guard_hyp mk1)); go_at_call 57; refine (hup2 _).mono ?_; rintro e w9 ⟨rfl, h9⟩; subst w9; have mk1 : Hid (1 = 1) := rfl) | (guard_hyp mk1; go_at_call 57; refine (hup4 _).mono ?_; rintro e w9 ⟨rfl, h9⟩; subst w9))
        refine ret_c1 (g := W1.heap.size) (cs := #[.int .u8 3, .int .i64 (1 + (C : Int)), .int .i64 (1 + (R : Int)), .int .u8 1, .int .i64 s]) rfl hfs infoT rfl B5.dr rfl ?_
        exact ⟨3, 1, s, 1 + C, 1 + R, by simp, gr_turn (k := 3) (t := 1) (z := s) (C := 1 + C) (R := 1 + R) (by omega) (by omega) (by omega) (by omega) (by rw [Int.natCast_add, Int.natCast_add]; simp; omega), by omega, by omega, gb_drew G5⟩
      · have Z4 := Bz
        have G4 := G3
        have hup4 := fun w => upC a4 (1 + (C : Int)) (by omega) (by omega) w
        rw [hs] at hup4
        have hsb := up_bd a4 (1 + (C : Int)) (by omega)
        rw [hs] at hsb
        clear hs
        obtain ⟨W5, hW5⟩ : ∃ W5, ((((W3.setCell ⟨W1.heap.size, 0, none⟩ (.int .u8 4)).setCell ⟨W1.heap.size, 1, none⟩ (.int .i64 (1 + (C : Int)))).setCell ⟨W1.heap.size, 2, none⟩ (.int .i64 (1 + (R : Int)))).setCell ⟨W1.heap.size, 3, none⟩ (.int .u8 0)).setCell ⟨W1.heap.size, 4, none⟩ (.int .i64 0) = W5 := ⟨_, rfl⟩
        have B5 : Bo W5 W1.heap.size 23 #[.int .u8 4, .int .i64 (1 + (C : Int)), .int .i64 (1 + (R : Int)), .int .u8 0, .int .i64 0] := hW5 ▸ bo5' Z4
        have G5 : w.grownBy W5 none := hW5 ▸ gb5' G4 lw
        go_wp2_with (first | ((fail_if_success (guard_hyp mk1)); go_at_call 57; refine (hup2 _).mono ?_; rintro e w9 ⟨rfl, h9⟩; subst w9; have mk1 : Hid (1 = 1) := rfl) | (guard_hyp mk1; go_at_call 57; refine (hup4 _).mono ?_; rintro e w9 ⟨rfl, h9⟩; subst w9))
        refine ret_c1 (g := W1.heap.size) (cs := #[.int .u8 4, .int .i64 (1 + (C : Int)), .int .i64 (1 + (R : Int)), .int .u8 0, .int .i64 0]) rfl hfs infoT rfl B5.dr rfl ?_
        exact ⟨4, 0, 0, 1 + C, 1 + R, by simp, gr_plain (k := 4) (C := 1 + C) (R := 1 + R) (by omega) (by omega) (by omega), by omega, by omega, gb_drew G5⟩
      · obtain ⟨W4, hW4⟩ : ∃ W4, W3.setCell ⟨W2.heap.size, 2, none⟩ (.int .i64 (1 + (C : Int))) = W4 := ⟨_, rfl⟩
        have B4 : Bo W4 W2.heap.size 23 #[.int .u8 5, .int .i64 (1 + (C : Int)), .int .i64 (1 + (C : Int)), .int .u8 0, .int .i64 0] := hW4 ▸ (by simpa using B3.set 2 (.int .i64 (1 + (C : Int))))
        have Z4 : Bo W4 W1.heap.size 23 #[.int .u8 0, .int .i64 0, .int .i64 0, .int .u8 0, .int .i64 0] := hW4 ▸ Bo.set2 Bz hne1
        have G4 : w.grownBy W4 none := hW4 ▸ gb_new G3 lw2 _
        have q0 := B4.cell 0 (v := .int .u8 5) rfl
        have q1 := B4.cell 1 (v := .int .i64 (1 + (C : Int))) rfl
        have q2 := B4.cell 2 (v := .int .i64 (1 + (C : Int))) rfl
        have q3 := B4.cell 3 (v := .int .u8 0) rfl
        have q4 := B4.cell 4 (v := .int .i64 0) rfl
        have y0 := Z4.cell 0 (v := .int .u8 0) rfl
        have yf0 := Z4.frozen 0
        have y1 := Z4.cell 1 (v := .int .i64 0) rfl
        have yf1 := Z4.frozen 1
        have y2 := Z4.cell 2 (v := .int .i64 0) rfl
        have yf2 := Z4.frozen 2
        have y3 := Z4.cell 3 (v := .int .u8 0) rfl
        have yf3 := Z4.frozen 3
        have y4 := Z4.cell 4 (v := .int .i64 0) rfl
        have yf4 := Z4.frozen 4
        have hup4 := fun w => upC a4 (1 + (C : Int)) (by omega) (by omega) w
        rw [hs] at hup4
        have hsb := up_bd a4 (1 + (C : Int)) (by omega)
        rw [hs] at hsb
        clear hs
        obtain ⟨W5, hW5⟩ : ∃ W5, ((((W4.setCell ⟨W1.heap.size, 0, none⟩ (.int .u8 5)).setCell ⟨W1.heap.size, 1, none⟩ (.int .i64 (1 + (C : Int)))).setCell ⟨W1.heap.size, 2, none⟩ (.int .i64 (1 + (C : Int)))).setCell ⟨W1.heap.size, 3, none⟩ (.int .u8 0)).setCell ⟨W1.heap.size, 4, none⟩ (.int .i64 0) = W5 := ⟨_, rfl⟩
        have B5 : Bo W5 W1.heap.size 23 #[.int .u8 5, .int .i64 (1 + (C : Int)), .int .i64 (1 + (C : Int)), .int .u8 0, .int .i64 0] := hW5 ▸ bo5' Z4
        have G5 : w.grownBy W5 none := hW5 ▸ gb5' G4 lw
        go_wp2_with (first | ((fail_if_success (guard_hyp mk1)); go_at_call 57; refine (hup2 _).mono ?_; rintro e w9 ⟨rfl, h9⟩; subst w9; have mk1 : Hid (1 = 1) := rfl) | (guard_hyp mk1; go_at_call 57; refine (hup4 _).mono ?_; rintro e w9 ⟨rfl, h9⟩; subst w9))
        refine ret_c1 (g := W1.heap.size) (cs := #[.int .u8 5, .int .i64 (1 + (C : Int)), .int .i64 (1 + (C : Int)), .int .u8 0, .int .i64 0]) rfl hfs infoT rfl B5.dr rfl ?_
        exact ⟨5, 0, 0, 1 + C, 1 + C, by simp, gr_sph (C := 1 + C) (by omega), by omega, by omega, gb_drew G5⟩
    · rw [if_pos rfl] at hs
      rcases hkc with rfl | rfl | rfl | rfl | rfl
      · have Z4 := Bz
        have G4 := G3
        have hup4 := fun w => upC a4 (1 + (R : Int)) (by omega) (by omega) w
        rw [hs] at hup4
        have hsb := up_bd a4 (1 + (R : Int)) (by omega)
        rw [hs] at hsb
        clear hs
        obtain ⟨W5, hW5⟩ : ∃ W5, ((((W3.setCell ⟨W1.heap.size, 0, none⟩ (.int .u8 1)).setCell ⟨W1.heap.size, 1, none⟩ (.int .i64 (1 + (C : Int)))).setCell ⟨W1.heap.size, 2, none⟩ (.int .i64 (1 + (R : Int)))).setCell ⟨W1.heap.size, 3, none⟩ (.int .u8 0)).setCell ⟨W1.heap.size, 4, none⟩ (.int .i64 0) = W5 := ⟨_, rfl⟩
        have B5 : Bo W5 W1.heap.size 23 #[.int .u8 1, .int .i64 (1 + (C : Int)), .int .i64 (1 + (R : Int)), .int .u8 0, .int .i64 0] := hW5 ▸ bo5' Z4
        have G5 : w.grownBy W5 none := hW5 ▸ gb5' G4 lw
        go_wp2_with (first | ((fail_if_success (guard_hyp mk1)); go_at_call 57; refine (hup2 _).mono ?_; rintro e w9 ⟨rfl, h9⟩; subst w9; have mk1 : Hid (1 = 1) := rfl) | (guard_hyp mk1; go_at_call 57; refine (hup4 _).mono ?_; rintro e w9 ⟨rfl, h9⟩; subst w9))
        refine ret_c1 (g := W1.heap.size) (cs := #[.int .u8 1, .int .i64 (1 + (C : Int)), .int .i64 (1 + (R : Int)), .int .u8 0, .int .i64 0]) rfl hfs infoT rfl B5.dr rfl ?_
        exact ⟨1, 0, 0, 1 + C, 1 + R, by simp, gr_plain (k := 1) (C := 1 + C) (R := 1 + R) (by omega) (by omega) (by omega), by omega, by omega, gb_drew G5⟩
      · by_cases hs0 : 0 < s
        · obtain ⟨W4, hW4⟩ : ∃ W4, (W3.setCell ⟨W2.heap.size, 3, none⟩ (.int .u8 2)).setCell ⟨W2.heap.size, 4, none⟩ (.int .i64 s) = W4 := ⟨_, rfl⟩
          have B4 : Bo W4 W2.heap.size 23 #[.int .u8 2, .int .i64 (1 + (C : Int)), .int .i64 (1 + (R : Int)), .int .u8 2, .int .i64 s] := hW4 ▸ (by simpa using (B3.set 3 (.int .u8 2)).set 4 (.int .i64 s))
          have Z4 : Bo W4 W1.heap.size 23 #[.int .u8 0, .int .i64 0, .int .i64 0, .int .u8 0, .int .i64 0] := hW4 ▸ Bo.set2 (Bo.set2 Bz hne1) hne1
          have G4 : w.grownBy W4 none := hW4 ▸ gb_new (gb_new G3 lw2 _) lw2 _
          have q0 := B4.cell 0 (v := .int .u8 2) rfl
          have q1 := B4.cell 1 (v := .int .i64 (1 + (C : Int))) rfl
          have q2 := B4.cell 2 (v := .int .i64 (1 + (R : Int))) rfl
          have q3 := B4.cell 3 (v := .int .u8 2) rfl
          have q4 := B4.cell 4 (v := .int .i64 s) rfl
          have y0 := Z4.cell 0 (v := .int .u8 0) rfl
          have yf0 := Z4.frozen 0
          have y1 := Z4.cell 1 (v := .int .i64 0) rfl
          have yf1 := Z4.frozen 1
          have y2 := Z4.cell 2 (v := .int .i64 0) rfl
          have yf2 := Z4.frozen 2
          have y3 := Z4.cell 3 (v := .int .u8 0) rfl
          have yf3 := Z4.frozen 3
          have y4 := Z4.cell 4 (v := .int .i64 0) rfl
          have yf4 := Z4.frozen 4
          have hup4 := fun w => upC a4 (1 + (R : Int)) (by omega) (by omega) w
          rw [hs] at hup4
          have hsb := up_bd a4 (1 + (R : Int)) (by omega)
          rw [hs] at hsb
          clear hs
          have hsp : 0 < s := by omega
          obtain ⟨W5, hW5⟩ : ∃ W5, ((((W4.setCell ⟨W1.heap.size, 0, none⟩ (.int .u8 2)).setCell ⟨W1.heap.size, 1, none⟩ (.int .i64 (1 + (C : Int)))).setCell ⟨W1.heap.size, 2, none⟩ (.int .i64 (1 + (R : Int)))).setCell ⟨W1.heap.size, 3, none⟩ (.int .u8 2)).setCell ⟨W1.heap.size, 4, none⟩ (.int .i64 s) = W5 := ⟨_, rfl⟩
          have B5 : Bo W5 W1.heap.size 23 #[.int .u8 2, .int .i64 (1 + (C : Int)), .int .i64 (1 + (R : Int)), .int .u8 2, .int .i64 s] := hW5 ▸ bo5' Z4
          have G5 : w.grownBy W5 none := hW5 ▸ gb5' G4 lw
          go_wp2_with (first | ((fail_if_success (guard_hyp mk1)); go_at_call 57; refine (hup2 _).mono ?_; rintro e w9 ⟨rfl, h9⟩; subst w9; have mk1 : Hid (1 = 1) := rfl) | (guard_hyp mk1; go_at_call 57; refine (hup4 _).mono ?_; rintro e w9 ⟨rfl, h9⟩; subst w9))
          refine ret_c1 (g := W1.heap.size) (cs := #[.int .u8 2, .int .i64 (1 + (C : Int)), .int .i64 (1 + (R : Int)), .int .u8 2, .int .i64 s]) rfl hfs infoT rfl B5.dr rfl ?_
          exact ⟨2, 2, s, 1 + C, 1 + R, by simp, gr_turn (k := 2) (t := 2) (z := s) (C := 1 + C) (R := 1 + R) (by omega) (by omega) (by omega) (by omega) (by rw [Int.natCast_add, Int.natCast_add]; simp; omega), by omega, by omega, gb_drew G5⟩
        · have Z4 := Bz
          have G4 := G3
          have hup4 := fun w => upC a4 (1 + (R : Int)) (by omega) (by omega) w
          rw [hs] at hup4
          have hsb := up_bd a4 (1 + (R : Int)) (by omega)
          rw [hs] at hsb
          clear hs
          have hsp : decide (0 < s) = false := decide_eq_false (by omega)
          obtain ⟨W5, hW5⟩ : ∃ W5, ((((W3.setCell ⟨W1.heap.size, 0, none⟩ (.int .u8 2)).setCell ⟨W1.heap.size, 1, none⟩ (.int .i64 (1 + (C : Int)))).setCell ⟨W1.heap.size, 2, none⟩ (.int .i64 (1 + (R : Int)))).setCell ⟨W1.heap.size, 3, none⟩ (.int .u8 0)).setCell ⟨W1.heap.size, 4, none⟩ (.int .i64 0) = W5 := ⟨_, rfl⟩
          have B5 : Bo W5 W1.heap.size 23 #[.int .u8 2, .int .i64 (1 + (C : Int)), .int .i64 (1 + (R : Int)), .int .u8 0, .int .i64 0] := hW5 ▸ bo5' Z4
          have G5 : w.grownBy W5 none := hW5 ▸ gb5' G4 lw
          go_wp2_with (first | ((fail_if_success (guard_hyp mk1)); go_at_call 57; refine (hup2 _).mono ?_; rintro e w9 ⟨rfl, h9⟩; subst w9; have mk1 : Hid (1 = 1) := rfl) | (guard_hyp mk1; go_at_call 57; refine (hup4 _).mono ?_; rintro e w9 ⟨rfl, h9⟩; subst w9))
          refine ret_c1 (g := W1.heap.size) (cs := #[.int .u8 2, .int .i64 (1 + (C : Int)), .int .i64 (1 + (R : Int)), .int .u8 0, .int .i64 0]) rfl hfs infoT rfl B5.dr rfl ?_
          exact ⟨2, 0, 0, 1 + C, 1 + R, by simp, gr_plain (k := 2) (C := 1 + C) (R := 1 + R) (by omega) (by omega) (by omega), by omega, by omega, gb_drew G5⟩
      · obtain ⟨W4, hW4⟩ : ∃ W4, (W3.setCell ⟨W2.heap.size, 3, none⟩ (.int .u8 2)).setCell ⟨W2.heap.size, 4, none⟩ (.int .i64 s) = W4 := ⟨_, rfl⟩
        have B4 : Bo W4 W2.heap.size 23 #[.int .u8 3, .int .i64 (1 + (C : Int)), .int .i64 (1 + (R : Int)), .int .u8 2, .int .i64 s] := hW4 ▸ (by simpa using (B3.set 3 (.int .u8 2)).set 4 (.int .i64 s))
        have Z4 : Bo W4 W1.heap.size 23 #[.int .u8 0, .int .i64 0, .int .i64 0, .int .u8 0, .int .i64 0] := hW4 ▸ Bo.set2 (Bo.set2 Bz hne1) hne1
        have G4 : w.grownBy W4 none := hW4 ▸ gb_new (gb_new G3 lw2 _) lw2 _
        have q0 := B4.cell 0 (v := .int .u8 3) rfl
        have q1 := B4.cell 1 (v := .int .i64 (1 + (C : Int))) rfl
        have q2 := B4.cell 2 (v := .int .i64 (1 + (R : Int))) rfl
        have q3 := B4.cell 3 (v := .int .u8 2) rfl
        have q4 := B4.cell 4 (v := .int .i64 s) rfl
        have y0 := Z4.cell 0 (v := .int .u8 0) rfl
        have yf0 := Z4.frozen 0
        have y1 := Z4.cell 1 (v := .int .i64 0) rfl
        have yf1 := Z4.frozen 1
        have y2 := Z4.cell 2 (v := .int .i64 0) rfl
        have yf2 := Z4.frozen 2
        have y3 := Z4.cell 3 (v := .int .u8 0) rfl
        have yf3 := Z4.frozen 3
        have y4 := Z4.cell 4 (v := .int .i64 0) rfl
        have yf4 := Z4.frozen 4
        have hup4 := fun w => upC a4 (1 + (R : Int)) (by omega) (by omega) w
        rw [hs] at hup4
        have hsb := up_bd a4 (1 + (R : Int)) (by omega)
        rw [hs] at hsb
        clear hs
        obtain ⟨W5, hW5⟩ : ∃ W5, ((((W4.setCell ⟨W1.heap.size, 0, none⟩ (.int .u8 3)).setCell ⟨W1.heap.size, 1, none⟩ (.int .i64 (1 + (C : Int)))).setCell ⟨W1.heap.size, 2, none⟩ (.int .i64 (1 + (R : Int)))).setCell ⟨W1.heap.size, 3, none⟩ (.int .u8 2)).setCell ⟨W1.heap.size, 4, none⟩ (.int .i64 s) = W5 := ⟨_, rfl⟩
        have B5 : Bo W5 W1.heap.size 23 #[.int .u8 3, .int .i64 (1 + (C : Int)), .int .i64 (1 + (R : Int)), .int .u8 2, .int .i64 s] := hW5 ▸ bo5' Z4
        have G5 : w.grownBy W5 none := hW5 ▸ gb5' G4 lw
        go_wp2_with (first | ((fail_if_success (guard_hyp mk1)); go_at_call 57; refine (hup2 _).mono ?_; rintro e w9 ⟨rfl, h9⟩; subst w9; have mk1 : Hid (1 = 1) := rfl) | (guard_hyp mk1; go_at_call 57; refine (hup4 _).mono ?_; rintro e w9 ⟨rfl, h9⟩; subst w9))
        refine ret_c1 (g := W1.heap.size) (cs := #[.int .u8 3, .int .i64 (1 + (C : Int)), .int .i64 (1 + (R : Int)), .int .u8 2, .int .i64 s]) rfl hfs infoT rfl B5.dr rfl ?_
        exact ⟨3, 2, s, 1 + C, 1 + R, by simp, gr_turn (k := 3) (t := 2) (z := s) (C := 1 + C) (R := 1 + R) (by omega) (by omega) (by omega) (by omega) (by rw [Int.natCast_add, Int.natCast_add]; simp; omega), by omega, by omega, gb_drew G5⟩
      · have Z4 := Bz
        have G4 := G3
        have hup4 := fun w => upC a4 (1 + (R : Int)) (by omega) (by omega) w
        rw [hs] at hup4
        have hsb := up_bd a4 (1 + (R : Int)) (by omega)
        rw [hs] at hsb
        clear hs
        obtain ⟨W5, hW5⟩ : ∃ W5, ((((W3.setCell ⟨W1.heap.size, 0, none⟩ (.int .u8 4)).setCell ⟨W1.heap.size, 1, none⟩ (.int .i64 (1 + (C : Int)))).setCell ⟨W1.heap.size, 2, none⟩ (.int .i64 (1 + (R : Int)))).setCell ⟨W1.heap.size, 3, none⟩ (.int .u8 0)).setCell ⟨W1.heap.size, 4, none⟩ (.int .i64 0) = W5 := ⟨_, rfl⟩
        have B5 : Bo W5 W1.heap.size 23 #[.int .u8 4, .int .i64 (1 + (C : Int)), .int .i64 (1 + (R : Int)), .int .u8 0, .int .i64 0] := hW5 ▸ bo5' Z4
        have G5 : w.grownBy W5 none := hW5 ▸ gb5' G4 lw
        go_wp2_with (first | ((fail_if_success (guard_hyp mk1)); go_at_call 57; refine (hup2 _).mono ?_; rintro e w9 ⟨rfl, h9⟩; subst w9; have mk1 : Hid (1 = 1) := rfl) | (guard_hyp mk1; go_at_call 57; refine (hup4 _).mono ?_; rintro e w9 ⟨rfl, h9⟩; subst w9))
        refine ret_c1 (g := W1.heap.size) (cs := #[.int .u8 4, .int .i64 (1 + (C : Int)), .int .i64 (1 + (R : Int)), .int .u8 0, .int .i64 0]) rfl hfs infoT rfl B5.dr rfl ?_
        exact ⟨4, 0, 0, 1 + C, 1 + R, by simp, gr_plain (k := 4) (C := 1 + C) (R := 1 + R) (by omega) (by omega) (by omega), by omega, by omega, gb_drew G5⟩
      · obtain ⟨W4, hW4⟩ : ∃ W4, W3.setCell ⟨W2.heap.size, 2, none⟩ (.int .i64 (1 + (C : Int))) = W4 := ⟨_, rfl⟩
        have B4 : Bo W4 W2.heap.size 23 #[.int .u8 5, .int .i64 (1 + (C : Int)), .int .i64 (1 + (C : Int)), .int .u8 0, .int .i64 0] := hW4 ▸ (by simpa using B3.set 2 (.int .i64 (1 + (C : Int))))
        have Z4 : Bo W4 W1.heap.size 23 #[.int .u8 0, .int .i64 0, .int .i64 0, .int .u8 0, .int .i64 0] := hW4 ▸ Bo.set2 Bz hne1
        have G4 : w.grownBy W4 none := hW4 ▸ gb_new G3 lw2 _
        have q0 := B4.cell 0 (v := .int .u8 5) rfl
        have q1 := B4.cell 1 (v := .int .i64 (1 + (C : Int))) rfl
        have q2 := B4.cell 2 (v := .int .i64 (1 + (C : Int))) rfl
        have q3 := B4.cell 3 (v := .int .u8 0) rfl
        have q4 := B4.cell 4 (v := .int .i64 0) rfl
        have y0 := Z4.cell 0 (v := .int .u8 0) rfl
        have yf0 := Z4.frozen 0
        have y1 := Z4.cell 1 (v := .int .i64 0) rfl
        have yf1 := Z4.frozen 1
        have y2 := Z4.cell 2 (v := .int .i64 0) rfl
        have yf2 := Z4.frozen 2
        have y3 := Z4.cell 3 (v := .int .u8 0) rfl
        have yf3 := Z4.frozen 3
        have y4 := Z4.cell 4 (v := .int .i64 0) rfl
        have yf4 := Z4.frozen 4
        have hup4 := fun w => upC a4 (1 + (R : Int)) (by omega) (by omega) w
        rw [hs] at hup4
        have hsb := up_bd a4 (1 + (R : Int)) (by omega)
        rw [hs] at hsb
        clear hs
        obtain ⟨W5, hW5⟩ : ∃ W5, ((((W4.setCell ⟨W1.heap.size, 0, none⟩ (.int .u8 5)).setCell ⟨W1.heap.size, 1, none⟩ (.int .i64 (1 + (C : Int)))).setCell ⟨W1.heap.size, 2, none⟩ (.int .i64 (1 + (C : Int)))).setCell ⟨W1.heap.size, 3, none⟩ (.int .u8 0)).setCell ⟨W1.heap.size, 4, none⟩ (.int .i64 0) = W5 := ⟨_, rfl⟩
        have B5 : Bo W5 W1.heap.size 23 #[.int .u8 5, .int .i64 (1 + (C : Int)), .int .i64 (1 + (C : Int)), .int .u8 0, .int .i64 0] := hW5 ▸ bo5' Z4
        have G5 : w.grownBy W5 none := hW5 ▸ gb5' G4 lw
        go_wp2_with (first | ((fail_if_success (guard_hyp mk1)); go_at_call 57; refine (hup2 _).mono ?_; rintro e w9 ⟨rfl, h9⟩; subst w9; have mk1 : Hid (1 = 1) := rfl) | (guard_hyp mk1; go_at_call 57; refine (hup4 _).mono ?_; rintro e w9 ⟨rfl, h9⟩; subst w9))
        refine ret_c1 (g := W1.heap.size) (cs := #[.int .u8 5, .int .i64 (1 + (C : Int)), .int .i64 (1 + (C : Int)), .int .u8 0, .int .i64 0]) rfl hfs infoT rfl B5.dr rfl ?_
        exact ⟨5, 0, 0, 1 + C, 1 + C, by simp, gr_sph (C := 1 + C) (by omega), by omega, by omega, gb_drew G5⟩
end Go.Proofs.YtjndljjpbkfmiaaGreatDoor
namespace Go.Proofs.YtjndljjpbkfmiaaGreatDoor
open Go.RowKit
set_option linter.unusedVariables false
set_option linter.unusedSimpArgs false
set_option maxRecDepth 100000

theorem topoC (a0 a1 a2 a3 a4 : Int) (w : World) : Calls Tryz.prog 26 #[.agg #[.int .i64 a0, .int .i64 a1, .int .i64 a2, .int .i64 a3, .int .i64 a4]] w fun e w' => ∃ (k t z : Int) (C R : Nat), e = .returned (.agg #[.int .u8 k, .int .i64 (C : Nat), .int .i64 (R : Nat), .int .u8 t, .int .i64 z]) ∧ Gr k t z C R ∧ C ≤ 9 ∧ R ≤ 9 ∧ w.grownBy w' none := by
  have d1 := up_bd a1 9 (by omega)
  have d2 := up_bd a2 9 (by omega)
  exact topoK a0 a1 a2 a3 a4 _ _ _ (a1 % 9).toNat (a2 % 9).toNat rfl (by omega) (by omega) rfl rfl w
/-- How many states a field that is filled has. -/
def fiS (a : Int) (pk : Bool) : Nat := if pk = true then 2 else (2 + a % 255).toNat
theorem fiS_bd (a : Int) (pk : Bool) : 2 ≤ fiS a pk ∧ fiS a pk ≤ 256 := by
  have := up_bd a 255 (by omega)
  unfold fiS
  split <;> omega
theorem fi_sz {C R : Nat} (a : Int) (pk : Bool) (hC : 0 < C ∧ C ≤ 9) (hR : 0 < R ∧ R ≤ 9) : Sz C R (fiS a pk) := by
  have := fiS_bd a pk
  have h2 : C * R ≤ 9 * 9 := Nat.mul_le_mul hC.2 hR.2
  exact ⟨by omega, by omega, by omega, by omega, by omega, by omega, by omega⟩
set_option maxHeartbeats 1000000 in
theorem filledC (k t z a : Int) (S : Nat) (C R : Nat) (pk : Bool) (hSe : fiS a pk = S) (hC : 0 < C ∧ C ≤ 9) (hR : 0 < R ∧ R ≤ 9) (sp : Option Addr) (n c : Nat) (f : Nat → Nat) (hn : n ≤ 140737488351232) (h256 : ∀ i, f i < 256) (w : World) (hb : By w sp n f) :
    Calls Tryz.prog 27 #[.agg #[.int .u8 k, .int .i64 (C : Nat), .int .i64 (R : Nat), .int .u8 t, .int .i64 z], .int .i64 a, .bool pk, .slice sp n c] w fun e w' => ∃ b M L, e = .returned (.tuple #[.pointer (some ⟨b, 0, none⟩), .bool true]) ∧ FdX M L b C R S pk ∧ M (kpG n f S) w' ∧ (∀ i, L i → w.heap.size ≤ i) ∧ w.grownBy w' none := by
  have hz := fi_sz a pk hC hR
  rw [hSe] at hz
  obtain ⟨W1, hW1, sz1, g1, B1⟩ := boxn w #[.int .u8 k, .int .i64 (C : Nat), .int .i64 (R : Nat), .int .u8 t, .int .i64 z] 23
  have b1 := B1.cell 1 (v := .int .i64 (C : Nat)) rfl
  have b2 := B1.cell 2 (v := .int .i64 (R : Nat)) rfl
  have hup := fun w => upC a 255 (by omega) (by omega) w
  have hub := up_bd a 255 (by omega)
  obtain ⟨u, hu⟩ : ∃ u, a % 255 = u := ⟨_, rfl⟩
  have HS : Hid (S = if pk = true then 2 else (2 + u).toNat) := by unfold Hid; rw [← hSe, fiS, hu]
  clear hSe
  rw [hu] at hup hub
  clear hu
  have wu : IntKind.i64.wrap (2 + u) = 2 + u := by rw [IntKind.wrap_i64]; omega
  obtain ⟨S0, hS0⟩ : ∃ S0 : Nat, 2 + u = (S0 : Int) := ⟨(2 + u).toNat, by omega⟩
  rw [hS0] at wu
  have HS0 : Hid (2 + u = (S0 : Int)) := hS0
  obtain ⟨W2, hW2, sz2, g2, B2⟩ := boxn W1 #[.int .i64 (C : Nat), .int .i64 (R : Nat), .int .i64 (S0 : Nat), .bool pk, .slice sp n c] 26
  have n1 := World.new_ne W1 _ b1
  have n2 := World.new_ne W1 _ b2
  have hzk : ∀ pk', pk' = pk → Hid (S = if pk = true then 2 else S0) := fun _ _ => by unfold Hid; rw [HS.out]; split; rfl; omega
  have hb2 := (hb.kept g1 (by simp)).kept g2 (by simp)
  have lw1 : w.heap.size ≤ W1.heap.size := g1.size
  go_enter Tryz.func27, Tryz.ntmps27
  go_wp2
  refine region_cut (fun a' w' => a' = { tmps := #[.agg #[.int .u8 k, .int .i64 (C : Nat), .int .i64 (R : Nat), .int .u8 t, .int .i64 z], .int .i64 a, .bool pk, .slice sp n c, .pointer (some ⟨w.heap.size, 0, none⟩), undef, undef, undef, .pointer none, .bool false, .pointer (some ⟨W1.heap.size, 0, none⟩), undef, undef, undef, .pointer (some ⟨w.heap.size, 1, none⟩), .int .i64 (C : Nat), .pointer (some ⟨w.heap.size, 2, none⟩), .int .i64 (R : Nat), .int .i64 a, .int .i64 u, .int .i64 (S0 : Nat), .bool pk, .slice sp n c, .agg #[.int .i64 (C : Nat), .int .i64 (R : Nat), .int .i64 (S0 : Nat), .bool pk, .slice sp n c], undef, undef, undef, undef, undef, undef, undef, undef, undef, undef, undef, undef, undef, undef], defers := [] } ∧ w' = (W1.alloc (.cells #[.int .i64 (C : Nat), .int .i64 (R : Nat), .int .i64 (S0 : Nat), .bool pk, .slice sp n c] 26)).drew) ?_ ?_
  case refine_1 =>
    clear hW2
    go_region_held2 (fun w' => w'.cell? ⟨w.heap.size, 1, none⟩ = some (.int .i64 (C : Nat)) ∧ w'.cell? ⟨w.heap.size, 2, none⟩ = some (.int .i64 (R : Nat))) (go_keep) (first | (go_at_call 57; refine (hup _).mono ?_; rintro e w9 ⟨rfl, h9⟩; subst w9))
    all_goals exact ⟨rfl, rfl⟩
  case refine_2 =>
    rintro a' W ⟨rfl, rfl⟩
    rw [hW2]
    clear hW2
    have k0 := B2.cell 0 (v := .int .i64 (C : Nat)) rfl
    have k1 := B2.cell 1 (v := .int .i64 (R : Nat)) rfl
    have k2 := B2.cell 2 (v := .int .i64 (S0 : Nat)) rfl
    have k3 := B2.cell 3 (v := .bool pk) rfl
    have k4 := B2.cell 4 (v := .slice sp n c) rfl
    have kf2 := B2.frozen 2
    cases pk with
    | false =>
      obtain rfl : S = S0 := by have := (hzk false rfl).out; simpa using this
      have hF := keptY C R S false hz (fun h => by cases h) sp n c f hn h256 W2.drew hb2
      clear HS HS0 hzk hS0 wu hub hup
      go_wp2_with (go_at_call 9; refine hF.mono ?_; rintro e V ⟨b, M, L, r, d, rfl, F, hM, hRf, hL, lr, ld, hnr, hnd, gV⟩)
      go_ret2
      exact ⟨b, M, L, rfl, F, hM, fun i hi => Nat.le_trans (gb_trans g1 g2).size (hL i hi), gb_trans (gb_drew (gb_trans g1 g2)) gV⟩
    | true =>
      obtain rfl : S = 2 := by have := (hzk true rfl).out; simpa using this
      obtain ⟨W3, hW3⟩ : ∃ W3, W2.setCell ⟨W1.heap.size, 2, none⟩ (.int .i64 2) = W3 := ⟨_, rfl⟩
      have B3 : Bo W3 W1.heap.size 26 #[.int .i64 (C : Nat), .int .i64 (R : Nat), .int .i64 2, .bool true, .slice sp n c] := hW3 ▸ (by simpa using B2.set 2 (.int .i64 2))
      have G3 : w.grownBy W3 none := hW3 ▸ gb_new (gb_trans g1 g2) lw1 _
      have hb3 : By W3 sp n f := hb.kept G3 (by simp)
      have q0 := B3.cell 0 (v := .int .i64 (C : Nat)) rfl
      have q1 := B3.cell 1 (v := .int .i64 (R : Nat)) rfl
      have q2 := B3.cell 2 (v := .int .i64 2) rfl
      have q3 := B3.cell 3 (v := .bool true) rfl
      have q4 := B3.cell 4 (v := .slice sp n c) rfl
      have hF := keptY C R 2 true hz (fun _ => rfl) sp n c f hn h256 W3.drew hb3
      clear HS HS0 hzk hS0 wu hub hup
      go_wp2_with (go_at_call 9; refine hF.mono ?_; rintro e V ⟨b, M, L, r, d, rfl, F, hM, hRf, hL, lr, ld, hnr, hnd, gV⟩)
      go_ret2
      exact ⟨b, M, L, rfl, F, hM, fun i hi => Nat.le_trans G3.size (hL i hi), gb_trans (gb_drew G3) gV⟩
end Go.Proofs.YtjndljjpbkfmiaaGreatDoor
