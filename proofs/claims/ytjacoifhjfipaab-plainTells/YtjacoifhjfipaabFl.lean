/- up, few, laid of the statements. -/
import Derived.Test.YtjacoifhjfipaabCl
import Derived.OwnWalk
import Derived.LoopN
namespace Go.Proofs.Ytjacoifhjfipaab
open Go.RowKit
set_option linter.unusedVariables false
set_option linter.unusedSimpArgs false
set_option maxRecDepth 100000

theorem tm_bd (a : Int) {n : Int} (hn : 0 < n) : -n < a.tmod n ∧ a.tmod n < n := by
  by_cases h : 0 ≤ a
  · rw [Int.tmod_eq_emod_of_nonneg h]
    have := Int.emod_nonneg a (show n ≠ 0 by omega)
    have := Int.emod_lt_of_pos a hn
    omega
  · have e : a.tmod n = -((-a) % n) := by
      have : a = -(-a) := by omega
      conv => lhs; rw [this]
      rw [Int.neg_tmod, Int.tmod_eq_emod_of_nonneg (by omega)]
    rw [e]
    have := Int.emod_nonneg (-a) (show n ≠ 0 by omega)
    have := Int.emod_lt_of_pos (-a) hn
    omega
set_option maxHeartbeats 1000000 in
theorem upC (a : Int) (w : World) : Calls Try.prog 14 #[.int .i64 a, .int .i64 21] w fun e w' => (∃ n : Nat, n ≤ 20 ∧ e = .returned (.int .i64 (n : Int))) ∧ w' = w := by
  have h1 := tm_bd a (n := 21) (by omega)
  have h2 : 0 ≤ (a.tmod 21 + 21).tmod 21 := by
    rw [Int.tmod_eq_emod_of_nonneg (by omega)]; exact Int.emod_nonneg _ (by omega)
  have h3 := tm_bd (a.tmod 21 + 21) (n := 21) (by omega)
  have hw : wrap64 (a.tmod 21 + 21) = a.tmod 21 + 21 := by unfold wrap64; omega
  have hw2 : IntKind.i64.wrap (a.tmod 21 + 21) = a.tmod 21 + 21 := by rw [IntKind.wrap_i64]; omega
  obtain ⟨n, hn⟩ : ∃ n : Nat, (a.tmod 21 + 21).tmod 21 = (n : Int) := ⟨((a.tmod 21 + 21).tmod 21).toNat, by omega⟩
  have HN : Hid (n ≤ 20) := by unfold Hid; omega
  clear h1 h2 h3
  go_enter Try.func14, Try.ntmps14
  go_wp2
  go_ret
  exact ⟨⟨n, HN.out, rfl⟩, rfl⟩
theorem mixedF : Try.prog.follows .mixedOrders = true := by kernel_rfl
theorem underR : ∃ fs, Try.prog.underlying 28 = some (.struct fs) := by
  have h : (match Try.prog.underlying 28 with | some (.struct _) => true | _ => false) = true := by kernel_rfl
  split at h
  · rename_i fs hfs; exact ⟨fs, hfs⟩
  · cases h
theorem infoR4 : (Try.prog.info? 28).map (·.size) = some 4 := by kernel_rfl
theorem bo4 {w : World} {g : Nat} {t : TypeId} {a b c d a' b' c' d' : Value} (h : Bo w g t #[a, b, c, d]) : Bo ((((w.setCell ⟨g, 0, none⟩ a').setCell ⟨g, 1, none⟩ b').setCell ⟨g, 2, none⟩ c').setCell ⟨g, 3, none⟩ d') g t #[a', b', c', d'] :=
  (((h.set 0 a').set 1 b').set 2 c').set 3 d'
set_option maxHeartbeats 2000000 in
theorem fewC (X Y V H : Int) (w : World) : Calls Try.prog 8 #[.agg #[.int .i64 X, .int .i64 Y, .int .i64 V, .int .i64 H]] w fun e w' => (∃ (x y : Int) (n m : Nat), (-1000 ≤ x ∧ x ≤ 1000) ∧ (-1000 ≤ y ∧ y ≤ 1000) ∧ n ≤ 20 ∧ m ≤ 20 ∧ e = .returned (.agg #[.int .i64 x, .int .i64 y, .int .i64 (n : Nat), .int .i64 (m : Nat)])) ∧ w.grownBy w' none := by
  obtain ⟨V1, hV1, sV1, g1, B1⟩ := boxn w #[.int .i64 X, .int .i64 Y, .int .i64 V, .int .i64 H] 28
  have r0 := B1.cell 0 (v := .int .i64 X) rfl
  have r1 := B1.cell 1 (v := .int .i64 Y) rfl
  have r2 := B1.cell 2 (v := .int .i64 V) rfl
  have r3 := B1.cell 3 (v := .int .i64 H) rfl
  obtain ⟨V2, hV2, sV2, g2, B2⟩ := boxn V1 #[.int .i64 0, .int .i64 0, .int .i64 0, .int .i64 0] 28
  have s0 := (B1.kept g2 (by simp)).cell 0 (v := .int .i64 X) rfl
  have s1 := (B1.kept g2 (by simp)).cell 1 (v := .int .i64 Y) rfl
  have s2 := (B1.kept g2 (by simp)).cell 2 (v := .int .i64 V) rfl
  have s3 := (B1.kept g2 (by simp)).cell 3 (v := .int .i64 H) rfl
  have z0 := B2.cell 0 (v := .int .i64 0) rfl
  have z1 := B2.cell 1 (v := .int .i64 0) rfl
  have z2 := B2.cell 2 (v := .int .i64 0) rfl
  have z3 := B2.cell 3 (v := .int .i64 0) rfl
  have y0 := B2.frozen 0
  have y1 := B2.frozen 1
  have y2 := B2.frozen 2
  have y3 := B2.frozen 3
  have bx := tm_bd X (n := 1001) (by omega)
  have by' := tm_bd Y (n := 1001) (by omega)
  have HBD : Hid ((-1000 ≤ X.tmod 1001 ∧ X.tmod 1001 ≤ 1000) ∧ (-1000 ≤ Y.tmod 1001 ∧ Y.tmod 1001 ≤ 1000)) := ⟨⟨by omega, by omega⟩, ⟨by omega, by omega⟩⟩
  clear bx by'
  have ap1 : w.heap.size ≠ V1.heap.size := by have := sV1.out; omega
  have ap2 : V1.heap.size ≠ w.heap.size := by have := sV1.out; omega
  go_enter Try.func8, Try.ntmps8
  go_wp2
  go_region_held2 (fun w' => w'.cell? ⟨w.heap.size, 0, none⟩ = some (.int .i64 X) ∧ w'.cell? ⟨w.heap.size, 1, none⟩ = some (.int .i64 Y) ∧ w'.cell? ⟨w.heap.size, 2, none⟩ = some (.int .i64 V) ∧ w'.cell? ⟨w.heap.size, 3, none⟩ = some (.int .i64 H)) (go_keep) (first | (go_at_call 14; (fail_if_success (guard_hyp mk)); refine (upC V _).mono ?_; rintro e w8 ⟨⟨n, hn, rfl⟩, hw8⟩; subst w8; have mk : True := trivial) | (go_at_call 14; guard_hyp mk; refine (upC H _).mono ?_; rintro e w8 ⟨⟨m, hm, rfl⟩, hw8⟩; subst w8))
  go_wp2
  obtain ⟨fs, hfs⟩ := underR
  refine ret_c1 (g := V1.heap.size) (cs := #[.int .i64 (X.tmod 1001), .int .i64 (Y.tmod 1001), .int .i64 (n : Nat), .int .i64 (m : Nat)]) rfl hfs infoR4 rfl (bo4 B2).dr rfl ?_
  have hz := g1.size
  exact ⟨⟨_, _, n, m, HBD.out.1, HBD.out.2, hn, hm, rfl⟩, gb_drew (gb_own' (gb_own' (gb_own' (gb_own' (gb_trans g1 g2) hz _) hz _) hz _) hz _)⟩
theorem wrap_suc {q : Nat} (h : q ≤ 1000) : IntKind.i64.wrap ((q : Int) + 1) = (q : Int) + 1 := by rw [IntKind.wrap_i64]; omega
theorem wsm {a : Int} (h : -5000 ≤ a ∧ a ≤ 5000) : wrap64 a = a := by unfold wrap64; omega
/-- States in memory. -/
def Sb (w : World) (sp : Option Addr) (L : Nat) (st : Nat → Nat) : Prop := ∀ k, k < L → ∃ q o, sp = some ⟨q, o, none⟩ ∧ w.cell? ⟨q, o + k, none⟩ = some (.int .u8 (st k : Nat))
theorem Sb.kept {w w' : World} {sp : Option Addr} {L : Nat} {st : Nat → Nat} {r : Option Nat} (h : Sb w sp L st) (hg : w.grownBy w' r) (hne : ∀ a, sp = some a → some a.block ≠ r) : Sb w' sp L st := fun k hk => by
  obtain ⟨q, o, rfl, h1⟩ := h k hk
  exact ⟨q, o, rfl, hg.cell h1 (hne ⟨q, o, none⟩ rfl)⟩
/-- The cells that laid lays. -/
def ldI (X Y : Int) (n L : Nat) (st : Nat → Nat) (j i : Nat) : List Cx := if j * (n + 2) + i < L then [(X - 1 + (i : Int), Y - 1 + (j : Int), st (j * (n + 2) + i))] else []
def ldR (X Y : Int) (n L : Nat) (st : Nat → Nat) (j k : Nat) : List Cx := (List.range k).flatMap (ldI X Y n L st j)
def ldP (X Y : Int) (n L : Nat) (st : Nat → Nat) (k : Nat) : List Cx := (List.range k).flatMap fun j => ldR X Y n L st j (n + 2)
theorem ldR_succ (X Y : Int) (n L : Nat) (st : Nat → Nat) (j k : Nat) : ldR X Y n L st j (k + 1) = ldR X Y n L st j k ++ ldI X Y n L st j k := by unfold ldR; rw [List.range_succ, List.flatMap_append]; simp
theorem ldP_succ (X Y : Int) (n L : Nat) (st : Nat → Nat) (k : Nat) : ldP X Y n L st (k + 1) = ldP X Y n L st k ++ ldR X Y n L st k (n + 2) := by unfold ldP; rw [List.range_succ, List.flatMap_append]; simp
theorem ldI_len (X Y : Int) (n L : Nat) (st : Nat → Nat) (j k : Nat) : (ldI X Y n L st j k).length ≤ 1 := by unfold ldI; split <;> simp
theorem ldR_len (X Y : Int) (n L : Nat) (st : Nat → Nat) (j : Nat) : ∀ k, (ldR X Y n L st j k).length ≤ k
  | 0 => by simp [ldR]
  | k + 1 => by rw [ldR_succ, List.length_append]; have := ldR_len X Y n L st j k; have := ldI_len X Y n L st j k; omega
theorem ldP_len (X Y : Int) (n L : Nat) (st : Nat → Nat) : ∀ k, (ldP X Y n L st k).length ≤ k * (n + 2)
  | 0 => by simp [ldP]
  | k + 1 => by rw [ldP_succ, List.length_append, Nat.add_mul]; have := ldP_len X Y n L st k; have := ldR_len X Y n L st k (n + 2); omega
set_option maxHeartbeats 4000000 in
theorem laidC (X Y : Int) (hX : -1000 ≤ X ∧ X ≤ 1000) (hY : -1000 ≤ Y ∧ Y ≤ 1000) (n m : Nat) (hn : n ≤ 20) (hm : m ≤ 20) (sp : Option Addr) (L cap : Nat) (hL : L < 4611686018427387904) (st : Nat → Nat) (w : World) (hs : Sb w sp L st) :
    Calls Try.prog 9 #[.agg #[.int .i64 X, .int .i64 Y, .int .i64 (n : Nat), .int .i64 (m : Nat)], .slice sp L cap] w fun e w' => ∃ v, e = .returned v ∧ Own w' w.heap.size v (ldP X Y n L st (m + 2)) ∧ w.grownBy w' none := by
  obtain ⟨i0, hi⟩ := info_parts infoCx
  have HI : Hid (Try.prog.info? 40 = some i0 ∧ i0.zero = some (.agg #[.int .i64 0, .int .i64 0, .int .u8 0]) ∧ i0.size = 3 ∧ i0.bytes = 24) := hi
  clear hi
  have HSb : Hid (Sb w sp L st) := hs
  clear hs
  obtain ⟨V1, hV1, sV1, g1, B1⟩ := boxn w #[.int .i64 X, .int .i64 Y, .int .i64 (n : Nat), .int .i64 (m : Nat)] 28
  have r0 := B1.cell 0 (v := .int .i64 X) rfl
  have r1 := B1.cell 1 (v := .int .i64 Y) rfl
  have r2 := B1.cell 2 (v := .int .i64 (n : Nat)) rfl
  have r3 := B1.cell 3 (v := .int .i64 (m : Nat)) rfl
  have wa : wrap64 (Y - 1) = Y - 1 := by unfold wrap64; omega
  have wb : wrap64 (Y + (m : Int)) = Y + (m : Int) := by unfold wrap64; omega
  have wc : wrap64 (X - 1) = X - 1 := by unfold wrap64; omega
  have wd : wrap64 (X + (n : Int)) = X + (n : Int) := by unfold wrap64; omega
  have HXY : Hid ((-1000 ≤ X ∧ X ≤ 1000) ∧ (-1000 ≤ Y ∧ Y ≤ 1000) ∧ n ≤ 20 ∧ m ≤ 20) := ⟨hX, hY, hn, hm⟩
  clear hX hY hn hm
  go_enter Try.func9, Try.ntmps9
  go_wp2
  rw [wa]
  clear r0 r1 r2 r3
  obtain ⟨B0, hB0⟩ : ∃ B0, w.heap.size + 1 = B0 := ⟨_, rfl⟩
  have HB0 : Hid (w.heap.size + 1 = B0) := hB0
  have hsV : B0 ≤ V1.heap.size := by have := sV1.out; omega
  clear hB0
  go_loopw [5, 6, 7] (fun v vk vy wr => ∃ j : Nat, j ≤ m + 2 ∧ vy = .int .i64 (Y - 1 + (j : Int)) ∧ vk = .int .i64 ((j * (n + 2) : Nat) : Int) ∧ Own wr B0 v (ldP X Y n L st j) ∧ w.grownBy wr none ∧ Hid (B0 ≤ wr.heap.size) ∧ Bo wr w.heap.size 28 #[.int .i64 X, .int .i64 Y, .int .i64 (n : Nat), .int .i64 (m : Nat)]) (fun _ _ vy _ => (Y + (m : Int) + 1 - intOf vy).toNat)
  case atStart => exact ⟨0, Nat.zero_le _, by simp, by simp, World.ownsRow_nil _ _ _ _, g1, hsV, B1⟩
  case round =>
    obtain ⟨j, hj, rfl, rfl, own, hg, HZ, BB⟩ := hrel
    obtain ⟨sp9, cp9, rfl, _, _⟩ := ce_of own
    have r0 := BB.cell 0 (v := .int .i64 X) rfl
    have r1 := BB.cell 1 (v := .int .i64 Y) rfl
    have r2 := BB.cell 2 (v := .int .i64 (n : Nat)) rfl
    have r3 := BB.cell 3 (v := .int .i64 (m : Nat)) rfl
    by_cases hlt : j < m + 2
    · have hc : Y - 1 + (j : Int) ≤ Y + (m : Int) := by omega
      have hlp := ldP_len X Y n L st j
      have hxy := HXY.out
      have hmul : j * (n + 2) ≤ 22 * 22 := Nat.mul_le_mul (by omega) (by omega)
      obtain ⟨b, hb⟩ : ∃ b, j * (n + 2) = b := ⟨_, rfl⟩
      have HBb : Hid (j * (n + 2) = b) := hb
      rw [hb] at hlp hmul ⊢
      have HLP : Hid ((ldP X Y n L st j).length ≤ b ∧ b ≤ 484) := ⟨hlp, hmul⟩
      have hwy : wrap64 (Y - 1 + (j : Int) + 1) = Y - 1 + (j : Int) + 1 := wsm (by omega)
      clear hb hlp hmul hxy
      go_wp2
      try simp only [wb, wc]
      clear r0 r1 r2 r3
      go_loopw [5, 6, 8] (fun v vk vx wr => ∃ i : Nat, i ≤ n + 2 ∧ vx = .int .i64 (X - 1 + (i : Int)) ∧ vk = .int .i64 ((b + i : Nat) : Int) ∧ Own wr B0 v (ldP X Y n L st j ++ ldR X Y n L st j i) ∧ w.grownBy wr none ∧ Hid (B0 ≤ wr.heap.size) ∧ Bo wr w.heap.size 28 #[.int .i64 X, .int .i64 Y, .int .i64 (n : Nat), .int .i64 (m : Nat)]) (fun _ _ vx _ => (X + (n : Int) + 1 - intOf vx).toNat)
      case atStart => exact ⟨0, Nat.zero_le _, by simp, by simp, by rw [show ldR X Y n L st j 0 = [] by simp [ldR], List.append_nil]; exact own, hg, HZ, BB⟩
      case round =>
        obtain ⟨i, hi, rfl, rfl, own, hg, HZ, BB⟩ := hrel
        obtain ⟨sp9, cp9, rfl, _, _⟩ := ce_of own
        have r0 := BB.cell 0 (v := .int .i64 X) rfl
        have r1 := BB.cell 1 (v := .int .i64 Y) rfl
        have r2 := BB.cell 2 (v := .int .i64 (n : Nat)) rfl
        have r3 := BB.cell 3 (v := .int .i64 (m : Nat)) rfl
        by_cases hli : i < n + 2
        · have hcx : X - 1 + (i : Int) ≤ X + (n : Int) := by omega
          have hwx : wrap64 (X - 1 + (i : Int) + 1) = X - 1 + (i : Int) + 1 := wsm (by have := HXY.out; omega)
          obtain ⟨q, hq⟩ : ∃ q, b + i = q := ⟨_, rfl⟩
          have HQ : Hid (b + i = q) := hq
          have hqb : q ≤ 1000 := by have h1 := HLP.out; have h2 := HXY.out; clear hwx hwy wa wb wc wd hcx hc; omega
          have HNX : Hid (((b + (i + 1) : Nat) : Int) = (q : Int) + 1) := by unfold Hid; omega
          rw [hq]
          clear hq
          have hwq : wrap64 ((q : Int) + 1) = (q : Int) + 1 := wsm ⟨by clear hwx hwy wa wb wc wd hcx hc; omega, by clear hwx hwy wa wb wc wd hcx hc; omega⟩
          clear hi hlt hj
          have hwq2 : IntKind.i64.wrap ((q : Int) + 1) = (q : Int) + 1 := wrap_suc hqb
          by_cases hqL : q < L
          · have hqL' : (q : Int) < (L : Int) := Int.ofNat_lt.2 hqL
            obtain ⟨q0, o, hsp, hst⟩ := (HSb.out.kept hg (by simp)) q hqL
            subst hsp
            have HI1 : Hid (ldI X Y n L st j i = [(X - 1 + (i : Int), Y - 1 + (j : Int), st q)]) := by unfold Hid ldI; rw [HBb.out, HQ.out, if_pos hqL]
            have hll : (ldP X Y n L st j ++ ldR X Y n L st j i).length ≤ 1000 := by have h1 := ldR_len X Y n L st j i; have h2 := HLP.out; have h3 := HXY.out; rw [List.length_append]; clear hwx hwy wa wb wc wd hcx hc hwq hwq2 hqL' hqL; omega
            have hzz := HZ.out
            go_wp2_with (at_builtin; refine wpList_append_own _ rfl _ _ 31 rfl B0 40 i0 (.agg #[.int .i64 0, .int .i64 0, .int .u8 0]) 3 24 underCS HI.out.1 HI.out.2.1 HI.out.2.2.1 HI.out.2.2.2 rfl (by decide) _ _ _ rfl (own.alloc _) ⟨wr.heap.size, 0, none⟩ 1 1 [.int .i64 (X - 1 + (i : Int)), .int .i64 (Y - 1 + (j : Int)), .int .u8 (st q : Nat)] rfl rfl (new3 _ _ _ _ _) ?_ ?_ ?_ ?_ ?_; rotate_right; intro v4 w4 hown4 hgrow4 hnil4)
            · have HA := own.alloc (.cells #[.int .i64 (X - 1 + (i : Int)), .int .i64 (Y - 1 + (j : Int)), .int .u8 (st q : Nat)] 40)
              have ga := World.grownBy_alloc wr (.cells #[.int .i64 (X - 1 + (i : Int)), .int .i64 (Y - 1 + (j : Int)), .int .u8 (st q : Nat)] 40) none
              have G4 := gb_row (gb_alloc hg (.cells #[.int .i64 (X - 1 + (i : Int)), .int .i64 (Y - 1 + (j : Int)), .int .u8 (st q : Nat)] 40)) hgrow4 (fun i e => by have h1 := (HA.lt i e).1; have h2 := HB0.out; clear hwx hwy wa wb wc wd hcx hc hwq hwq2 hqL' hqL; omega)
              have own4 : Own w4 B0 v4 ((ldP X Y n L st j ++ ldR X Y n L st j i) ++ [(X - 1 + (i : Int), Y - 1 + (j : Int), st q)]) := by unfold Own; rw [ccs_snoc, List.length_append]; exact hown4
              have BB4 := (BB.kept ga (by simp)).kept hgrow4 (fun e => by have h1 := (HA.lt _ e.symm).1; have h2 := HB0.out; clear hwx hwy wa wb wc wd hcx hc hwq hwq2 hqL' hqL; omega)
              have HZ4 : Hid (B0 ≤ w4.heap.size) := Nat.le_trans hzz (Nat.le_trans ga.size hgrow4.size)
              clear hown4 hgrow4
              go_wp2
              go_roundw
              case rel => exact ⟨i + 1, hli, by go_num, by rw [HNX.out], by rw [ldR_succ, HI1.out, ← List.append_assoc]; exact own4, G4, HZ4, BB4⟩
              case measure => simp [intOf]; omega
            · intro u hu
              simp at hu
              rcases hu with rfl | rfl | rfl <;> rfl
            · unfold maxLen; clear hwx hwy wa wb wc wd hcx hc hwq hwq2 hqL' hqL; omega
            · clear hwx hwy wa wb wc wd hcx hc hwq hwq2 hqL' hqL; omega
            · exact Nat.le_trans hzz (World.grownBy_alloc wr _ none).size
          · have hqL' : ¬ (q : Int) < (L : Int) := fun h => hqL (Int.ofNat_lt.1 h)
            have HI1 : Hid (ldI X Y n L st j i = []) := by unfold Hid ldI; rw [HBb.out, HQ.out, if_neg hqL]
            go_wp2
            go_roundw
            case rel => exact ⟨i + 1, hli, by go_num, by rw [HNX.out], by rw [ldR_succ, HI1.out, List.append_nil]; exact own, hg, HZ, BB⟩
            case measure => simp [intOf]; omega
        · have hin : i = n + 2 := Nat.le_antisymm hi (Nat.not_lt.1 hli)
          have hcx : ¬ X - 1 + (i : Int) ≤ X + (n : Int) := by clear hwy wa wb wc wd hc; omega
          have HPS : Hid (ldP X Y n L st (j + 1) = ldP X Y n L st j ++ ldR X Y n L st j i) := by unfold Hid; rw [hin]; exact ldP_succ X Y n L st j
          have HNJ : Hid (((j + 1) * (n + 2) : Nat) = b + i) := by unfold Hid; rw [Nat.add_mul, HBb.out, hin, Nat.one_mul]
          clear hin hli hi
          go_wp2
          go_roundw
          case rel => exact ⟨j + 1, hlt, by go_num, by rw [HNJ.out], by rw [HPS.out]; exact own, hg, HZ, BB⟩
          case measure => simp [intOf]; omega
    · have hjm : j = m + 2 := by omega
      have hc : ¬ Y - 1 + (j : Int) ≤ Y + (m : Int) := by omega
      have HJ : Hid (j = m + 2) := hjm
      clear hjm hlt hj
      go_wp2
      go_ret
      refine ⟨_, rfl, ?_, hg⟩
      have h9 := row_mono own (show w.heap.size ≤ B0 by have := HB0.out; omega)
      rw [← HJ.out]
      exact h9
end Go.Proofs.Ytjacoifhjfipaab
