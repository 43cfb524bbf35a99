/- The document's Count of every list of rows. -/
import Derived.Lib.Hide
import Derived.Test.YtcdefpfnjjahgabV1
import Derived.Test.YtcdefpfnjjahgabW52
import Derived.Test.YtcdefpfnjjahgabBo
namespace Go.Proofs.Ytcdefpfnjjahgab
open Go.RowKit
set_option linter.unusedVariables false
set_option linter.unusedSimpArgs false
set_option maxRecDepth 100000

/-- A list of k rows from a place of the block q on. -/
def RwsO (w : World) (q o k : Nat) (r : Nat → RD) : Prop :=
  ∀ j, j < k → w.cell? ⟨q, o + j * 2, none⟩ = some (.int .i64 (r j).N) ∧ w.cell? ⟨q, o + j * 2 + 1, none⟩ = some (.slice (r j).sp (r j).n (r j).cap) ∧ (r j).ok w
theorem RwsO.kept {w w' : World} {q o k : Nat} {r : Nat → RD} (h : RwsO w q o k r) (hg : w.grownBy w' none) : RwsO w' q o k r := fun j hj => by
  obtain ⟨h0, h1, h2⟩ := h j hj
  exact ⟨hg.cell h0 (by simp), hg.cell h1 (by simp), h2.kept hg (by simp)⟩
set_option maxHeartbeats 1000000 in
theorem fitsO (q o k cap : Nat) (r : Nat → RD) (sp : Option Addr) (hsp : 0 < k → sp = some ⟨q, o, none⟩) (hk : k ≤ 1000000) (w : World) (h : RwsO w q o k r) :
    Calls Try.prog 31 #[.slice sp k cap] w fun e w' => e = .returned (.int .i64 (alikeZ r k)) ∧ w.grownBy w' none := by
  go_enter Try.func31, Try.ntmps31
  go_wp2
  go_loopw [3] (fun i wr => ∃ j : Nat, j ≤ k ∧ i = .int .i64 j ∧ Hid (∀ t, t < j → (r t).valid = true) ∧ w.grownBy wr none) (fun i _ => k - (intOf i).toNat)
  case atStart => exact ⟨0, Nat.zero_le _, rfl, (fun t ht => absurd ht (Nat.not_lt_zero _)), World.grownBy.refl _ _⟩
  case round =>
    obtain ⟨j, hj, rfl, hv, hg⟩ := hrel
    by_cases hlt : j < k
    · obtain rfl := hsp (by omega)
      have hlt' : (j : Int) < (k : Int) := by omega
      obtain ⟨x0, x1, x2⟩ := (h.kept hg) j hlt
      have hrd := refValidRD (r j) wr x2
      cases hvj : (r j).valid with
      | true =>
        rw [hvj] at hrd
        go_wp2_with (first | (go_at_call 46; refine hrd.mono ?_; rintro e w2 ⟨rfl, g2⟩))
        first
          | (go_roundw; (case rel => exact ⟨j + 1, by omega, by go_num, (fun t ht => by
              by_cases e : t = j
              · subst e; exact hvj
              · exact hv.out t (by omega)), gb_trans hg g2⟩); (case measure => (simp [intOf]; omega)))
          | (refine ⟨⟨j + 1, by omega, by go_num, (fun t ht => by
              by_cases e : t = j
              · subst e; exact hvj
              · exact hv.out t (by omega)), gb_trans hg g2⟩, ?_⟩; simp [intOf]; omega)
      | false =>
        rw [hvj] at hrd
        have HZ : Hid (alikeZ r k = 20) := by unfold Hid alikeZ; rw [allV_no hvj hlt]; rfl
        go_wp2_with (first | (go_at_call 46; refine hrd.mono ?_; rintro e w2 ⟨rfl, g2⟩))
        go_ret
        exact ⟨by rw [HZ.out]; rfl, gb_trans hg g2⟩
    · have hlt' : ¬ (j : Int) < (k : Int) := by omega
      have hjk : j = k := by omega
      have HV : Hid (allV r k = true) := allV_yes (fun t ht => hv.out t (by omega))
      clear hjk
      go_wp2
      go_loopw [4] (fun i wr' => ∃ l : Nat, 1 ≤ l ∧ (l ≤ k ∨ l = 1) ∧ i = .int .i64 l ∧ Hid (∀ t, t < l → t < k → (r t).N = (r 0).N) ∧ w.grownBy wr' none) (fun i _ => k - (intOf i).toNat)
      case atStart => exact ⟨1, Nat.le_refl _, .inr rfl, by first | rfl | simp, (fun t ht _ => by rw [show t = 0 by omega]), hg⟩
      case round =>
        obtain ⟨l, hl1, hl, rfl, hn, hgl⟩ := hrel
        by_cases hll : l < k
        · obtain rfl := hsp (by omega)
          have hll' : (l : Int) < (k : Int) := by omega
          have hk0 : (0 : Int) < (k : Int) := by omega
          obtain ⟨x0, x1, x2⟩ := (h.kept hgl) l hll
          obtain ⟨y0, _, _⟩ := (h.kept hgl) 0 (by omega)
          rw [Nat.zero_mul, Nat.add_zero] at y0
          by_cases he : (r l).N = (r 0).N
          · have he' : ((r l).N != (r 0).N) = false := by simp [he]
            have HE : Hid ((r l).N = (r 0).N) := he
            clear he
            go_wp2
            go_quiet (fail)
            go_wp2
            have HN : Hid (∀ t, t < l + 1 → t < k → (r t).N = (r 0).N) := fun t ht h9 => by
              by_cases e : t = l
              · subst e; exact HE.out
              · exact hn.out t (by omega) h9
            first
              | (go_roundw; (case rel => exact ⟨l + 1, by omega, .inl (by omega), by go_num, HN, gb_drewN hgl _⟩); (case measure => (simp [intOf]; omega)))
              | (refine ⟨⟨l + 1, by omega, .inl (by omega), by go_num, HN, gb_drewN hgl _⟩, ?_⟩; simp [intOf]; omega)
          · have he' : ((r l).N != (r 0).N) = true := by simp [he]
            have HZ : Hid (alikeZ r k = 21) := by unfold Hid alikeZ; rw [HV.out, allN_no he hll]; rfl
            go_wp2
            go_quiet (fail)
            go_wp2
            go_ret
            exact ⟨by rw [HZ.out]; rfl, gb_drewN hgl _⟩
        · have hll' : ¬ (l : Int) < (k : Int) := by omega
          have HZ : Hid (alikeZ r k = 0) := by unfold Hid alikeZ; rw [HV.out, allN_yes (fun t ht => hn.out t (by omega) ht)]; rfl
          go_wp2
          go_ret
          exact ⟨by rw [HZ.out]; rfl, hgl⟩

set_option maxHeartbeats 1000000 in
theorem rcountMany (k cap : Nat) (sp : Option Addr) (hk : 15 < k) (hkl : k ≤ 4398046510976) (w : World) :
    Calls Try.prog 12 #[.slice sp k cap] w (MadeF (fun _ => noAns 6) w) := by
  obtain ⟨W1, hW1, hR1, sz1, g1⟩ := box8 w 36 (.int .i64 0) (.slice none 0 0) (.int .i64 0) (.slice none 0 0) (.int .i64 0) (.slice none 0 0) (.int .i64 0) (.slice none 0 0)
  obtain ⟨W2, hW2, hO2, sz2, g2⟩ := box8 W1 36 (.int .i64 0) (.slice none 0 0) (.int .i64 0) (.slice none 0 0) (.int .i64 0) (.slice none 0 0) (.int .i64 0) (.slice none 0 0)
  have hR2 := hR1.kept g2
  have hkd : (15 : Int) < (k : Int) := by omega
  have x0 := hR2.c0
  have xf0 := hR2.f0
  have x1 := hR2.c1
  have xf1 := hR2.f1
  have x2 := hR2.c2
  have xf2 := hR2.f2
  have x3 := hR2.c3
  have xf3 := hR2.f3
  have x4 := hR2.c4
  have xf4 := hR2.f4
  have x5 := hR2.c5
  have xf5 := hR2.f5
  have x6 := hR2.c6
  have xf6 := hR2.f6
  have x7 := hR2.c7
  have xf7 := hR2.f7
  have y0 := hO2.c0
  have yf0 := hO2.f0
  have y1 := hO2.c1
  have yf1 := hO2.f1
  have y2 := hO2.c2
  have yf2 := hO2.f2
  have y3 := hO2.c3
  have yf3 := hO2.f3
  have y4 := hO2.c4
  have yf4 := hO2.f4
  have y5 := hO2.c5
  have yf5 := hO2.f5
  have y6 := hO2.c6
  have yf6 := hO2.f6
  have y7 := hO2.c7
  have yf7 := hO2.f7
  have z0 := hR1.c0
  have zf0 := hR1.f0
  have z1 := hR1.c1
  have zf1 := hR1.f1
  have z2 := hR1.c2
  have zf2 := hR1.f2
  have z3 := hR1.c3
  have zf3 := hR1.f3
  have z4 := hR1.c4
  have zf4 := hR1.f4
  have z5 := hR1.c5
  have zf5 := hR1.f5
  have z6 := hR1.c6
  have zf6 := hR1.f6
  have z7 := hR1.c7
  have zf7 := hR1.f7
  go_enter Try.func12, Try.ntmps12
  go_wp2
  refine ret_box8 (g := w.heap.size) (t := 36) rfl underC infoC rfl (hR2.set _ _ _ _ _ _ _ _) rfl ?_
  exact madeF_bad 6 (gb_new8 (gb_trans g1 g2) (Nat.le_refl _) _ _ _ _ _ _ _ _)
set_option maxHeartbeats 1000000 in
theorem rcountBad (q o k cap : Nat) (r : Nat → RD) (E : Int) (hE : ¬ E = 0) (hz : alikeZ r k = E) (sp : Option Addr) (hsp : 0 < k → sp = some ⟨q, o, none⟩) (hk : k ≤ 15) (w : World) (h : RwsO w q o k r) :
    Calls Try.prog 12 #[.slice sp k cap] w (MadeF (fun _ => noAns E) w) := by
  obtain ⟨W1, hW1, hR1, sz1, g1⟩ := box8 w 36 (.int .i64 0) (.slice none 0 0) (.int .i64 0) (.slice none 0 0) (.int .i64 0) (.slice none 0 0) (.int .i64 0) (.slice none 0 0)
  obtain ⟨W2, hW2, hO2, sz2, g2⟩ := box8 W1 36 (.int .i64 0) (.slice none 0 0) (.int .i64 0) (.slice none 0 0) (.int .i64 0) (.slice none 0 0) (.int .i64 0) (.slice none 0 0)
  have hR2 := hR1.kept g2
  have hkd : decide ((15 : Int) < (k : Int)) = false := by simp; omega
  have hfi := fitsO q o k cap r sp hsp (by omega) W2 (h.kept (gb_trans g1 g2))
  rw [hz] at hfi
  have hne : (E != 0) = true := by simp [hE]
  clear hz hE
  go_enter Try.func12, Try.ntmps12
  go_wp2_with (first | (go_at_call 31; refine hfi.mono ?_; rintro e w3 ⟨rfl, g3⟩; have hR3 := hR2.kept g3; have hO3 := hO2.kept g3; have x0 := hR3.c0; have xf0 := hR3.f0; have y0 := hO3.c0; have x1 := hR3.c1; have xf1 := hR3.f1; have y1 := hO3.c1; have x2 := hR3.c2; have xf2 := hR3.f2; have y2 := hO3.c2; have x3 := hR3.c3; have xf3 := hR3.f3; have y3 := hO3.c3; have x4 := hR3.c4; have xf4 := hR3.f4; have y4 := hO3.c4; have x5 := hR3.c5; have xf5 := hR3.f5; have y5 := hO3.c5; have x6 := hR3.c6; have xf6 := hR3.f6; have y6 := hO3.c6; have x7 := hR3.c7; have xf7 := hR3.f7; have y7 := hO3.c7))
  refine ret_box8 (g := w.heap.size) (t := 36) rfl underC infoC rfl (hR3.set _ _ _ _ _ _ _ _) rfl ?_
  exact madeF_bad E (gb_new8 (gb_trans g1 (gb_trans g2 g3)) (Nat.le_refl _) _ _ _ _ _ _ _ _)

theorem infoIq : (Try.prog.info? 3).map (fun i => (i.zero, i.size, i.bytes)) = some (some (.int .i64 0), 1, 8) := by kernel_rfl
theorem underIq : Try.prog.underlying 68 = some (.slice 3) := by kernel_rfl
theorem madeI (n : Nat) (hn : n ≤ 1000000) : ∃ mc : Array Value, (∀ w, (Instr.makeSlice 68 (.int .i64 n) (.int .i64 n)).run Try.prog w = .ok (.slice (some ⟨w.heap.size, 0, none⟩) n n) (w.alloc (.cells mc 3))) ∧ ∀ w : World, (w.alloc (.cells mc 3)).rowIs w.heap.size 3 n (fun _ => .int .i64 0) :=
  ⟨_, fun w => run_make_row' (P := Try.prog) 68 3 (.int .i64 0) 8 underIq infoIq rfl .i64 .i64 n (by omega) (by omega) w, fun w => World.rowIs_made w (.int .i64 0) n 3⟩

theorem rowIs_gs {S : Nat → Prop} {w w' : World} {b t n : Nat} {F : Nat → Value} (h : w.rowIs b t n F) (hg : Gs S w w') (hn : ¬ S b) : w'.rowIs b t n F := h.of_block (hg.block b h.lt hn)
theorem Bo.gs {S : Nat → Prop} {w w' : World} {g : Nat} {t : TypeId} {cs : Array Value} (h : Bo w g t cs) (hg : Gs S w w') (hn : ¬ S g) : Bo w' g t cs := (hg.block g h.lt hn).trans h
theorem half_is (x d : Nat) : x / 2 ^ d / 2 = x / 2 ^ (d + 1) := by rw [Nat.div_div_eq_div_mul, Nat.pow_succ]
theorem dig_is (x d : Nat) : (x / 2 ^ d % 2 == 1) = x.testBit d := by rw [Nat.testBit_eq_decide_div_mod_eq]; rfl
theorem zb (z : Nat) : ((z : Int) % 2 == 1) = (z % 2 == 1) := by
  by_cases h : z % 2 = 1
  · have h2 : (z : Int) % 2 = 1 := by omega
    simp [h, h2]
  · have h2 : ¬ (z : Int) % 2 = 1 := by omega
    have e1 : (z % 2 == 1) = false := by simp; omega
    have e2 : ((z : Int) % 2 == 1) = false := by simp; omega
    rw [e1, e2]

theorem rcount_done {r : Nat → RD} {k m n c : Nat} {pp P : Nat → Nat → Bool} {w w' : World} {b0 b1 b2 b3 : Nat} (F : Many r k m n pp) (hP : (fun j => Pk.bitAt (r j).f) = P) (hc : c = (m + 63) / 64)
    (k0 : Row w' 22 b0 c (fun t => decide (t < m) && (cn P k t).testBit 0)) (k1 : Row w' 22 b1 c (fun t => decide (t < m) && (cn P k t).testBit 1)) (k2 : Row w' 22 b2 c (fun t => decide (t < m) && (cn P k t).testBit 2)) (k3 : Row w' 22 b3 c (fun t => decide (t < m) && (cn P k t).testBit 3))
    (ho : w.heap.size ≤ b0 ∧ b0 < b1 ∧ b1 < b2 ∧ b2 < b3) (hg : w.grownBy w' none) : MadeF (fun d => okAns m (fun t => dgF P k d t)) w (.returned (.tuple #[.agg #[.int .i64 (m : Nat), .slice (some ⟨b0, 0, none⟩) c c, .int .i64 (m : Nat), .slice (some ⟨b1, 0, none⟩) c c, .int .i64 (m : Nat), .slice (some ⟨b2, 0, none⟩) c c, .int .i64 (m : Nat), .slice (some ⟨b3, 0, none⟩) c c], .int .i64 0])) w' := by
  have hcn : c = n := by rw [hc, F.hn]
  have fd : ∀ d t, t < 64 * c → (decide (t < m) && (cn P k t).testBit d) = dgF P k d t := fun d t ht => by
    by_cases h : t < m
    · rw [decide_eq_true h, Bool.true_and]; rfl
    · rw [decide_eq_false h, Bool.false_and]
      have h0 : cn P k t = 0 := by
        rw [cn_congr (Q := fun _ _ => false) k (fun j hj => by
          rw [← hP]
          show Pk.bitAt (r j).f t = false
          rw [bitAt_of (F.ef j hj) (by rw [← hcn]; exact ht)]
          exact (F.may j hj).tail t (by omega))]
        have : ∀ k, cn (fun _ _ => false) k t = 0 := fun k => by
          induction k with
          | zero => rfl
          | succ k ih => rw [cn, ih]; rfl
        exact this k
      unfold dgF
      rw [h0, Nat.zero_testBit]
  refine ⟨fun d => some ⟨[b0, b1, b2, b3].getD d 0, 0, none⟩, ?_, ?_, ?_, ?_, hg⟩
  · show _ = Ending.returned (.tuple #[.agg #[.int .i64 (m : Int), .slice (some ⟨b0, 0, none⟩) ((m + 63) / 64) ((m + 63) / 64), .int .i64 (m : Int), .slice (some ⟨b1, 0, none⟩) ((m + 63) / 64) ((m + 63) / 64), .int .i64 (m : Int), .slice (some ⟨b2, 0, none⟩) ((m + 63) / 64) ((m + 63) / 64), .int .i64 (m : Int), .slice (some ⟨b3, 0, none⟩) ((m + 63) / 64) ((m + 63) / 64)], .int .i64 0])
    rw [← hc]
  · intro d hd
    show Gr w' _ ((m + 63) / 64) (Pk.pack _)
    rw [← hc]
    rcases (show d = 0 ∨ d = 1 ∨ d = 2 ∨ d = 3 by omega) with rfl | rfl | rfl | rfl
    · exact gr_row (k0.congr (fd 0))
    · exact gr_row (k1.congr (fd 1))
    · exact gr_row (k2.congr (fd 2))
    · exact gr_row (k3.congr (fd 3))
  · intro d hd x hx
    cases hx
    rcases (show d = 0 ∨ d = 1 ∨ d = 2 ∨ d = 3 by omega) with rfl | rfl | rfl | rfl
    · exact ho.1
    · show _ ≤ b1; omega
    · show _ ≤ b2; omega
    · show _ ≤ b3; omega
  · intro i j hi hj hij a b ha hb
    cases ha
    cases hb
    show [b0, b1, b2, b3].getD i 0 ≠ [b0, b1, b2, b3].getD j 0
    rcases (show i = 0 ∨ i = 1 ∨ i = 2 ∨ i = 3 by omega) with rfl | rfl | rfl | rfl <;> rcases (show j = 0 ∨ j = 1 ∨ j = 2 ∨ j = 3 by omega) with rfl | rfl | rfl | rfl <;> simp <;> omega

set_option maxHeartbeats 4000000 in
theorem rcountY (q o k cap : Nat) (r : Nat → RD) (sp : Option Addr) (hsp : 0 < k → sp = some ⟨q, o, none⟩) (hk : k ≤ 15) (m n : Nat) (pp : Nat → Nat → Bool) (F : Many r k m n pp) (hz : alikeZ r k = 0) (w : World) (h : RwsO w q o k r) :
    Calls Try.prog 12 #[.slice sp k cap] w (MadeF (fun d => okAns m (fun t => dgF (fun j => Pk.bitAt (r j).f) k d t)) w) := by
  obtain ⟨W1, hW1, hR1, sz1, g1⟩ := box8 w 36 (.int .i64 0) (.slice none 0 0) (.int .i64 0) (.slice none 0 0) (.int .i64 0) (.slice none 0 0) (.int .i64 0) (.slice none 0 0)
  obtain ⟨W2, hW2, hO2, sz2, g2⟩ := box8 W1 36 (.int .i64 0) (.slice none 0 0) (.int .i64 0) (.slice none 0 0) (.int .i64 0) (.slice none 0 0) (.int .i64 0) (.slice none 0 0)
  have hR2 := hR1.kept g2
  have hkd : decide ((15 : Int) < (k : Int)) = false := by simp; omega
  have hfi := fitsO q o k cap r sp hsp (by omega) W2 (h.kept (gb_trans g1 g2))
  rw [hz] at hfi
  clear hz
  have hml := F.hm
  obtain ⟨ms, hms, hms2⟩ := madeI m (by omega)
  obtain ⟨mc, hmk, hmc⟩ := madeB m (by omega)
  obtain ⟨P, hP⟩ : ∃ P : Nat → Nat → Bool, (fun j => Pk.bitAt (r j).f) = P := ⟨_, rfl⟩
  have HP : Hid ((fun j => Pk.bitAt (r j).f) = P) := hP
  rw [hP]
  clear hP
  go_enter Try.func12, Try.ntmps12
  go_wp2_with (first | (go_at_call 31; refine hfi.mono ?_; rintro e w3 ⟨rfl, g3⟩; refine Hid.out ?_))
  refine Lib.hid ?_
  have G3 := gb_trans g1 (gb_trans g2 g3)
  have hR3 := hR2.kept g3
  have hO3 := hO2.kept g3
  have H0 : Hid (k = 0 → m = 0) := F.h0
  have HN0 : Hid (0 < k → (r 0).N = (m : Int)) := fun h0 => F.eN 0 h0
  obtain ⟨W4, hW4⟩ : ∃ V, w3.alloc (.cells ms 3) = V := ⟨_, rfl⟩
  have g4 : w3.grownBy W4 none := (by rw [← hW4]; exact World.grownBy_alloc _ _ _)
  have S4 : W4.rowIs w3.heap.size 3 m (fun _ => .int .i64 0) := (by rw [← hW4]; exact hms2 w3)
  by_cases hk0 : k = 0
  · subst hk0
    have hm0 := H0.out rfl
    subst hm0
    have hms0 : ∀ w, (Instr.makeSlice 68 (.int .i64 0) (.int .i64 0)).run Try.prog w = .ok (.slice (some ⟨w.heap.size, 0, none⟩) 0 0) (w.alloc (.cells ms 3)) := hms
    have hmk0 : ∀ w, (Instr.makeSlice 54 (.int .i64 0) (.int .i64 0)).run Try.prog w = .ok (.slice (some ⟨w.heap.size, 0, none⟩) 0 0) (w.alloc (.cells mc 4)) := hmk
    have hrw0 : ∀ W LL, Calls Try.prog 33 #[.slice (some ⟨LL, 0, none⟩) 0 0] W fun e w' => ∃ b, e = .returned (.agg #[.int .i64 0, .slice (some ⟨b, 0, none⟩) 0 0]) ∧ Row w' 22 b 0 (fun i => decide (i < 0) && false) ∧ W.grownBy w' none ∧ W.heap.size ≤ b := fun W LL => refRowC 0 0 (some ⟨LL, 0, none⟩) (fun _ => false) (by decide) W (fun k hk => absurd hk (Nat.not_lt_zero _))
    have O0 : Bo W4 W1.heap.size 36 #[.int .i64 0, .slice none 0 0, .int .i64 0, .slice none 0 0, .int .i64 0, .slice none 0 0, .int .i64 0, .slice none 0 0] := hO3.kept g4
    have Q0 : Bo W4 w.heap.size 36 #[.int .i64 0, .slice none 0 0, .int .i64 0, .slice none 0 0, .int .i64 0, .slice none 0 0, .int .i64 0, .slice none 0 0] := hR3.kept g4
    have T0 : w.grownBy W4 none := gb_trans G3 g4
    have lwO : w.heap.size ≤ W1.heap.size := g1.size
    have ltR := hR1.lt
    have nQO : W1.heap.size ≠ w.heap.size := by omega
    have ltO := O0.lt
    have HF : Hid (Many r 0 0 n pp) := F
    clear hms hmk hfi
    go_wp2
    refine wp_loop_rounds 1 ?_
    rw [rounds_succ]
    go_wp2
    refine wp_loop_rounds 5 ?_
    rw [rounds_succ]
    obtain ⟨V0, hV0⟩ : ∃ V, W4.alloc (.cells mc 4) = V := ⟨_, rfl⟩
    have gv0 : W4.grownBy V0 none := (by rw [← hV0]; exact World.grownBy_alloc _ _ _)
    have zv0 := gv0.size
    have lO0 := O0.lt
    go_wp2
    refine wp_loop_rounds 1 ?_
    rw [rounds_succ]
    go_wp2_with (first | (go_at_call 33; go_loud (refine (hrw0 _ _).mono ?_; rintro e w8 ⟨b0, rfl, hr8, g8, hb0⟩; have Ob0 := (O0.kept gv0 (by simp)).kept g8 (by simp); have Qb0 := (Q0.kept gv0 (by simp)).kept g8 (by simp); have lb0 := hr8.lt; have hne0 : b0 ≠ W1.heap.size := (by omega); have oc00 := Ob0.cell 0 (v := .int .i64 0) rfl; have oc01 := Ob0.cell 1 (v := .slice none 0 0) rfl; have of00 := Ob0.frozen 0; have of01 := Ob0.frozen 1; obtain ⟨y1, hy1⟩ : ∃ V, (w8.setCell ⟨W1.heap.size, 0, none⟩ (.int .i64 0)).setCell ⟨W1.heap.size, 1, none⟩ (.slice (some ⟨b0, 0, none⟩) 0 0) = V := ⟨_, rfl⟩; have O1 : Bo y1 W1.heap.size 36 #[.int .i64 0, .slice (some ⟨b0, 0, none⟩) 0 0, .int .i64 0, .slice none 0 0, .int .i64 0, .slice none 0 0, .int .i64 0, .slice none 0 0] := hy1 ▸ (Ob0.set 0 (.int .i64 0)).set 1 (.slice (some ⟨b0, 0, none⟩) 0 0); have Q1 : Bo y1 w.heap.size 36 #[.int .i64 0, .slice none 0 0, .int .i64 0, .slice none 0 0, .int .i64 0, .slice none 0 0, .int .i64 0, .slice none 0 0] := hy1 ▸ (Qb0.set2 nQO).set2 nQO; have K10 : Row y1 22 b0 0 (fun i => decide (i < 0) && false) := hy1 ▸ World.rowIs.setOther (World.rowIs.setOther hr8 (a := ⟨W1.heap.size, 0, none⟩) hne0 _) (a := ⟨W1.heap.size, 1, none⟩) hne0 _; have T1 : w.grownBy y1 none := hy1 ▸ gb_new (gb_new (gb_trans (gb_trans T0 gv0) g8) (a := ⟨W1.heap.size, 0, none⟩) lwO (.int .i64 0)) (a := ⟨W1.heap.size, 1, none⟩) lwO (.slice (some ⟨b0, 0, none⟩) 0 0); have zy1 : y1.heap.size = w8.heap.size := (by rw [← hy1]; simp [World.setCell]))))
    have ob0 : W1.heap.size < b0 ∧ w.heap.size < b0 ∧ b0 < y1.heap.size := by omega
    obtain ⟨p02, p03, p04⟩ := ob0
    clear Ob0 Qb0 oc00 oc01 of00 of01 hr8 g8 lb0 hb0 zy1 zv0 lO0 hy1 hV0 gv0 O0 Q0 T0
    rw [rounds_succ]
    obtain ⟨V1, hV1⟩ : ∃ V, y1.alloc (.cells mc 4) = V := ⟨_, rfl⟩
    have gv1 : y1.grownBy V1 none := (by rw [← hV1]; exact World.grownBy_alloc _ _ _)
    have zv1 := gv1.size
    have lO1 := O1.lt
    go_wp2
    refine wp_loop_rounds 1 ?_
    rw [rounds_succ]
    go_wp2_with (first | (go_at_call 33; go_loud (refine (hrw0 _ _).mono ?_; rintro e w8 ⟨b1, rfl, hr8, g8, hb1⟩; have Ob1 := (O1.kept gv1 (by simp)).kept g8 (by simp); have Qb1 := (Q1.kept gv1 (by simp)).kept g8 (by simp); have lb1 := hr8.lt; have hne1 : b1 ≠ W1.heap.size := (by omega); have oc10 := Ob1.cell 2 (v := .int .i64 0) rfl; have oc11 := Ob1.cell 3 (v := .slice none 0 0) rfl; have of10 := Ob1.frozen 2; have of11 := Ob1.frozen 3; obtain ⟨y2, hy2⟩ : ∃ V, (w8.setCell ⟨W1.heap.size, 2, none⟩ (.int .i64 0)).setCell ⟨W1.heap.size, 3, none⟩ (.slice (some ⟨b1, 0, none⟩) 0 0) = V := ⟨_, rfl⟩; have O2 : Bo y2 W1.heap.size 36 #[.int .i64 0, .slice (some ⟨b0, 0, none⟩) 0 0, .int .i64 0, .slice (some ⟨b1, 0, none⟩) 0 0, .int .i64 0, .slice none 0 0, .int .i64 0, .slice none 0 0] := hy2 ▸ (Ob1.set 2 (.int .i64 0)).set 3 (.slice (some ⟨b1, 0, none⟩) 0 0); have Q2 : Bo y2 w.heap.size 36 #[.int .i64 0, .slice none 0 0, .int .i64 0, .slice none 0 0, .int .i64 0, .slice none 0 0, .int .i64 0, .slice none 0 0] := hy2 ▸ (Qb1.set2 nQO).set2 nQO; have K20 : Row y2 22 b0 0 (fun i => decide (i < 0) && false) := hy2 ▸ World.rowIs.setOther (World.rowIs.setOther (rowIs_kept (rowIs_kept K10 gv1 (by simp)) g8 (by simp)) (a := ⟨W1.heap.size, 2, none⟩) hne0 _) (a := ⟨W1.heap.size, 3, none⟩) hne0 _; have K21 : Row y2 22 b1 0 (fun i => decide (i < 0) && false) := hy2 ▸ World.rowIs.setOther (World.rowIs.setOther hr8 (a := ⟨W1.heap.size, 2, none⟩) hne1 _) (a := ⟨W1.heap.size, 3, none⟩) hne1 _; have T2 : w.grownBy y2 none := hy2 ▸ gb_new (gb_new (gb_trans (gb_trans T1 gv1) g8) (a := ⟨W1.heap.size, 2, none⟩) lwO (.int .i64 0)) (a := ⟨W1.heap.size, 3, none⟩) lwO (.slice (some ⟨b1, 0, none⟩) 0 0); have zy2 : y2.heap.size = w8.heap.size := (by rw [← hy2]; simp [World.setCell]))))
    have ob1 : W1.heap.size < b1 ∧ w.heap.size < b1 ∧ b1 < y2.heap.size := by omega
    have oo01 : b0 < b1 := by omega
    obtain ⟨p12, p13, p14⟩ := ob1
    clear Ob1 Qb1 oc10 oc11 of10 of11 hr8 g8 lb1 hb1 zy2 zv1 lO1 hy2 hV1 gv1 O1 Q1 T1
    rw [rounds_succ]
    obtain ⟨V2, hV2⟩ : ∃ V, y2.alloc (.cells mc 4) = V := ⟨_, rfl⟩
    have gv2 : y2.grownBy V2 none := (by rw [← hV2]; exact World.grownBy_alloc _ _ _)
    have zv2 := gv2.size
    have lO2 := O2.lt
    go_wp2
    refine wp_loop_rounds 1 ?_
    rw [rounds_succ]
    go_wp2_with (first | (go_at_call 33; go_loud (refine (hrw0 _ _).mono ?_; rintro e w8 ⟨b2, rfl, hr8, g8, hb2⟩; have Ob2 := (O2.kept gv2 (by simp)).kept g8 (by simp); have Qb2 := (Q2.kept gv2 (by simp)).kept g8 (by simp); have lb2 := hr8.lt; have hne2 : b2 ≠ W1.heap.size := (by omega); have oc20 := Ob2.cell 4 (v := .int .i64 0) rfl; have oc21 := Ob2.cell 5 (v := .slice none 0 0) rfl; have of20 := Ob2.frozen 4; have of21 := Ob2.frozen 5; obtain ⟨y3, hy3⟩ : ∃ V, (w8.setCell ⟨W1.heap.size, 4, none⟩ (.int .i64 0)).setCell ⟨W1.heap.size, 5, none⟩ (.slice (some ⟨b2, 0, none⟩) 0 0) = V := ⟨_, rfl⟩; have O3 : Bo y3 W1.heap.size 36 #[.int .i64 0, .slice (some ⟨b0, 0, none⟩) 0 0, .int .i64 0, .slice (some ⟨b1, 0, none⟩) 0 0, .int .i64 0, .slice (some ⟨b2, 0, none⟩) 0 0, .int .i64 0, .slice none 0 0] := hy3 ▸ (Ob2.set 4 (.int .i64 0)).set 5 (.slice (some ⟨b2, 0, none⟩) 0 0); have Q3 : Bo y3 w.heap.size 36 #[.int .i64 0, .slice none 0 0, .int .i64 0, .slice none 0 0, .int .i64 0, .slice none 0 0, .int .i64 0, .slice none 0 0] := hy3 ▸ (Qb2.set2 nQO).set2 nQO; have K30 : Row y3 22 b0 0 (fun i => decide (i < 0) && false) := hy3 ▸ World.rowIs.setOther (World.rowIs.setOther (rowIs_kept (rowIs_kept K20 gv2 (by simp)) g8 (by simp)) (a := ⟨W1.heap.size, 4, none⟩) hne0 _) (a := ⟨W1.heap.size, 5, none⟩) hne0 _; have K31 : Row y3 22 b1 0 (fun i => decide (i < 0) && false) := hy3 ▸ World.rowIs.setOther (World.rowIs.setOther (rowIs_kept (rowIs_kept K21 gv2 (by simp)) g8 (by simp)) (a := ⟨W1.heap.size, 4, none⟩) hne1 _) (a := ⟨W1.heap.size, 5, none⟩) hne1 _; have K32 : Row y3 22 b2 0 (fun i => decide (i < 0) && false) := hy3 ▸ World.rowIs.setOther (World.rowIs.setOther hr8 (a := ⟨W1.heap.size, 4, none⟩) hne2 _) (a := ⟨W1.heap.size, 5, none⟩) hne2 _; have T3 : w.grownBy y3 none := hy3 ▸ gb_new (gb_new (gb_trans (gb_trans T2 gv2) g8) (a := ⟨W1.heap.size, 4, none⟩) lwO (.int .i64 0)) (a := ⟨W1.heap.size, 5, none⟩) lwO (.slice (some ⟨b2, 0, none⟩) 0 0); have zy3 : y3.heap.size = w8.heap.size := (by rw [← hy3]; simp [World.setCell]))))
    have ob2 : W1.heap.size < b2 ∧ w.heap.size < b2 ∧ b2 < y3.heap.size := by omega
    have oo02 : b0 < b2 := by omega
    have oo12 : b1 < b2 := by omega
    obtain ⟨p22, p23, p24⟩ := ob2
    clear Ob2 Qb2 oc20 oc21 of20 of21 hr8 g8 lb2 hb2 zy3 zv2 lO2 hy3 hV2 gv2 O2 Q2 T2
    rw [rounds_succ]
    obtain ⟨V3, hV3⟩ : ∃ V, y3.alloc (.cells mc 4) = V := ⟨_, rfl⟩
    have gv3 : y3.grownBy V3 none := (by rw [← hV3]; exact World.grownBy_alloc _ _ _)
    have zv3 := gv3.size
    have lO3 := O3.lt
    go_wp2
    refine wp_loop_rounds 1 ?_
    rw [rounds_succ]
    go_wp2_with (first | (go_at_call 33; go_loud (refine (hrw0 _ _).mono ?_; rintro e w8 ⟨b3, rfl, hr8, g8, hb3⟩; have Ob3 := (O3.kept gv3 (by simp)).kept g8 (by simp); have Qb3 := (Q3.kept gv3 (by simp)).kept g8 (by simp); have lb3 := hr8.lt; have hne3 : b3 ≠ W1.heap.size := (by omega); have oc30 := Ob3.cell 6 (v := .int .i64 0) rfl; have oc31 := Ob3.cell 7 (v := .slice none 0 0) rfl; have of30 := Ob3.frozen 6; have of31 := Ob3.frozen 7; obtain ⟨y4, hy4⟩ : ∃ V, (w8.setCell ⟨W1.heap.size, 6, none⟩ (.int .i64 0)).setCell ⟨W1.heap.size, 7, none⟩ (.slice (some ⟨b3, 0, none⟩) 0 0) = V := ⟨_, rfl⟩; have O4 : Bo y4 W1.heap.size 36 #[.int .i64 0, .slice (some ⟨b0, 0, none⟩) 0 0, .int .i64 0, .slice (some ⟨b1, 0, none⟩) 0 0, .int .i64 0, .slice (some ⟨b2, 0, none⟩) 0 0, .int .i64 0, .slice (some ⟨b3, 0, none⟩) 0 0] := hy4 ▸ (Ob3.set 6 (.int .i64 0)).set 7 (.slice (some ⟨b3, 0, none⟩) 0 0); have Q4 : Bo y4 w.heap.size 36 #[.int .i64 0, .slice none 0 0, .int .i64 0, .slice none 0 0, .int .i64 0, .slice none 0 0, .int .i64 0, .slice none 0 0] := hy4 ▸ (Qb3.set2 nQO).set2 nQO; have K40 : Row y4 22 b0 0 (fun i => decide (i < 0) && false) := hy4 ▸ World.rowIs.setOther (World.rowIs.setOther (rowIs_kept (rowIs_kept K30 gv3 (by simp)) g8 (by simp)) (a := ⟨W1.heap.size, 6, none⟩) hne0 _) (a := ⟨W1.heap.size, 7, none⟩) hne0 _; have K41 : Row y4 22 b1 0 (fun i => decide (i < 0) && false) := hy4 ▸ World.rowIs.setOther (World.rowIs.setOther (rowIs_kept (rowIs_kept K31 gv3 (by simp)) g8 (by simp)) (a := ⟨W1.heap.size, 6, none⟩) hne1 _) (a := ⟨W1.heap.size, 7, none⟩) hne1 _; have K42 : Row y4 22 b2 0 (fun i => decide (i < 0) && false) := hy4 ▸ World.rowIs.setOther (World.rowIs.setOther (rowIs_kept (rowIs_kept K32 gv3 (by simp)) g8 (by simp)) (a := ⟨W1.heap.size, 6, none⟩) hne2 _) (a := ⟨W1.heap.size, 7, none⟩) hne2 _; have K43 : Row y4 22 b3 0 (fun i => decide (i < 0) && false) := hy4 ▸ World.rowIs.setOther (World.rowIs.setOther hr8 (a := ⟨W1.heap.size, 6, none⟩) hne3 _) (a := ⟨W1.heap.size, 7, none⟩) hne3 _; have T4 : w.grownBy y4 none := hy4 ▸ gb_new (gb_new (gb_trans (gb_trans T3 gv3) g8) (a := ⟨W1.heap.size, 6, none⟩) lwO (.int .i64 0)) (a := ⟨W1.heap.size, 7, none⟩) lwO (.slice (some ⟨b3, 0, none⟩) 0 0); have zy4 : y4.heap.size = w8.heap.size := (by rw [← hy4]; simp [World.setCell]))))
    have ob3 : W1.heap.size < b3 ∧ w.heap.size < b3 ∧ b3 < y4.heap.size := by omega
    have oo03 : b0 < b3 := by omega
    have oo13 : b1 < b3 := by omega
    have oo23 : b2 < b3 := by omega
    obtain ⟨p32, p33, p34⟩ := ob3
    clear Ob3 Qb3 oc30 oc31 of30 of31 hr8 g8 lb3 hb3 zy4 zv3 lO3 hy4 hV3 gv3 O3 Q3 T3
    rw [rounds_succ]
    have y0 := O4.cell 0 (v := .int .i64 0) rfl
    have y1 := O4.cell 1 (v := .slice (some ⟨b0, 0, none⟩) 0 0) rfl
    have y2 := O4.cell 2 (v := .int .i64 0) rfl
    have y3 := O4.cell 3 (v := .slice (some ⟨b1, 0, none⟩) 0 0) rfl
    have y4 := O4.cell 4 (v := .int .i64 0) rfl
    have y5 := O4.cell 5 (v := .slice (some ⟨b2, 0, none⟩) 0 0) rfl
    have y6 := O4.cell 6 (v := .int .i64 0) rfl
    have y7 := O4.cell 7 (v := .slice (some ⟨b3, 0, none⟩) 0 0) rfl
    have x0 := Q4.cell 0 (v := .int .i64 0) rfl
    have xf0 := Q4.frozen 0
    have x1 := Q4.cell 1 (v := .slice none 0 0) rfl
    have xf1 := Q4.frozen 1
    have x2 := Q4.cell 2 (v := .int .i64 0) rfl
    have xf2 := Q4.frozen 2
    have x3 := Q4.cell 3 (v := .slice none 0 0) rfl
    have xf3 := Q4.frozen 3
    have x4 := Q4.cell 4 (v := .int .i64 0) rfl
    have xf4 := Q4.frozen 4
    have x5 := Q4.cell 5 (v := .slice none 0 0) rfl
    have xf5 := Q4.frozen 5
    have x6 := Q4.cell 6 (v := .int .i64 0) rfl
    have xf6 := Q4.frozen 6
    have x7 := Q4.cell 7 (v := .slice none 0 0) rfl
    have xf7 := Q4.frozen 7
    go_wp2
    refine ret_box8 (g := w.heap.size) (t := 36) rfl underC infoC rfl (B8.set Q4 _ _ _ _ _ _ _ _) rfl ?_
    have N0 : b0 ≠ w.heap.size := by omega
    have N1 : b1 ≠ w.heap.size := by omega
    have N2 : b2 ≠ w.heap.size := by omega
    have N3 : b3 ≠ w.heap.size := by omega
    refine rcount_done (c := 0) HF.out HP.out rfl ?_ ?_ ?_ ?_ ?_ (gb_new8 T4 (Nat.le_refl _) _ _ _ _ _ _ _ _)
    · exact (Row.far8 K40 N0 _ _ _ _ _ _ _ _).congr (fun t ht => by omega)
    · exact (Row.far8 K41 N1 _ _ _ _ _ _ _ _).congr (fun t ht => by omega)
    · exact (Row.far8 K42 N2 _ _ _ _ _ _ _ _).congr (fun t ht => by omega)
    · exact (Row.far8 K43 N3 _ _ _ _ _ _ _ _).congr (fun t ht => by omega)
    · exact ⟨by omega, by omega, by omega, by omega⟩
  · obtain rfl := hsp (by omega)
    have hkp : (0 : Int) < (k : Int) := by omega
    have n0 := ((h.kept G3) 0 (by omega)).1
    rw [Nat.zero_mul, Nat.add_zero, HN0.out (by omega)] at n0
    have hsz4 := g4.size
    have hszw := G3.size
    have hbit : ∀ j, j < k → ∀ i, i < m → ∀ W, (r j).ok W → Calls Try.prog 32 #[.agg #[.int .i64 (r j).N, .slice (r j).sp (r j).n (r j).cap], .int .i64 i] W fun e w' => e = .returned (.bool (P j i)) ∧ W.grownBy w' none := fun j hj i hi W hW => by
      have hh := refBitC (r j).N i (r j).n (r j).cap (r j).sp (r j).f hW.2.1 (by rw [F.en j hj, F.hn]; omega) (by rw [F.en j hj, F.hn]; omega) W hW.1
      rw [show Pk.bitAt (r j).f i = P j i by rw [← HP.out]] at hh
      exact hh
    obtain ⟨bS, hbS⟩ : ∃ bS, w3.heap.size = bS := ⟨_, rfl⟩
    rw [hbS] at S4
    have hbS2 : w.heap.size ≤ bS := by omega
    have G4 : w.grownBy W4 none := gb_trans G3 g4
    have hO4 : Bo W4 W1.heap.size 36 #[.int .i64 0, .slice none 0 0, .int .i64 0, .slice none 0 0, .int .i64 0, .slice none 0 0, .int .i64 0, .slice none 0 0] := hO3.kept g4
    have hR4 : Bo W4 w.heap.size 36 #[.int .i64 0, .slice none 0 0, .int .i64 0, .slice none 0 0, .int .i64 0, .slice none 0 0, .int .i64 0, .slice none 0 0] := hR3.kept g4
    have ltR := hR1.lt
    have ltO := hO3.lt
    have HF : Hid (Many r k m n pp) := F
    go_wp2
    clear n0 hfi
    go_loopw [8] (fun x wr => ∃ j : Nat, j ≤ k ∧ x = .int .i64 j ∧ (∃ G, wr.rowIs bS 3 m G ∧ Hid (∀ t, t < m → G t = .int .i64 ((cn P j t : Nat) : Int))) ∧ W4.grownBy wr (some bS)) (fun x _ => k - (intOf x).toNat)
    case atStart => exact ⟨0, Nat.zero_le _, rfl, ⟨_, S4, fun t ht => rfl⟩, World.grownBy.refl _ _⟩
    case round =>
      obtain ⟨j, hj, rfl, ⟨G, hG, HG⟩, hgj⟩ := hrel
      have hGj : w.grownBy wr none := gb_past G4 hgj hbS2
      by_cases hlt : j < k
      · have hlt' : (j : Int) < (k : Int) := by omega
        go_wp2
        go_loopw [9] (fun x wr' => ∃ i : Nat, i ≤ m ∧ x = .int .i64 i ∧ (∃ G', wr'.rowIs bS 3 m G' ∧ Hid (∀ t, t < m → G' t = .int .i64 ((if t < i then cn P (j + 1) t else cn P j t : Nat) : Int))) ∧ W4.grownBy wr' (some bS)) (fun x _ => m - (intOf x).toNat)
        case atStart => exact ⟨0, Nat.zero_le _, rfl, ⟨_, hG, fun t ht => by rw [if_neg (Nat.not_lt_zero _)]; exact HG.out t ht⟩, hgj⟩
        case round =>
          obtain ⟨i, hi, rfl, ⟨G', hG', HG'⟩, hgi⟩ := hrel
          have hGi := gb_past G4 hgi hbS2
          by_cases hil : i < m
          · have hil' : (i : Int) < (m : Int) := by omega
            obtain ⟨x0, x1, x2⟩ := (h.kept hGi) j hlt
            have hb9 := hbit j hlt i hil _ x2
            have hcl := cn_le P j i
            cases hb : P j i with
            | true =>
              rw [hb] at hb9
              have HC : Hid (cn P (j + 1) i = cn P j i + 1) := by show cn P j i + (if P j i then 1 else 0) = _; rw [hb]; rfl
              obtain ⟨z, hz⟩ : ∃ z : Nat, cn P j i = z := ⟨_, rfl⟩
              rw [hz] at HC hcl
              have HZ : Hid (cn P j i = z) := hz
              clear hb hz
              go_wp2_with (first | (go_at_call 32; refine hb9.mono ?_; rintro e w7 ⟨rfl, g7⟩; have hG7 := rowIs_kept hG' g7 (by simp); have c7 := hG7.cell (i := i) hil; rw [HG'.out i hil, if_neg (Nat.lt_irrefl _), HZ.out] at c7; have f7 := hG7.frozen i))
              have hrel' : ∃ G2, (w7.setCell ⟨bS, i, none⟩ (.int .i64 ((z : Int) + 1))).rowIs bS 3 m G2 ∧ Hid (∀ t, t < m → G2 t = .int .i64 ((if t < i + 1 then cn P (j + 1) t else cn P j t : Nat) : Int)) := ⟨_, World.rowIs.set hG7 i _, fun t ht => by
                by_cases e : t = i
                · rw [if_pos e, e, if_pos (by omega), HC.out]; rfl
                · rw [if_neg e, HG'.out t ht]
                  by_cases e2 : t < i
                  · rw [if_pos e2, if_pos (by omega)]
                  · rw [if_neg e2, if_neg (by omega)]⟩
              first
                | (go_roundw; (case rel => exact ⟨i + 1, by omega, by go_num, hrel', gb_set (gb_none hgi g7) _ _⟩); (case measure => (simp [intOf]; omega)))
                | (refine ⟨⟨i + 1, by omega, by go_num, hrel', gb_set (gb_none hgi g7) _ _⟩, ?_⟩; simp [intOf]; omega)
            | false =>
              rw [hb] at hb9
              have HC : Hid (cn P (j + 1) i = cn P j i) := by show cn P j i + (if P j i then 1 else 0) = _; rw [hb]; rfl
              clear hb
              go_wp2_with (first | (go_at_call 32; refine hb9.mono ?_; rintro e w7 ⟨rfl, g7⟩; have hG7 := rowIs_kept hG' g7 (by simp)))
              have hrel' : ∃ G2, w7.rowIs bS 3 m G2 ∧ Hid (∀ t, t < m → G2 t = .int .i64 ((if t < i + 1 then cn P (j + 1) t else cn P j t : Nat) : Int)) := ⟨_, hG7, fun t ht => by
                rw [HG'.out t ht]
                by_cases e : t = i
                · rw [e, if_neg (Nat.lt_irrefl _), if_pos (by omega), HC.out]
                · by_cases e2 : t < i
                  · rw [if_pos e2, if_pos (by omega)]
                  · rw [if_neg e2, if_neg (by omega)]⟩
              first
                | (go_roundw; (case rel => exact ⟨i + 1, by omega, by go_num, hrel', gb_none hgi g7⟩); (case measure => (simp [intOf]; omega)))
                | (refine ⟨⟨i + 1, by omega, by go_num, hrel', gb_none hgi g7⟩, ?_⟩; simp [intOf]; omega)
          · have hil' : ¬ (i : Int) < (m : Int) := by omega
            have hrel' : ∃ G2, wr.rowIs bS 3 m G2 ∧ Hid (∀ t, t < m → G2 t = .int .i64 ((cn P (j + 1) t : Nat) : Int)) := ⟨_, hG', fun t ht => by rw [HG'.out t ht, if_pos (by omega)]⟩
            go_wp2
            first
              | (go_roundw; (case rel => exact ⟨j + 1, by omega, by go_num, hrel', hgi⟩); (case measure => (simp [intOf]; omega)))
              | (refine ⟨⟨j + 1, by omega, by go_num, hrel', hgi⟩, ?_⟩; simp [intOf]; omega)
      · have hjk : j = k := by omega
        subst hjk
        have hlt' : ¬ (j : Int) < (j : Int) := by omega
        have HG0 : Hid (∀ t, t < m → G t = .int .i64 ((cn P j t / 2 ^ 0 : Nat) : Int)) := fun t ht => by rw [HG.out t ht, Nat.pow_zero, Nat.div_one]
        have O0 := hO4.kept hgj (fun e => by injection e; omega)
        have Q0 := hR4.kept hgj (fun e => by injection e; omega)
        have hG0 := hG
        have T0 := hGj
        have lwO : w.heap.size ≤ W1.heap.size := g1.size
        have nQO : W1.heap.size ≠ w.heap.size := by omega
        have nSO : bS ≠ W1.heap.size := by omega
        obtain ⟨c, hcc⟩ : ∃ c : Nat, Hid (c = (m + 63) / 64) := ⟨_, rfl⟩
        clear HG hG
        go_wp2
        refine wp_loop_rounds 5 ?_
        rw [rounds_succ]
        obtain ⟨V0, hV0⟩ : ∃ V, wr.alloc (.cells mc 4) = V := ⟨_, rfl⟩
        have gv0 : wr.grownBy V0 none := (by rw [← hV0]; exact World.grownBy_alloc _ _ _)
        have hl0 : V0.rowIs wr.heap.size 4 m (fun _ => .bool false) := (by rw [← hV0]; exact hmc wr)
        have hs0 := rowIs_kept hG0 gv0 (by simp)
        have lS0 := hG0.lt
        have lO0 := O0.lt
        have lQ0 := Q0.lt
        have nLS0 : wr.heap.size ≠ bS := by omega
        have TV0 := gb_trans T0 gv0
        have zv0 := gv0.size
        obtain ⟨LL0, hLL0⟩ : ∃ g, wr.heap.size = g := ⟨_, rfl⟩
        go_wp2
        rw [hLL0] at hl0 nLS0 lS0 lO0 lQ0
        go_loopw [12] (fun x wr' => ∃ i : Nat, i ≤ m ∧ x = .int .i64 i ∧ (∃ F', wr'.rowIs LL0 4 m F' ∧ Hid (∀ t, t < i → F' t = .bool ((cn P j t).testBit 0))) ∧ (∃ G', wr'.rowIs bS 3 m G' ∧ Hid (∀ t, t < m → G' t = .int .i64 ((if t < i then cn P j t / 2 ^ 1 else cn P j t / 2 ^ 0 : Nat) : Int))) ∧ Gs (fun y => y = LL0 ∨ y = bS) V0 wr') (fun x _ => m - (intOf x).toNat)
        case atStart => exact ⟨0, Nat.zero_le _, rfl, ⟨_, hl0, fun t ht => absurd ht (Nat.not_lt_zero _)⟩, ⟨_, hs0, fun t ht => by rw [if_neg (Nat.not_lt_zero _)]; exact HG0.out t ht⟩, Gs.refl _ _⟩
        case round =>
          obtain ⟨i, hi, rfl, ⟨F', hF', HF'⟩, ⟨G', hG', HG'⟩, hgi⟩ := hrel
          by_cases hil : i < m
          · have hil' : (i : Int) < (m : Int) := by omega
            obtain ⟨z, hz⟩ : ∃ z : Nat, cn P j i / 2 ^ 0 = z := ⟨_, rfl⟩
            have hz15 : z ≤ 15 := by rw [← hz]; exact Nat.le_trans (Nat.div_le_self _ _) (Nat.le_trans (cn_le P j i) hk)
            have HZ : Hid (cn P j i / 2 ^ 0 = z) := hz
            have ci := World.rowIs.cell hG' hil
            rw [HG'.out i hil, if_neg (Nat.lt_irrefl _), hz] at ci
            have fi := World.rowIs.cell hF' hil
            have fS := World.rowIs.frozen hG' i
            have fL := World.rowIs.frozen hF' i
            obtain ⟨B, hB⟩ : ∃ B, (z % 2 == 1) = B := ⟨_, rfl⟩
            have hB1 := zb z
            rw [hB] at hB1
            have HB : Hid ((cn P j i).testBit 0 = B) := by unfold Hid; rw [← dig_is, HZ.out]; exact hB
            have HH : Hid (cn P j i / 2 ^ 1 = z / 2) := by unfold Hid; rw [← half_is, HZ.out]
            have hq : IntKind.i64.wrap ((z : Int).tdiv 2) = ((z / 2 : Nat) : Int) := by rw [show (z : Int).tdiv 2 = ((z / 2 : Nat) : Int) from rfl, IntKind.wrap_i64]; omega
            clear hz hB
            have ci2 : (wr.setCell ⟨LL0, i, none⟩ (.bool B)).cell? ⟨bS, i, none⟩ = some (.int .i64 (z : Int)) := far1 ci (Ne.symm nLS0)
            have fS2 : (wr.setCell ⟨LL0, i, none⟩ (.bool B)).frozen? ⟨bS, i, none⟩ = false := (World.rowIs.setOther hG' (a := ⟨LL0, i, none⟩) (Ne.symm nLS0) (.bool B)).frozen i
            go_wp2
            have r1 : ∃ F2, ((wr.setCell ⟨LL0, i, none⟩ (.bool B)).setCell ⟨bS, i, none⟩ (.int .i64 ((z / 2 : Nat) : Int))).rowIs LL0 4 m F2 ∧ Hid (∀ t, t < i + 1 → F2 t = .bool ((cn P j t).testBit 0)) := ⟨_, World.rowIs.setOther (World.rowIs.set hF' i (.bool B)) (a := ⟨bS, i, none⟩) nLS0 _, fun t ht => by
              by_cases e : t = i
              · rw [if_pos e, e, HB.out]
              · rw [if_neg e]; exact HF'.out t (by omega)⟩
            have r2 : ∃ G2, ((wr.setCell ⟨LL0, i, none⟩ (.bool B)).setCell ⟨bS, i, none⟩ (.int .i64 ((z / 2 : Nat) : Int))).rowIs bS 3 m G2 ∧ Hid (∀ t, t < m → G2 t = .int .i64 ((if t < i + 1 then cn P j t / 2 ^ 1 else cn P j t / 2 ^ 0 : Nat) : Int)) := ⟨_, World.rowIs.set (World.rowIs.setOther hG' (a := ⟨LL0, i, none⟩) (Ne.symm nLS0) (.bool B)) i _, fun t ht => by
              by_cases e : t = i
              · rw [if_pos e, e, if_pos (by omega), HH.out]
              · rw [if_neg e, HG'.out t ht]
                by_cases e2 : t < i
                · rw [if_pos e2, if_pos (by omega)]
                · rw [if_neg e2, if_neg (by omega)]⟩
            have r3 := Gs.set (Gs.set hgi ⟨LL0, i, none⟩ (Or.inl rfl) (.bool B)) ⟨bS, i, none⟩ (Or.inr rfl) (.int .i64 ((z / 2 : Nat) : Int))
            first
              | (go_roundw; (case rel => exact ⟨i + 1, by omega, by go_num, r1, r2, r3⟩); (case measure => (simp [intOf]; omega)))
              | (refine ⟨⟨i + 1, by omega, by go_num, r1, r2, r3⟩, ?_⟩; simp [intOf]; omega)
          · have hil' : ¬ (i : Int) < (m : Int) := by omega
            have hbd : Bd wr (some ⟨LL0, 0, none⟩) m (fun t => (cn P j t).testBit 0) := full_bd hF' (fun t ht => HF'.out t (by omega)) (Nat.le_refl _)
            have hrw := refRowC m m (some ⟨LL0, 0, none⟩) (fun t => (cn P j t).testBit 0) hml wr hbd
            rw [← hcc.out] at hrw
            have TW0 : w.grownBy wr none := Gs.past TV0 hgi (fun y hy => by rcases hy with rfl | rfl <;> omega)
            have Oa0 := (O0.kept gv0 (by simp)).gs hgi (fun hy => by rcases hy with hy | hy <;> omega)
            have Qa0 := (Q0.kept gv0 (by simp)).gs hgi (fun hy => by rcases hy with hy | hy <;> omega)
            have hwrs := hgi.size
            go_wp2_with (first | (go_at_call 33; go_loud (refine hrw.mono ?_; rintro e w8 ⟨b0, rfl, hr8, g8, hb0⟩; have Ob0 := Oa0.kept g8 (by simp); have Qb0 := Qa0.kept g8 (by simp); have lb0 := hr8.lt; have hne0 : b0 ≠ W1.heap.size := (by omega); have oc00 := Ob0.cell 0 (v := .int .i64 0) rfl; have oc01 := Ob0.cell 1 (v := .slice none 0 0) rfl; have of00 := Ob0.frozen 0; have of01 := Ob0.frozen 1; obtain ⟨y1, hy1⟩ : ∃ V, (w8.setCell ⟨W1.heap.size, 0, none⟩ (.int .i64 (m : Nat))).setCell ⟨W1.heap.size, 1, none⟩ (.slice (some ⟨b0, 0, none⟩) c c) = V := ⟨_, rfl⟩; have O1 : Bo y1 W1.heap.size 36 #[.int .i64 (m : Nat), .slice (some ⟨b0, 0, none⟩) c c, .int .i64 0, .slice none 0 0, .int .i64 0, .slice none 0 0, .int .i64 0, .slice none 0 0] := hy1 ▸ (Ob0.set 0 (.int .i64 (m : Nat))).set 1 (.slice (some ⟨b0, 0, none⟩) c c); have Q1 : Bo y1 w.heap.size 36 #[.int .i64 0, .slice none 0 0, .int .i64 0, .slice none 0 0, .int .i64 0, .slice none 0 0, .int .i64 0, .slice none 0 0] := hy1 ▸ (Qb0.set2 nQO).set2 nQO; have hG1 : y1.rowIs bS 3 m G' := hy1 ▸ World.rowIs.setOther (World.rowIs.setOther (rowIs_kept hG' g8 (by simp)) (a := ⟨W1.heap.size, 0, none⟩) nSO _) (a := ⟨W1.heap.size, 1, none⟩) nSO _; have K10 : Row y1 22 b0 c (fun t => decide (t < m) && (cn P j t).testBit 0) := hy1 ▸ World.rowIs.setOther (World.rowIs.setOther hr8 (a := ⟨W1.heap.size, 0, none⟩) hne0 _) (a := ⟨W1.heap.size, 1, none⟩) hne0 _; have T1 : w.grownBy y1 none := hy1 ▸ gb_new (gb_new (gb_trans TW0 g8) (a := ⟨W1.heap.size, 0, none⟩) lwO (.int .i64 (m : Nat))) (a := ⟨W1.heap.size, 1, none⟩) lwO (.slice (some ⟨b0, 0, none⟩) c c); have zy1 : y1.heap.size = w8.heap.size := (by rw [← hy1]; simp [World.setCell]))))
            have HG1 : Hid (∀ t, t < m → G' t = .int .i64 ((cn P j t / 2 ^ 1 : Nat) : Int)) := fun t ht => by rw [HG'.out t ht, if_pos (by omega)]
            have hw8s := g8.size
            have ob0 : bS < b0 ∧ W1.heap.size < b0 ∧ w.heap.size < b0 ∧ b0 < y1.heap.size := by omega
            clear HF' HG' hF' hG' hbd hrw Oa0 Qa0 Ob0 Qb0 oc00 oc01 of00 of01 hgi hr8
            obtain ⟨G1, hGe⟩ : ∃ G, G' = G := ⟨_, rfl⟩
            rw [hGe] at hG1 HG1
            obtain ⟨p01, p02, p03, p04⟩ := ob0
            have zl0 : LL0 < y1.heap.size := by omega
            clear hGe g8 hwrs hw8s lb0 hb0 zy1 zv0 hLL0 lS0 lO0 lQ0 hy1 hV0 gv0 hl0 hs0 hG0 HG0 O0 Q0 T0 TV0 TW0 hi hil hil' nLS0
            rw [rounds_succ]
            obtain ⟨V1, hV1⟩ : ∃ V, y1.alloc (.cells mc 4) = V := ⟨_, rfl⟩
            have gv1 : y1.grownBy V1 none := (by rw [← hV1]; exact World.grownBy_alloc _ _ _)
            have hl1 : V1.rowIs y1.heap.size 4 m (fun _ => .bool false) := (by rw [← hV1]; exact hmc y1)
            have hs1 := rowIs_kept hG1 gv1 (by simp)
            have lS1 := hG1.lt
            have lO1 := O1.lt
            have lQ1 := Q1.lt
            have nLS1 : y1.heap.size ≠ bS := by omega
            have TV1 := gb_trans T1 gv1
            have zv1 := gv1.size
            obtain ⟨LL1, hLL1⟩ : ∃ g, y1.heap.size = g := ⟨_, rfl⟩
            go_wp2
            rw [hLL1] at hl1 nLS1 lS1 lO1 lQ1
            go_loopw [12] (fun x wr' => ∃ i : Nat, i ≤ m ∧ x = .int .i64 i ∧ (∃ F', wr'.rowIs LL1 4 m F' ∧ Hid (∀ t, t < i → F' t = .bool ((cn P j t).testBit 1))) ∧ (∃ G', wr'.rowIs bS 3 m G' ∧ Hid (∀ t, t < m → G' t = .int .i64 ((if t < i then cn P j t / 2 ^ 2 else cn P j t / 2 ^ 1 : Nat) : Int))) ∧ Gs (fun y => y = LL1 ∨ y = bS) V1 wr') (fun x _ => m - (intOf x).toNat)
            case atStart => exact ⟨0, Nat.zero_le _, rfl, ⟨_, hl1, fun t ht => absurd ht (Nat.not_lt_zero _)⟩, ⟨_, hs1, fun t ht => by rw [if_neg (Nat.not_lt_zero _)]; exact HG1.out t ht⟩, Gs.refl _ _⟩
            case round =>
              obtain ⟨i, hi, rfl, ⟨F', hF', HF'⟩, ⟨G', hG', HG'⟩, hgi⟩ := hrel
              by_cases hil : i < m
              · have hil' : (i : Int) < (m : Int) := by omega
                obtain ⟨z, hz⟩ : ∃ z : Nat, cn P j i / 2 ^ 1 = z := ⟨_, rfl⟩
                have hz15 : z ≤ 15 := by rw [← hz]; exact Nat.le_trans (Nat.div_le_self _ _) (Nat.le_trans (cn_le P j i) hk)
                have HZ : Hid (cn P j i / 2 ^ 1 = z) := hz
                have ci := World.rowIs.cell hG' hil
                rw [HG'.out i hil, if_neg (Nat.lt_irrefl _), hz] at ci
                have fi := World.rowIs.cell hF' hil
                have fS := World.rowIs.frozen hG' i
                have fL := World.rowIs.frozen hF' i
                obtain ⟨B, hB⟩ : ∃ B, (z % 2 == 1) = B := ⟨_, rfl⟩
                have hB1 := zb z
                rw [hB] at hB1
                have HB : Hid ((cn P j i).testBit 1 = B) := by unfold Hid; rw [← dig_is, HZ.out]; exact hB
                have HH : Hid (cn P j i / 2 ^ 2 = z / 2) := by unfold Hid; rw [← half_is, HZ.out]
                have hq : IntKind.i64.wrap ((z : Int).tdiv 2) = ((z / 2 : Nat) : Int) := by rw [show (z : Int).tdiv 2 = ((z / 2 : Nat) : Int) from rfl, IntKind.wrap_i64]; omega
                clear hz hB
                have ci2 : (wr.setCell ⟨LL1, i, none⟩ (.bool B)).cell? ⟨bS, i, none⟩ = some (.int .i64 (z : Int)) := far1 ci (Ne.symm nLS1)
                have fS2 : (wr.setCell ⟨LL1, i, none⟩ (.bool B)).frozen? ⟨bS, i, none⟩ = false := (World.rowIs.setOther hG' (a := ⟨LL1, i, none⟩) (Ne.symm nLS1) (.bool B)).frozen i
                go_wp2
                have r1 : ∃ F2, ((wr.setCell ⟨LL1, i, none⟩ (.bool B)).setCell ⟨bS, i, none⟩ (.int .i64 ((z / 2 : Nat) : Int))).rowIs LL1 4 m F2 ∧ Hid (∀ t, t < i + 1 → F2 t = .bool ((cn P j t).testBit 1)) := ⟨_, World.rowIs.setOther (World.rowIs.set hF' i (.bool B)) (a := ⟨bS, i, none⟩) nLS1 _, fun t ht => by
                  by_cases e : t = i
                  · rw [if_pos e, e, HB.out]
                  · rw [if_neg e]; exact HF'.out t (by omega)⟩
                have r2 : ∃ G2, ((wr.setCell ⟨LL1, i, none⟩ (.bool B)).setCell ⟨bS, i, none⟩ (.int .i64 ((z / 2 : Nat) : Int))).rowIs bS 3 m G2 ∧ Hid (∀ t, t < m → G2 t = .int .i64 ((if t < i + 1 then cn P j t / 2 ^ 2 else cn P j t / 2 ^ 1 : Nat) : Int)) := ⟨_, World.rowIs.set (World.rowIs.setOther hG' (a := ⟨LL1, i, none⟩) (Ne.symm nLS1) (.bool B)) i _, fun t ht => by
                  by_cases e : t = i
                  · rw [if_pos e, e, if_pos (by omega), HH.out]
                  · rw [if_neg e, HG'.out t ht]
                    by_cases e2 : t < i
                    · rw [if_pos e2, if_pos (by omega)]
                    · rw [if_neg e2, if_neg (by omega)]⟩
                have r3 := Gs.set (Gs.set hgi ⟨LL1, i, none⟩ (Or.inl rfl) (.bool B)) ⟨bS, i, none⟩ (Or.inr rfl) (.int .i64 ((z / 2 : Nat) : Int))
                first
                  | (go_roundw; (case rel => exact ⟨i + 1, by omega, by go_num, r1, r2, r3⟩); (case measure => (simp [intOf]; omega)))
                  | (refine ⟨⟨i + 1, by omega, by go_num, r1, r2, r3⟩, ?_⟩; simp [intOf]; omega)
              · have hil' : ¬ (i : Int) < (m : Int) := by omega
                have hbd : Bd wr (some ⟨LL1, 0, none⟩) m (fun t => (cn P j t).testBit 1) := full_bd hF' (fun t ht => HF'.out t (by omega)) (Nat.le_refl _)
                have hrw := refRowC m m (some ⟨LL1, 0, none⟩) (fun t => (cn P j t).testBit 1) hml wr hbd
                rw [← hcc.out] at hrw
                have TW1 : w.grownBy wr none := Gs.past TV1 hgi (fun y hy => by rcases hy with rfl | rfl <;> omega)
                have Oa1 := (O1.kept gv1 (by simp)).gs hgi (fun hy => by rcases hy with hy | hy <;> omega)
                have Qa1 := (Q1.kept gv1 (by simp)).gs hgi (fun hy => by rcases hy with hy | hy <;> omega)
                have Ka10 := rowIs_gs (K10.kept gv1 (by simp)) hgi (fun hy => by rcases hy with hy | hy <;> omega)
                have hwrs := hgi.size
                go_wp2_with (first | (go_at_call 33; go_loud (refine hrw.mono ?_; rintro e w8 ⟨b1, rfl, hr8, g8, hb1⟩; have Ob1 := Oa1.kept g8 (by simp); have Qb1 := Qa1.kept g8 (by simp); have lb1 := hr8.lt; have hne1 : b1 ≠ W1.heap.size := (by omega); have oc10 := Ob1.cell 2 (v := .int .i64 0) rfl; have oc11 := Ob1.cell 3 (v := .slice none 0 0) rfl; have of10 := Ob1.frozen 2; have of11 := Ob1.frozen 3; obtain ⟨y2, hy2⟩ : ∃ V, (w8.setCell ⟨W1.heap.size, 2, none⟩ (.int .i64 (m : Nat))).setCell ⟨W1.heap.size, 3, none⟩ (.slice (some ⟨b1, 0, none⟩) c c) = V := ⟨_, rfl⟩; have O2 : Bo y2 W1.heap.size 36 #[.int .i64 (m : Nat), .slice (some ⟨b0, 0, none⟩) c c, .int .i64 (m : Nat), .slice (some ⟨b1, 0, none⟩) c c, .int .i64 0, .slice none 0 0, .int .i64 0, .slice none 0 0] := hy2 ▸ (Ob1.set 2 (.int .i64 (m : Nat))).set 3 (.slice (some ⟨b1, 0, none⟩) c c); have Q2 : Bo y2 w.heap.size 36 #[.int .i64 0, .slice none 0 0, .int .i64 0, .slice none 0 0, .int .i64 0, .slice none 0 0, .int .i64 0, .slice none 0 0] := hy2 ▸ (Qb1.set2 nQO).set2 nQO; have hG2 : y2.rowIs bS 3 m G' := hy2 ▸ World.rowIs.setOther (World.rowIs.setOther (rowIs_kept hG' g8 (by simp)) (a := ⟨W1.heap.size, 2, none⟩) nSO _) (a := ⟨W1.heap.size, 3, none⟩) nSO _; have K20 : Row y2 22 b0 c (fun t => decide (t < m) && (cn P j t).testBit 0) := hy2 ▸ World.rowIs.setOther (World.rowIs.setOther (rowIs_kept Ka10 g8 (by simp)) (a := ⟨W1.heap.size, 2, none⟩) hne0 _) (a := ⟨W1.heap.size, 3, none⟩) hne0 _; have K21 : Row y2 22 b1 c (fun t => decide (t < m) && (cn P j t).testBit 1) := hy2 ▸ World.rowIs.setOther (World.rowIs.setOther hr8 (a := ⟨W1.heap.size, 2, none⟩) hne1 _) (a := ⟨W1.heap.size, 3, none⟩) hne1 _; have T2 : w.grownBy y2 none := hy2 ▸ gb_new (gb_new (gb_trans TW1 g8) (a := ⟨W1.heap.size, 2, none⟩) lwO (.int .i64 (m : Nat))) (a := ⟨W1.heap.size, 3, none⟩) lwO (.slice (some ⟨b1, 0, none⟩) c c); have zy2 : y2.heap.size = w8.heap.size := (by rw [← hy2]; simp [World.setCell]))))
                have HG2 : Hid (∀ t, t < m → G' t = .int .i64 ((cn P j t / 2 ^ 2 : Nat) : Int)) := fun t ht => by rw [HG'.out t ht, if_pos (by omega)]
                have hw8s := g8.size
                have ob1 : bS < b1 ∧ W1.heap.size < b1 ∧ w.heap.size < b1 ∧ b1 < y2.heap.size := by omega
                have oo01 : b0 < b1 := by omega
                clear HF' HG' hF' hG' hbd hrw Oa1 Qa1 Ob1 Qb1 oc10 oc11 of10 of11 hgi hr8
                obtain ⟨G2, hGe⟩ : ∃ G, G' = G := ⟨_, rfl⟩
                rw [hGe] at hG2 HG2
                obtain ⟨p11, p12, p13, p14⟩ := ob1
                have zl1 : LL1 < y2.heap.size := by omega
                clear hGe g8 hwrs hw8s lb1 hb1 zy2 zv1 hLL1 lS1 lO1 lQ1 hy2 hV1 gv1 hl1 hs1 hG1 HG1 O1 Q1 T1 TV1 TW1 hi hil hil' nLS1
                rw [rounds_succ]
                obtain ⟨V2, hV2⟩ : ∃ V, y2.alloc (.cells mc 4) = V := ⟨_, rfl⟩
                have gv2 : y2.grownBy V2 none := (by rw [← hV2]; exact World.grownBy_alloc _ _ _)
                have hl2 : V2.rowIs y2.heap.size 4 m (fun _ => .bool false) := (by rw [← hV2]; exact hmc y2)
                have hs2 := rowIs_kept hG2 gv2 (by simp)
                have lS2 := hG2.lt
                have lO2 := O2.lt
                have lQ2 := Q2.lt
                have nLS2 : y2.heap.size ≠ bS := by omega
                have TV2 := gb_trans T2 gv2
                have zv2 := gv2.size
                obtain ⟨LL2, hLL2⟩ : ∃ g, y2.heap.size = g := ⟨_, rfl⟩
                go_wp2
                rw [hLL2] at hl2 nLS2 lS2 lO2 lQ2
                go_loopw [12] (fun x wr' => ∃ i : Nat, i ≤ m ∧ x = .int .i64 i ∧ (∃ F', wr'.rowIs LL2 4 m F' ∧ Hid (∀ t, t < i → F' t = .bool ((cn P j t).testBit 2))) ∧ (∃ G', wr'.rowIs bS 3 m G' ∧ Hid (∀ t, t < m → G' t = .int .i64 ((if t < i then cn P j t / 2 ^ 3 else cn P j t / 2 ^ 2 : Nat) : Int))) ∧ Gs (fun y => y = LL2 ∨ y = bS) V2 wr') (fun x _ => m - (intOf x).toNat)
                case atStart => exact ⟨0, Nat.zero_le _, rfl, ⟨_, hl2, fun t ht => absurd ht (Nat.not_lt_zero _)⟩, ⟨_, hs2, fun t ht => by rw [if_neg (Nat.not_lt_zero _)]; exact HG2.out t ht⟩, Gs.refl _ _⟩
                case round =>
                  obtain ⟨i, hi, rfl, ⟨F', hF', HF'⟩, ⟨G', hG', HG'⟩, hgi⟩ := hrel
                  by_cases hil : i < m
                  · have hil' : (i : Int) < (m : Int) := by omega
                    obtain ⟨z, hz⟩ : ∃ z : Nat, cn P j i / 2 ^ 2 = z := ⟨_, rfl⟩
                    have hz15 : z ≤ 15 := by rw [← hz]; exact Nat.le_trans (Nat.div_le_self _ _) (Nat.le_trans (cn_le P j i) hk)
                    have HZ : Hid (cn P j i / 2 ^ 2 = z) := hz
                    have ci := World.rowIs.cell hG' hil
                    rw [HG'.out i hil, if_neg (Nat.lt_irrefl _), hz] at ci
                    have fi := World.rowIs.cell hF' hil
                    have fS := World.rowIs.frozen hG' i
                    have fL := World.rowIs.frozen hF' i
                    obtain ⟨B, hB⟩ : ∃ B, (z % 2 == 1) = B := ⟨_, rfl⟩
                    have hB1 := zb z
                    rw [hB] at hB1
                    have HB : Hid ((cn P j i).testBit 2 = B) := by unfold Hid; rw [← dig_is, HZ.out]; exact hB
                    have HH : Hid (cn P j i / 2 ^ 3 = z / 2) := by unfold Hid; rw [← half_is, HZ.out]
                    have hq : IntKind.i64.wrap ((z : Int).tdiv 2) = ((z / 2 : Nat) : Int) := by rw [show (z : Int).tdiv 2 = ((z / 2 : Nat) : Int) from rfl, IntKind.wrap_i64]; omega
                    clear hz hB
                    have ci2 : (wr.setCell ⟨LL2, i, none⟩ (.bool B)).cell? ⟨bS, i, none⟩ = some (.int .i64 (z : Int)) := far1 ci (Ne.symm nLS2)
                    have fS2 : (wr.setCell ⟨LL2, i, none⟩ (.bool B)).frozen? ⟨bS, i, none⟩ = false := (World.rowIs.setOther hG' (a := ⟨LL2, i, none⟩) (Ne.symm nLS2) (.bool B)).frozen i
                    go_wp2
                    have r1 : ∃ F2, ((wr.setCell ⟨LL2, i, none⟩ (.bool B)).setCell ⟨bS, i, none⟩ (.int .i64 ((z / 2 : Nat) : Int))).rowIs LL2 4 m F2 ∧ Hid (∀ t, t < i + 1 → F2 t = .bool ((cn P j t).testBit 2)) := ⟨_, World.rowIs.setOther (World.rowIs.set hF' i (.bool B)) (a := ⟨bS, i, none⟩) nLS2 _, fun t ht => by
                      by_cases e : t = i
                      · rw [if_pos e, e, HB.out]
                      · rw [if_neg e]; exact HF'.out t (by omega)⟩
                    have r2 : ∃ G2, ((wr.setCell ⟨LL2, i, none⟩ (.bool B)).setCell ⟨bS, i, none⟩ (.int .i64 ((z / 2 : Nat) : Int))).rowIs bS 3 m G2 ∧ Hid (∀ t, t < m → G2 t = .int .i64 ((if t < i + 1 then cn P j t / 2 ^ 3 else cn P j t / 2 ^ 2 : Nat) : Int)) := ⟨_, World.rowIs.set (World.rowIs.setOther hG' (a := ⟨LL2, i, none⟩) (Ne.symm nLS2) (.bool B)) i _, fun t ht => by
                      by_cases e : t = i
                      · rw [if_pos e, e, if_pos (by omega), HH.out]
                      · rw [if_neg e, HG'.out t ht]
                        by_cases e2 : t < i
                        · rw [if_pos e2, if_pos (by omega)]
                        · rw [if_neg e2, if_neg (by omega)]⟩
                    have r3 := Gs.set (Gs.set hgi ⟨LL2, i, none⟩ (Or.inl rfl) (.bool B)) ⟨bS, i, none⟩ (Or.inr rfl) (.int .i64 ((z / 2 : Nat) : Int))
                    first
                      | (go_roundw; (case rel => exact ⟨i + 1, by omega, by go_num, r1, r2, r3⟩); (case measure => (simp [intOf]; omega)))
                      | (refine ⟨⟨i + 1, by omega, by go_num, r1, r2, r3⟩, ?_⟩; simp [intOf]; omega)
                  · have hil' : ¬ (i : Int) < (m : Int) := by omega
                    have hbd : Bd wr (some ⟨LL2, 0, none⟩) m (fun t => (cn P j t).testBit 2) := full_bd hF' (fun t ht => HF'.out t (by omega)) (Nat.le_refl _)
                    have hrw := refRowC m m (some ⟨LL2, 0, none⟩) (fun t => (cn P j t).testBit 2) hml wr hbd
                    rw [← hcc.out] at hrw
                    have TW2 : w.grownBy wr none := Gs.past TV2 hgi (fun y hy => by rcases hy with rfl | rfl <;> omega)
                    have Oa2 := (O2.kept gv2 (by simp)).gs hgi (fun hy => by rcases hy with hy | hy <;> omega)
                    have Qa2 := (Q2.kept gv2 (by simp)).gs hgi (fun hy => by rcases hy with hy | hy <;> omega)
                    have Ka20 := rowIs_gs (K20.kept gv2 (by simp)) hgi (fun hy => by rcases hy with hy | hy <;> omega)
                    have Ka21 := rowIs_gs (K21.kept gv2 (by simp)) hgi (fun hy => by rcases hy with hy | hy <;> omega)
                    have hwrs := hgi.size
                    go_wp2_with (first | (go_at_call 33; go_loud (refine hrw.mono ?_; rintro e w8 ⟨b2, rfl, hr8, g8, hb2⟩; have Ob2 := Oa2.kept g8 (by simp); have Qb2 := Qa2.kept g8 (by simp); have lb2 := hr8.lt; have hne2 : b2 ≠ W1.heap.size := (by omega); have oc20 := Ob2.cell 4 (v := .int .i64 0) rfl; have oc21 := Ob2.cell 5 (v := .slice none 0 0) rfl; have of20 := Ob2.frozen 4; have of21 := Ob2.frozen 5; obtain ⟨y3, hy3⟩ : ∃ V, (w8.setCell ⟨W1.heap.size, 4, none⟩ (.int .i64 (m : Nat))).setCell ⟨W1.heap.size, 5, none⟩ (.slice (some ⟨b2, 0, none⟩) c c) = V := ⟨_, rfl⟩; have O3 : Bo y3 W1.heap.size 36 #[.int .i64 (m : Nat), .slice (some ⟨b0, 0, none⟩) c c, .int .i64 (m : Nat), .slice (some ⟨b1, 0, none⟩) c c, .int .i64 (m : Nat), .slice (some ⟨b2, 0, none⟩) c c, .int .i64 0, .slice none 0 0] := hy3 ▸ (Ob2.set 4 (.int .i64 (m : Nat))).set 5 (.slice (some ⟨b2, 0, none⟩) c c); have Q3 : Bo y3 w.heap.size 36 #[.int .i64 0, .slice none 0 0, .int .i64 0, .slice none 0 0, .int .i64 0, .slice none 0 0, .int .i64 0, .slice none 0 0] := hy3 ▸ (Qb2.set2 nQO).set2 nQO; have hG3 : y3.rowIs bS 3 m G' := hy3 ▸ World.rowIs.setOther (World.rowIs.setOther (rowIs_kept hG' g8 (by simp)) (a := ⟨W1.heap.size, 4, none⟩) nSO _) (a := ⟨W1.heap.size, 5, none⟩) nSO _; have K30 : Row y3 22 b0 c (fun t => decide (t < m) && (cn P j t).testBit 0) := hy3 ▸ World.rowIs.setOther (World.rowIs.setOther (rowIs_kept Ka20 g8 (by simp)) (a := ⟨W1.heap.size, 4, none⟩) hne0 _) (a := ⟨W1.heap.size, 5, none⟩) hne0 _; have K31 : Row y3 22 b1 c (fun t => decide (t < m) && (cn P j t).testBit 1) := hy3 ▸ World.rowIs.setOther (World.rowIs.setOther (rowIs_kept Ka21 g8 (by simp)) (a := ⟨W1.heap.size, 4, none⟩) hne1 _) (a := ⟨W1.heap.size, 5, none⟩) hne1 _; have K32 : Row y3 22 b2 c (fun t => decide (t < m) && (cn P j t).testBit 2) := hy3 ▸ World.rowIs.setOther (World.rowIs.setOther hr8 (a := ⟨W1.heap.size, 4, none⟩) hne2 _) (a := ⟨W1.heap.size, 5, none⟩) hne2 _; have T3 : w.grownBy y3 none := hy3 ▸ gb_new (gb_new (gb_trans TW2 g8) (a := ⟨W1.heap.size, 4, none⟩) lwO (.int .i64 (m : Nat))) (a := ⟨W1.heap.size, 5, none⟩) lwO (.slice (some ⟨b2, 0, none⟩) c c); have zy3 : y3.heap.size = w8.heap.size := (by rw [← hy3]; simp [World.setCell]))))
                    have HG3 : Hid (∀ t, t < m → G' t = .int .i64 ((cn P j t / 2 ^ 3 : Nat) : Int)) := fun t ht => by rw [HG'.out t ht, if_pos (by omega)]
                    have hw8s := g8.size
                    have ob2 : bS < b2 ∧ W1.heap.size < b2 ∧ w.heap.size < b2 ∧ b2 < y3.heap.size := by omega
                    have oo02 : b0 < b2 := by omega
                    have oo12 : b1 < b2 := by omega
                    clear HF' HG' hF' hG' hbd hrw Oa2 Qa2 Ob2 Qb2 oc20 oc21 of20 of21 hgi hr8
                    obtain ⟨G3, hGe⟩ : ∃ G, G' = G := ⟨_, rfl⟩
                    rw [hGe] at hG3 HG3
                    obtain ⟨p21, p22, p23, p24⟩ := ob2
                    have zl2 : LL2 < y3.heap.size := by omega
                    clear hGe g8 hwrs hw8s lb2 hb2 zy3 zv2 hLL2 lS2 lO2 lQ2 hy3 hV2 gv2 hl2 hs2 hG2 HG2 O2 Q2 T2 TV2 TW2 hi hil hil' nLS2
                    rw [rounds_succ]
                    obtain ⟨V3, hV3⟩ : ∃ V, y3.alloc (.cells mc 4) = V := ⟨_, rfl⟩
                    have gv3 : y3.grownBy V3 none := (by rw [← hV3]; exact World.grownBy_alloc _ _ _)
                    have hl3 : V3.rowIs y3.heap.size 4 m (fun _ => .bool false) := (by rw [← hV3]; exact hmc y3)
                    have hs3 := rowIs_kept hG3 gv3 (by simp)
                    have lS3 := hG3.lt
                    have lO3 := O3.lt
                    have lQ3 := Q3.lt
                    have nLS3 : y3.heap.size ≠ bS := by omega
                    have TV3 := gb_trans T3 gv3
                    have zv3 := gv3.size
                    obtain ⟨LL3, hLL3⟩ : ∃ g, y3.heap.size = g := ⟨_, rfl⟩
                    go_wp2
                    rw [hLL3] at hl3 nLS3 lS3 lO3 lQ3
                    go_loopw [12] (fun x wr' => ∃ i : Nat, i ≤ m ∧ x = .int .i64 i ∧ (∃ F', wr'.rowIs LL3 4 m F' ∧ Hid (∀ t, t < i → F' t = .bool ((cn P j t).testBit 3))) ∧ (∃ G', wr'.rowIs bS 3 m G' ∧ Hid (∀ t, t < m → G' t = .int .i64 ((if t < i then cn P j t / 2 ^ 4 else cn P j t / 2 ^ 3 : Nat) : Int))) ∧ Gs (fun y => y = LL3 ∨ y = bS) V3 wr') (fun x _ => m - (intOf x).toNat)
                    case atStart => exact ⟨0, Nat.zero_le _, rfl, ⟨_, hl3, fun t ht => absurd ht (Nat.not_lt_zero _)⟩, ⟨_, hs3, fun t ht => by rw [if_neg (Nat.not_lt_zero _)]; exact HG3.out t ht⟩, Gs.refl _ _⟩
                    case round =>
                      obtain ⟨i, hi, rfl, ⟨F', hF', HF'⟩, ⟨G', hG', HG'⟩, hgi⟩ := hrel
                      by_cases hil : i < m
                      · have hil' : (i : Int) < (m : Int) := by omega
                        obtain ⟨z, hz⟩ : ∃ z : Nat, cn P j i / 2 ^ 3 = z := ⟨_, rfl⟩
                        have hz15 : z ≤ 15 := by rw [← hz]; exact Nat.le_trans (Nat.div_le_self _ _) (Nat.le_trans (cn_le P j i) hk)
                        have HZ : Hid (cn P j i / 2 ^ 3 = z) := hz
                        have ci := World.rowIs.cell hG' hil
                        rw [HG'.out i hil, if_neg (Nat.lt_irrefl _), hz] at ci
                        have fi := World.rowIs.cell hF' hil
                        have fS := World.rowIs.frozen hG' i
                        have fL := World.rowIs.frozen hF' i
                        obtain ⟨B, hB⟩ : ∃ B, (z % 2 == 1) = B := ⟨_, rfl⟩
                        have hB1 := zb z
                        rw [hB] at hB1
                        have HB : Hid ((cn P j i).testBit 3 = B) := by unfold Hid; rw [← dig_is, HZ.out]; exact hB
                        have HH : Hid (cn P j i / 2 ^ 4 = z / 2) := by unfold Hid; rw [← half_is, HZ.out]
                        have hq : IntKind.i64.wrap ((z : Int).tdiv 2) = ((z / 2 : Nat) : Int) := by rw [show (z : Int).tdiv 2 = ((z / 2 : Nat) : Int) from rfl, IntKind.wrap_i64]; omega
                        clear hz hB
                        have ci2 : (wr.setCell ⟨LL3, i, none⟩ (.bool B)).cell? ⟨bS, i, none⟩ = some (.int .i64 (z : Int)) := far1 ci (Ne.symm nLS3)
                        have fS2 : (wr.setCell ⟨LL3, i, none⟩ (.bool B)).frozen? ⟨bS, i, none⟩ = false := (World.rowIs.setOther hG' (a := ⟨LL3, i, none⟩) (Ne.symm nLS3) (.bool B)).frozen i
                        go_wp2
                        have r1 : ∃ F2, ((wr.setCell ⟨LL3, i, none⟩ (.bool B)).setCell ⟨bS, i, none⟩ (.int .i64 ((z / 2 : Nat) : Int))).rowIs LL3 4 m F2 ∧ Hid (∀ t, t < i + 1 → F2 t = .bool ((cn P j t).testBit 3)) := ⟨_, World.rowIs.setOther (World.rowIs.set hF' i (.bool B)) (a := ⟨bS, i, none⟩) nLS3 _, fun t ht => by
                          by_cases e : t = i
                          · rw [if_pos e, e, HB.out]
                          · rw [if_neg e]; exact HF'.out t (by omega)⟩
                        have r2 : ∃ G2, ((wr.setCell ⟨LL3, i, none⟩ (.bool B)).setCell ⟨bS, i, none⟩ (.int .i64 ((z / 2 : Nat) : Int))).rowIs bS 3 m G2 ∧ Hid (∀ t, t < m → G2 t = .int .i64 ((if t < i + 1 then cn P j t / 2 ^ 4 else cn P j t / 2 ^ 3 : Nat) : Int)) := ⟨_, World.rowIs.set (World.rowIs.setOther hG' (a := ⟨LL3, i, none⟩) (Ne.symm nLS3) (.bool B)) i _, fun t ht => by
                          by_cases e : t = i
                          · rw [if_pos e, e, if_pos (by omega), HH.out]
                          · rw [if_neg e, HG'.out t ht]
                            by_cases e2 : t < i
                            · rw [if_pos e2, if_pos (by omega)]
                            · rw [if_neg e2, if_neg (by omega)]⟩
                        have r3 := Gs.set (Gs.set hgi ⟨LL3, i, none⟩ (Or.inl rfl) (.bool B)) ⟨bS, i, none⟩ (Or.inr rfl) (.int .i64 ((z / 2 : Nat) : Int))
                        first
                          | (go_roundw; (case rel => exact ⟨i + 1, by omega, by go_num, r1, r2, r3⟩); (case measure => (simp [intOf]; omega)))
                          | (refine ⟨⟨i + 1, by omega, by go_num, r1, r2, r3⟩, ?_⟩; simp [intOf]; omega)
                      · have hil' : ¬ (i : Int) < (m : Int) := by omega
                        have hbd : Bd wr (some ⟨LL3, 0, none⟩) m (fun t => (cn P j t).testBit 3) := full_bd hF' (fun t ht => HF'.out t (by omega)) (Nat.le_refl _)
                        have hrw := refRowC m m (some ⟨LL3, 0, none⟩) (fun t => (cn P j t).testBit 3) hml wr hbd
                        rw [← hcc.out] at hrw
                        have TW3 : w.grownBy wr none := Gs.past TV3 hgi (fun y hy => by rcases hy with rfl | rfl <;> omega)
                        have Oa3 := (O3.kept gv3 (by simp)).gs hgi (fun hy => by rcases hy with hy | hy <;> omega)
                        have Qa3 := (Q3.kept gv3 (by simp)).gs hgi (fun hy => by rcases hy with hy | hy <;> omega)
                        have Ka30 := rowIs_gs (K30.kept gv3 (by simp)) hgi (fun hy => by rcases hy with hy | hy <;> omega)
                        have Ka31 := rowIs_gs (K31.kept gv3 (by simp)) hgi (fun hy => by rcases hy with hy | hy <;> omega)
                        have Ka32 := rowIs_gs (K32.kept gv3 (by simp)) hgi (fun hy => by rcases hy with hy | hy <;> omega)
                        have hwrs := hgi.size
                        go_wp2_with (first | (go_at_call 33; go_loud (refine hrw.mono ?_; rintro e w8 ⟨b3, rfl, hr8, g8, hb3⟩; have Ob3 := Oa3.kept g8 (by simp); have Qb3 := Qa3.kept g8 (by simp); have lb3 := hr8.lt; have hne3 : b3 ≠ W1.heap.size := (by omega); have oc30 := Ob3.cell 6 (v := .int .i64 0) rfl; have oc31 := Ob3.cell 7 (v := .slice none 0 0) rfl; have of30 := Ob3.frozen 6; have of31 := Ob3.frozen 7; obtain ⟨y4, hy4⟩ : ∃ V, (w8.setCell ⟨W1.heap.size, 6, none⟩ (.int .i64 (m : Nat))).setCell ⟨W1.heap.size, 7, none⟩ (.slice (some ⟨b3, 0, none⟩) c c) = V := ⟨_, rfl⟩; have O4 : Bo y4 W1.heap.size 36 #[.int .i64 (m : Nat), .slice (some ⟨b0, 0, none⟩) c c, .int .i64 (m : Nat), .slice (some ⟨b1, 0, none⟩) c c, .int .i64 (m : Nat), .slice (some ⟨b2, 0, none⟩) c c, .int .i64 (m : Nat), .slice (some ⟨b3, 0, none⟩) c c] := hy4 ▸ (Ob3.set 6 (.int .i64 (m : Nat))).set 7 (.slice (some ⟨b3, 0, none⟩) c c); have Q4 : Bo y4 w.heap.size 36 #[.int .i64 0, .slice none 0 0, .int .i64 0, .slice none 0 0, .int .i64 0, .slice none 0 0, .int .i64 0, .slice none 0 0] := hy4 ▸ (Qb3.set2 nQO).set2 nQO; have hG4 : y4.rowIs bS 3 m G' := hy4 ▸ World.rowIs.setOther (World.rowIs.setOther (rowIs_kept hG' g8 (by simp)) (a := ⟨W1.heap.size, 6, none⟩) nSO _) (a := ⟨W1.heap.size, 7, none⟩) nSO _; have K40 : Row y4 22 b0 c (fun t => decide (t < m) && (cn P j t).testBit 0) := hy4 ▸ World.rowIs.setOther (World.rowIs.setOther (rowIs_kept Ka30 g8 (by simp)) (a := ⟨W1.heap.size, 6, none⟩) hne0 _) (a := ⟨W1.heap.size, 7, none⟩) hne0 _; have K41 : Row y4 22 b1 c (fun t => decide (t < m) && (cn P j t).testBit 1) := hy4 ▸ World.rowIs.setOther (World.rowIs.setOther (rowIs_kept Ka31 g8 (by simp)) (a := ⟨W1.heap.size, 6, none⟩) hne1 _) (a := ⟨W1.heap.size, 7, none⟩) hne1 _; have K42 : Row y4 22 b2 c (fun t => decide (t < m) && (cn P j t).testBit 2) := hy4 ▸ World.rowIs.setOther (World.rowIs.setOther (rowIs_kept Ka32 g8 (by simp)) (a := ⟨W1.heap.size, 6, none⟩) hne2 _) (a := ⟨W1.heap.size, 7, none⟩) hne2 _; have K43 : Row y4 22 b3 c (fun t => decide (t < m) && (cn P j t).testBit 3) := hy4 ▸ World.rowIs.setOther (World.rowIs.setOther hr8 (a := ⟨W1.heap.size, 6, none⟩) hne3 _) (a := ⟨W1.heap.size, 7, none⟩) hne3 _; have T4 : w.grownBy y4 none := hy4 ▸ gb_new (gb_new (gb_trans TW3 g8) (a := ⟨W1.heap.size, 6, none⟩) lwO (.int .i64 (m : Nat))) (a := ⟨W1.heap.size, 7, none⟩) lwO (.slice (some ⟨b3, 0, none⟩) c c); have zy4 : y4.heap.size = w8.heap.size := (by rw [← hy4]; simp [World.setCell]))))
                        have HG4 : Hid (∀ t, t < m → G' t = .int .i64 ((cn P j t / 2 ^ 4 : Nat) : Int)) := fun t ht => by rw [HG'.out t ht, if_pos (by omega)]
                        have hw8s := g8.size
                        have ob3 : bS < b3 ∧ W1.heap.size < b3 ∧ w.heap.size < b3 ∧ b3 < y4.heap.size := by omega
                        have oo03 : b0 < b3 := by omega
                        have oo13 : b1 < b3 := by omega
                        have oo23 : b2 < b3 := by omega
                        clear HF' HG' hF' hG' hbd hrw Oa3 Qa3 Ob3 Qb3 oc30 oc31 of30 of31 hgi hr8
                        obtain ⟨G4, hGe⟩ : ∃ G, G' = G := ⟨_, rfl⟩
                        rw [hGe] at hG4 HG4
                        obtain ⟨p31, p32, p33, p34⟩ := ob3
                        have zl3 : LL3 < y4.heap.size := by omega
                        clear hGe g8 hwrs hw8s lb3 hb3 zy4 zv3 hLL3 lS3 lO3 lQ3 hy4 hV3 gv3 hl3 hs3 hG3 HG3 O3 Q3 T3 TV3 TW3 hi hil hil' nLS3
                        rw [rounds_succ]
                        have y0 := O4.cell 0 (v := .int .i64 (m : Nat)) rfl
                        have y1 := O4.cell 1 (v := .slice (some ⟨b0, 0, none⟩) c c) rfl
                        have y2 := O4.cell 2 (v := .int .i64 (m : Nat)) rfl
                        have y3 := O4.cell 3 (v := .slice (some ⟨b1, 0, none⟩) c c) rfl
                        have y4 := O4.cell 4 (v := .int .i64 (m : Nat)) rfl
                        have y5 := O4.cell 5 (v := .slice (some ⟨b2, 0, none⟩) c c) rfl
                        have y6 := O4.cell 6 (v := .int .i64 (m : Nat)) rfl
                        have y7 := O4.cell 7 (v := .slice (some ⟨b3, 0, none⟩) c c) rfl
                        have x0 := Q4.cell 0 (v := .int .i64 0) rfl
                        have xf0 := Q4.frozen 0
                        have x1 := Q4.cell 1 (v := .slice none 0 0) rfl
                        have xf1 := Q4.frozen 1
                        have x2 := Q4.cell 2 (v := .int .i64 0) rfl
                        have xf2 := Q4.frozen 2
                        have x3 := Q4.cell 3 (v := .slice none 0 0) rfl
                        have xf3 := Q4.frozen 3
                        have x4 := Q4.cell 4 (v := .int .i64 0) rfl
                        have xf4 := Q4.frozen 4
                        have x5 := Q4.cell 5 (v := .slice none 0 0) rfl
                        have xf5 := Q4.frozen 5
                        have x6 := Q4.cell 6 (v := .int .i64 0) rfl
                        have xf6 := Q4.frozen 6
                        have x7 := Q4.cell 7 (v := .slice none 0 0) rfl
                        have xf7 := Q4.frozen 7
                        go_wp2
                        refine ret_box8 (g := w.heap.size) (t := 36) rfl underC infoC rfl (B8.set Q4 _ _ _ _ _ _ _ _) rfl ?_
                        have N0 : b0 ≠ w.heap.size := by omega
                        have N1 : b1 ≠ w.heap.size := by omega
                        have N2 : b2 ≠ w.heap.size := by omega
                        have N3 : b3 ≠ w.heap.size := by omega
                        refine rcount_done HF.out HP.out hcc.out ?_ ?_ ?_ ?_ ?_ (gb_new8 T4 (Nat.le_refl _) _ _ _ _ _ _ _ _)
                        · exact Row.far8 K40 N0 _ _ _ _ _ _ _ _
                        · exact Row.far8 K41 N1 _ _ _ _ _ _ _ _
                        · exact Row.far8 K42 N2 _ _ _ _ _ _ _ _
                        · exact Row.far8 K43 N3 _ _ _ _ _ _ _ _
                        · exact ⟨by omega, by omega, by omega, by omega⟩

theorem rcountU (q o k cap : Nat) (r : Nat → RD) (sp : Option Addr) (hsp : 0 < k → sp = some ⟨q, o, none⟩) (hkl : k ≤ 4398046510976) (w : World) (h : k ≤ 15 → RwsO w q o k r) :
    Calls Try.prog 12 #[.slice sp k cap] w (MadeF (cAns r k) w) := by
  by_cases hk : 15 < k
  · have e : cAns r k = fun _ => noAns 6 := by
      funext d
      unfold cAns cE
      rw [if_pos hk, if_neg (by decide)]
    rw [e]
    exact rcountMany k cap sp hk hkl w
  · have hR := h (by omega)
    by_cases hz : alikeZ r k = 0
    · have hE : cE r k = 0 := by unfold cE; rw [if_neg hk, hz]
      obtain ⟨m, n, pp, F⟩ := many_of (fun d hd => (hR d hd).2.2.2.1) hz
      have hM : cM r k = m := by
        unfold cM
        by_cases h0 : k = 0
        · rw [if_pos h0, F.h0 h0]
        · rw [if_neg h0, F.eN 0 (by omega), Int.toNat_natCast]
      have e : cAns r k = fun d => okAns m (fun t => dgF (fun j => Pk.bitAt (r j).f) k d t) := by
        funext d
        unfold cAns
        rw [if_pos hE, hM]
      rw [e]
      exact rcountY q o k cap r sp hsp (by omega) m n pp F hz w hR
    · have e : cAns r k = fun _ => noAns (alikeZ r k) := by
        funext d
        unfold cAns cE
        rw [if_neg hk, if_neg hz]
      rw [e]
      exact rcountBad q o k cap r _ hz rfl sp hsp (by omega) w hR
end Go.Proofs.Ytcdefpfnjjahgab
