/- The document's Keeps. -/
import Derived.Test.YteaionmjbkildaaDoorQ35
import Derived.Test.YteaionmjbkildaaDoorQ23
import Derived.Test.YteaionmjbkildaaDoorQ44
import Derived.Lib.Hide
namespace Go.Proofs.YteaionmjbkildaaDoor
open Go.RowKit
set_option linter.unusedVariables false
set_option linter.unusedSimpArgs false
set_option maxRecDepth 100000

theorem rkT (S I R : Int) (sn : Option Addr) (q o n c : Nat) (t : Nat → TN) (hsn : 0 < n → sn = some ⟨q, o, none⟩) (hst : ∀ j, (t j).st < 256) (h : ¬ CkOk S I n R t) (sp : Option Addr) (m pc : Nat) (w : World) (hT : Tn w q o n t) :
    Calls Tryd.prog 31 #[.agg #[.int .i64 S, .int .i64 I, .slice sn n c, .int .i64 R], .slice sp m pc] w fun e w' => e = .returned (.tuple #[.bool false, .int .i64 110]) ∧ w.grownBy w' none := by
  obtain ⟨W1, hW1, sz1, g1, B1⟩ := boxn w #[.int .i64 S, .int .i64 I, .slice sn n c, .int .i64 R] 30
  have t0 := B1.cell 0 (v := .int .i64 S) rfl; have t1 := B1.cell 1 (v := .int .i64 I) rfl; have t2 := B1.cell 2 (v := .slice sn n c) rfl; have t3 := B1.cell 3 (v := .int .i64 R) rfl
  have hc := refCheckC S I R sn q o n c t hsn hst W1 (hT.kept g1)
  rw [if_neg h] at hc
  go_enter Tryd.func31, Tryd.ntmps31
  go_wp2_with (first | (go_at_call 25; refine hc.mono ?_; rintro e w2 ⟨rfl, g2⟩; have G2 := gb_trans g1 g2))
  go_ret2
  exact ⟨rfl, G2⟩
theorem rkP (S I R : Int) (sn : Option Addr) (q o n c : Nat) (t : Nat → TN) (hsn : 0 < n → sn = some ⟨q, o, none⟩) (hst : ∀ j, (t j).st < 256) (h : CkOk S I n R t) (sp : Option Addr) (m pc : Nat) (p : Nat → Int) (hp : (m : Int) ≠ I ∨ ((m : Int) = I ∧ ¬ Ord p m)) (w : World) (hT : Tn w q o n t) (hP : In w sp m p) :
    Calls Tryd.prog 31 #[.agg #[.int .i64 S, .int .i64 I, .slice sn n c, .int .i64 R], .slice sp m pc] w fun e w' => e = .returned (.tuple #[.bool false, .int .i64 111]) ∧ w.grownBy w' none := by
  have hm := maB_is h.1
  obtain ⟨W1, hW1, sz1, g1, B1⟩ := boxn w #[.int .i64 S, .int .i64 I, .slice sn n c, .int .i64 R] 30
  have t0 := B1.cell 0 (v := .int .i64 S) rfl; have t1 := B1.cell 1 (v := .int .i64 I) rfl; have t2 := B1.cell 2 (v := .slice sn n c) rfl; have t3 := B1.cell 3 (v := .int .i64 R) rfl
  have hc := refCheckC S I R sn q o n c t hsn hst W1 (hT.kept g1)
  rw [if_pos h] at hc
  have hio : ∀ W, In W sp m p → Calls Tryd.prog 55 #[.slice sp m pc, .int .i64 I] W fun e w' => e = .returned (.bool false) ∧ W.grownBy w' none := fun W hW => by
    rcases hp with hp | ⟨hp, ho⟩
    · exact permL sp m pc I hp W
    · rw [← hp]; exact permC sp m pc p (by omega) false (.inr ⟨ho, rfl⟩) W hW
  go_enter Tryd.func31, Tryd.ntmps31
  go_wp2_with (first | (go_at_call 25; refine hc.mono ?_; rintro e w2 ⟨rfl, g2⟩; have G2 := gb_trans g1 g2; have B2 := B1.kept g2 (by simp); have u0 := B2.cell 0 (v := .int .i64 S) rfl; have u1 := B2.cell 1 (v := .int .i64 I) rfl; have u2 := B2.cell 2 (v := .slice sn n c) rfl; have u3 := B2.cell 3 (v := .int .i64 R) rfl) | (go_at_call 55; refine (hio w2 (hP.kept G2 (by simp))).mono ?_; rintro e w3 ⟨rfl, g3⟩))
  go_ret2
  exact ⟨rfl, gb_trans G2 g3⟩
set_option maxHeartbeats 2000000 in
theorem rkB (S I R q o n c : Nat) (t : Nat → TN) (h : CkOk S I n R t) (hst : ∀ j, (t j).st < 256) (hq : ¬ S ^ I ≤ 1048576) (sp : Option Addr) (pc : Nat) (p : Nat → Int) (hp : Ord p I) (w : World) (hT : Tn w q o n t) (hP : In w sp I p) :
    Calls Tryd.prog 31 #[.agg #[.int .i64 (S : Nat), .int .i64 (I : Nat), .slice (some ⟨q, o, none⟩) n c, .int .i64 (R : Nat)], .slice sp I pc] w fun e w' => e = .returned (.tuple #[.bool false, .int .i64 4]) ∧ w.grownBy w' none := by
  have hm := maB_is h.1
  obtain ⟨W1, hW1, sz1, g1, B1⟩ := boxn w #[.int .i64 (S : Nat), .int .i64 (I : Nat), .slice (some ⟨q, o, none⟩) n c, .int .i64 (R : Nat)] 30
  have t0 := B1.cell 0 (v := .int .i64 (S : Nat)) rfl; have t1 := B1.cell 1 (v := .int .i64 (I : Nat)) rfl; have t2 := B1.cell 2 (v := .slice (some ⟨q, o, none⟩) n c) rfl; have t3 := B1.cell 3 (v := .int .i64 (R : Nat)) rfl
  have hc := refCheckK S I R q o n c t h hst W1 (hT.kept g1)
  have has := asksC S I (by omega) (by omega)
  have hbig : ¬ askN S I 1 ≤ 1048576 := fun hh => hq (by have := (askN_pow S (by omega) I 1 (by omega)).1 hh; omega)
  obtain ⟨z, hz⟩ : ∃ z, askN S I 1 = z := ⟨_, rfl⟩
  rw [hz] at has hbig
  have hz2 : (1048576 : Int) < (z : Int) := by omega
  clear hz hbig
  go_enter Tryd.func31, Tryd.ntmps31
  go_wp2_with (first | (go_at_call 25; refine hc.mono ?_; rintro e w2 ⟨rfl, g2⟩; have G2 := gb_trans g1 g2; have B2 := B1.kept g2 (by simp); have u0 := B2.cell 0 (v := .int .i64 (S : Nat)) rfl; have u1 := B2.cell 1 (v := .int .i64 (I : Nat)) rfl; have u2 := B2.cell 2 (v := .slice (some ⟨q, o, none⟩) n c) rfl; have u3 := B2.cell 3 (v := .int .i64 (R : Nat)) rfl) | (go_at_call 55; refine (permC sp I pc p (by omega) true (.inl ⟨hp, rfl⟩) w2 (hP.kept G2 (by simp))).mono ?_; rintro e w3 ⟨rfl, g3⟩; have B3 := B2.kept g3 (by simp); have v0 := B3.cell 0 (v := .int .i64 (S : Nat)) rfl; have v1 := B3.cell 1 (v := .int .i64 (I : Nat)) rfl; have v2 := B3.cell 2 (v := .slice (some ⟨q, o, none⟩) n c) rfl; have v3 := B3.cell 3 (v := .int .i64 (R : Nat)) rfl) | (go_at_call 14; refine (has _).mono ?_; rintro e w4 ⟨rfl, hw4⟩; subst hw4))
  go_ret2
  exact ⟨rfl, gb_trans G2 g3⟩
theorem gb_dd {W w6 : World} {r : Option Nat} (g : W.drew.grownBy w6 r) : W.grownBy w6 r := ⟨g.os, g.tape, g.output, g.size, g.block⟩
theorem row_by {w : World} {b I : Nat} {f : Nat → Nat} (h : w.rowIs b 5 I (fun i => .int .u8 (f i : Nat))) : By w (some ⟨b, 0, none⟩) I f := fun k hk => ⟨_, rfl, by rw [Addr.add_lit, Nat.zero_add]; exact World.rowIs.cell h hk⟩
theorem goN_congr (t : Nat → TN) {f g : Nat → Nat} (R : Nat) : ∀ k, (∀ i, i < k → f i = g i) → goN t f R k = goN t g R k
  | 0, _ => rfl
  | k + 1, h => by rw [goN, goN, goN_congr t R k (fun i hi => h i (by omega)), h k (by omega)]
theorem ev_dg (t : Nat → TN) (R I : Nat) (f : Nat → Nat) : ev t R I ((List.range I).map f) = (t (goN t f R I)).st := by
  unfold ev
  rw [goN_congr t R I (g := f) (fun i hi => by simp [hi])]
theorem ev_px (t : Nat → TN) (R I : Nat) (f p : Nat → Nat) (hp : ∀ i, i < I → p i < I) : ev t R I (px p I ((List.range I).map f)) = (t (goN t (fun i => f (p i)) R I)).st := by
  unfold ev px
  rw [goN_congr t R I (g := fun i => f (p i)) (fun i hi => by simp [hi, hp i hi])]
theorem askN_mul (S : Nat) (h1 : 1 ≤ S) : ∀ I c, 1 ≤ c → c * S ^ I ≤ 1048576 → askN S I c = c * S ^ I
  | 0, c, _, _ => by simp [askN]
  | I + 1, c, hc, h => by
    have hp : 1 ≤ S ^ (I + 1) := Nat.one_le_pow _ _ h1
    have hcl : c * 1 ≤ c * S ^ (I + 1) := Nat.mul_le_mul_left c hp
    have he : c * S ^ (I + 1) = c * S * S ^ I := by rw [Nat.pow_succ, Nat.mul_assoc, Nat.mul_comm S (S ^ I)]
    rw [askN, if_pos (by omega), askN_mul S h1 I (c * S) (Nat.mul_pos hc h1) (by rw [← he]; exact h), he]
theorem askN_eq (S : Nat) (h1 : 1 ≤ S) (I : Nat) (h : S ^ I ≤ 1048576) : askN S I 1 = S ^ I := by
  rw [askN_mul S h1 I 1 (by omega) (by omega), Nat.one_mul]
set_option maxHeartbeats 4000000 in
theorem rkC (S I R q o n c : Nat) (t : Nat → TN) (lv : Nat → Nat) (ht : Tok S I R n t lv) (h : CkOk S I n R t) (hq : S ^ I ≤ 1048576) (sp : Option Addr) (pc : Nat) (p : Nat → Nat) (hp : Ord (fun i => (p i : Int)) I) (b : Bool) (hb : ((∀ k, k < S ^ I → ev t R I ((List.range I).map (dgN S I k)) = ev t R I (px p I ((List.range I).map (dgN S I k)))) ∧ b = true) ∨ ((¬ ∀ k, k < S ^ I → ev t R I ((List.range I).map (dgN S I k)) = ev t R I (px p I ((List.range I).map (dgN S I k)))) ∧ b = false)) (w : World) (hT : Tn w q o n t) (hP : In w sp I (fun i => (p i : Int))) :
    Calls Tryd.prog 31 #[.agg #[.int .i64 (S : Nat), .int .i64 (I : Nat), .slice (some ⟨q, o, none⟩) n c, .int .i64 (R : Nat)], .slice sp I pc] w fun e w' => e = .returned (.tuple #[.bool b, .int .i64 0]) ∧ w.grownBy w' none := by
  have hi16 := ht.hi
  have hs1 := ht.hs1
  have hs2 := ht.hs2
  obtain ⟨W1, hW1, sz1, g1, B1⟩ := boxn w #[.int .i64 (S : Nat), .int .i64 (I : Nat), .slice (some ⟨q, o, none⟩) n c, .int .i64 (R : Nat)] 30
  have t0 := B1.cell 0 (v := .int .i64 (S : Nat)) rfl; have t1 := B1.cell 1 (v := .int .i64 (I : Nat)) rfl; have t2 := B1.cell 2 (v := .slice (some ⟨q, o, none⟩) n c) rfl; have t3 := B1.cell 3 (v := .int .i64 (R : Nat)) rfl
  have hc := refCheckK S I R q o n c t h ht.hst W1 (hT.kept g1)
  have has := asksC S I (by omega) (by omega)
  have hpow : askN S I 1 = S ^ I := askN_eq S hs1 I hq
  rw [hpow] at has
  obtain ⟨z, hz⟩ : ∃ z, S ^ I = z := ⟨_, rfl⟩
  have HZ : Hid (S ^ I = z) := hz
  rw [hz] at has hb hq
  have HB := Lib.hid hb
  have hz2 : ¬ ((1048576 : Int) < (z : Int)) := by omega
  clear hz hpow hb
  go_enter Tryd.func31, Tryd.ntmps31
  go_wp2_with (first | (go_at_call 25; refine hc.mono ?_; rintro e w2 ⟨rfl, g2⟩; have G2 := gb_trans g1 g2; have B2 := B1.kept g2 (by simp); have u0 := B2.cell 0 (v := .int .i64 (S : Nat)) rfl; have u1 := B2.cell 1 (v := .int .i64 (I : Nat)) rfl; have u2 := B2.cell 2 (v := .slice (some ⟨q, o, none⟩) n c) rfl; have u3 := B2.cell 3 (v := .int .i64 (R : Nat)) rfl) | (go_at_call 55; refine (permC sp I pc _ (by omega) true (.inl ⟨hp, rfl⟩) w2 (hP.kept G2 (by simp))).mono ?_; rintro e w3 ⟨rfl, g3⟩; have B3 := B2.kept g3 (by simp); have v0 := B3.cell 0 (v := .int .i64 (S : Nat)) rfl; have v1 := B3.cell 1 (v := .int .i64 (I : Nat)) rfl; have v2 := B3.cell 2 (v := .slice (some ⟨q, o, none⟩) n c) rfl; have v3 := B3.cell 3 (v := .int .i64 (R : Nat)) rfl) | (go_at_call 14; refine (has _).mono ?_; rintro e w4 ⟨rfl, hw4⟩; subst hw4))
  have hpI : ∀ i, i < I → p i < I := fun i hi => by
    have h : (p i : Int) < (I : Int) := (hp i hi).2.1
    omega
  go_loopw [8] (fun i wr => ∃ k : Nat, k ≤ z ∧ i = .int .i64 k ∧ w.grownBy wr none ∧ Bo wr w.heap.size 30 #[.int .i64 (S : Nat), .int .i64 (I : Nat), .slice (some ⟨q, o, none⟩) n c, .int .i64 (R : Nat)] ∧ ∀ k', k' < k → ev t R I ((List.range I).map (dgN S I k')) = ev t R I (px p I ((List.range I).map (dgN S I k')))) (fun i _ => z - (intOf i).toNat)
  case atStart => exact ⟨0, Nat.zero_le _, rfl, gb_trans G2 g3, B3, fun k hk => absurd hk (Nat.not_lt_zero _)⟩
  case round =>
    obtain ⟨k, hk, rfl, Gk, Bk, hok⟩ := hrel
    have a0 := Bk.cell 0 (v := .int .i64 (S : Nat)) rfl
    have a1 := Bk.cell 1 (v := .int .i64 (I : Nat)) rfl
    by_cases hlt : k < z
    · have hlt' : (k : Int) < (z : Int) := by omega
      have HOK := Lib.hid hok
      clear hok
      have hrw := rowC S I k hs1 hs2 hi16 (by omega) wr
      go_wp2_with (first | (go_at_call 56; refine hrw.mono ?_; rintro e w5 ⟨rfl, R5, g5⟩; refine Hid.out ?_))
      refine Lib.hid ?_
      clear hrw a0 a1
      have B5 := Bk.kept g5 (by simp)
      have bb1 := B5.cell 1 (v := .int .i64 (I : Nat)) rfl
      have hmk := run_make_row' (P := Tryd.prog) 31 5 (.int .u8 0) 1 under8S info8 rfl .i64 .i64 I (by omega) (by omega)
      obtain ⟨W6, hW6⟩ : ∃ W6, w5.alloc (.cells (madeCells #[.int .u8 0] I) 5) = W6 := ⟨_, rfl⟩
      have g6 : w5.grownBy W6 none := (by rw [← hW6]; exact World.grownBy_alloc _ _ _)
      have R6 : W6.rowIs w5.heap.size 5 I (fun _ => .int .u8 0) := (by rw [← hW6]; exact World.rowIs_made w5 (.int .u8 0) I 5)
      have R56 := rowIs_kept R5 g6 (by simp)
      have B6 := B5.kept g6 (by simp)
      have G6 := gb_trans Gk (gb_trans g5 g6)
      have hne : wr.heap.size ≠ w5.heap.size := Nat.ne_of_lt (World.rowIs.lt R5)
      have hwl : w.heap.size ≤ w5.heap.size := (gb_trans Gk g5).size
      have hwb : w5.heap.size ≠ w.heap.size := Ne.symm (Nat.ne_of_lt B5.lt)
      go_wp2
      obtain ⟨b1, hb1⟩ : ∃ b1, wr.heap.size = b1 := ⟨_, rfl⟩
      rw [hb1] at R56 hne ⊢
      clear hb1
      go_loopw [11] (fun i wq => ∃ j : Nat, j ≤ I ∧ i = .int .i64 j ∧ w.grownBy wq none ∧ Bo wq w.heap.size 30 #[.int .i64 (S : Nat), .int .i64 (I : Nat), .slice (some ⟨q, o, none⟩) n c, .int .i64 (R : Nat)] ∧ wq.rowIs b1 5 I (fun i => .int .u8 (dgN S I k i : Nat)) ∧ wq.rowIs w5.heap.size 5 I (fun i => .int .u8 ((if i < j then dgN S I k (p i) else 0 : Nat)))) (fun i _ => I - (intOf i).toNat)
      case atStart => exact ⟨0, Nat.zero_le _, rfl, G6, B6, R56, R6⟩
      case round =>
        obtain ⟨j, hj, rfl, Gj, Bj, Ra, Rb⟩ := hrel
        have c1 := Bj.cell 1 (v := .int .i64 (I : Nat)) rfl
        by_cases hji : j < I
        · have hji' : (j : Int) < (I : Int) := by omega
          obtain ⟨a, rfl⟩ := hP.some (by omega)
          have pj := (hP.kept Gj (by simp)).at hji
          have hpj := hpI j hji
          obtain ⟨x, hx⟩ : ∃ x, p j = x := ⟨_, rfl⟩
          have HX : Hid (p j = x) := hx
          rw [hx] at pj hpj
          have ra := World.rowIs.cell Ra (i := x) hpj
          have rb := World.rowIs.cell Rb (i := j) hji
          have rf := World.rowIs.frozen Rb j
          have y1 : (x : Int) < (I : Int) := by omega
          obtain ⟨y, hy⟩ : ∃ y, dgN S I k x = y := ⟨_, rfl⟩
          have HY : Hid (dgN S I k x = y) := hy
          rw [hy] at ra
          clear hx hy
          go_wp2
          go_roundw
          case rel => exact ⟨j + 1, hji, by go_num, gb_new Gj hwl _, Bj.set2 hwb, World.rowIs.setOther Ra hne _, World.rowIs.congr (World.rowIs.set Rb j (.int .u8 (y : Nat))) (fun i hi => by
            by_cases e : i = j
            · subst e; simp [HX.out, HY.out]
            · by_cases e2 : i < j
              · simp [e, e2, show i < j + 1 by omega]
              · simp [e, e2, show ¬ i < j + 1 by omega])⟩
          case measure => simp [intOf]; omega
        · have hji' : ¬ ((j : Int) < (I : Int)) := by omega
          have c0 := Bj.cell 0 (v := .int .i64 (S : Nat)) rfl
          have c2 := Bj.cell 2 (v := .slice (some ⟨q, o, none⟩) n c) rfl
          have c3 := Bj.cell 3 (v := .int .i64 (R : Nat)) rfl
          have Rb' := World.rowIs.congr (g := fun i => Value.int .u8 (dgN S I k (p i) : Nat)) Rb (fun i hi => by simp [show i < j by omega])
          have hd : ∀ i, dgN S I k i < S := fun i => Nat.mod_lt _ (by omega)
          have hTj : Tn wr q o n t := hT.kept Gj
          have hRa : By wr (some ⟨b1, 0, none⟩) I (dgN S I k) := row_by Ra
          have h1 := refAnswerC S I R q o n c t lv ht (some ⟨b1, 0, none⟩) I (dgN S I k) (fun i _ => hd i) wr.drew hTj hRa
          have h2 := fun W (hW : wr.grownBy W none) => refAnswerC S I R q o n c t lv ht (some ⟨w5.heap.size, 0, none⟩) I (fun i => dgN S I k (p i)) (fun i _ => hd (p i)) W (hT.kept (gb_trans Gj hW)) (row_by (rowIs_kept Rb' hW (by simp)))
          have HV : Hid (ev t R I ((List.range I).map (dgN S I k)) = (t (goN t (dgN S I k) R I)).st ∧ ev t R I (px p I ((List.range I).map (dgN S I k))) = (t (goN t (fun i => dgN S I k (p i)) R I)).st) := ⟨ev_dg t R I _, ev_px t R I _ p hpI⟩
          obtain ⟨x1, hx1⟩ : ∃ x, (t (goN t (dgN S I k) R I)).st = x := ⟨_, rfl⟩
          obtain ⟨x2, hx2⟩ : ∃ x, (t (goN t (fun i => dgN S I k (p i)) R I)).st = x := ⟨_, rfl⟩
          rw [hx1] at h1 HV
          rw [hx2] at h2 HV
          clear hx1 hx2 hd Rb
          by_cases hxx : x1 = x2
          · have yx : ((x1 : Int) != (x2 : Int)) = false := by simp [hxx]
            have HO : Hid (∀ k', k' < k + 1 → ev t R I ((List.range I).map (dgN S I k')) = ev t R I (px p I ((List.range I).map (dgN S I k')))) := fun k' hk' => by
              by_cases e : k' = k
              · subst e; rw [HV.out.1, HV.out.2, hxx]
              · exact HOK.out k' (by omega)
            clear hxx
            go_wp2
            go_region_with (first | ((fail_if_success (guard_hyp gA)); go_at_call 48; refine h1.mono ?_; rintro e wA ⟨rfl, gA⟩; have BA := Bj.kept (gb_dd gA) (by simp); have d0 := BA.cell 0 (v := .int .i64 (S : Nat)) rfl; have d1 := BA.cell 1 (v := .int .i64 (I : Nat)) rfl; have d2 := BA.cell 2 (v := .slice (some ⟨q, o, none⟩) n c) rfl; have d3 := BA.cell 3 (v := .int .i64 (R : Nat)) rfl) | (guard_hyp gA; go_at_call 48; refine (h2 wA (gb_dd gA)).mono ?_; rintro e wB ⟨rfl, gB⟩))
            all_goals
              have GB := gb_trans Gj (gb_trans (gb_dd gA) gB)
              have BB := BA.kept gB (by simp)
              go_wp2
              go_roundw
              case rel => exact ⟨k + 1, hlt, by go_num, GB, BB, HO.out⟩
              case measure => simp [intOf]; omega
          · have yx : ((x1 : Int) != (x2 : Int)) = true := by simp; omega
            obtain rfl : b = false := by
              rcases HB.out with ⟨hh, _⟩ | ⟨_, hh⟩
              · have := hh k hlt
                rw [HV.out.1, HV.out.2] at this
                exact absurd this hxx
              · exact hh
            clear hxx
            go_wp2
            go_region_with (first | ((fail_if_success (guard_hyp gA)); go_at_call 48; refine h1.mono ?_; rintro e wA ⟨rfl, gA⟩; have BA := Bj.kept (gb_dd gA) (by simp); have d0 := BA.cell 0 (v := .int .i64 (S : Nat)) rfl; have d1 := BA.cell 1 (v := .int .i64 (I : Nat)) rfl; have d2 := BA.cell 2 (v := .slice (some ⟨q, o, none⟩) n c) rfl; have d3 := BA.cell 3 (v := .int .i64 (R : Nat)) rfl) | (guard_hyp gA; go_at_call 48; refine (h2 wA (gb_dd gA)).mono ?_; rintro e wB ⟨rfl, gB⟩))
            all_goals
              have GB := gb_trans Gj (gb_trans (gb_dd gA) gB)
              go_wp2
              go_ret2
              exact ⟨rfl, GB⟩
    · have hkz : ¬ ((k : Int) < (z : Int)) := by omega
      obtain rfl : b = true := by
        rcases HB.out with ⟨_, hh⟩ | ⟨hh, _⟩
        · exact hh
        · exact absurd (fun k' hk' => hok k' (by omega)) hh
      clear hok
      go_wp2
      go_ret2
      exact ⟨rfl, Gk⟩
end Go.Proofs.YteaionmjbkildaaDoor
