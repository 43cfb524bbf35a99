/- The document's At. -/
import Derived.Test.YteaionmjbkildaaDoorQ32
import Derived.Test.YteaionmjbkildaaDoorQ34
namespace Go.Proofs.YteaionmjbkildaaDoor
open Go.RowKit
set_option linter.unusedVariables false
set_option linter.unusedSimpArgs false
set_option maxRecDepth 100000

open Classical in
theorem refCheckC (S I R : Int) (sp : Option Addr) (q o n c : Nat) (t : Nat → TN) (hsp : 0 < n → sp = some ⟨q, o, none⟩) (hst : ∀ j, (t j).st < 256) (w : World) (hT : Tn w q o n t) :
    Calls Tryd.prog 25 #[.agg #[.int .i64 S, .int .i64 I, .slice sp n c, .int .i64 R]] w fun e w' => e = .returned (.int .i64 (if CkOk S I n R t then 0 else 110)) ∧ w.grownBy w' none := by
  by_cases hr : maB S I = true ∧ n ≤ 65536 ∧ 0 ≤ R ∧ R < (n : Int)
  · obtain ⟨h1, h2, h3, h4⟩ := hr
    have hm := maB_is h1
    obtain rfl := hsp (by omega)
    obtain ⟨S', rfl⟩ := Int.eq_ofNat_of_zero_le (show 0 ≤ S by omega)
    obtain ⟨I', rfl⟩ := Int.eq_ofNat_of_zero_le (show 0 ≤ I by omega)
    obtain ⟨R', rfl⟩ := Int.eq_ofNat_of_zero_le h3
    refine rcL S' I' R' q o n c t (by omega) (by omega) (by omega) h2 (by omega) hst _ ?_ w hT
    by_cases hb : (∀ j, j < n → okN S' (lw t) (t j) j) ∧ lw t R' = I'
    · exact .inl ⟨hb.1, hb.2, by rw [if_pos ⟨h1, h2, h3, h4, hb.1, by rw [Int.toNat_natCast, hb.2]⟩]⟩
    · exact .inr ⟨hb, by rw [if_neg (fun h => hb ⟨h.2.2.2.2.1, by have := h.2.2.2.2.2; rw [Int.toNat_natCast] at this; omega⟩)]⟩
  · rw [if_neg (fun h => hr ⟨h.1, h.2.1, h.2.2.1, h.2.2.2.1⟩)]
    exact rcEarly S I R sp n c hr w

set_option maxHeartbeats 2000000 in
theorem refAnswerC (S I R q o n c : Nat) (t : Nat → TN) (lv : Nat → Nat) (ht : Tok S I R n t lv) (sa : Option Addr) (ca : Nat) (f : Nat → Nat) (hf : ∀ i, i < I → f i < S) (w : World) (hT : Tn w q o n t) (hA : By w sa I f) :
    Calls Tryd.prog 48 #[.agg #[.int .i64 (S : Nat), .int .i64 (I : Nat), .slice (some ⟨q, o, none⟩) n c, .int .i64 (R : Nat)], .slice sa I ca] w fun e w' => e = .returned (.int .u8 ((t (goN t f R I)).st : Nat)) ∧ w.grownBy w' none := by
  have hi16 := ht.hi
  have hn16 := ht.hn
  have hr := ht.hr
  obtain ⟨W1, hW1, sz1, g1, B1⟩ := boxn w #[.int .i64 (S : Nat), .int .i64 (I : Nat), .slice (some ⟨q, o, none⟩) n c, .int .i64 (R : Nat)] 30
  have t2 := B1.cell 2 (v := .slice (some ⟨q, o, none⟩) n c) rfl
  have t3 := B1.cell 3 (v := .int .i64 (R : Nat)) rfl
  go_enter Tryd.func48, Tryd.ntmps48
  go_wp2
  clear t2 t3
  go_loopw [6, 5] (fun i v wr => ∃ k : Nat, k ≤ I ∧ i = .int .i64 k ∧ v = .int .i64 (goN t f R k : Nat) ∧ w.grownBy wr none ∧ Bo wr w.heap.size 30 #[.int .i64 (S : Nat), .int .i64 (I : Nat), .slice (some ⟨q, o, none⟩) n c, .int .i64 (R : Nat)]) (fun i _ _ => I - (intOf i).toNat)
  case atStart => exact ⟨0, Nat.zero_le _, rfl, rfl, g1, B1⟩
  case round =>
    obtain ⟨k, hk, rfl, rfl, Gk, Tk⟩ := hrel
    have u2 := Tk.cell 2 (v := .slice (some ⟨q, o, none⟩) n c) rfl
    obtain ⟨h1, h2⟩ := goN_ok ht hf k hk
    by_cases hlt : k < I
    · have hlt' : (k : Int) < (I : Int) := by omega
      have HG : Hid (goN t f R (k + 1) = ((t (goN t f R k)).kf (f k)).toNat) := rfl
      obtain ⟨m, hm⟩ : ∃ m, goN t f R k = m := ⟨_, rfl⟩
      rw [hm] at h1 h2 HG ⊢
      clear hm
      rcases ht.hok _ h1 with ⟨_, _, h3⟩ | ⟨h3, h4, h5, h6⟩
      · omega
      · have hfk := hf k hlt
        obtain ⟨h7, h8, _⟩ := h5 (f k) hfk
        obtain ⟨p, hp⟩ := Int.eq_ofNat_of_zero_le h7
        obtain ⟨_, z1, kin⟩ := (hT.kept Gk) m h1
        rw [h4] at kin z1
        obtain ⟨d, hd⟩ := kin.some (by have := ht.hs1; omega)
        rw [hd] at kin z1
        have kc := kin.at hfk
        rw [hp] at kc HG
        obtain ⟨a, rfl⟩ := hA.some (by omega)
        have ak := (hA.kept Gk (by simp)).at hlt
        obtain ⟨g, hg⟩ : ∃ g, f k = g := ⟨_, rfl⟩
        rw [hg] at ak kc hfk
        have y5 : (g : Int) < (S : Int) := by omega
        have y6 : (m : Int) < (n : Int) := by omega
        clear hg hp h7 h8 h5 h6 h3 h4 h2 hd kin
        go_wp2
        go_quiet (fail)
        go_wp2
        go_roundw
        case rel =>
          refine ⟨k + 1, hlt, by go_num, ?_, gb_drewN Gk _, Tk.drew⟩
          rw [HG.out]; rfl
        case measure => simp [intOf]; omega
    · have hkI : k = I := by omega
      subst hkI
      obtain ⟨m, hm⟩ : ∃ m, goN t f R k = m := ⟨_, rfl⟩
      have HM : Hid (goN t f R k = m) := hm
      rw [hm] at h1 ⊢
      obtain ⟨z0, z1, _⟩ := (hT.kept Gk) m h1
      have y6 : (m : Int) < (n : Int) := by omega
      clear hm h2
      go_wp2
      go_ret
      exact ⟨by rw [HM.out]; rfl, Gk⟩

theorem rtT (S I R : Int) (sp : Option Addr) (q o n c : Nat) (t : Nat → TN) (hsp : 0 < n → sp = some ⟨q, o, none⟩) (hst : ∀ j, (t j).st < 256) (h : ¬ CkOk S I n R t) (sa : Option Addr) (m ca : Nat) (w : World) (hT : Tn w q o n t) :
    Calls Tryd.prog 22 #[.agg #[.int .i64 S, .int .i64 I, .slice sp n c, .int .i64 R], .slice sa m ca] w fun e w' => e = .returned (.tuple #[.int .u8 0, .int .i64 110]) ∧ w.grownBy w' none := by
  obtain ⟨W1, hW1, sz1, g1, B1⟩ := boxn w #[.int .i64 S, .int .i64 I, .slice sp n c, .int .i64 R] 30
  have t0 := B1.cell 0 (v := .int .i64 S) rfl
  have t1 := B1.cell 1 (v := .int .i64 I) rfl
  have t2 := B1.cell 2 (v := .slice sp n c) rfl
  have t3 := B1.cell 3 (v := .int .i64 R) rfl
  have hc := refCheckC S I R sp q o n c t hsp hst W1 (hT.kept g1)
  rw [if_neg h] at hc
  go_enter Tryd.func22, Tryd.ntmps22
  go_wp2_with (first | (go_at_call 25; refine hc.mono ?_; rintro e w2 ⟨rfl, g2⟩; have G2 := gb_trans g1 g2))
  go_ret2
  exact ⟨rfl, G2⟩
theorem refCheckK (S I R q o n c : Nat) (t : Nat → TN) (hck : CkOk S I n R t) (hst : ∀ j, (t j).st < 256) (w : World) (hT : Tn w q o n t) : Calls Tryd.prog 25 #[.agg #[.int .i64 (S : Nat), .int .i64 (I : Nat), .slice (some ⟨q, o, none⟩) n c, .int .i64 (R : Nat)]] w fun e w' => e = .returned (.int .i64 0) ∧ w.grownBy w' none := by
  have hc := refCheckC S I R (some ⟨q, o, none⟩) q o n c t (fun _ => rfl) hst w hT
  rw [if_pos hck] at hc
  exact hc
theorem rtA (S I R q o n c : Nat) (t : Nat → TN) (hck : CkOk S I n R t) (hst : ∀ j, (t j).st < 256) (sa : Option Addr) (m ca : Nat) (hm : m ≠ I) (w : World) (hT : Tn w q o n t) :
    Calls Tryd.prog 22 #[.agg #[.int .i64 (S : Nat), .int .i64 (I : Nat), .slice (some ⟨q, o, none⟩) n c, .int .i64 (R : Nat)], .slice sa m ca] w fun e w' => e = .returned (.tuple #[.int .u8 0, .int .i64 2]) ∧ w.grownBy w' none := by
  obtain ⟨W1, hW1, sz1, g1, B1⟩ := boxn w #[.int .i64 (S : Nat), .int .i64 (I : Nat), .slice (some ⟨q, o, none⟩) n c, .int .i64 (R : Nat)] 30
  have t0 := B1.cell 0 (v := .int .i64 (S : Nat)) rfl
  have t1 := B1.cell 1 (v := .int .i64 (I : Nat)) rfl
  have t2 := B1.cell 2 (v := .slice (some ⟨q, o, none⟩) n c) rfl
  have t3 := B1.cell 3 (v := .int .i64 (R : Nat)) rfl
  have hc := refCheckK S I R q o n c t hck hst W1 (hT.kept g1)
  have y : ((m : Int) != (I : Int)) = true := by simp; omega
  go_enter Tryd.func22, Tryd.ntmps22
  go_wp2_with (first | (go_at_call 25; refine hc.mono ?_; rintro e w2 ⟨rfl, g2⟩; have G2 := gb_trans g1 g2; have B2 := B1.kept g2 (by simp); have u0 := B2.cell 0 (v := .int .i64 (S : Nat)) rfl; have u1 := B2.cell 1 (v := .int .i64 (I : Nat)) rfl; have u2 := B2.cell 2 (v := .slice (some ⟨q, o, none⟩) n c) rfl; have u3 := B2.cell 3 (v := .int .i64 (R : Nat)) rfl))
  go_ret2
  exact ⟨rfl, G2⟩
set_option maxHeartbeats 1000000 in
theorem rtS (S I R q o n c : Nat) (t : Nat → TN) (hck : CkOk S I n R t) (hst : ∀ j, (t j).st < 256) (hs2 : S ≤ 256) (hi16 : I ≤ 16) (sa : Option Addr) (ca : Nat) (f : Nat → Nat) (hf2 : ∀ i, f i < 256) (hf : ¬ ∀ i, i < I → f i < S) (w : World) (hT : Tn w q o n t) (hA : By w sa I f) :
    Calls Tryd.prog 22 #[.agg #[.int .i64 (S : Nat), .int .i64 (I : Nat), .slice (some ⟨q, o, none⟩) n c, .int .i64 (R : Nat)], .slice sa I ca] w fun e w' => e = .returned (.tuple #[.int .u8 0, .int .i64 7]) ∧ w.grownBy w' none := by
  obtain ⟨W1, hW1, sz1, g1, B1⟩ := boxn w #[.int .i64 (S : Nat), .int .i64 (I : Nat), .slice (some ⟨q, o, none⟩) n c, .int .i64 (R : Nat)] 30
  have t0 := B1.cell 0 (v := .int .i64 (S : Nat)) rfl
  have t1 := B1.cell 1 (v := .int .i64 (I : Nat)) rfl
  have t2 := B1.cell 2 (v := .slice (some ⟨q, o, none⟩) n c) rfl
  have t3 := B1.cell 3 (v := .int .i64 (R : Nat)) rfl
  have hc := refCheckK S I R q o n c t hck hst W1 (hT.kept g1)
  have HF : Hid (¬ ∀ i, i < I → f i < S) := hf
  clear hf
  go_enter Tryd.func22, Tryd.ntmps22
  go_wp2_with (first | (go_at_call 25; refine hc.mono ?_; rintro e w2 ⟨rfl, g2⟩; have G2 := gb_trans g1 g2; have B2 := B1.kept g2 (by simp); have u0 := B2.cell 0 (v := .int .i64 (S : Nat)) rfl; have u1 := B2.cell 1 (v := .int .i64 (I : Nat)) rfl; have u2 := B2.cell 2 (v := .slice (some ⟨q, o, none⟩) n c) rfl; have u3 := B2.cell 3 (v := .int .i64 (R : Nat)) rfl))
  go_loopw [7] (fun i wr => ∃ k : Nat, k ≤ I ∧ i = .int .i64 k ∧ w.grownBy wr none ∧ Bo wr w.heap.size 30 #[.int .i64 (S : Nat), .int .i64 (I : Nat), .slice (some ⟨q, o, none⟩) n c, .int .i64 (R : Nat)] ∧ ∀ i, i < k → f i < S) (fun i _ => I - (intOf i).toNat)
  case atStart => exact ⟨0, Nat.zero_le _, rfl, G2, B2, fun i hi => absurd hi (Nat.not_lt_zero _)⟩
  case round =>
    obtain ⟨k, hk, rfl, Gk, Tk, hok⟩ := hrel
    have v0 := Tk.cell 0 (v := .int .i64 (S : Nat)) rfl
    have v1 := Tk.cell 1 (v := .int .i64 (I : Nat)) rfl
    have v2 := Tk.cell 2 (v := .slice (some ⟨q, o, none⟩) n c) rfl
    have v3 := Tk.cell 3 (v := .int .i64 (R : Nat)) rfl
    by_cases hlt : k < I
    · have hlt' : (k : Int) < (I : Int) := by omega
      obtain ⟨a, rfl⟩ := hA.some (by omega)
      have ak := (hA.kept Gk (by simp)).at hlt
      have hf2k := hf2 k
      by_cases hfk : f k < S
      · have HO : Hid (∀ i, i < k + 1 → f i < S) := fun i hi => by
          by_cases e : i = k
          · subst e; exact hfk
          · exact hok i (by omega)
        clear hok
        go_wp2
        go_quiet (fail)
        go_wp2
        go_roundw
        case rel => exact ⟨k + 1, hlt, by go_num, gb_drewN Gk _, Tk.drew, HO.out⟩
        case measure => simp [intOf]; omega
      · clear hok
        go_wp2
        go_quiet (fail)
        go_wp2
        go_ret2
        exact ⟨rfl, gb_drewN Gk _⟩
    · have hkI : k = I := by omega
      subst hkI
      exact absurd hok HF.out
set_option maxHeartbeats 1000000 in
theorem rtC (S I R q o n c : Nat) (t : Nat → TN) (lv : Nat → Nat) (ht : Tok S I R n t lv) (hck : CkOk S I n R t) (sa : Option Addr) (ca : Nat) (f : Nat → Nat) (hf : ∀ i, i < I → f i < S) (w : World) (hT : Tn w q o n t) (hA : By w sa I f) :
    Calls Tryd.prog 22 #[.agg #[.int .i64 (S : Nat), .int .i64 (I : Nat), .slice (some ⟨q, o, none⟩) n c, .int .i64 (R : Nat)], .slice sa I ca] w fun e w' => e = .returned (.tuple #[.int .u8 ((t (goN t f R I)).st : Nat), .int .i64 0]) ∧ w.grownBy w' none := by
  have hi16 := ht.hi
  have hs2 := ht.hs2
  obtain ⟨W1, hW1, sz1, g1, B1⟩ := boxn w #[.int .i64 (S : Nat), .int .i64 (I : Nat), .slice (some ⟨q, o, none⟩) n c, .int .i64 (R : Nat)] 30
  have t0 := B1.cell 0 (v := .int .i64 (S : Nat)) rfl
  have t1 := B1.cell 1 (v := .int .i64 (I : Nat)) rfl
  have t2 := B1.cell 2 (v := .slice (some ⟨q, o, none⟩) n c) rfl
  have t3 := B1.cell 3 (v := .int .i64 (R : Nat)) rfl
  have hc := refCheckK S I R q o n c t hck ht.hst W1 (hT.kept g1)
  go_enter Tryd.func22, Tryd.ntmps22
  go_wp2_with (first | (go_at_call 25; refine hc.mono ?_; rintro e w2 ⟨rfl, g2⟩; have G2 := gb_trans g1 g2; have B2 := B1.kept g2 (by simp); have u0 := B2.cell 0 (v := .int .i64 (S : Nat)) rfl; have u1 := B2.cell 1 (v := .int .i64 (I : Nat)) rfl; have u2 := B2.cell 2 (v := .slice (some ⟨q, o, none⟩) n c) rfl; have u3 := B2.cell 3 (v := .int .i64 (R : Nat)) rfl))
  go_loopw [7] (fun i wr => ∃ k : Nat, k ≤ I ∧ i = .int .i64 k ∧ w.grownBy wr none ∧ Bo wr w.heap.size 30 #[.int .i64 (S : Nat), .int .i64 (I : Nat), .slice (some ⟨q, o, none⟩) n c, .int .i64 (R : Nat)]) (fun i _ => I - (intOf i).toNat)
  case atStart => exact ⟨0, Nat.zero_le _, rfl, G2, B2⟩
  case round =>
    obtain ⟨k, hk, rfl, Gk, Tk⟩ := hrel
    have v0 := Tk.cell 0 (v := .int .i64 (S : Nat)) rfl
    have v1 := Tk.cell 1 (v := .int .i64 (I : Nat)) rfl
    have v2 := Tk.cell 2 (v := .slice (some ⟨q, o, none⟩) n c) rfl
    have v3 := Tk.cell 3 (v := .int .i64 (R : Nat)) rfl
    by_cases hlt : k < I
    · have hlt' : (k : Int) < (I : Int) := by omega
      obtain ⟨a, rfl⟩ := hA.some (by omega)
      have ak := (hA.kept Gk (by simp)).at hlt
      have hfk := hf k hlt
      go_wp2
      go_quiet (fail)
      go_wp2
      go_roundw
      case rel => exact ⟨k + 1, hlt, by go_num, gb_drewN Gk _, Tk.drew⟩
      case measure => simp [intOf]; omega
    · have hkI : k = I := by omega
      subst hkI
      have ha := refAnswerC S k R q o n c t lv ht sa ca f hf _ (hT.kept Gk) (hA.kept Gk (by simp))
      go_wp2_with (first | (go_at_call 48; refine ha.mono ?_; rintro e w3 ⟨rfl, g3⟩))
      go_ret2
      exact ⟨rfl, gb_trans Gk g3⟩
theorem rtG (S I R : Int) (sp : Option Addr) (q o n c : Nat) (t : Nat → TN) (hsp : 0 < n → sp = some ⟨q, o, none⟩) (hst : ∀ j, (t j).st < 256) (sa : Option Addr) (m ca : Nat) (f : Nat → Nat) (hf : ∀ i, f i < 256) (E : Int) (hE : AtE S I n R t m f E) (w : World) (hT : Tn w q o n t) (hA : By w sa m f) :
    Calls Tryd.prog 22 #[.agg #[.int .i64 S, .int .i64 I, .slice sp n c, .int .i64 R], .slice sa m ca] w fun e w' => e = .returned (.tuple #[.int .u8 (atV t f R m E : Nat), .int .i64 E]) ∧ w.grownBy w' none := by
  unfold atV
  rcases hE with ⟨h, rfl⟩ | ⟨h, h1, rfl⟩ | ⟨h, h1, h2, rfl⟩ | ⟨h, h1, h2, rfl⟩
  · exact rtT S I R sp q o n c t hsp hst h sa m ca w hT
  all_goals
    have ht := h.tok hst
    have hm := maB_is h.1
    have hr0 := h.2.2.1
    have hr1 := h.2.2.2.1
    obtain rfl := hsp (by omega)
    obtain ⟨S', rfl⟩ := Int.eq_ofNat_of_zero_le (show 0 ≤ S by omega)
    obtain ⟨I', rfl⟩ := Int.eq_ofNat_of_zero_le (show 0 ≤ I by omega)
    obtain ⟨R', rfl⟩ := Int.eq_ofNat_of_zero_le hr0
  · exact rtA S' I' R' q o n c t h hst sa m ca (by omega) w hT
  · obtain rfl : m = I' := by omega
    exact rtS S' m R' q o n c t h hst (by omega) (by omega) sa ca f hf (fun hh => h2 (fun i hi => by have := hh i hi; omega)) w hT hA
  · obtain rfl : m = I' := by omega
    exact rtC S' m R' q o n c t _ ht h sa ca f (fun i hi => by have := h2 i hi; omega) w hT hA
end Go.Proofs.YteaionmjbkildaaDoor
