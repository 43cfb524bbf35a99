/- What a tree answers. -/
import Derived.BigRegion
import Derived.Test.YteaionmjbkildabDoorQ20
namespace Go.Proofs.YteaionmjbkildabDoor
open Go.RowKit
set_option linter.unusedVariables false
set_option linter.unusedSimpArgs false
set_option maxRecDepth 100000

/-- The node come to behind k inputs. -/
def goN (t : Nat → TN) (f : Nat → Nat) (R : Nat) : Nat → Nat
  | 0 => R
  | k + 1 => ((t (goN t f R k)).kf (f k)).toNat
/-- A tree that may be: its levels. -/
structure Tok (S I R n : Nat) (t : Nat → TN) (lv : Nat → Nat) : Prop where
  hs1 : 1 ≤ S
  hs2 : S ≤ 256
  hi : I ≤ 16
  hn : n ≤ 65536
  hr : R < n
  hlv : ∀ j, lv j ≤ 100000
  hst : ∀ j, (t j).st < 256
  hok : ∀ j, j < n → Nok S lv (t j) j
  hrt : lv R = I
theorem goN_ok {S I R n : Nat} {t : Nat → TN} {lv : Nat → Nat} (h : Tok S I R n t lv) {f : Nat → Nat} (hf : ∀ i, i < I → f i < S) : ∀ k, k ≤ I → goN t f R k < n ∧ lv (goN t f R k) + k = I
  | 0, _ => ⟨h.hr, h.hrt⟩
  | k + 1, hk => by
    obtain ⟨h1, h2⟩ := goN_ok h hf k (by omega)
    rcases h.hok _ h1 with ⟨_, _, h3⟩ | ⟨_, _, h3, h4⟩
    · omega
    · obtain ⟨h5, h6, h7⟩ := h3 (f k) (hf k (by omega))
      have e : goN t f R (k + 1) = ((t (goN t f R k)).kf (f k)).toNat := rfl
      constructor
      · rw [e]; omega
      · rw [e, h7]; omega

set_option maxHeartbeats 2000000 in
theorem answerC (S I R q o n c : Nat) (t : Nat → TN) (lv : Nat → Nat) (ht : Tok S I R n t lv) (sa : Option Addr) (ca : Nat) (f : Nat → Nat) (hf : ∀ i, i < I → f i < S) (w : World) (hT : Tn w q o n t) (hA : By w sa I f) :
    Calls Tryd.prog 48 #[.agg #[.int .i64 (S : Nat), .int .i64 (I : Nat), .slice (some ⟨q, o, none⟩) n c, .int .i64 (R : Nat)], .slice sa I ca] w fun e w' => e = .returned (.int .u8 ((t (goN t f R I)).st : Nat)) ∧ w.grownBy w' none := by
  have hi16 := ht.hi
  have hn16 := ht.hn
  have hr := ht.hr
  obtain ⟨W1, hW1, sz1, g1, B1⟩ := boxn w #[.int .i64 (S : Nat), .int .i64 (I : Nat), .slice (some ⟨q, o, none⟩) n c, .int .i64 (R : Nat)] 24
  have t2 := B1.cell 2 (v := .slice (some ⟨q, o, none⟩) n c) rfl
  have t3 := B1.cell 3 (v := .int .i64 (R : Nat)) rfl
  obtain ⟨x0, x1, x2⟩ := (hT.kept g1) R hr
  obtain ⟨W2, hW2, sz2, g2, B2⟩ := boxn W1 #[.int .u8 ((t R).st : Nat), .slice (t R).kp (t R).kn (t R).kc] 69
  go_enter Tryd.func48, Tryd.ntmps48
  go_wp2
  go_loopw [16] (fun i wr => ∃ k : Nat, k ≤ I ∧ i = .int .i64 k ∧ w.grownBy wr none ∧ Bo wr w.heap.size 24 #[.int .i64 (S : Nat), .int .i64 (I : Nat), .slice (some ⟨q, o, none⟩) n c, .int .i64 (R : Nat)] ∧ Bo wr W1.heap.size 69 #[.int .u8 ((t (goN t f R k)).st : Nat), .slice (t (goN t f R k)).kp (t (goN t f R k)).kn (t (goN t f R k)).kc]) (fun i _ => I - (intOf i).toNat)
  case atStart => exact ⟨0, Nat.zero_le _, rfl, gb_trans g1 g2, B1.kept g2 (by simp), B2⟩
  case round =>
    obtain ⟨k, hk, rfl, Gk, Tk, Bk⟩ := hrel
    by_cases hlt : k < I
    · have hlt' : (k : Int) < (I : Int) := by omega
      obtain ⟨h1, h2⟩ := goN_ok ht hf k hk
      have HG : Hid (goN t f R (k + 1) = ((t (goN t f R k)).kf (f k)).toNat) := rfl
      obtain ⟨m, hm⟩ : ∃ m, goN t f R k = m := ⟨_, rfl⟩
      rw [hm] at h1 h2 HG Bk
      have HM : Hid (goN t f R k = m) := hm
      clear hm
      rcases ht.hok _ h1 with ⟨_, _, h3⟩ | ⟨h3, h4, h5, h6⟩
      · omega
      · have hfk := hf k hlt
        obtain ⟨h7, h8, _⟩ := h5 (f k) hfk
        obtain ⟨p, hp⟩ := Int.eq_ofNat_of_zero_le h7
        have hpn : p < n := by omega
        obtain ⟨_, _, kin⟩ := (hT.kept Gk) m h1
        obtain ⟨y0, y1, _⟩ := (hT.kept Gk) p hpn
        rw [h4] at kin Bk
        obtain ⟨d, hd⟩ := kin.some (by have := ht.hs1; omega)
        rw [hd] at kin Bk
        have kc := kin.at hfk
        rw [hp] at kc HG
        obtain ⟨a, rfl⟩ := hA.some (by omega)
        have ak := (hA.kept Gk (by simp)).at hlt
        have b0 := Bk.cell 0 (v := .int .u8 ((t m).st : Nat)) rfl
        have b1 := Bk.cell 1 (v := .slice (some d) S (t m).kc) rfl
        have z0 := Bk.frozen 0
        have z1 := Bk.frozen 1
        have u2 := Tk.cell 2 (v := .slice (some ⟨q, o, none⟩) n c) rfl
        obtain ⟨g, hg⟩ : ∃ g, f k = g := ⟨_, rfl⟩
        rw [hg] at ak kc hfk
        have y5 : (g : Int) < (S : Int) := by omega
        have y6 : (p : Int) < (n : Int) := by omega
        clear hg hp h7 h8 h5 h6 h3 h4 h2 hd kin
        go_wp2
        go_region
        go_wp2
        go_roundw
        case rel =>
          refine ⟨k + 1, hlt, by go_num, ?_, ?_, ?_⟩
          · exact gb_new (gb_new (gb_drew Gk) g1.size _) g1.size _
          · exact (Tk.dr.set2 (by have := sz1.out; omega)).set2 (by have := sz1.out; omega)
          · rw [HG.out]
            exact (Bk.dr.set 0 _).set 1 _
        case measure => simp [intOf]; omega
    · have hkI : k = I := by omega
      subst hkI
      have b0 := Bk.cell 0 (v := .int .u8 ((t (goN t f R k)).st : Nat)) rfl
      go_wp2
      go_ret
      exact ⟨rfl, Gk⟩

theorem checkK (S I R q o n c : Nat) (t : Nat → TN) (lv : Nat → Nat) (ht : Tok S I R n t lv) (w : World) (hT : Tn w q o n t) : Calls Tryd.prog 20 #[.agg #[.int .i64 (S : Nat), .int .i64 (I : Nat), .slice (some ⟨q, o, none⟩) n c, .int .i64 (R : Nat)]] w fun e w' => e = .returned (.int .i64 0) ∧ w.grownBy w' none :=
  checkY S I R q o n c t (some ⟨q, o, none⟩) (fun _ => rfl) ht.hs1 ht.hs2 ht.hi ht.hn ht.hr lv ht.hlv ht.hst ht.hok ht.hrt w hT

set_option maxHeartbeats 2000000 in
theorem atC (S I R q o n c : Nat) (t : Nat → TN) (lv : Nat → Nat) (ht : Tok S I R n t lv) (sa : Option Addr) (ca : Nat) (f : Nat → Nat) (hf : ∀ i, i < I → f i < S) (w : World) (hT : Tn w q o n t) (hA : By w sa I f) :
    Calls Tryd.prog 22 #[.agg #[.int .i64 (S : Nat), .int .i64 (I : Nat), .slice (some ⟨q, o, none⟩) n c, .int .i64 (R : Nat)], .slice sa I ca] w fun e w' => e = .returned (.tuple #[.int .u8 ((t (goN t f R I)).st : Nat), .int .i64 0]) ∧ w.grownBy w' none := by
  have hi16 := ht.hi
  have hs2 := ht.hs2
  obtain ⟨W1, hW1, sz1, g1, B1⟩ := boxn w #[.int .i64 (S : Nat), .int .i64 (I : Nat), .slice (some ⟨q, o, none⟩) n c, .int .i64 (R : Nat)] 24
  have t0 := B1.cell 0 (v := .int .i64 (S : Nat)) rfl
  have t1 := B1.cell 1 (v := .int .i64 (I : Nat)) rfl
  have t2 := B1.cell 2 (v := .slice (some ⟨q, o, none⟩) n c) rfl
  have t3 := B1.cell 3 (v := .int .i64 (R : Nat)) rfl
  have hc := checkK S I R q o n c t lv ht W1 (hT.kept g1)
  go_enter Tryd.func22, Tryd.ntmps22
  go_wp2_with (first | (go_at_call 20; refine hc.mono ?_; rintro e w2 ⟨rfl, g2⟩; have G2 := gb_trans g1 g2; have B2 := B1.kept g2 (by simp); have u0 := B2.cell 0 (v := .int .i64 (S : Nat)) rfl; have u1 := B2.cell 1 (v := .int .i64 (I : Nat)) rfl; have u2 := B2.cell 2 (v := .slice (some ⟨q, o, none⟩) n c) rfl; have u3 := B2.cell 3 (v := .int .i64 (R : Nat)) rfl))
  go_loopw [21] (fun i wr => ∃ k : Nat, k ≤ I ∧ i = .int .i64 k ∧ wr = w2) (fun i _ => I - (intOf i).toNat)
  case atStart => exact ⟨0, Nat.zero_le _, rfl, rfl⟩
  case round =>
    obtain ⟨k, hk, rfl, rfl⟩ := hrel
    by_cases hlt : k < I
    · have hlt' : (k : Int) < (I : Int) := by omega
      obtain ⟨a, rfl⟩ := hA.some (by omega)
      have ak := (hA.kept G2 (by simp)).at hlt
      have hfk := hf k hlt
      go_wp2
      go_roundw
      case rel => exact ⟨k + 1, hlt, by go_num, trivial⟩
      case measure => simp [intOf]; omega
    · have hkI : k = I := by omega
      subst hkI
      have ha := answerC S k R q o n c t lv ht sa ca f hf _ (hT.kept G2) (hA.kept G2 (by simp))
      go_wp2_with (first | (go_at_call 48; refine ha.mono ?_; rintro e w3 ⟨rfl, g3⟩))
      go_ret2
      exact ⟨rfl, gb_trans G2 g3⟩
end Go.Proofs.YteaionmjbkildabDoor
