/- Line of all rules and rows. -/
import Derived.Test.YthjiiljglgmkpaaGreatDoorY9
import Derived.Test.YthjiiljglgmkpaaGreatDoorYc
namespace Go.Proofs.YthjiiljglgmkpaaGreatDoor.Pd
open Go.RowKit
set_option linter.unusedVariables false
set_option linter.unusedSimpArgs false

/-- What Line answers: its error, its length, how many words, the words. -/
def aE (ho bo st : Nat) (Na Nh Nb : Int) (na nh nb : Nat) (fa fh fb : Nat → Nat) : Nat := lE (Lf.ck ho bo st) (Wo.validB Na na fa) (Wo.validB Nh nh fh) (Wo.validB Nb nb fb) Na Nh Nb
def aM (ho bo st : Nat) (Na Nh Nb : Int) (na nh nb : Nat) (fa fh fb : Nat → Nat) : Int := if aE ho bo st Na Nh Nb na nh nb fa fh fb = 0 then Nh - 2 else 0
def aK (ho bo st : Nat) (Na Nh Nb : Int) (na nh nb : Nat) (fa fh fb : Nat → Nat) : Nat := if aE ho bo st Na Nh Nb na nh nb fa fh fb = 0 then (Nh.toNat - 2 + 63) / 64 else 0
def aF (ho bo st : Nat) (Nh : Int) (fa fh fb : Nat → Nat) (k : Nat) : Nat := Pk.pack (ln ho bo st (Pk.bitAt fa) (Pk.bitAt fh) (Pk.bitAt fb) (Nh.toNat - 2)) k
/-- A call has answered so: a row of one's own, or none. -/
def Lr (w : World) (E : Nat) (M : Int) (K : Nat) (F : Nat → Nat) (e : Ending) (w' : World) : Prop :=
  ∃ sp, e = .returned (.tuple #[.agg #[.int .i64 M, .slice sp K K], .int .i64 (E : Nat)]) ∧ ((sp = none ∧ K = 0) ∨ ∃ z, sp = some ⟨z, 0, none⟩ ∧ w'.rowIs z 37 K (fun k => .int .u64 (F k : Nat)) ∧ w.heap.size ≤ z) ∧ w.grownBy w' none
theorem aE_ok {ho bo st : Nat} {Na Nh Nb : Int} {na nh nb : Nat} {fa fh fb : Nat → Nat} (h : aE ho bo st Na Nh Nb na nh nb fa fh fb = 0) : Lf.ck ho bo st = 0 ∧ Wo.validB Na na fa = true ∧ Wo.validB Nh nh fh = true ∧ Wo.validB Nb nb fb = true ∧ ¬ Nh < 3 ∧ Na = Nh ∧ Nb = Nh := by
  unfold aE lE at h
  by_cases hc : Lf.ck ho bo st ≠ 0
  · rw [if_pos hc] at h; cases h
  · rw [if_neg hc] at h
    by_cases hb : (bad (Wo.validB Na na fa) Na || bad (Wo.validB Nh nh fh) Nh || bad (Wo.validB Nb nb fb) Nb) = true
    · rw [if_pos hb] at h; cases h
    · rw [if_neg hb] at h
      by_cases hu : Na ≠ Nh ∨ Nb ≠ Nh
      · rw [if_pos hu] at h; cases h
      · simp [bad] at hb
        obtain ⟨⟨⟨a1, a2⟩, ⟨b1, b2⟩⟩, ⟨c1, c2⟩⟩ := hb
        refine ⟨by simpa using hc, a1, b1, c1, by omega, ?_, ?_⟩
        · exact Decidable.not_not.1 (fun e => hu (.inl e))
        · exact Decidable.not_not.1 (fun e => hu (.inr e))
theorem ck_ho {ho bo st : Nat} (h : Lf.ck ho bo st = 0) : 1 ≤ ho ∧ ho ≤ 3 := by
  by_cases h1 : 1 ≤ ho ∧ ho ≤ 3
  · exact h1
  · rw [Lf.ck_hood h1] at h; cases h
theorem bit_of {n : Nat} {f : Nat → Nat} {p : Nat → Bool} (h : ∀ k, k < n → f k = Pk.pack p k) {i : Nat} (hi : i < 64 * n) : Pk.bitAt f i = p i := by
  rw [← Pk.bitAt_pack p i]
  unfold Pk.bitAt
  rw [h (i / 64) (by omega)]
theorem cn_congr {P Q : Nat → Nat → Bool} {t : Nat} : ∀ k, (∀ j, j < k → P j t = Q j t) → Wo.cn P k t = Wo.cn Q k t
  | 0, _ => rfl
  | k + 1, h => by rw [Wo.cn, Wo.cn, cn_congr k (fun j hj => h j (by omega)), h k (by omega)]
theorem ln_congr (ho bo st m t : Nat) {a h b a' h' b' : Nat → Bool} (ea : ∀ i, i < m + 2 → a i = a' i) (eh : ∀ i, i < m + 2 → h i = h' i) (eb : ∀ i, i < m + 2 → b i = b' i) : ln ho bo st a h b m t = ln ho bo st a' h' b' m t := by
  by_cases ht : t < m
  · rw [ln_is _ _ _ _ _ _ _ _ ht, ln_is _ _ _ _ _ _ _ _ ht, eh (t + 1) (by omega)]
    have hc : Wo.cn (nb ho a h b m) (nn ho) t = Wo.cn (nb ho a' h' b' m) (nn ho) t := cn_congr _ (fun j _ => by
      unfold nb fr
      rw [ea (t + 0) (by omega), ea (t + 1) (by omega), ea (t + 2) (by omega), eh (t + 0) (by omega), eh (t + 2) (by omega), eb (t + 0) (by omega), eb (t + 1) (by omega), eb (t + 2) (by omega)])
    rw [hc]
  · rw [ln_off _ _ _ _ _ _ _ _ ht, ln_off _ _ _ _ _ _ _ _ ht]
theorem aK_le {ho bo st : Nat} {Na Nh Nb : Int} {na nh nb : Nat} {fa fh fb : Nat → Nat} (hf : ∀ k, k < nh → fh k < 18446744073709551616) : aK ho bo st Na Nh Nb na nh nb fa fh fb ≤ 1025 := by
  unfold aK
  by_cases h : aE ho bo st Na Nh Nb na nh nb fa fh fb = 0
  · rw [if_pos h]
    obtain ⟨hc, va, vh, vb, n3, e1, e2⟩ := aE_ok h
    obtain ⟨m, p, rfl, M, hp⟩ := Wo.may_of_validB hf vh
    have := M.le
    rw [Int.toNat_natCast]
    omega
  · rw [if_neg h]; omega
set_option maxHeartbeats 1000000 in
theorem lineAll (ho bo st : Nat) (hh : ho < 256) (hb : bo < 65536) (hs : st < 65536) (Na : Int) (na ca : Nat) (sa : Option Addr) (fa : Nat → Nat) (hfa : ∀ k, k < na → fa k < 18446744073709551616) (hna : na ≤ 9223372036854775807) (Nh : Int) (nh ch : Nat) (sh : Option Addr) (fh : Nat → Nat) (hfh : ∀ k, k < nh → fh k < 18446744073709551616) (hnh : nh ≤ 9223372036854775807) (Nb : Int) (nb cb : Nat) (sb : Option Addr) (fb : Nat → Nat) (hfb : ∀ k, k < nb → fb k < 18446744073709551616) (hnb : nb ≤ 9223372036854775807) (w : World) (hv : Hid (Hv w)) (wa : Wd w sa na fa) (wh : Wd w sh nh fh) (wb : Wd w sb nb fb) :
    Calls Tryz.prog 9 #[.agg #[.int .u8 (ho : Nat), .int .u16 (bo : Nat), .int .u16 (st : Nat)], .agg #[.int .i64 Na, .slice sa na ca], .agg #[.int .i64 Nh, .slice sh nh ch], .agg #[.int .i64 Nb, .slice sb nb cb]] w (Lr w (aE ho bo st Na Nh Nb na nh nb fa fh fb) (aM ho bo st Na Nh Nb na nh nb fa fh fb) (aK ho bo st Na Nh Nb na nh nb fa fh fb) (aF ho bo st Nh fa fh fb)) := by
  by_cases hE : aE ho bo st Na Nh Nb na nh nb fa fh fb = 0
  · obtain ⟨hc, va, vh, vb, n3, e1, e2⟩ := aE_ok hE
    obtain ⟨ma, pa, rfl, Ma, hpa⟩ := Wo.may_of_validB hfa va
    obtain ⟨m, ph, rfl, Mh, hph⟩ := Wo.may_of_validB hfh vh
    obtain ⟨mb, pb, rfl, Mb, hpb⟩ := Wo.may_of_validB hfb vb
    obtain rfl : ma = m := by omega
    obtain rfl : mb = ma := by omega
    obtain rfl : na = nh := by rw [Ma.words, Mh.words]
    obtain rfl : nb = na := by rw [Mb.words, Mh.words]
    have h3 : 3 ≤ mb := by omega
    obtain ⟨h1, ho3⟩ := ck_ho hc
    have hk : ∀ (w' : World) z, Row w' 37 z ((mb - 2 + 63) / 64) (ln ho bo st pa ph pb (mb - 2)) → w'.rowIs z 37 ((mb - 2 + 63) / 64) (fun k => .int .u64 (aF ho bo st (mb : Nat) fa fh fb k : Nat)) := fun w' z hr => World.rowIs.congr hr (fun k hk => by
      dsimp only [aF]
      rw [Int.toNat_natCast]
      refine congrArg (fun v : Nat => Value.int .u64 (v : Int)) (Pk.pack_congr fun j hj => ?_)
      have hw := Mh.words
      refine ln_congr ho bo st (mb - 2) _ (fun i hi => ?_) (fun i hi => ?_) (fun i hi => ?_)
      · exact (bit_of hpa (by omega)).symm
      · exact (bit_of hph (by omega)).symm
      · exact (bit_of hpb (by omega)).symm)
    have hM : aM ho bo st (mb : Nat) (mb : Nat) (mb : Nat) nb nb nb fa fh fb = ((mb - 2 : Nat) : Int) := by unfold aM; rw [if_pos hE]; omega
    have hK : aK ho bo st (mb : Nat) (mb : Nat) (mb : Nat) nb nb nb fa fh fb = (mb - 2 + 63) / 64 := by unfold aK; rw [if_pos hE, Int.toNat_natCast]
    rw [hM, hK, hE]
    have hwa := wa.congr hpa
    have hwh := wh.congr hph
    have hwb := wb.congr hpb
    rcases (show ho = 1 ∨ ho = 2 ∨ ho = 3 by omega) with rfl | rfl | rfl
    · refine (lineY1 bo st mb nb hb hs pa ph pb Ma Mh Mb h3 ca ch cb sa sh sb w hv hwa hwh hwb hc).mono ?_
      rintro e w' ⟨z, rfl, hr, g, l⟩
      exact ⟨some ⟨z, 0, none⟩, rfl, .inr ⟨z, rfl, hk w' z hr, l⟩, g⟩
    · refine (lineY2 bo st mb nb hb hs pa ph pb Ma Mh Mb h3 ca ch cb sa sh sb w hv hwa hwh hwb hc).mono ?_
      rintro e w' ⟨z, rfl, hr, g, l⟩
      exact ⟨some ⟨z, 0, none⟩, rfl, .inr ⟨z, rfl, hk w' z hr, l⟩, g⟩
    · refine (lineY3 bo st mb nb hb hs pa ph pb Ma Mh Mb h3 ca ch cb sa sh sb w hv hwa hwh hwb hc).mono ?_
      rintro e w' ⟨z, rfl, hr, g, l⟩
      exact ⟨some ⟨z, 0, none⟩, rfl, .inr ⟨z, rfl, hk w' z hr, l⟩, g⟩
  · have := lineN ho bo st hh hb hs Na na ca sa fa hfa hna Nh nh ch sh fh hfh hnh Nb nb cb sb fb hfb hnb w hv wa wh wb hE
    refine this.mono ?_
    rintro e w' ⟨rfl, g⟩
    have hM : aM ho bo st Na Nh Nb na nh nb fa fh fb = 0 := by unfold aM; rw [if_neg hE]
    have hK : aK ho bo st Na Nh Nb na nh nb fa fh fb = 0 := by unfold aK; rw [if_neg hE]
    rw [hM, hK]
    exact ⟨none, rfl, .inl ⟨rfl, rfl⟩, g⟩
end Go.Proofs.YthjiiljglgmkpaaGreatDoor.Pd
