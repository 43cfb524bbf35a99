/- The statement TopoFirst answers true (its walk). -/
import Derived.Test.YteegbhnfkcbnoabDoorP15
import Derived.Test.YteegbhnfkcbnoabDoorTt
import Derived.Test.YteegbhnfkcbnoabDoorP20a
import Derived.Test.YteegbhnfkcbnoabDoorP20b
import Derived.Test.YteegbhnfkcbnoabDoorP20c
import Derived.Test.YteegbhnfkcbnoabDoorP20d
import Derived.Test.YteegbhnfkcbnoabDoorP20e
import Derived.Test.YteegbhnfkcbnoabDoorP20f
import Derived.Test.YteegbhnfkcbnoabDoorP20g
import Derived.Test.YteegbhnfkcbnoabDoorP20h
import Derived.Test.YteegbhnfkcbnoabDoorP20i
namespace Go.Proofs.YteegbhnfkcbnoabDoor
open Go.RowKit
set_option linter.unusedVariables false
set_option linter.unusedSimpArgs false
set_option maxRecDepth 100000


theorem form_er {s : ByteArray} {e a : Nat} (h : Tp.formR s = .bad e a) : (e = 40 ∧ a = 0) ∨ (1 ≤ a ∧ (e = 41 ∨ e = 43 ∨ e = 45)) := by
  unfold Tp.formR at h
  by_cases hk : Tp.kindR (Sc.bt s 0) = 0
  · rw [if_pos hk] at h; injection h with e1 e2; left; omega
  · rw [if_neg hk] at h
    right
    have hsz : 1 ≤ s.size := by
      by_cases h0 : 0 < s.size
      · exact h0
      · exfalso; apply hk; rw [Sc.bt_off h0]; rfl
    have fin : ∀ k' P' Q' n' l', 1 ≤ l' → Tp.endR s k' P' Q' n' l' = .bad e a → 1 ≤ a ∧ (e = 41 ∨ e = 43 ∨ e = 45) := by
      intro k' P' Q' n' l' h1 he
      unfold Tp.endR at he
      by_cases hl : l' = s.size
      · rw [if_pos hl] at he; cases he
      · rw [if_neg hl] at he; injection he with e1 e2; omega
    unfold Tp.bodyR at h
    by_cases k5 : Tp.kindR (Sc.bt s 0) = 5
    · rw [if_pos k5] at h
      by_cases hd : 1 < Tp.dg s 1
      · rw [if_pos hd] at h; exact fin _ _ _ _ _ (by omega) h
      · rw [if_neg hd] at h; injection h with e1 e2; omega
    · rw [if_neg k5] at h
      by_cases hd : Tp.kindR (Sc.bt s 0) ≤ 2 ∧ s.size = 1
      · rw [if_pos hd] at h; cases h
      · rw [if_neg hd] at h
        have hge := part_ge s 1 hsz
        cases hp : Tp.partR s 1 with
        | bad er b =>
          have hb := part_bad hp
          rw [hp] at h hge
          injection h with e1 e2
          change 1 ≤ b at hge
          omega
        | ok q j =>
          rw [hp] at h hge
          change 1 ≤ j at hge
          unfold Tp.firR at h
          simp only [] at h
          by_cases hc : Sc.bt s j = 44
          · rw [if_pos hc] at h
            have hj := lt_of_bt hc (by decide)
            have hge2 := part_ge s (j + 1) (by omega)
            cases hp2 : Tp.partR s (j + 1) with
            | bad er b =>
              have hb := part_bad hp2
              rw [hp2] at h hge2
              injection h with e1 e2
              change j + 1 ≤ b at hge2
              omega
            | ok u m => rw [hp2] at h hge2; change j + 1 ≤ m at hge2; exact fin _ _ _ _ _ (by omega) h
          · rw [if_neg hc] at h; exact fin _ _ _ _ _ hge h
theorem parse_er {s : ByteArray} (he : (Tp.parseR s).e ≠ 0) (h3 : (Tp.parseR s).e ≠ 3) : (∃ k P Q n l, Tp.formR s = .ok k P Q n l ∧ (Tp.parseR s).e = (Tp.senseR k P Q l).e ∧ (Tp.parseR s).a = (Tp.senseR k P Q l).a) ∨ Tp.formR s = .bad (Tp.parseR s).e (Tp.parseR s).a := by
  by_cases hz : 1048576 < s.size
  · exfalso; apply h3; unfold Tp.parseR; rw [if_pos hz]; rfl
  · have hs : Tp.parseR s = Tp.toldR (Tp.formR s) := by unfold Tp.parseR; rw [if_neg hz]
    cases hf : Tp.formR s with
    | bad e a => right; rw [hs, hf]; rfl
    | ok k P Q n l =>
      left
      rw [hs, hf] at he
      change (Tp.sayR k P Q l).e ≠ 0 at he
      refine ⟨k, P, Q, n, l, rfl, ?_⟩
      rw [hs, hf]
      change (Tp.sayR k P Q l).e = _ ∧ (Tp.sayR k P Q l).a = _
      unfold Tp.sayR at he ⊢
      by_cases h0 : (Tp.senseR k P Q l).e = 0
      · rw [if_pos h0] at he; exact absurd (topo_fields k P Q).2.2.2.2 he
      · rw [if_neg h0]; exact ⟨rfl, rfl⟩
theorem no_zero {s : ByteArray} (h43 : (Tp.parseR s).e = 43) (hz : (Tp.parseR s).a = 0) : False := by
  rcases parse_er (s := s) (by omega) (by omega) with ⟨k, P, Q, n, l, hf, e1, e2⟩ | hf
  · have hg := form_gd hf
    have := sense_is hg.1 hg.2 (k := k) (l := l) (by omega)
    unfold Sens at this
    omega
  · have := form_er hf
    omega
theorem form_codes {s : ByteArray} (he : (Tp.parseR s).e ≠ 0) (h3 : (Tp.parseR s).e ≠ 3) (h44 : (Tp.parseR s).e ≠ 44) (h42 : (Tp.parseR s).e ≠ 42) (h41 : (Tp.parseR s).e ≠ 41) (h43 : (Tp.parseR s).e ≠ 43) : (Tp.parseR s).e = 40 ∨ (Tp.parseR s).e = 45 := by
  rcases parse_er (s := s) he h3 with ⟨k, P, Q, n, l, hf, e1, e2⟩ | hf
  · have hg := form_gd hf
    have := sense_is hg.1 hg.2 (k := k) (l := l) (by omega)
    unfold Sens at this
    omega
  · have := form_er hf
    omega
theorem first_walk (s m : ByteArray) (w : World) (hs : s.size ≤ maxLen) (hm0 : m.size ≤ maxLen) (tp : TypeId) (p : Value) (hE : En tp p w) (htab : Tab w) : Calls Tryd.prog 6 #[.string s, .string m] w fun e w' => e = .returned (.bool true) ∧ Below w.heap.size w w' := by
  have key : Calls Tryd.prog 6 #[.string s, .string m] w fun e w' => e = .returned (.bool true) ∧ w.grownBy w' none := by
    by_cases he : (Tp.parseR s).e = 0
    · exact first_ok s m w tp p hE htab hs (Tp.parseR s).k (Tp.parseR s).w (Tp.parseR s).h (Tp.parseR s).t (Tp.parseR s).s rfl he
    by_cases h3 : (Tp.parseR s).e = 3
    · exact first_3 s m w tp p hE htab hs _ h3.symm rfl he
    have e0 : (((Tp.parseR s).e : Int) == 0) = false := by simp; omega
    have e3 : (((Tp.parseR s).e : Int) == 3) = false := by simp; omega
    by_cases ha : (s.size : Int) ≤ ((Tp.parseR s).a : Int)
    · exact first_end s m w tp p hE htab _ e0 e3 hs _ rfl rfl he ha
    by_cases hm : 1000000 < (m.size : Int)
    · exact first_more s m w tp p hE htab _ e0 e3 hs _ rfl rfl he ha hm
    by_cases hl : 40000 < (s.size : Int)
    · exact first_long s m w tp p hE htab _ e0 e3 hs _ rfl rfl he ha hm hl
    have hlt : (Tp.parseR s).a < s.size := by omega
    by_cases h44 : (Tp.parseR s).e = 44
    · exact first_44 s m w tp p hE htab hs _ h44.symm rfl he ha hlt hm hl
    by_cases h42 : (Tp.parseR s).e = 42
    · exact first_42 s m w tp p hE htab hs _ h42.symm rfl he ha hlt hm hl
    have hz1 : (s.extract 0 ((Tp.parseR s).a + 1)).size = (Tp.parseR s).a + 1 := by rw [Sc.size_ext s (by omega)]; omega
    have hsz := ByteArray.size_append (a := s.extract 0 ((Tp.parseR s).a + 1)) (b := m)
    have hrs : ((s.extract 0 ((Tp.parseR s).a + 1)) ++ m).size ≤ 1048576 := by omega
    have hrm : ((s.extract 0 ((Tp.parseR s).a + 1)) ++ m).size ≤ maxLen := by unfold maxLen; omega
    have stay : ¬ Sens s (Tp.parseR s).e (Tp.parseR s).a → (Tp.parseR ((s.extract 0 ((Tp.parseR s).a + 1)) ++ m)).e = (Tp.parseR s).e ∧ (Tp.parseR ((s.extract 0 ((Tp.parseR s).a + 1)) ++ m)).a = (Tp.parseR s).a := fun hn => first_is he h3 hn (ag_ext hlt) hrs
    by_cases h41 : (Tp.parseR s).e = 41
    · by_cases d1 : 48 ≤ (Sc.bt s (Tp.parseR s).a : Int)
      · by_cases d2 : (Sc.bt s (Tp.parseR s).a : Int) ≤ 57
        · exact first_41s s m w tp p hE htab hs _ h41.symm rfl he ha hlt hm hl d1 d2
        · obtain ⟨r1, r2⟩ := stay (by unfold Sens; omega)
          exact first_41hi s m w tp p hE htab hs _ h41.symm rfl he ha hlt hm hl hrm (by rw [r1, h41]; rfl) r2.symm (by rw [r1]; exact he) d1 d2
      · obtain ⟨r1, r2⟩ := stay (by unfold Sens; omega)
        exact first_41lo s m w tp p hE htab hs _ h41.symm rfl he ha hlt hm hl hrm (by rw [r1, h41]; rfl) r2.symm (by rw [r1]; exact he) d1
    by_cases h43 : (Tp.parseR s).e = 43
    · by_cases hsg : sgB (Sc.bt s (Tp.parseR s).a)
      · have hpos : 0 < (Tp.parseR s).a := by
          by_cases h0 : 0 < (Tp.parseR s).a
          · exact h0
          · exfalso
            have hz : (Tp.parseR s).a = 0 := by omega
            exact no_zero h43 hz
        obtain ⟨c, hc⟩ : ∃ c, (Tp.parseR s).a = c + 1 := ⟨(Tp.parseR s).a - 1, by omega⟩
        rw [hc] at ha hlt hsg hrm stay
        by_cases hpv : sgB (Sc.bt s c)
        · obtain ⟨r1, r2⟩ := stay (by unfold Sens; simp [h43]; intro _; exact hpv)
          rcases hsg with q | q
          · rcases hpv with u | u
            · exact first_43p43_43 s m w tp p hE htab hs c h43.symm hc.symm he ha hlt hm hl hrm (by rw [r1, h43]; rfl) r2.symm (by rw [r1]; exact he) (by simp [q]) (by simp [u])
            · exact first_43p43_45 s m w tp p hE htab hs c h43.symm hc.symm he ha hlt hm hl hrm (by rw [r1, h43]; rfl) r2.symm (by rw [r1]; exact he) (by simp [q]) (by simp [u]) (by simp [u])
          · rcases hpv with u | u
            · exact first_43p45_43 s m w tp p hE htab hs c h43.symm hc.symm he ha hlt hm hl hrm (by rw [r1, h43]; rfl) r2.symm (by rw [r1]; exact he) (by simp [q]) (by simp [q]) (by simp [u])
            · exact first_43p45_45 s m w tp p hE htab hs c h43.symm hc.symm he ha hlt hm hl hrm (by rw [r1, h43]; rfl) r2.symm (by rw [r1]; exact he) (by simp [q]) (by simp [q]) (by simp [u]) (by simp [u])
        · have u1 : ((Sc.bt s c : Int) != 43) = true := by simp; intro hx; exact hpv (Or.inl (by omega))
          have u2 : ((Sc.bt s c : Int) != 45) = true := by simp; intro hx; exact hpv (Or.inr (by omega))
          rcases hsg with q | q
          · exact first_43s43 s m w tp p hE htab hs c h43.symm hc.symm he ha hlt hm hl (by simp [q]) u1 u2
          · exact first_43s45 s m w tp p hE htab hs c h43.symm hc.symm he ha hlt hm hl (by simp [q]) (by simp [q]) u1 u2
      · obtain ⟨r1, r2⟩ := stay (by unfold Sens; intro hx; rcases hx with hx | hx | hx | hx <;> first | omega | exact hsg hx.2.1)
        have q1 : ((Sc.bt s (Tp.parseR s).a : Int) == 43) = false := by simp; intro hx; exact hsg (Or.inl (by omega))
        have q2 : ((Sc.bt s (Tp.parseR s).a : Int) == 45) = false := by simp; intro hx; exact hsg (Or.inr (by omega))
        exact first_43n s m w tp p hE htab hs _ h43.symm rfl he ha hlt hm hl hrm (by rw [r1, h43]; rfl) r2.symm (by rw [r1]; exact he) q1 q2
    obtain ⟨r1, r2⟩ := stay (by unfold Sens; omega)
    obtain h40 | h45 := form_codes he h3 h44 h42 h41 h43
    · exact first_40 s m w tp p hE htab hs _ h40.symm rfl he ha hlt hm hl hrm (by rw [r1, h40]; rfl) r2.symm (by rw [r1]; exact he)
    · exact first_45 s m w tp p hE htab hs _ h45.symm rfl he ha hlt hm hl hrm (by rw [r1, h45]; rfl) r2.symm (by rw [r1]; exact he)
  exact key.mono fun e w' ⟨h1, h2⟩ => ⟨h1, gb_below h2⟩
end Go.Proofs.YteegbhnfkcbnoabDoor
