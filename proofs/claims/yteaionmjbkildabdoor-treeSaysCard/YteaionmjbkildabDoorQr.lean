/- tree.Same of two trees of as many states and inputs. -/
import Derived.Test.YteaionmjbkildabDoorQs
import Derived.Test.YteaionmjbkildabDoorQe
import Derived.Test.YteaionmjbkildabDoorQ26
namespace Go.Proofs.YteaionmjbkildabDoor
open Go.RowKit
set_option linter.unusedVariables false
set_option linter.unusedSimpArgs false
set_option maxRecDepth 100000

theorem lf_inj {a b : List Nat} (hl : a.length = b.length) (h : ∀ i, i < a.length → lf a i = lf b i) : a = b := by
  apply List.ext_getElem? 
  intro i
  by_cases hi : i < a.length
  · have := h i hi
    unfold lf at this
    rw [List.getD_eq_getElem?_getD, List.getD_eq_getElem?_getD, List.getElem?_eq_getElem hi, List.getElem?_eq_getElem (by omega)] at this
    rw [List.getElem?_eq_getElem hi, List.getElem?_eq_getElem (by omega)]
    simp only [Option.getD_some] at this
    congr 1
    omega
  · rw [List.getElem?_eq_none (by omega), List.getElem?_eq_none (by omega)]
/-- Two forms in memory are alike just if they are one. -/
theorem forms_one (La Lb : List Nd) (spa spb : Nat → Option Addr) : (La.length = Lb.length ∧ ∀ j, j < La.length → TnE (tnOf La spa j) (tnOf Lb spb j)) ↔ La = Lb := by
  constructor
  · rintro ⟨hl, h⟩
    apply List.ext_getElem?
    intro j
    by_cases hj : j < La.length
    · obtain ⟨h1, h2, h3⟩ := h j hj
      unfold tnOf at h1 h2 h3
      simp only [List.getD_eq_getElem?_getD, List.getElem?_eq_getElem hj, List.getElem?_eq_getElem (show j < Lb.length by omega), Option.getD_some] at h1 h2 h3
      rw [List.getElem?_eq_getElem hj, List.getElem?_eq_getElem (by omega)]
      congr 1
      exact Prod.ext h1 (lf_inj h2 h3)
    · rw [List.getElem?_eq_none (by omega), List.getElem?_eq_none (by omega)]
  · rintro rfl
    exact ⟨rfl, fun j _ => ⟨rfl, rfl, fun _ _ => rfl⟩⟩
theorem fld2 (a b c d : Value) (w : World) : (Instr.field 24 (.agg #[a, b, c, d]) 2).run Tryd.prog w = .ok c w := by simp [Instr.field, underlying, Tryd.underlying24, asAgg, part]
/-- A tree's one form. -/
def cnF (t : Nat → TN) (lv : Nat → Nat) (R : Nat) : List Nd := (unf (tnd t) (lv R) R []).2
set_option maxHeartbeats 2000000 in
theorem sameTC (S I : Nat) (qa oa na ca Ra : Nat) (ta : Nat → TN) (lva : Nat → Nat) (hta : Tok S I Ra na ta lva) (qb ob nb cb Rb : Nat) (tb : Nat → TN) (lvb : Nat → Nat) (htb : Tok S I Rb nb tb lvb) (w : World) (hA : Tn w qa oa na ta) (hB : Tn w qb ob nb tb) (hl : (cnF ta lva Ra).length ≤ 65536) (hkn : ∀ j, ((cnF ta lva Ra).getD j (0, [])).2.length ≤ 4398046510976) (B : Bool) (hBB : B = true ↔ cnF ta lva Ra = cnF tb lvb Rb) :
    Calls Tryd.prog 26 #[.agg #[.int .i64 (S : Nat), .int .i64 (I : Nat), .slice (some ⟨qa, oa, none⟩) na ca, .int .i64 (Ra : Nat)], .agg #[.int .i64 (S : Nat), .int .i64 (I : Nat), .slice (some ⟨qb, ob, none⟩) nb cb, .int .i64 (Rb : Nat)]] w fun e w' => e = .returned (.tuple #[.bool B, .int .i64 0]) ∧ w.grownBy w' none := by
  obtain ⟨W1, hW1, sz1, g1, B1⟩ := boxn w #[.int .i64 (S : Nat), .int .i64 (I : Nat), .slice (some ⟨qa, oa, none⟩) na ca, .int .i64 (Ra : Nat)] 24
  obtain ⟨W2, hW2, sz2, g2, B2⟩ := boxn W1 #[.int .i64 (S : Nat), .int .i64 (I : Nat), .slice (some ⟨qb, ob, none⟩) nb cb, .int .i64 (Rb : Nat)] 24
  have G2 := gb_trans g1 g2
  have B12 := B1.kept g2 (by simp)
  have a0 := B12.cell 0 (v := .int .i64 (S : Nat)) rfl
  have a1 := B12.cell 1 (v := .int .i64 (I : Nat)) rfl
  have a2 := B12.cell 2 (v := .slice (some ⟨qa, oa, none⟩) na ca) rfl
  have a3 := B12.cell 3 (v := .int .i64 (Ra : Nat)) rfl
  have b0 := B2.cell 0 (v := .int .i64 (S : Nat)) rfl
  have b1 := B2.cell 1 (v := .int .i64 (I : Nat)) rfl
  have b2 := B2.cell 2 (v := .slice (some ⟨qb, ob, none⟩) nb cb) rfl
  have b3 := B2.cell 3 (v := .int .i64 (Rb : Nat)) rfl
  have kA := fun V (gV : W2.grownBy V none) => checkK S I Ra qa oa na ca ta lva hta V (hA.kept (gb_trans G2 gV))
  have kB := fun V (gV : W2.grownBy V none) => checkK S I Rb qb ob nb cb tb lvb htb V (hB.kept (gb_trans G2 gV))
  have cA := fun V (gV : W2.grownBy V none) => canonC qa oa na ca S I Ra ta lva hta V (hA.kept (gb_trans G2 gV))
  have cB := fun V (gV : W2.grownBy V none) => canonC qb ob nb cb S I Rb tb lvb htb V (hB.kept (gb_trans G2 gV))
  unfold cnF at hBB hl hkn
  obtain ⟨La, hLa⟩ : ∃ La, (unf (tnd ta) (lva Ra) Ra []).2 = La := ⟨_, rfl⟩
  obtain ⟨Lb, hLb⟩ : ∃ Lb, (unf (tnd tb) (lvb Rb) Rb []).2 = Lb := ⟨_, rfl⟩
  rw [hLa, hLb] at hBB
  rw [hLa] at hl
  simp only [hLa] at hkn
  simp only [hLa] at cA
  simp only [hLb] at cB
  clear hLa hLb
  have HBB : Hid (B = true ↔ La = Lb) := hBB
  have HG : Hid (w.grownBy W2 none) := G2
  have HLk : Hid (∀ sp j, (tnOf La sp j).kn ≤ 4398046510976) := fun sp j => by show (La.getD j (0, [])).2.length ≤ _; exact hkn j
  have HA2 : Hid (Bo W2 w.heap.size 24 #[.int .i64 (S : Nat), .int .i64 (I : Nat), .slice (some ⟨qa, oa, none⟩) na ca, .int .i64 (Ra : Nat)]) := B12
  have HB2 : Hid (Bo W2 W1.heap.size 24 #[.int .i64 (S : Nat), .int .i64 (I : Nat), .slice (some ⟨qb, ob, none⟩) nb cb, .int .i64 (Rb : Nat)]) := B2
  clear hA hB hBB
  go_enter Tryd.func26, Tryd.ntmps26
  go_wp2_with (first | (go_at_call 20; (fail_if_success (guard_hyp g3)); refine (kA W2 (World.grownBy.refl _ _)).mono ?_; rintro e V3 ⟨rfl, g3⟩; clear kA; have P3 := HA2.out.kept g3 (by simp); have Q3 := HB2.out.kept g3 (by simp); have c0 := P3.cell 0 (v := .int .i64 (S : Nat)) rfl; have c1 := P3.cell 1 (v := .int .i64 (I : Nat)) rfl; have c2 := P3.cell 2 (v := .slice (some ⟨qa, oa, none⟩) na ca) rfl; have c3 := P3.cell 3 (v := .int .i64 (Ra : Nat)) rfl; have d0 := Q3.cell 0 (v := .int .i64 (S : Nat)) rfl; have d1 := Q3.cell 1 (v := .int .i64 (I : Nat)) rfl; have d2 := Q3.cell 2 (v := .slice (some ⟨qb, ob, none⟩) nb cb) rfl; have d3 := Q3.cell 3 (v := .int .i64 (Rb : Nat)) rfl; have kB3 := kB V3 g3; clear kB) | (go_at_call 20; guard_hyp g3; refine kB3.mono ?_; rintro e V4 ⟨rfl, g4⟩; clear kB3; have G4 := gb_trans g3 g4; have P4 := HA2.out.kept G4 (by simp); have Q4 := HB2.out.kept G4 (by simp); have x0 := P4.cell 0 (v := .int .i64 (S : Nat)) rfl; have x1 := P4.cell 1 (v := .int .i64 (I : Nat)) rfl; have x2 := P4.cell 2 (v := .slice (some ⟨qa, oa, none⟩) na ca) rfl; have x3 := P4.cell 3 (v := .int .i64 (Ra : Nat)) rfl; have y0 := Q4.cell 0 (v := .int .i64 (S : Nat)) rfl; have y1 := Q4.cell 1 (v := .int .i64 (I : Nat)) rfl; have y2 := Q4.cell 2 (v := .slice (some ⟨qb, ob, none⟩) nb cb) rfl; have y3 := Q4.cell 3 (v := .int .i64 (Rb : Nat)) rfl))
  have gd4 : W2.grownBy V4.drew none := gb_trans G4 (gb_drew (World.grownBy.refl V4 none))
  have P5 := HA2.out.kept gd4 (by simp)
  have Q5 := HB2.out.kept gd4 (by simp)
  have e0 := P5.cell 0 (v := .int .i64 (S : Nat)) rfl
  have e1 := P5.cell 1 (v := .int .i64 (I : Nat)) rfl
  have e2 := P5.cell 2 (v := .slice (some ⟨qa, oa, none⟩) na ca) rfl
  have e3 := P5.cell 3 (v := .int .i64 (Ra : Nat)) rfl
  have f0 := Q5.cell 0 (v := .int .i64 (S : Nat)) rfl
  have f1 := Q5.cell 1 (v := .int .i64 (I : Nat)) rfl
  have f2 := Q5.cell 2 (v := .slice (some ⟨qb, ob, none⟩) nb cb) rfl
  have f3 := Q5.cell 3 (v := .int .i64 (Rb : Nat)) rfl
  have kcA := cA V4.drew gd4
  have n2 := fld2
  clear cA
  go_region_held2 (fun w' => w'.cell? ⟨w.heap.size, 0, none⟩ = some (.int .i64 (S : Nat)) ∧ w'.cell? ⟨w.heap.size, 1, none⟩ = some (.int .i64 (I : Nat)) ∧ w'.cell? ⟨w.heap.size, 2, none⟩ = some (.slice (some ⟨qa, oa, none⟩) na ca) ∧ w'.cell? ⟨w.heap.size, 3, none⟩ = some (.int .i64 (Ra : Nat)) ∧ w'.cell? ⟨W1.heap.size, 0, none⟩ = some (.int .i64 (S : Nat)) ∧ w'.cell? ⟨W1.heap.size, 1, none⟩ = some (.int .i64 (I : Nat)) ∧ w'.cell? ⟨W1.heap.size, 2, none⟩ = some (.slice (some ⟨qb, ob, none⟩) nb cb) ∧ w'.cell? ⟨W1.heap.size, 3, none⟩ = some (.int .i64 (Rb : Nat))) (go_keep) (first | (go_at_call 49; (fail_if_success (guard_hyp g5)); refine kcA.mono ?_; rintro e V5 ⟨gM, kb, rfl, hNz, hAp, g5, hgM⟩; clear kcA hAp; obtain ⟨spa, hTa⟩ := hNz.tn; have HTa : Hid (Tn V5 gM 0 La.length (tnOf La spa)) := hTa; clear hTa hNz; have G5 := gb_trans gd4 g5; have P6 := HA2.out.kept G5 (by simp); have Q6 := HB2.out.kept G5 (by simp); have h0 := P6.cell 0 (v := .int .i64 (S : Nat)) rfl; have h1 := P6.cell 1 (v := .int .i64 (I : Nat)) rfl; have h2 := P6.cell 2 (v := .slice (some ⟨qa, oa, none⟩) na ca) rfl; have h3 := P6.cell 3 (v := .int .i64 (Ra : Nat)) rfl; have i0 := Q6.cell 0 (v := .int .i64 (S : Nat)) rfl; have i1 := Q6.cell 1 (v := .int .i64 (I : Nat)) rfl; have i2 := Q6.cell 2 (v := .slice (some ⟨qb, ob, none⟩) nb cb) rfl; have i3 := Q6.cell 3 (v := .int .i64 (Rb : Nat)) rfl; have kcB := cB V5 G5; clear cB) | (go_at_call 49; guard_hyp g5; refine kcB.mono ?_; rintro e V6 ⟨gM2, kb2, rfl, hNz2, hAp2, g6, hgM2⟩; clear kcB hAp2; obtain ⟨spb, hTb⟩ := hNz2.tn; have G6 := gb_trans G5 g6; have P7 := HA2.out.kept G6 (by simp); have Q7 := HB2.out.kept G6 (by simp); have j0 := P7.cell 0 (v := .int .i64 (S : Nat)) rfl; have j1 := P7.cell 1 (v := .int .i64 (I : Nat)) rfl; have j2 := P7.cell 2 (v := .slice (some ⟨qa, oa, none⟩) na ca) rfl; have j3 := P7.cell 3 (v := .int .i64 (Ra : Nat)) rfl; have k0 := Q7.cell 0 (v := .int .i64 (S : Nat)) rfl; have k1 := Q7.cell 1 (v := .int .i64 (I : Nat)) rfl; have k2 := Q7.cell 2 (v := .slice (some ⟨qb, ob, none⟩) nb cb) rfl; have k3 := Q7.cell 3 (v := .int .i64 (Rb : Nat)) rfl; have kE := nodesC La.length Lb.length gM 0 gM2 0 La.length Lb.length hl (tnOf La spa) (tnOf Lb spb) (fun j hj => HLk.out spa j) V6 (HTa.out.kept g6) hTb B (HBB.out.trans (forms_one La Lb spa spb).symm); clear hTb hNz2) | (go_at_call 50; refine kE.mono ?_; rintro e V7 ⟨rfl, g7⟩; have G7 := gb_trans G6 g7; have P8 := HA2.out.kept G7 (by simp); have Q8 := HB2.out.kept G7 (by simp); have m0 := P8.cell 0 (v := .int .i64 (S : Nat)) rfl; have m1 := P8.cell 1 (v := .int .i64 (I : Nat)) rfl; have m2 := P8.cell 2 (v := .slice (some ⟨qa, oa, none⟩) na ca) rfl; have m3 := P8.cell 3 (v := .int .i64 (Ra : Nat)) rfl; have n0 := Q8.cell 0 (v := .int .i64 (S : Nat)) rfl; have n1 := Q8.cell 1 (v := .int .i64 (I : Nat)) rfl; have n2 := Q8.cell 2 (v := .slice (some ⟨qb, ob, none⟩) nb cb) rfl; have n3 := Q8.cell 3 (v := .int .i64 (Rb : Nat)) rfl))
  go_wp2
  go_ret2
  exact ⟨rfl, gb_trans HG.out G7⟩
end Go.Proofs.YteaionmjbkildabDoor
