/- Times in one form: the program's, the document's. -/
import Derived.Test.YtijjbejilpglnaaGreatN42
namespace Go.Proofs.YtijjbejilpglnaaGreat
open Go.RowKit
set_option linter.unusedVariables false
set_option linter.unusedSimpArgs false
set_option maxRecDepth 100000

namespace Ln
/-- One place moved by the first k moves, put in or taken out. -/
def tK (p : Pt) (f : Nat → Pt) (M : List Pt) : Nat → List Pt
  | 0 => M
  | k + 1 => tnL (tK p f M k) (padd p (f k))
/-- The product of the first i places and n moves. -/
def tD (f1 f2 : Nat → Pt) (n : Nat) : Nat → List Pt
  | 0 => []
  | i + 1 => tK (f1 i) f2 (tD f1 f2 n i) n
theorem tK_sd {p : Pt} {f : Nat → Pt} {M : List Pt} (h : Sd M) : ∀ k, Sd (tK p f M k)
  | 0 => h
  | k + 1 => tnL_sd (tK_sd h k)
theorem tD_sd (f1 f2 : Nat → Pt) (n : Nat) : ∀ i, Sd (tD f1 f2 n i)
  | 0 => List.Pairwise.nil
  | i + 1 => tK_sd (tD_sd f1 f2 n i) n
theorem tK_len {p : Pt} {f : Nat → Pt} {M : List Pt} : ∀ k, (tK p f M k).length ≤ M.length + k
  | 0 => Nat.le_refl _
  | k + 1 => by have := tK_len (p := p) (f := f) (M := M) k; have := tnL_len (padd p (f k)) (tK p f M k); show (tnL (tK p f M k) (padd p (f k))).length ≤ _; omega
theorem tD_len (f1 f2 : Nat → Pt) (n : Nat) : ∀ i, (tD f1 f2 n i).length ≤ i * n
  | 0 => Nat.zero_le _
  | i + 1 => by
    have h1 := tD_len f1 f2 n i
    have h2 := tK_len (p := f1 i) (f := f2) (M := tD f1 f2 n i) n
    show (tK (f1 i) f2 (tD f1 f2 n i) n).length ≤ (i + 1) * n
    rw [Nat.succ_mul]
    omega
theorem tK_par {p q : Pt} {f : Nat → Pt} {M : List Pt} (h : Sd M) : ∀ k, decide (q ∈ tK p f M k) = Bool.xor (decide (q ∈ M)) (od1 p f k q)
  | 0 => by show _ = Bool.xor _ false; rw [Bool.xor_false]; rfl
  | k + 1 => by
    show decide (q ∈ tnL (tK p f M k) (padd p (f k))) = Bool.xor _ (Bool.xor (od1 p f k q) (decide (q = padd p (f k))))
    rw [tnL_flip _ q (tK_sd h k), tK_par h k]
    cases decide (q ∈ M) <;> cases od1 p f k q <;> cases decide (q = padd p (f k)) <;> rfl
theorem tD_par (f1 f2 : Nat → Pt) (n : Nat) (q : Pt) : ∀ i, decide (q ∈ tD f1 f2 n i) = odS (psL f1 i) f2 n q
  | 0 => by rfl
  | i + 1 => by
    rw [psL_succ, odS_snoc, ← tD_par f1 f2 n q i]
    exact tK_par (tD_sd f1 f2 n i) n
def tmE (f1 : Nat → Pt) (n1 : Nat) (f2 : Nat → Pt) (n2 : Nat) : Int := if orL [ckO f1 n1 1099511627776, ckO f2 n2 1099511627776] ≠ 0 then orL [ckO f1 n1 1099511627776, ckO f2 n2 1099511627776] else if lsW 1099511627776 (tD f1 f2 n2 n1) = true then 0 else 5
def tmV (f1 : Nat → Pt) (n1 : Nat) (f2 : Nat → Pt) (n2 : Nat) : List Pt := if tmE f1 n1 f2 n2 = 0 then tD f1 f2 n2 n1 else []
theorem orL2 {a b : Int} : orL [a, b] = 0 ↔ a = 0 ∧ b = 0 := by
  simp only [orL]
  by_cases h : a = 0
  · rw [if_pos h]
    by_cases h2 : b = 0
    · rw [if_pos h2]; simp [h, h2]
    · rw [if_neg h2]; simp [h]
  · rw [if_neg h]; simp [h]
theorem own_nil0 {w : World} {base : Nat} {D : List Pt} (h : D = []) : w.ownsRow base 25 2 (.slice none 0 0) D.length (fl D) := by subst h; exact World.ownsRow_nil _ _ _ _
/-- The program's. -/
theorem timesG (s1 s2 : Option Addr) (n1 c1 n2 c2 : Nat) (f1 f2 : Nat → Pt) (hf1 : ∀ k, k < n1 → PtOk (f1 k)) (hf2 : ∀ k, k < n2 → PtOk (f2 k)) (hn1 : n1 < 1073741824) (hn2 : n2 < 1073741824) (w : World) (h1 : Pl w s1 n1 f1) (h2 : Pl w s2 n2 f2) :
    Calls Tryz.prog 15 #[.slice s1 n1 c1, .slice s2 n2 c2] w fun e w' => ∃ v, e = .returned (.tuple #[v, .int .i64 (tmE f1 n1 f2 n2)]) ∧ w'.ownsRow w.heap.size 25 2 v (tmV f1 n1 f2 n2).length (fl (tmV f1 n1 f2 n2)) ∧ w.grownBy w' none := by
  by_cases hE : orL [ckO f1 n1 1099511627776, ckO f2 n2 1099511627776] = 0
  · obtain ⟨e1, e2⟩ := orL2.1 hE
    obtain ⟨_, _, ht⟩ := ckO_zero e1
    refine (timesY s1 s2 n1 c1 n2 c2 f1 f2 hn1 hn2 w h1 h2 e1 e2).mono ?_
    rintro e w' ⟨hg, T, hT, _, hh⟩
    have hs : srt T = tD f1 f2 n2 n1 := srt_doc ht hT (tD_sd _ _ _ _) (fun q => tD_par f1 f2 n2 q n1)
    have hl : T.length = (tD f1 f2 n2 n1).length := by rw [← srt_len T, hs]
    rw [hs] at hh
    rcases hh with ⟨h1, he⟩ | ⟨h1, g, cap, he, own⟩
    · have hm : tmE f1 n1 f2 n2 = 5 := by unfold tmE; rw [if_neg (by rw [hE]; simp), if_neg (by rw [h1]; simp)]
      refine ⟨_, by rw [hm]; exact he, own_nil0 (by unfold tmV; rw [hm, if_neg (by omega)]), hg⟩
    · have hm : tmE f1 n1 f2 n2 = 0 := by unfold tmE; rw [if_neg (by rw [hE]; simp), if_pos h1]
      have hv : tmV f1 n1 f2 n2 = tD f1 f2 n2 n1 := by unfold tmV; rw [if_pos hm]
      rw [hl] at he own
      exact ⟨_, by rw [hm]; exact he, by rw [hv]; exact own, hg⟩
  · refine (timesN s1 s2 n1 c1 n2 c2 f1 f2 hf1 hf2 hn1 hn2 w h1 h2 hE).mono ?_
    rintro e w' ⟨he, hg⟩
    have hm : tmE f1 n1 f2 n2 = orL [ckO f1 n1 1099511627776, ckO f2 n2 1099511627776] := by unfold tmE; rw [if_pos hE]
    exact ⟨_, by rw [hm]; exact he, own_nil0 (by unfold tmV; rw [hm, if_neg hE]), hg⟩
set_option maxHeartbeats 4000000 in
/-- The document's. -/
theorem refTimesG (s1 s2 : Option Addr) (n1 c1 n2 c2 : Nat) (f1 f2 : Nat → Pt) (hn1 : n1 < 1000000000) (hn2 : n2 < 1000000000) (w : World) (h1 : Pl w s1 n1 f1) (h2 : Pl w s2 n2 f2) :
    Calls Tryz.prog 14 #[.slice s1 n1 c1, .slice s2 n2 c2] w fun e w' => ∃ v, e = .returned (.tuple #[v, .int .i64 (tmE f1 n1 f2 n2)]) ∧ w'.ownsRow w.heap.size 25 2 v (tmV f1 n1 f2 n2).length (fl (tmV f1 n1 f2 n2)) ∧ w.grownBy w' none := by
  have kA := refCheckC s1 n1 c1 f1 hn1 w h1
  have kB := fun w1 (g1 : w.grownBy w1 none) => refCheckC s2 n2 c2 f2 hn2 w1 (h2.kept g1 (by simp))
  by_cases ha : ckO f1 n1 1099511627776 = 0
  · by_cases hb : ckO f2 n2 1099511627776 = 0
    · obtain ⟨l1, a1, t1⟩ := ckO_zero ha
      obtain ⟨l2, a2, t2⟩ := ckO_zero hb
      have b1 : ∀ k, k < n1 → (-1099511627776 ≤ (f1 k).1 ∧ (f1 k).1 ≤ 1099511627776) ∧ (-1099511627776 ≤ (f1 k).2 ∧ (f1 k).2 ≤ 1099511627776) := fun k hk => by
        have := (alW_is _ f1 n1).1 a1 k hk
        rw [inW_is, inW_is] at this
        exact this
      have b2 : ∀ k, k < n2 → (-1099511627776 ≤ (f2 k).1 ∧ (f2 k).1 ≤ 1099511627776) ∧ (-1099511627776 ≤ (f2 k).2 ∧ (f2 k).2 ≤ 1099511627776) := fun k hk => by
        have := (alW_is _ f2 n2).1 a2 k hk
        rw [inW_is, inW_is] at this
        exact this
      have HB1 : Hid (∀ k, k < n1 → (-1099511627776 ≤ (f1 k).1 ∧ (f1 k).1 ≤ 1099511627776) ∧ (-1099511627776 ≤ (f1 k).2 ∧ (f1 k).2 ≤ 1099511627776)) := b1
      have HB2 : Hid (∀ k, k < n2 → (-1099511627776 ≤ (f2 k).1 ∧ (f2 k).1 ≤ 1099511627776) ∧ (-1099511627776 ≤ (f2 k).2 ∧ (f2 k).2 ≤ 1099511627776)) := b2
      have hor : orL [ckO f1 n1 1099511627776, ckO f2 n2 1099511627776] = 0 := orL2.2 ⟨ha, hb⟩
      have HE : Hid (tmE f1 n1 f2 n2 = if lsW 1099511627776 (tD f1 f2 n2 n1) = true then 0 else 5) := by unfold Hid tmE; rw [if_neg (by rw [hor]; simp)]
      have HV : Hid (tmV f1 n1 f2 n2 = if tmE f1 n1 f2 n2 = 0 then tD f1 f2 n2 n1 else []) := rfl
      obtain ⟨rE, hrE⟩ : ∃ r, tmE f1 n1 f2 n2 = r := ⟨_, rfl⟩
      obtain ⟨rV, hrV⟩ : ∃ r, tmV f1 n1 f2 n2 = r := ⟨_, rfl⟩
      rw [hrE] at HE HV
      rw [hrV] at HV
      rw [hrE, hrV]
      rw [ha] at kA
      rw [hb] at kB
      clear hrE hrV hor b1 b2 a1 a2 t1 t2 ha hb
      go_enter Tryz.func14, Tryz.ntmps14
      go_wp2_with (first | (go_at_call 13; refine kA.mono ?_; rintro e w1 ⟨rfl, g1⟩; clear kA; have kB1 := kB w1 g1; clear kB) | (go_at_call 13; refine kB1.mono ?_; rintro e w2 ⟨rfl, g2⟩; clear kB1) | go_in)
      have G2 := gb_trans g1 g2
      go_loopw [9, 8] (fun a b wr => ∃ (i nM : Nat) (M : List Pt) (ov : Value), i ≤ n1 ∧ a = .int .i64 i ∧ b = ov ∧ Hid (M.length = nM) ∧ nM ≤ 4096 ∧ wr.ownsRow w.heap.size 25 2 ov nM (fl M) ∧ Hid (tD f1 f2 n2 i = M) ∧ w.grownBy wr none) (fun a _ _ => n1 - (intOf a).toNat)
      case atStart => exact ⟨0, 0, [], _, Nat.zero_le _, rfl, rfl, rfl, by omega, World.ownsRow_nil _ _ _ _, rfl, G2⟩
      case round =>
        obtain ⟨i, nM, M, ov, hi, rfl, hov, HML, hnM, own, HMD, gi⟩ := hrel
        subst hov
        by_cases hlt : i < n1
        · have hlt' : (i : Int) < (n1 : Int) := by omega
          obtain ⟨fi, hfi⟩ : ∃ p, f1 i = p := ⟨_, rfl⟩
          have HF : Hid (f1 i = fi) := hfi
          have hfb := HB1.out i hlt
          rw [hfi] at hfb
          have HN : Hid (tD f1 f2 n2 (i + 1) = tK fi f2 M n2) := by unfold Hid; rw [← hfi, ← HMD.out]; rfl
          have hil : ∀ k, k ≤ n2 → (tK fi f2 M k).length ≤ 4096 := fun k hk => by
            have h1 := tK_len (p := fi) (f := f2) (M := M) k
            have h2 := tD_len f1 f2 n2 i
            have h3 : i * n2 ≤ 63 * n2 := Nat.mul_le_mul_right _ (by omega)
            rw [HMD.out] at h2
            omega
          have HIL : Hid (∀ k, k ≤ n2 → (tK fi f2 M k).length ≤ 4096) := hil
          clear hfi hil
          obtain ⟨px, py⟩ := fi
          simp only at hfb
          go_wp2
          go_loopw [10, 8] (fun a b wr => ∃ (k nM' : Nat) (M' : List Pt) (ov : Value), k ≤ n2 ∧ a = .int .i64 k ∧ b = ov ∧ Hid (M'.length = nM') ∧ nM' ≤ 4096 ∧ wr.ownsRow w.heap.size 25 2 ov nM' (fl M') ∧ Hid (tK (px, py) f2 M k = M') ∧ w.grownBy wr none) (fun a _ _ => n2 - (intOf a).toNat)
          case atStart => exact ⟨0, nM, M, _, Nat.zero_le _, rfl, rfl, HML.out, hnM, own, rfl, gi⟩
          case round =>
            obtain ⟨k, nK, MK, ov, hk, rfl, hov, HKL, hnK, ownK, HKD, gk⟩ := hrel
            subst hov
            by_cases hkt : k < n2
            · have hkt' : (k : Int) < (n2 : Int) := by omega
              obtain ⟨q, o, rfl, c0, c1⟩ := (h1.kept gk (by simp)) i hlt
              obtain ⟨q2, o2, rfl, d0, d1⟩ := (h2.kept gk (by simp)) k hkt
              rw [HF.out] at c0 c1
              have hgb := HB2.out k hkt
              have HN2 : Hid (tK (px, py) f2 M (k + 1) = tnL MK (padd (px, py) (f2 k))) := by unfold Hid; rw [← HKD.out]; rfl
              have hll := HIL.out (k + 1) (by omega)
              rw [HN2.out] at hll
              obtain ⟨p2, hp2⟩ : ∃ p, f2 k = p := ⟨_, rfl⟩
              rw [hp2] at d0 d1 hgb HN2 hll
              obtain ⟨ux, uy⟩ := p2
              simp only [padd] at d0 d1 hgb HN2 hll c0 c1
              obtain ⟨sM, cM, rfl, PM, _⟩ := own_shape0 ownK HKL.out
              have gdr : wr.grownBy wr.drew none := gb_drew (World.grownBy.refl wr none)
              have e0 := gdr.cell c0 (by simp)
              have e1 := gdr.cell c1 (by simp)
              have x0 := gdr.cell d0 (by simp)
              have x1 := gdr.cell d1 (by simp)
              have hwx : IntKind.i64.wrap (px + ux) = px + ux := by rw [IntKind.wrap_i64]; omega
              have hwy : IntKind.i64.wrap (py + uy) = py + uy := by rw [IntKind.wrap_i64]; omega
              have kT := turnedC sM nK cM (fun k => MK.getD k (0, 0)) (by omega) (px + ux) (py + uy) wr.drew (PM.kept gdr (by simp))
              have hps : psL (fun k => MK.getD k (0, 0)) nK = MK := by rw [← HKL.out]; exact psL_self MK
              rw [hps] at kT
              obtain ⟨T, hT⟩ : ∃ T, tnL MK (px + ux, py + uy) = T := ⟨_, rfl⟩
              rw [hT] at kT HN2 hll
              clear hT hps hp2 ownK PM HKD
              go_wp2
              go_region_held2 (fun w' => w'.cell? ⟨q, o + i * 2, none⟩ = some (.int .i64 px) ∧ w'.cell? ⟨q, o + i * 2 + 1, none⟩ = some (.int .i64 py) ∧ w'.cell? ⟨q2, o2 + k * 2, none⟩ = some (.int .i64 ux) ∧ w'.cell? ⟨q2, o2 + k * 2 + 1, none⟩ = some (.int .i64 uy)) (go_keep) (first | (go_at_call 32; refine kT.mono ?_; rintro e w3 ⟨v3, rfl, own3, g3⟩; clear kT; have y0 := g3.cell e0 (by simp); have y1 := g3.cell e1 (by simp); have z0 := g3.cell x0 (by simp); have z1 := g3.cell x1 (by simp)))
              go_wp2
              go_roundw
              case rel => exact ⟨k + 1, T.length, T, v3, by omega, by go_num, rfl, rfl, hll, own_less own3 (gb_trans gk gdr).size, HN2.out, gb_trans gk (gb_trans gdr g3)⟩
              case measure => simp [intOf]; omega
            · have hin : k = n2 := by omega
              subst hin
              have hkt' : ¬ (k : Int) < (k : Int) := by omega
              have HND : Hid (tD f1 f2 k (i + 1) = MK) := by unfold Hid; rw [HN.out]; exact HKD.out
              go_wp2
              go_roundw
              case rel => exact ⟨i + 1, nK, MK, _, by omega, by go_num, rfl, HKL.out, hnK, ownK, HND.out, gk⟩
              case measure => simp [intOf]; omega
        · have hin : i = n1 := by omega
          subst hin
          have hlt' : ¬ (i : Int) < (i : Int) := by omega
          obtain ⟨sM, cM, rfl, PM, _⟩ := own_shape0 own HML.out
          rw [HMD.out] at HE HV
          have HO : Hid (wr.ownsRow w.heap.size 25 2 (.slice sM nM cM) nM (fl M)) := own
          clear own HMD
          obtain ⟨wo, hwo⟩ : ∃ W, W = wr := ⟨_, rfl⟩
          subst hwo
          go_wp2
          go_loopw [11] (fun v wr => ∃ j : Nat, j ≤ nM ∧ v = .int .i64 j ∧ wo.grownBy wr none ∧ Hid (∀ k, k < j → inW 1099511627776 (M.getD k (0, 0)).1 = true ∧ inW 1099511627776 (M.getD k (0, 0)).2 = true)) (fun v _ => nM - (intOf v).toNat)
          case atStart => exact ⟨0, Nat.zero_le _, rfl, World.grownBy.refl _ _, fun a ha => by omega⟩
          case round =>
            obtain ⟨j, hj, rfl, gj, HS⟩ := hrel
            by_cases hjt : j < nM
            · have hjt' : (j : Int) < (nM : Int) := by omega
              obtain ⟨q, o, rfl, c0, c1⟩ := (PM.kept gj (by simp)) j hjt
              have HBd : Hid (¬ (inW 1099511627776 (M.getD j (0, 0)).1 = true ∧ inW 1099511627776 (M.getD j (0, 0)).2 = true) → rE = 5 ∧ rV = []) := fun hb => by
                have hl : lsW 1099511627776 M = false := alW_bad (f := fun k => M.getD k (0, 0)) (i := j) (by rw [HML.out]; exact hjt) hb
                have e1 : rE = 5 := by rw [HE.out, if_neg (by rw [hl]; simp)]
                exact ⟨e1, by rw [HV.out, e1, if_neg (by omega)]⟩
              have HG : Hid (inW 1099511627776 (M.getD j (0, 0)).1 = true ∧ inW 1099511627776 (M.getD j (0, 0)).2 = true → ∀ k, k < j + 1 → inW 1099511627776 (M.getD k (0, 0)).1 = true ∧ inW 1099511627776 (M.getD k (0, 0)).2 = true) := fun hg k hk => by
                by_cases e : k = j
                · subst e; exact hg
                · exact HS.out k (by omega)
              have kx := fun w1 => refNearC (M.getD j (0, 0)).1 w1
              have ky := fun w1 => refNearC (M.getD j (0, 0)).2 w1
              obtain ⟨bx, hbx⟩ : ∃ b, inW 1099511627776 (M.getD j (0, 0)).1 = b := ⟨_, rfl⟩
              obtain ⟨by_, hby⟩ : ∃ b, inW 1099511627776 (M.getD j (0, 0)).2 = b := ⟨_, rfl⟩
              rw [hbx] at kx
              rw [hby] at ky
              have HBX : Hid (inW 1099511627776 (M.getD j (0, 0)).1 = bx) := hbx
              have HBY : Hid (inW 1099511627776 (M.getD j (0, 0)).2 = by_) := hby
              clear hbx hby HS
              obtain ⟨px, hpx⟩ : ∃ b, (M.getD j (0, 0)).1 = b := ⟨_, rfl⟩
              obtain ⟨py, hpy⟩ : ∃ b, (M.getD j (0, 0)).2 = b := ⟨_, rfl⟩
              rw [hpx] at c0 kx
              rw [hpy] at c1 ky
              clear hpx hpy
              cases bx with
              | false =>
                obtain ⟨e1, e2⟩ := HBd.out (fun hh => by rw [HBX.out] at hh; cases hh.1)
                subst e1
                subst e2
                clear HG HBd HE HV
                go_wp2_with (first | (go_at_call 30; refine (kx _).mono ?_; rintro e w' ⟨rfl, hw'⟩; subst w') | go_in)
                go_ret2
                exact ⟨_, rfl, World.ownsRow_nil _ _ _ _, by first | exact gb_trans gi gj | exact gb_drew (gb_trans gi gj) | exact gb_drewN (gb_trans gi gj) _⟩
              | true =>
                cases by_ with
                | false =>
                  obtain ⟨e1, e2⟩ := HBd.out (fun hh => by rw [HBY.out] at hh; cases hh.2)
                  subst e1
                  subst e2
                  clear HG HBd HE HV
                  go_wp2_with (first | (go_at_call 30; (fail_if_success (guard_hyp mk)); refine (kx _).mono ?_; rintro e w' ⟨rfl, hw'⟩; subst w'; have mk : True := trivial) | (go_at_call 30; refine (ky _).mono ?_; rintro e w' ⟨rfl, hw'⟩; subst w') | go_in)
                  go_ret2
                  exact ⟨_, rfl, World.ownsRow_nil _ _ _ _, by first | exact gb_trans gi gj | exact gb_drew (gb_trans gi gj) | exact gb_drewN (gb_trans gi gj) _⟩
                | true =>
                  have HS1 : Hid (∀ k, k < j + 1 → inW 1099511627776 (M.getD k (0, 0)).1 = true ∧ inW 1099511627776 (M.getD k (0, 0)).2 = true) := HG.out ⟨HBX.out, HBY.out⟩
                  clear HG HBd
                  go_wp2_with (first | (go_at_call 30; (fail_if_success (guard_hyp mk)); refine (kx _).mono ?_; rintro e w' ⟨rfl, hw'⟩; subst w'; have mk : True := trivial) | (go_at_call 30; refine (ky _).mono ?_; rintro e w' ⟨rfl, hw'⟩; subst w') | go_in)
                  go_roundw
                  case rel => exact ⟨j + 1, by omega, by go_num, by first | exact gj | exact gb_drew gj | exact gb_drewN gj _, HS1.out⟩
                  case measure => simp [intOf]; omega
            · have hjn : j = nM := by omega
              have hjt' : ¬ (j : Int) < (nM : Int) := by omega
              have hl : lsW 1099511627776 M = true := (alW_is _ _ _).2 (fun k hk => HS.out k (by rw [HML.out] at hk; omega))
              have e1 : rE = 0 := by rw [HE.out, if_pos hl]
              have e2 : rV = M := by rw [HV.out, if_pos e1]
              subst e1
              subst e2
              have HOj := HO.out.kept gj (Classical.em _)
              clear hl HE HV
              go_wp2
              go_ret2
              exact ⟨_, rfl, by rw [HML.out]; exact HOj, gb_trans gi gj⟩
    · have hor : orL [ckO f1 n1 1099511627776, ckO f2 n2 1099511627776] = ckO f2 n2 1099511627776 := by simp only [orL]; rw [if_pos ha, if_neg hb]
      have e1 : tmE f1 n1 f2 n2 = ckO f2 n2 1099511627776 := by unfold tmE; rw [hor, if_pos hb]
      have e2 : tmV f1 n1 f2 n2 = [] := by unfold tmV; rw [e1, if_neg hb]
      rw [e1, e2]
      rw [ha] at kA
      generalize ckO f2 n2 1099511627776 = r at kB hb
      have hbr : (r != 0) = true := by simp [hb]
      clear e1 e2 hor ha
      go_enter Tryz.func14, Tryz.ntmps14
      go_wp2_with (first | (go_at_call 13; refine kA.mono ?_; rintro e w1 ⟨rfl, g1⟩; clear kA; have kB1 := kB w1 g1; clear kB) | (go_at_call 13; refine kB1.mono ?_; rintro e w2 ⟨rfl, g2⟩; clear kB1) | go_in)
      go_ret2
      exact ⟨_, rfl, World.ownsRow_nil _ _ _ _, gb_trans g1 g2⟩
  · have hor : orL [ckO f1 n1 1099511627776, ckO f2 n2 1099511627776] = ckO f1 n1 1099511627776 := by simp only [orL]; rw [if_neg ha]
    have e1 : tmE f1 n1 f2 n2 = ckO f1 n1 1099511627776 := by unfold tmE; rw [hor, if_pos ha]
    have e2 : tmV f1 n1 f2 n2 = [] := by unfold tmV; rw [e1, if_neg ha]
    rw [e1, e2]
    generalize ckO f1 n1 1099511627776 = r at kA ha
    have hbr : (r != 0) = true := by simp [ha]
    clear e1 e2 hor kB
    go_enter Tryz.func14, Tryz.ntmps14
    go_wp2_with (first | (go_at_call 13; refine kA.mono ?_; rintro e w1 ⟨rfl, g1⟩; clear kA) | go_in)
    go_ret2
    exact ⟨_, rfl, World.ownsRow_nil _ _ _ _, g1⟩
end Ln
end Go.Proofs.YtijjbejilpglnaaGreat
