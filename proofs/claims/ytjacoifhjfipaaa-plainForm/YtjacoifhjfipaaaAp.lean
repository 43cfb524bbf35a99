/- apart, of the statements: the walk. -/
import Derived.Test.YtjacoifhjfipaaaAx
import Derived.OwnWalk
namespace Go.Proofs.Ytjacoifhjfipaaa
open Go.RowKit
set_option linter.unusedVariables false
set_option linter.unusedSimpArgs false
set_option maxRecDepth 100000

theorem ownB {W : World} {B : Nat} {sp : Option Addr} {n cap : Nat} {l : List Cx} (h : Own W B (.slice sp n cap) l) (h0 : 0 < l.length) : ∃ g, sp = some ⟨g, 0, none⟩ ∧ B ≤ g ∧ g < W.heap.size := by
  rcases h.2 with ⟨e, e2⟩ | ⟨g, cap', cur, e, hb, hg, _⟩
  · omega
  · injection e with e1 e2 e3
    exact ⟨g, e1, hb, (Array.getElem?_eq_some_iff.1 hg).1⟩
theorem bel_set {w W : World} {B g i : Nat} {v : Value} (h : Below B w W) (hg : B ≤ g) : Below B w (W.setCell ⟨g, i, none⟩ v) := h.setCell (p := ⟨g, i, none⟩) hg v
theorem own_set3 {W : World} {B g i j k : Nat} {x y z : Value} {v : Value} {l : List Cx} (h : Own W B v l) (hne : some g ≠ v.ownBlock) : Own (((W.setCell ⟨g, i, none⟩ x).setCell ⟨g, j, none⟩ y).setCell ⟨g, k, none⟩ z) B v l := own_set (own_set (own_set h hne) hne) hne
theorem sz_set {W : World} {g i : Nat} {v : Value} : (W.setCell ⟨g, i, none⟩ v).heap.size = W.heap.size := by simp [World.setCell]
set_option maxHeartbeats 8000000 in
theorem apartC (B : Nat) (spa : Option Addr) (ca : Nat) (spb : Option Addr) (cb : Nat) (la lb : List Cx) (hla : la.length ≤ 2199023255552) (hlb : lb.length ≤ 2199023255552) (w : World) (hB : B ≤ w.heap.size)
    (ha : Own w B (.slice spa la.length ca) la) (hb : Own w B (.slice spb lb.length cb) lb) (hne : ∀ g, (Value.slice spa la.length ca).ownBlock = some g → (Value.slice spb lb.length cb).ownBlock ≠ some g) :
    Calls Try.prog 19 #[.slice spa la.length ca, .slice spb lb.length cb] w fun e w' => e = .returned (.bool true) ∧ Below B w w' := by
  obtain ⟨i0, hi⟩ := info_parts infoCx
  have HI : Hid (Try.prog.info? 33 = some i0 ∧ i0.zero = some (.agg #[.int .i64 0, .int .i64 0, .int .u8 0]) ∧ i0.size = 3 ∧ i0.bytes = 24) := hi
  have HNE : Hid (∀ g, (Value.slice spa la.length ca).ownBlock = some g → (Value.slice spb lb.length cb).ownBlock ≠ some g) := hne
  clear hi hne
  obtain ⟨na, hna⟩ : ∃ n, la.length = n := ⟨_, rfl⟩
  obtain ⟨nb, hnb⟩ : ∃ n, lb.length = n := ⟨_, rfl⟩
  rw [hna] at ha hla HNE ⊢
  rw [hnb] at hb hlb HNE ⊢
  have HN : Hid (la.length = na ∧ lb.length = nb) := ⟨hna, hnb⟩
  clear hna hnb
  have HBz : Hid (B ≤ w.heap.size) := hB
  have HA0 : Hid (0 < na → ∃ g, spa = some ⟨g, 0, none⟩) := fun h => by obtain ⟨g, e, _⟩ := ownB ha (by rw [HN.out.1]; exact h); exact ⟨g, e⟩
  have HB0 : Hid (0 < nb → ∃ g, spb = some ⟨g, 0, none⟩) := fun h => by obtain ⟨g, e, _⟩ := ownB hb (by rw [HN.out.2]; exact h); exact ⟨g, e⟩
  clear hB
  go_enter Try.func19, Try.ntmps19
  go_wp2
  go_loopw [5] (fun v wr => ∃ (j : Nat) (ys : List Cx), j ≤ na ∧ v = .int .i64 (j : Nat) ∧ Hid (j + ys.length = na) ∧ Own wr B (.slice spa na ca) (mkc j 1 ++ ys) ∧ Own wr B (.slice spb nb cb) lb ∧ Hid (Below B w wr) ∧ Hid (wr.heap.size = w.heap.size)) (fun v _ => na - (intOf v).toNat)
  case atStart => exact ⟨0, la, Nat.zero_le _, rfl, by unfold Hid; have := HN.out.1; omega, by show Own w B _ ([] ++ la); rw [List.nil_append]; exact ha, hb, Below.refl _ _, rfl⟩
  case round =>
    obtain ⟨j, ys, hj, rfl, HY, oa, ob, HBel, HSZ⟩ := hrel
    by_cases hlt : j < na
    · have hlt' : (j : Int) < (na : Int) := by omega
      obtain ⟨y, zs, rfl⟩ : ∃ y zs, ys = y :: zs := by
        cases ys with
        | nil => have := HY.out; simp at this; omega
        | cons y zs => exact ⟨y, zs, rfl⟩
      have hlen : (mkc j 1 ++ y :: zs).length = na := by rw [List.length_append, mkc_len]; exact HY.out
      obtain ⟨g, rfl, hg1, hg2⟩ := ownB oa (by omega)
      obtain ⟨u0, u1, u2, c0, c1, c2⟩ := fill_cells oa (j := j) (by omega)
      have f0 := fill_free oa (j * 3)
      have f1 := fill_free oa (j * 3 + 1)
      have f2 := fill_free oa (j * 3 + 2)
      have hw1 : IntKind.i64.wrap ((j : Int) + 1) = (j : Int) + 1 := by rw [IntKind.wrap_i64]; omega
      have hob : some g ≠ (Value.slice spb nb cb).ownBlock := fun e => HNE.out g rfl e.symm
      have oa2 := fill_one (W := wr) (B := B) (g := g) (cap := ca) (j := j) (m := 1) (y := y) (zs := zs) (by rw [hlen]; exact oa)
      rw [hlen] at oa2
      have ob2 := own_set3 (i := j * 3) (j := j * 3 + 1) (k := j * 3 + 2) (x := .int .i64 1) (y := .int .i64 0) (z := .int .u8 0) ob hob
      have HY2 : Hid (j + 1 + zs.length = na) := by have := HY.out; rw [List.length_cons] at this; unfold Hid; omega
      have HB2 : Hid (Below B w (((wr.setCell ⟨g, j * 3, none⟩ (.int .i64 1)).setCell ⟨g, j * 3 + 1, none⟩ (.int .i64 0)).setCell ⟨g, j * 3 + 2, none⟩ (.int .u8 0))) := bel_set (bel_set (bel_set HBel.out hg1) hg1) hg1
      have HZ2 : Hid ((((wr.setCell ⟨g, j * 3, none⟩ (.int .i64 1)).setCell ⟨g, j * 3 + 1, none⟩ (.int .i64 0)).setCell ⟨g, j * 3 + 2, none⟩ (.int .u8 0)).heap.size = w.heap.size) := by unfold Hid; rw [sz_set, sz_set, sz_set]; exact HSZ.out
      clear hlen hob hg1 hg2
      go_wp2
      go_roundw
      case rel => exact ⟨j + 1, zs, hlt, by go_num, HY2, oa2, ob2, HB2, HZ2⟩
      case measure => simp [intOf]; omega
    · have hlt' : ¬ (j : Int) < (na : Int) := by omega
      have hjn : j = na := by omega
      have hys : ys = [] := by have := HY.out; exact List.length_eq_zero_iff.1 (by omega)
      rw [hys, List.append_nil, hjn] at oa
      clear HY hys hlt hj hjn
      go_wp2
      go_loopw [6] (fun v wr => ∃ (j : Nat) (ys : List Cx), j ≤ nb ∧ v = .int .i64 (j : Nat) ∧ Hid (j + ys.length = nb) ∧ Own wr B (.slice spb nb cb) (mkc j 2 ++ ys) ∧ Own wr B (.slice spa na ca) (mkc na 1) ∧ Hid (Below B w wr) ∧ Hid (wr.heap.size = w.heap.size)) (fun v _ => nb - (intOf v).toNat)
      case atStart => exact ⟨0, lb, Nat.zero_le _, rfl, by unfold Hid; have := HN.out.2; omega, by show Own _ B _ ([] ++ lb); rw [List.nil_append]; exact ob, oa, HBel, HSZ⟩
      case round =>
        obtain ⟨j, ys, hj, rfl, HY, ob, oa, HBel, HSZ⟩ := hrel
        by_cases hlt : j < nb
        · have hlt' : (j : Int) < (nb : Int) := by omega
          obtain ⟨y, zs, rfl⟩ : ∃ y zs, ys = y :: zs := by
            cases ys with
            | nil => have := HY.out; simp at this; omega
            | cons y zs => exact ⟨y, zs, rfl⟩
          have hlen : (mkc j 2 ++ y :: zs).length = nb := by rw [List.length_append, mkc_len]; exact HY.out
          obtain ⟨g, rfl, hg1, hg2⟩ := ownB ob (by omega)
          obtain ⟨u0, u1, u2, c0, c1, c2⟩ := fill_cells ob (j := j) (by omega)
          have f0 := fill_free ob (j * 3)
          have f1 := fill_free ob (j * 3 + 1)
          have f2 := fill_free ob (j * 3 + 2)
          have hw1 : IntKind.i64.wrap ((j : Int) + 1) = (j : Int) + 1 := by rw [IntKind.wrap_i64]; omega
          have hoa : some g ≠ (Value.slice spa na ca).ownBlock := fun e => HNE.out g e.symm rfl
          have ob2 := fill_one (W := wr) (B := B) (g := g) (cap := cb) (j := j) (m := 2) (y := y) (zs := zs) (by rw [hlen]; exact ob)
          rw [hlen] at ob2
          have oa2 := own_set3 (i := j * 3) (j := j * 3 + 1) (k := j * 3 + 2) (x := .int .i64 2) (y := .int .i64 0) (z := .int .u8 0) oa hoa
          have HY2 : Hid (j + 1 + zs.length = nb) := by have := HY.out; rw [List.length_cons] at this; unfold Hid; omega
          have HB2 : Hid (Below B w (((wr.setCell ⟨g, j * 3, none⟩ (.int .i64 2)).setCell ⟨g, j * 3 + 1, none⟩ (.int .i64 0)).setCell ⟨g, j * 3 + 2, none⟩ (.int .u8 0))) := bel_set (bel_set (bel_set HBel.out hg1) hg1) hg1
          have HZ2 : Hid ((((wr.setCell ⟨g, j * 3, none⟩ (.int .i64 2)).setCell ⟨g, j * 3 + 1, none⟩ (.int .i64 0)).setCell ⟨g, j * 3 + 2, none⟩ (.int .u8 0)).heap.size = w.heap.size) := by unfold Hid; rw [sz_set, sz_set, sz_set]; exact HSZ.out
          clear hlen hoa hg1 hg2
          go_wp2
          go_roundw
          case rel => exact ⟨j + 1, zs, hlt, by go_num, HY2, ob2, oa2, HB2, HZ2⟩
          case measure => simp [intOf]; omega
        · have hlt' : ¬ (j : Int) < (nb : Int) := by omega
          have hjn : j = nb := by omega
          have hys : ys = [] := by have := HY.out; exact List.length_eq_zero_iff.1 (by omega)
          rw [hys, List.append_nil, hjn] at ob
          have HX : Hid (Apx B w (.slice spa na ca) (.slice spb nb cb) na nb 1 2 (.slice spa na ca) (.slice spb nb cb) na nb wr) := by
            have la' : ∀ g, (Value.slice spa na ca).ownBlock = some g → g < wr.heap.size := fun g e => (oa.lt g e).2
            have lb' : ∀ g, (Value.slice spb nb cb).ownBlock = some g → g < wr.heap.size := fun g e => (ob.lt g e).2
            refine ⟨oa, ob, ?_, ?_, HNE.out, HNE.out, fun g e e2 => HNE.out g e2 e, la', lb', Nat.le_refl _, Nat.le_refl _, HBel.out, by rw [HSZ.out]; exact HBz.out⟩
            · intro g cap e k hk; injection e with e1 e2 e3; subst e1; exact own_x oa hk
            · intro g cap e k hk; injection e with e1 e2 e3; subst e1; exact own_x ob hk
          clear HY hys hlt hj hjn oa ob HBel HSZ
          go_wp2
          go_loopw [7, 8, 9] (fun vc vd v wr => ∃ (j : Nat) (sc : Option Addr) (cc : Nat) (sd : Option Addr) (cd : Nat), j ≤ 70 ∧ v = .int .i64 (j : Nat) ∧ vc = .slice sc (na + j) cc ∧ vd = .slice sd (nb + j) cd ∧ Hid (Apx B w (.slice spa na ca) (.slice spb nb cb) na nb 1 2 vc vd (na + j) (nb + j) wr)) (fun _ _ v _ => 70 - (intOf v).toNat)
          case atStart => exact ⟨0, spa, ca, spb, cb, by omega, rfl, rfl, rfl, HX⟩
          case round =>
            obtain ⟨j, sc, cc, sd, cd, hj, rfl, rfl, rfl, HX⟩ := hrel
            by_cases hlt : j < 70
            · have hlt' : (j : Int) < 70 := by omega
              have hw1 : IntKind.i64.wrap ((j : Int) + 1) = (j : Int) + 1 := by rw [IntKind.wrap_i64]; omega
              obtain ⟨W1, hW1, sW1, g1, B1⟩ := boxn wr #[.int .i64 1, .int .i64 0, .int .u8 0] 33
              have oc1 : W1.ownsRow B 33 3 (.slice sc (na + j) cc) (na + j) (ccs (mkc (na + j) 1)) := by
                have := HX.out.oc.kept g1 (Classical.em _)
                unfold Own at this
                rw [mkc_len] at this
                exact this
              have nw1 : ∀ l u, [Value.int .i64 1, .int .i64 0, .int .u8 0][l]? = some u → W1.cell? ((⟨wr.heap.size, 0, none⟩ : Addr).add l) = some u := World.news_of_block (cs := #[.int .i64 1, .int .i64 0, .int .u8 0]) B1
              have sz1 : B ≤ W1.heap.size := by have := HX.out.sz; have := g1.size; omega
              have e70 : na + j + 1 = na + (j + 1) := by omega
              have e71 : nb + j + 1 = nb + (j + 1) := by omega
              go_wp2_with (first
                | (at_builtin; (fail_if_success (guard_hyp mk1)); refine wpList_appS _ rfl _ _ 24 rfl B 33 i0 (.agg #[.int .i64 0, .int .i64 0, .int .u8 0]) 3 24 underCS HI.out.1 HI.out.2.1 HI.out.2.2.1 HI.out.2.2.2 rfl (by decide) _ _ _ rfl oc1 ⟨wr.heap.size, 0, none⟩ 1 [.int .i64 1, .int .i64 0, .int .u8 0] rfl rfl nw1 (by intro u hu; simp at hu; rcases hu with rfl | rfl | rfl <;> rfl) (by unfold maxLen; omega) (by omega) sz1 ?_; intro gc qc w4 own4 hcase; have mk1 : True := trivial; have HX2 : Hid (Apx B w (.slice spa na ca) (.slice spb nb cb) na nb 1 2 (.slice (some ⟨gc, 0, none⟩) (na + j + 1) qc) (.slice sd (nb + j) cd) (na + j + 1) (nb + j) w4) := HX.out.grow g1 own4 hcase; clear own4 hcase oc1 nw1; obtain ⟨W5, hW5, sW5, g5, B5⟩ := boxn w4 #[.int .i64 2, .int .i64 0, .int .u8 0] 33; have od5 : W5.ownsRow B 33 3 (.slice sd (nb + j) cd) (nb + j) (ccs (mkc (nb + j) 2)) := (by have := HX2.out.od.kept g5 (Classical.em _); unfold Own at this; rw [mkc_len] at this; exact this); have nw5 : ∀ l u, [Value.int .i64 2, .int .i64 0, .int .u8 0][l]? = some u → W5.cell? ((⟨w4.heap.size, 0, none⟩ : Addr).add l) = some u := World.news_of_block (cs := #[.int .i64 2, .int .i64 0, .int .u8 0]) B5; have sz5 : B ≤ W5.heap.size := (by have := HX2.out.sz; have := g5.size; omega))
                | (at_builtin; guard_hyp mk1; refine wpList_appS _ rfl _ _ 24 rfl B 33 i0 (.agg #[.int .i64 0, .int .i64 0, .int .u8 0]) 3 24 underCS HI.out.1 HI.out.2.1 HI.out.2.2.1 HI.out.2.2.2 rfl (by decide) _ _ _ rfl od5 ⟨w4.heap.size, 0, none⟩ 1 [.int .i64 2, .int .i64 0, .int .u8 0] rfl rfl nw5 (by intro u hu; simp at hu; rcases hu with rfl | rfl | rfl <;> rfl) (by unfold maxLen; omega) (by omega) sz5 ?_; intro gd qd w6 own6 hcase; have HX3 : Hid (Apx B w (.slice spa na ca) (.slice spb nb cb) na nb 1 2 (.slice (some ⟨gc, 0, none⟩) (na + j + 1) qc) (.slice (some ⟨gd, 0, none⟩) (nb + j + 1) qd) (na + j + 1) (nb + j + 1) w6) := (HX2.out.swap.grow g5 own6 hcase).swap; clear own6 hcase od5 nw5; refine Hid.out ?_)
                | go_in)
              refine Lib.hid ?_
              go_wp2
              go_roundw
              case rel => exact ⟨j + 1, _, qc, _, qd, hlt, by go_num, rfl, rfl, by rw [← e70, ← e71]; exact HX3⟩
              case measure => simp [intOf]; omega
            · have hlt' : ¬ (j : Int) < 70 := by omega
              obtain rfl : j = 70 := by omega
              obtain ⟨gc, hsc, _, _⟩ := ownB HX.out.oc (by rw [mkc_len]; omega)
              obtain ⟨gd, hsd, _, _⟩ := ownB HX.out.od (by rw [mkc_len]; omega)
              subst hsc
              subst hsd
              go_wp2
              go_loopw [10] (fun v w2 => ∃ k : Nat, k ≤ (na + 70) ∧ v = .int .i64 (k : Nat) ∧ w2 = wr) (fun v _ => (na + 70) - (intOf v).toNat)
              case atStart => exact ⟨0, Nat.zero_le _, rfl, rfl⟩
              case round =>
                obtain ⟨k, hk, rfl, hw⟩ := hrel
                subst hw
                by_cases hlk : k < (na + 70)
                · have hlk' : (k : Int) < (((na + 70) : Nat) : Int) := by omega
                  have cX := own_x HX.out.oc hlk
                  have hwk : IntKind.i64.wrap ((k : Int) + 1) = (k : Int) + 1 := by rw [IntKind.wrap_i64]; omega
                  by_cases hkn : k < na
                  · have hkn' : (k : Int) < (na : Int) := by omega
                    obtain ⟨g0, hg0⟩ := HA0.out (by omega)
                    have cY := HX.out.ra g0 ca (by rw [hg0]) k hkn
                    subst hg0
                    go_wp2
                    go_roundw
                    case rel => exact ⟨k + 1, hlk, by go_num, by first | rfl | trivial⟩
                    case measure => simp [intOf]; omega
                  · have hkn' : ¬ (k : Int) < (na : Int) := by omega
                    go_wp2
                    go_roundw
                    case rel => exact ⟨k + 1, hlk, by go_num, by first | rfl | trivial⟩
                    case measure => simp [intOf]; omega
                · have hlk' : ¬ (k : Int) < (((na + 70) : Nat) : Int) := by omega
                  clear hk
                  go_wp2
                  go_loopw [11] (fun v w2 => ∃ k : Nat, k ≤ (nb + 70) ∧ v = .int .i64 (k : Nat) ∧ w2 = wr) (fun v _ => (nb + 70) - (intOf v).toNat)
                  case atStart => exact ⟨0, Nat.zero_le _, rfl, rfl⟩
                  case round =>
                    obtain ⟨k, hk, rfl, hw⟩ := hrel
                    subst hw
                    by_cases hlk : k < (nb + 70)
                    · have hlk' : (k : Int) < (((nb + 70) : Nat) : Int) := by omega
                      have cX := own_x HX.out.od hlk
                      have hwk : IntKind.i64.wrap ((k : Int) + 1) = (k : Int) + 1 := by rw [IntKind.wrap_i64]; omega
                      by_cases hkn : k < nb
                      · have hkn' : (k : Int) < (nb : Int) := by omega
                        obtain ⟨g0, hg0⟩ := HB0.out (by omega)
                        have cY := HX.out.rb g0 cb (by rw [hg0]) k hkn
                        subst hg0
                        go_wp2
                        go_roundw
                        case rel => exact ⟨k + 1, hlk, by go_num, by first | rfl | trivial⟩
                        case measure => simp [intOf]; omega
                      · have hkn' : ¬ (k : Int) < (nb : Int) := by omega
                        go_wp2
                        go_roundw
                        case rel => exact ⟨k + 1, hlk, by go_num, by first | rfl | trivial⟩
                        case measure => simp [intOf]; omega
                    · have hlk' : ¬ (k : Int) < (((nb + 70) : Nat) : Int) := by omega
                      clear hk
                      go_wp2
                      go_ret
                      exact ⟨rfl, HX.out.bel⟩
end Go.Proofs.Ytjacoifhjfipaaa
