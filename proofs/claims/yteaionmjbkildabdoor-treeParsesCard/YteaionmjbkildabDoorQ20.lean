/- Check of a tree that may be. -/
import Derived.Test.YteaionmjbkildabDoorQ19
namespace Go.Proofs.YteaionmjbkildabDoor
open Go.RowKit
set_option linter.unusedVariables false
set_option linter.unusedSimpArgs false
set_option maxRecDepth 100000

/-- A node as it lies in memory. -/
structure TN where
  st : Nat
  kp : Option Addr
  kn : Nat
  kc : Nat
  kf : Nat → Int
def TN.val (t : TN) : Value := .agg #[.int .u8 (t.st : Nat), .slice t.kp t.kn t.kc]
/-- The nodes of a tree can be read, from the place o of block q on. -/
def Tn (w : World) (q o n : Nat) (t : Nat → TN) : Prop := ∀ j, j < n → w.cell? ⟨q, o + j * 2, none⟩ = some (.int .u8 ((t j).st : Nat)) ∧ w.cell? ⟨q, o + j * 2 + 1, none⟩ = some (.slice (t j).kp (t j).kn (t j).kc) ∧ In w (t j).kp (t j).kn (t j).kf
theorem Tn.kept {w w' : World} {q o n : Nat} {t : Nat → TN} (h : Tn w q o n t) (hg : w.grownBy w' none) : Tn w' q o n t := fun j hj => by
  obtain ⟨h0, h1, h2⟩ := h j hj
  exact ⟨hg.cell h0 (by simp), hg.cell h1 (by simp), h2.kept hg (by simp)⟩

theorem isLeafA (st : Int) (kp : Option Addr) (kn kc : Nat) (w : World) : Calls Tryd.prog 59 #[.agg #[.int .u8 st, .slice kp kn kc]] w fun e w' => e = .returned (.bool (decide (kn = 0))) ∧ w.grownBy w' none := by
  obtain ⟨W1, hW1, sz1, g1, B1⟩ := boxn w #[.int .u8 st, .slice kp kn kc] 69
  have c1 := B1.cell 1 (v := .slice kp kn kc) rfl
  by_cases h : kn = 0
  · have h' : ((kn : Int) == 0) = true := by simp [h]
    have HE : Hid (decide (kn = 0) = true) := by unfold Hid; simp [h]
    clear h
    go_enter Tryd.func59, Tryd.ntmps59
    go_wp2
    go_ret
    exact ⟨by rw [HE.out]; rfl, g1⟩
  · have h' : ((kn : Int) == 0) = false := by simp [h]
    have HE : Hid (decide (kn = 0) = false) := by unfold Hid; simp [h]
    go_enter Tryd.func59, Tryd.ntmps59
    go_wp2
    go_ret
    exact ⟨by rw [HE.out]; rfl, g1⟩
set_option maxHeartbeats 600000 in
theorem levelLeaf (st S kc : Nat) (kp sa : Option Addr) (na ca : Nat) (hst : st < 256) (hS : S ≤ 256) (w : World) : Calls Tryd.prog 47 #[.agg #[.int .u8 (st : Nat), .slice kp 0 kc], .int .i64 (S : Nat), .slice sa na ca] w fun e w' => e = .returned (.tuple #[.int .i64 0, .bool (decide (st < S))]) ∧ w.grownBy w' none := by
  obtain ⟨W1, hW1, sz1, g1, B1⟩ := boxn w #[.int .u8 (st : Nat), .slice kp 0 kc] 69
  have c0 := B1.cell 0 (v := .int .u8 (st : Nat)) rfl
  have c1 := B1.cell 1 (v := .slice kp 0 kc) rfl
  have hl := isLeafA (st : Nat) kp 0 kc W1
  rw [show decide (0 = 0) = true from rfl] at hl
  go_enter Tryd.func47, Tryd.ntmps47
  go_wp2_with (first | (go_at_call 59; refine hl.mono ?_; rintro e w2 ⟨rfl, g2⟩; have G2 := gb_trans g1 g2; have B2 := B1.kept g2 (by simp); have d0 := B2.cell 0 (v := .int .u8 (st : Nat)) rfl; have d1 := B2.cell 1 (v := .slice kp 0 kc) rfl))
  have hw : IntKind.i64.wrap (st : Int) = (st : Int) := by rw [IntKind.wrap_i64]; omega
  go_quiet (fail)
  go_wp2
  go_ret2
  exact ⟨by simp, gb_drewN G2 _⟩

set_option maxHeartbeats 1000000 in
theorem levelY (S kc : Nat) (kp sa : Option Addr) (na ca : Nat) (kf lv : Nat → Int) (hS : S ≤ 256) (hS1 : 1 ≤ S) (hna : na ≤ 65536) (hlv : ∀ j, 0 ≤ lv j ∧ lv j ≤ 100000) (hk : ∀ k, k < S → 0 ≤ kf k ∧ kf k < na ∧ lv (kf k).toNat = lv (kf 0).toNat) (w : World) (hK : In w kp S kf) (hA : In w sa na lv) :
    Calls Tryd.prog 47 #[.agg #[.int .u8 0, .slice kp S kc], .int .i64 (S : Nat), .slice sa na ca] w fun e w' => e = .returned (.tuple #[.int .i64 (lv (kf 0).toNat + 1), .bool true]) ∧ w.grownBy w' none := by
  obtain ⟨W1, hW1, sz1, g1, B1⟩ := boxn w #[.int .u8 0, .slice kp S kc] 69
  have c0 := B1.cell 0 (v := .int .u8 0) rfl
  have c1 := B1.cell 1 (v := .slice kp S kc) rfl
  have hl := isLeafA 0 kp S kc W1
  rw [show decide (S = 0) = false by simp; omega] at hl
  obtain ⟨a, rfl⟩ := hK.some (by omega)
  obtain ⟨h00, h01, _⟩ := hk 0 (by omega)
  obtain ⟨d, rfl⟩ := hA.some (by omega)
  obtain ⟨m, hm⟩ := Int.eq_ofNat_of_zero_le h00
  have hm2 : m < na := by omega
  go_enter Tryd.func47, Tryd.ntmps47
  go_wp2_with (first | (go_at_call 59; refine hl.mono ?_; rintro e w2 ⟨rfl, g2⟩; have G2 := gb_trans g1 g2; have B2 := B1.kept g2 (by simp); have d0 := B2.cell 0 (v := .int .u8 0) rfl; have d1 := B2.cell 1 (v := .slice (some a) S kc) rfl))
  go_loopw [30] (fun i wr => ∃ j : Nat, j ≤ S ∧ i = .int .i64 j ∧ w.grownBy wr none ∧ Bo wr w.heap.size 69 #[.int .u8 0, .slice (some a) S kc]) (fun i _ => S - (intOf i).toNat)
  case atStart => exact ⟨0, Nat.zero_le _, rfl, G2, B2⟩
  case round =>
    obtain ⟨j, hj, rfl, Gj, Bj⟩ := hrel
    have k0 : wr.cell? (a.add 0) = some (.int .i64 (kf 0)) := (hK.kept Gj (by simp)).at (by omega)
    have l0 : wr.cell? (d.add m) = some (.int .i64 (lv m)) := (hA.kept Gj (by simp)).at hm2
    have b1 := Bj.cell 1 (v := .slice (some a) S kc) rfl
    rw [hm, Addr.add_zero'] at k0
    by_cases hlt : j < S
    · have hlt' : (j : Int) < (S : Int) := by omega
      obtain ⟨hj0, hj1, hj2⟩ := hk j hlt
      obtain ⟨q, hq⟩ := Int.eq_ofNat_of_zero_le hj0
      have hq2 : q < na := by omega
      have kj : wr.cell? (a.add j) = some (.int .i64 (kf j)) := (hK.kept Gj (by simp)).at hlt
      have lj : wr.cell? (d.add q) = some (.int .i64 (lv q)) := (hA.kept Gj (by simp)).at hq2
      rw [hq] at kj hj2
      rw [hm] at hj2
      have e2 : lv q = lv m := hj2
      rw [e2] at lj
      clear hj2 e2 hq hj0 hj1
      have y1 : decide ((q : Int) < 0) = false := by simp
      have y2 : decide (na ≤ q) = false := by simp; omega
      have ya : (lv m != lv m) = false := by simp
      have y3 : (q : Int) < (na : Int) := by omega
      have y4 : (0 : Int) ≤ (q : Int) := by omega
      have y5 : (m : Int) < (na : Int) := by omega
      have y6 : (0 : Int) ≤ (m : Int) := by omega
      have y7 : (0 : Int) < (S : Int) := by omega
      have y8 : ((q : Int)).toNat = q := by omega
      have y9 : ((m : Int)).toNat = m := by omega
      go_wp2
      go_quiet (fail)
      go_wp2
      go_roundw
      case rel => exact ⟨j + 1, by omega, by go_num, gb_drewN Gj _, Bj.drew⟩
      case measure => simp [intOf]; omega
    · have hjn : j = S := by omega
      have hn : ¬ ((j : Int) < (S : Int)) := by omega
      have y5 : (m : Int) < (na : Int) := by omega
      have y6 : (0 : Int) ≤ (m : Int) := by omega
      have y7 : (0 : Int) < (S : Int) := by omega
      have y9 : ((m : Int)).toNat = m := by omega
      have hl9 := hlv m
      clear hjn
      go_wp2
      go_ret2
      exact ⟨rfl, Gj⟩

/-- A node may stand at number j, the levels being lv. -/
def Nok (S : Nat) (lv : Nat → Nat) (t : TN) (j : Nat) : Prop := (t.kn = 0 ∧ t.st < S ∧ lv j = 0) ∨ (t.st = 0 ∧ t.kn = S ∧ (∀ k, k < S → 0 ≤ t.kf k ∧ t.kf k < (j : Int) ∧ lv (t.kf k).toNat = lv (t.kf 0).toNat) ∧ lv j = lv (t.kf 0).toNat + 1)
def lvV (lv : Nat → Nat) (j : Nat) : List Value := (List.range j).map fun k => .int .i64 (lv k : Nat)
theorem in_own {w : World} {base n : Nat} {v : Value} {lv : Nat → Nat} (h : w.ownsRow base 3 1 v n (lvV lv n)) : ∃ sp cap, v = .slice sp n cap ∧ In w sp n (fun i => (lv i : Int)) := by
  rcases h.2 with ⟨rfl, h0⟩ | ⟨g, cap, cur, rfl, hb, hg, hc⟩
  · subst h0
    exact ⟨none, 0, rfl, fun k hk => absurd hk (Nat.not_lt_zero _)⟩
  · refine ⟨_, cap, rfl, fun k hk => ⟨_, rfl, ?_⟩⟩
    refine h.cells (g := g) rfl k _ ?_
    simp [lvV, hk]
theorem levelOk (S : Nat) (hS : S ≤ 256) (hS1 : 1 ≤ S) (lv : Nat → Nat) (hlv : ∀ j, lv j ≤ 100000) (t : TN) (ht : t.st < 256) (j : Nat) (hj : j ≤ 65536) (ok : Nok S lv t j) (sa : Option Addr) (ca : Nat) (w : World) (hK : In w t.kp t.kn t.kf) (hA : In w sa j (fun i => (lv i : Int))) :
    Calls Tryd.prog 47 #[.agg #[.int .u8 (t.st : Nat), .slice t.kp t.kn t.kc], .int .i64 (S : Nat), .slice sa j ca] w fun e w' => e = .returned (.tuple #[.int .i64 (lv j : Nat), .bool true]) ∧ w.grownBy w' none := by
  rcases ok with ⟨h1, h2, h3⟩ | ⟨h1, h2, h3, h4⟩
  · refine (h1 ▸ levelLeaf t.st S t.kc t.kp sa j ca ht hS w).mono ?_
    rintro e w' ⟨rfl, g⟩
    exact ⟨by rw [h3, decide_eq_true h2]; rfl, g⟩
  · rw [h2] at hK ⊢
    rw [h1]
    refine (levelY S t.kc t.kp sa j ca t.kf (fun i => (lv i : Int)) hS hS1 hj (fun i => ⟨by omega, by have := hlv i; omega⟩) (fun k hk => ⟨(h3 k hk).1, (h3 k hk).2.1, by rw [(h3 k hk).2.2]⟩) w hK hA).mono ?_
    rintro e w' ⟨rfl, g⟩
    exact ⟨by rw [h4]; rfl, g⟩

set_option maxHeartbeats 2000000 in
theorem checkY (S I R q o n c : Nat) (t : Nat → TN) (sp : Option Addr) (hsp : 0 < n → sp = some ⟨q, o, none⟩) (h1 : 1 ≤ S) (hS : S ≤ 256) (hI : I ≤ 16) (hn : n ≤ 65536) (hR : R < n) (lv : Nat → Nat) (hlv : ∀ j, lv j ≤ 100000) (hst : ∀ j, (t j).st < 256) (ok : ∀ j, j < n → Nok S lv (t j) j) (hRt : lv R = I) (w : World) (hT : Tn w q o n t) :
    Calls Tryd.prog 20 #[.agg #[.int .i64 (S : Nat), .int .i64 (I : Nat), .slice sp n c, .int .i64 (R : Nat)]] w fun e w' => e = .returned (.int .i64 0) ∧ w.grownBy w' none := by
  have hm := mayAskC (S : Int) (I : Int)
  rw [show maB (S : Int) (I : Int) = true by unfold maB; simp; omega] at hm
  obtain rfl := hsp (by omega)
  obtain ⟨i0, HI⟩ : ∃ i, Hid (Tryd.prog.info? 3 = some i ∧ i.zero = some (.int .i64 0) ∧ i.size = 1 ∧ i.bytes = 8) := by
    obtain ⟨i, h1, h2, h3, h4⟩ := info_parts infoI
    exact ⟨i, h1, h2, h3, h4⟩
  obtain ⟨W1, hW1, sz1, g1, B1⟩ := boxn w #[.int .i64 (S : Nat), .int .i64 (I : Nat), .slice (some ⟨q, o, none⟩) n c, .int .i64 (R : Nat)] 24
  have t0 := B1.cell 0 (v := .int .i64 (S : Nat)) rfl
  have t1 := B1.cell 1 (v := .int .i64 (I : Nat)) rfl
  have t2 := B1.cell 2 (v := .slice (some ⟨q, o, none⟩) n c) rfl
  have t3 := B1.cell 3 (v := .int .i64 (R : Nat)) rfl
  go_enter Tryd.func20, Tryd.ntmps20
  go_wp2_with (first | (go_at_call 46; refine (hm _).mono ?_; rintro e w' ⟨rfl, hw'⟩; subst w') | (at_make; refine wpList_make_own _ rfl _ _ 63 rfl W1.heap.size 3 i0 (.int .i64 0) 1 underIS HI.out.1 HI.out.2.1 HI.out.2.2.1 .i64 .i64 _ n rfl rfl (by first | rfl | omega) (by rw [HI.out.2.2.2]; omega) (by unfold maxLen; omega) (Nat.le_refl _) ?_; intro w2 own2 g2; have B2 := B1.kept g2 (by simp); have u0 := B2.cell 0 (v := .int .i64 (S : Nat)) rfl; have u1 := B2.cell 1 (v := .int .i64 (I : Nat)) rfl; have u2 := B2.cell 2 (v := .slice (some ⟨q, o, none⟩) n c) rfl; have u3 := B2.cell 3 (v := .int .i64 (R : Nat)) rfl) | go_in)
  go_loopw [38, 4] (fun i v wr => ∃ j : Nat, j ≤ n ∧ i = .int .i64 j ∧ wr.ownsRow W1.heap.size 3 1 v j (lvV lv j) ∧ W1.grownBy wr none) (fun i _ _ => n - (intOf i).toNat)
  case atStart => exact ⟨0, Nat.zero_le _, rfl, own2, g2⟩
  case round =>
    obtain ⟨j, hj, rfl, own, hg⟩ := hrel
    have Bj := B1.kept hg (by simp)
    by_cases hlt : j < n
    · have hlt' : (j : Int) < (n : Int) := by omega
      obtain ⟨x0, x1, x2⟩ := (hT.kept (gb_trans g1 hg)) j hlt
      obtain ⟨W3, hW3, sz3, g3, B3⟩ := boxn wr #[.int .u8 ((t j).st : Nat), .slice (t j).kp (t j).kn (t j).kc] 69
      have y0 := B3.cell 0 (v := .int .u8 ((t j).st : Nat)) rfl
      have y1 := B3.cell 1 (v := .slice (t j).kp (t j).kn (t j).kc) rfl
      have z0 := (Bj.kept g3 (by simp)).cell 0 (v := .int .i64 (S : Nat)) rfl
      obtain ⟨sv, cv, rfl, inv⟩ := in_own own
      have own3 := own.kept g3 (Classical.em _)
      have hlo := levelOk S hS h1 lv hlv (t j) (hst j) j (by omega) (ok j hlt) sv cv W3 (x2.kept g3 (by simp)) (inv.kept g3 (by simp))
      go_wp2_with (first | (go_at_call 47; refine hlo.mono ?_; rintro e w4 ⟨rfl, g4⟩; obtain ⟨V, hV⟩ : ∃ V, w4.alloc (.cells #[.int .i64 (lv j : Nat)] 3) = V := ⟨_, rfl⟩; have gV : w4.grownBy V none := (by rw [← hV]; exact World.grownBy_alloc _ _ _); have g34 := gb_trans g4 gV; have ownV := own3.kept g34 (Classical.em _); have nV : ∀ l u, [Value.int .i64 (lv j : Nat)][l]? = some u → V.cell? ((⟨w4.heap.size, 0, none⟩ : Addr).add l) = some u := (by rw [← hV]; exact World.news_of_block (cs := #[.int .i64 (lv j : Nat)]) (heap_alloc_new w4 _)); have GV := gb_trans hg (gb_trans g3 g34)) | (at_builtin; refine wpList_append_own_at _ rfl _ _ 63 rfl W1.heap.size 3 i0 (.int .i64 0) 1 8 underIS HI.out.1 HI.out.2.1 HI.out.2.2.1 HI.out.2.2.2 rfl (by decide) _ j _ rfl ownV ⟨w4.heap.size, 0, none⟩ 1 1 [.int .i64 (lv j : Nat)] rfl rfl nV (by intro u hu; simp at hu; subst hu; rfl) (by unfold maxLen; omega) (by omega) GV.size ?_; intro v' w' own' g' hnil' hblk'))
      go_roundw
      case rel => exact ⟨j + 1, by omega, by go_num, by rw [lvV, List.range_succ, List.map_append]; exact own', GV.andThen g' (fun b hb => .inl (ownV.lt b hb).1)⟩
      case measure => simp [intOf]; omega
    · have hjn : j = n := by omega
      subst hjn
      have z1 := Bj.cell 1 (v := .int .i64 (I : Nat)) rfl
      have z3 := Bj.cell 3 (v := .int .i64 (R : Nat)) rfl
      obtain ⟨sv, cv, rfl, inv⟩ := in_own own
      obtain ⟨b, rfl⟩ := inv.some (by omega)
      have l0 := inv.at hR
      rw [hRt] at l0
      have y5 : (R : Int) < (j : Int) := by omega
      have y6 : (0 : Int) ≤ (R : Int) := by omega
      have y9 : ((R : Int)).toNat = R := by omega
      have ya : ((I : Int) != (I : Int)) = false := by simp
      go_wp2
      go_quiet (fail)
      go_wp2
      go_ret
      exact ⟨rfl, gb_drewN (gb_trans g1 hg) _⟩
end Go.Proofs.YteaionmjbkildabDoor
