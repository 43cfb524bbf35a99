/- made: a grid's field, by the document and by the program. -/
import Derived.Test.YthjiiljglgmkpaaGreatDoorX12
import Derived.Deep.RegionHeld2
import Derived.OwnWalk
namespace Go.Proofs.YthjiiljglgmkpaaGreatDoor.Pd
open Go.RowKit
set_option linter.unusedVariables false
set_option linter.unusedSimpArgs false
set_option maxRecDepth 100000

/-- A list of cells in memory. -/
def Ce (w : World) (sp : Option Addr) (n : Nat) (f : Nat → Int × Int × Nat) : Prop := ∀ i, i < n → ∃ a, sp = some a ∧ w.cell? (a.add (i * 3)) = some (.int .i64 (f i).1) ∧ w.cell? (a.add (i * 3 + 1)) = some (.int .i64 (f i).2.1) ∧ w.cell? (a.add (i * 3 + 2)) = some (.int .u8 ((f i).2.2 : Nat))
/-- The cells behind the first j that were set. -/
def mg (C R S : Nat) (f : Nat → Int × Int × Nat) : Nat → Nat → Nat
  | 0 => fun _ => 0
  | j + 1 => stG C R S (f j).1 (f j).2.1 (f j).2.2 (mg C R S f j)
set_option maxHeartbeats 1000000 in
theorem madeN (C R S : Int) (pk : Bool) (sp : Option Addr) (n cp : Nat) (hE : ckE C R S pk ≠ 0) (w : World) : Calls Tryz.prog 12 #[.agg #[.int .i64 C, .int .i64 R, .int .i64 S, .bool pk, .slice sp n cp]] w fun e w' => e = .returned (.tuple #[.pointer none, .pointer none, .bool true]) ∧ w.grownBy w' none := by
  obtain ⟨W1, hW1, sz1, g1, B1⟩ := boxn w #[.int .i64 C, .int .i64 R, .int .i64 S, .bool pk, .slice sp n cp] 41
  have a0 := B1.cell 0 (v := .int .i64 C) rfl; have a1 := B1.cell 1 (v := .int .i64 R) rfl; have a2 := B1.cell 2 (v := .int .i64 S) rfl; have a3 := B1.cell 3 (v := .bool pk) rfl; have a4 := B1.cell 4 (v := .slice sp n cp) rfl
  obtain ⟨E, hEE⟩ : ∃ E, ckE C R S pk = E := ⟨_, rfl⟩
  have k1 := refNewN C R S pk hE
  rw [hEE] at hE k1
  have k2 := newN C R S E pk hEE hE
  clear hEE
  go_enter Tryz.func12, Tryz.ntmps12
  go_wp2_with (first | (go_at_call 37; refine (k1 W1).mono ?_; rintro e V ⟨rfl, hV⟩; subst V) | (go_at_call 33; refine (k2 W1).mono ?_; rintro e V3 ⟨rfl, g3⟩; have B3 := B1.kept g3 (by simp); have c0 := B3.cell 0 (v := .int .i64 C) rfl; have c1 := B3.cell 1 (v := .int .i64 R) rfl; have c2 := B3.cell 2 (v := .int .i64 S) rfl; have c3 := B3.cell 3 (v := .bool pk) rfl; have c4 := B3.cell 4 (v := .slice sp n cp) rfl))
  go_ret3
  exact ⟨rfl, gb_trans g1 g3⟩
set_option maxHeartbeats 4000000 in
theorem madeY (C R S : Nat) (hz : Sz C R S) (sp : Option Addr) (n cp : Nat) (hn : n < 4611686018427387904) (f : Nat → Int × Int × Nat) (h8 : ∀ i, i < n → (f i).2.2 < 256) (w : World) (hc : Ce w sp n f) : Calls Tryz.prog 12 #[.agg #[.int .i64 (C : Nat), .int .i64 (R : Nat), .int .i64 (S : Nat), .bool false, .slice sp n cp]] w fun e w' => ∃ r d b s q, e = .returned (.tuple #[.pointer (some ⟨r, 0, none⟩), .pointer (some ⟨b, 0, none⟩), .bool true]) ∧ Rf w' r d C R S false (mg C R S f n) ∧ Fb w' b s q C R S (mg C R S f n) ∧ w.heap.size ≤ r ∧ w.heap.size ≤ d ∧ w.heap.size ≤ b ∧ w.heap.size ≤ s ∧ w.heap.size ≤ q ∧ w.grownBy w' none := by
  obtain ⟨W1, hW1, sz1, g1, B1⟩ := boxn w #[.int .i64 (C : Nat), .int .i64 (R : Nat), .int .i64 (S : Nat), .bool false, .slice sp n cp] 41
  have a0 := B1.cell 0 (v := .int .i64 (C : Nat)) rfl; have a1 := B1.cell 1 (v := .int .i64 (R : Nat)) rfl; have a2 := B1.cell 2 (v := .int .i64 (S : Nat)) rfl; have a3 := B1.cell 3 (v := .bool false) rfl; have a4 := B1.cell 4 (v := .slice sp n cp) rfl
  have HC : Hid (Ce w sp n f) := hc
  have H8 : Hid (∀ i, i < n → (f i).2.2 < 256) := h8
  clear hc h8
  go_enter Tryz.func12, Tryz.ntmps12
  go_wp2_with (first | (go_at_call 37; refine (refNewY C R S false hz (by simp) W1).mono ?_; rintro e V1 ⟨r, d, rfl, hR1, lr, ld, gv1⟩; have HR1 : Hid (Rf V1 r d C R S false (fun _ => 0)) := hR1; clear hR1; have B2 := B1.kept gv1 (by simp); have b0 := B2.cell 0 (v := .int .i64 (C : Nat)) rfl; have b1 := B2.cell 1 (v := .int .i64 (R : Nat)) rfl; have b2 := B2.cell 2 (v := .int .i64 (S : Nat)) rfl; have b3 := B2.cell 3 (v := .bool false) rfl; have b4 := B2.cell 4 (v := .slice sp n cp) rfl) | (go_at_call 33; refine (newY C R S hz V1).mono ?_; rintro e V2 ⟨b, s, q, rfl, hF2, f1, f2, f3, gv2⟩; have HF2 : Hid (Fb V2 b s q C R S (fun _ => 0)) := hF2; clear hF2; have B3 := B2.kept gv2 (by simp); have c0 := B3.cell 0 (v := .int .i64 (C : Nat)) rfl; have c1 := B3.cell 1 (v := .int .i64 (R : Nat)) rfl; have c2 := B3.cell 2 (v := .int .i64 (S : Nat)) rfl; have c3 := B3.cell 3 (v := .bool false) rfl; have c4 := B3.cell 4 (v := .slice sp n cp) rfl))
  have hs1 := sz1.out
  have lR := HR1.out.lts
  have gw2 : w.grownBy V2 none := gb_trans g1 (gb_trans gv1 gv2)
  have HR2 : Hid (Rf V2 r d C R S false (fun _ => 0)) := HR1.out.kept gv2 (by simp) (by simp)
  have HB : Hid (Bo V2 w.heap.size 41 #[.int .i64 (C : Nat), .int .i64 (R : Nat), .int .i64 (S : Nat), .bool false, .slice sp n cp]) := B3
  clear a0 a1 a2 a3 a4 b0 b1 b2 b3 b4 c0 c1 c2 c3 c4 B1 B2 B3 hW1 HR1
  go_loopw [9] (fun x wr => ∃ j : Nat, j ≤ n ∧ x = .int .i64 (j : Nat) ∧ Hid (Rf wr r d C R S false (mg C R S f j)) ∧ Hid (Fb wr b s q C R S (mg C R S f j)) ∧ Hid (Bo wr w.heap.size 41 #[.int .i64 (C : Nat), .int .i64 (R : Nat), .int .i64 (S : Nat), .bool false, .slice sp n cp]) ∧ Hid (w.grownBy wr none)) (fun x _ => n - (intOf x).toNat)
  case atStart => exact ⟨0, Nat.zero_le _, rfl, HR2, HF2, HB, gw2⟩
  case round =>
    clear HR2 HF2 HB gw2
    obtain ⟨j, hj, rfl, HR, HF, HB, HG⟩ := hrel
    obtain ⟨U, hU⟩ : ∃ U, U = wr := ⟨_, rfl⟩
    subst hU
    have b4 := HB.out.cell 4 (v := .slice sp n cp) rfl
    by_cases hlt : j < n
    · have hlt' : (j : Int) < (n : Int) := by omega
      obtain ⟨a, rfl, y0, y1, y2⟩ := HC.out j hlt
      have hp1 : a.add (j * 3 + 1) = ⟨(a.add (j * 3)).block, (a.add (j * 3)).off + 1, none⟩ := by rw [← Addr.add_add]; rfl
      have hp2 : a.add (j * 3 + 2) = ⟨(a.add (j * 3)).block, (a.add (j * 3)).off + 2, none⟩ := by rw [← Addr.add_add]; rfl
      rw [hp1] at y1
      rw [hp2] at y2
      clear hp1 hp2
      have y0 := HG.out.cell y0 (by simp)
      have y1 := HG.out.cell y1 (by simp)
      have y2 := HG.out.cell y2 (by simp)
      have hu8 := H8.out j hlt
      have hmg : mg C R S f (j + 1) = stG C R S (f j).1 (f j).2.1 (f j).2.2 (mg C R S f j) := rfl
      obtain ⟨x, hx⟩ : ∃ x, (f j).1 = x := ⟨_, rfl⟩
      obtain ⟨y, hy⟩ : ∃ y, (f j).2.1 = y := ⟨_, rfl⟩
      obtain ⟨u, hu⟩ : ∃ u, (f j).2.2 = u := ⟨_, rfl⟩
      rw [hx] at y0
      rw [hy] at y1
      rw [hu] at y2 hu8
      rw [hx, hy, hu] at hmg
      have HM : Hid (mg C R S f (j + 1) = stG C R S x y u (mg C R S f j)) := hmg
      clear hx hy hu hmg
      obtain ⟨W5, hW5, sz5, g5, B5⟩ := boxn U #[.int .i64 x, .int .i64 y, .int .u8 (u : Nat)] 87
      have g5d : U.grownBy W5.drew none := gb_drew g5
      have HR5 : Hid (Rf W5.drew r d C R S false (mg C R S f j)) := HR.out.kept g5d (by simp) (by simp)
      have HF5 : Hid (Fb W5.drew b s q C R S (mg C R S f j)) := HF.out.kept g5d
      have B5d : Bo W5.drew U.heap.size 87 #[.int .i64 x, .int .i64 y, .int .u8 (u : Nat)] := B5
      have z0 := B5.cell 0 (v := .int .i64 x) rfl
      have z1 := B5.cell 1 (v := .int .i64 y) rfl
      have z2 := B5.cell 2 (v := .int .u8 (u : Nat)) rfl
      have t0 := B5d.cell 0 (v := .int .i64 x) rfl
      have t1 := B5d.cell 1 (v := .int .i64 y) rfl
      have t2 := B5d.cell 2 (v := .int .u8 (u : Nat)) rfl
      have k1 := refSetA r d C R S false (mg C R S f j) hz x y u hu8 W5.drew HR5.out
      have k2 := fun V h => fSetA b s q C R S (mg C R S f j) hz x y u hu8 V h
      obtain ⟨E, hE⟩ : ∃ E, stE C R S x y u = E := ⟨_, rfl⟩
      rw [hE] at k1 k2
      have hlU := HR.out.lts
      have hlF : b < U.heap.size ∧ s < U.heap.size ∧ q < U.heap.size := HF.out.qlt
      clear hE
      go_wp2
      go_region_held2 (fun w' => w'.cell? ⟨U.heap.size, 0, none⟩ = some (.int .i64 x) ∧ w'.cell? ⟨U.heap.size, 1, none⟩ = some (.int .i64 y) ∧ w'.cell? ⟨U.heap.size, 2, none⟩ = some (.int .u8 (u : Nat))) (go_keep) (first | (go_at_call 38; refine k1.mono ?_; rintro e V6 ⟨rfl, hR6, g6⟩; clear k1; have HR6 : Hid (Rf V6 r d C R S false (stG C R S x y u (mg C R S f j))) := hR6; clear hR6; have HF6 : Hid (Fb V6 b s q C R S (mg C R S f j)) := HF5.out.keptX g6 (fun i e => by have e := Option.some.inj e; omega); have B6 := B5d.kept g6 (fun e => by have e := Option.some.inj e; omega); have v0 := B6.cell 0 (v := .int .i64 x) rfl; have v1 := B6.cell 1 (v := .int .i64 y) rfl; have v2 := B6.cell 2 (v := .int .u8 (u : Nat)) rfl) | (go_at_call 17; refine (k2 V6 HF6.out).mono ?_; rintro e V7 ⟨rfl, hF7, g7⟩; clear k2; have HF7 : Hid (Fb V7 b s q C R S (stG C R S x y u (mg C R S f j))) := hF7; clear hF7; have B7 := B6.kept g7 (fun e => by have e := Option.some.inj e; omega); have o0 := B7.cell 0 (v := .int .i64 x) rfl; have o1 := B7.cell 1 (v := .int .i64 y) rfl; have o2 := B7.cell 2 (v := .int .u8 (u : Nat)) rfl))
      have HB7 : Hid (Bo V7 w.heap.size 41 #[.int .i64 (C : Nat), .int .i64 (R : Nat), .int .i64 (S : Nat), .bool false, .slice (some a) n cp]) := ((HB.out.kept g5d (by simp)).kept g6 (fun e => by have e := Option.some.inj e; omega)).kept g7 (fun e => by have e := Option.some.inj e; omega)
      have HR7 : Hid (Rf V7 r d C R S false (stG C R S x y u (mg C R S f j))) := HR6.out.kept g7 (fun e => by have e := Option.some.inj e; omega) (fun e => by have e := Option.some.inj e; omega)
      have HG7 : Hid (w.grownBy V7 none) := gb_past (gb_past (gb_trans HG.out g5d) g6 (by omega)) g7 (by omega)
      rw [← HM.out] at HF7 HR7
      go_wp2
      go_roundw
      case rel => exact ⟨j + 1, by omega, by go_num, HR7, HF7, HB7, HG7⟩
      case measure => simp [intOf]; omega
    · obtain rfl : j = n := by omega
      have hlt' : ¬ (j : Int) < (j : Int) := by omega
      go_wp2
      go_ret3
      exact ⟨r, d, b, rfl, HR.out, s, q, HF.out, by omega, by omega, by omega, by omega, by omega, HG.out⟩
set_option maxHeartbeats 4000000 in
theorem madeT (C R : Nat) (hz : Sz C R 2) (sp : Option Addr) (n cp : Nat) (hn : n < 4611686018427387904) (f : Nat → Int × Int × Nat) (h8 : ∀ i, i < n → (f i).2.2 < 256) (w : World) (hc : Ce w sp n f) : Calls Tryz.prog 12 #[.agg #[.int .i64 (C : Nat), .int .i64 (R : Nat), .int .i64 2, .bool true, .slice sp n cp]] w fun e w' => ∃ r d b s q, e = .returned (.tuple #[.pointer (some ⟨r, 0, none⟩), .pointer (some ⟨b, 0, none⟩), .bool true]) ∧ Rf w' r d C R 2 true (mg C R 2 f n) ∧ Tt.Fb w' b s q C R 2 (mg C R 2 f n) ∧ w.heap.size ≤ r ∧ w.heap.size ≤ d ∧ w.heap.size ≤ b ∧ w.heap.size ≤ s ∧ w.heap.size ≤ q.1 ∧ (∀ j, j < R → w.heap.size ≤ q.2 j) ∧ w.grownBy w' none := by
  obtain ⟨W1, hW1, sz1, g1, B1⟩ := boxn w #[.int .i64 (C : Nat), .int .i64 (R : Nat), .int .i64 2, .bool true, .slice sp n cp] 41
  have a0 := B1.cell 0 (v := .int .i64 (C : Nat)) rfl; have a1 := B1.cell 1 (v := .int .i64 (R : Nat)) rfl; have a2 := B1.cell 2 (v := .int .i64 2) rfl; have a3 := B1.cell 3 (v := .bool true) rfl; have a4 := B1.cell 4 (v := .slice sp n cp) rfl
  have HC : Hid (Ce w sp n f) := hc
  have H8 : Hid (∀ i, i < n → (f i).2.2 < 256) := h8
  clear hc h8
  go_enter Tryz.func12, Tryz.ntmps12
  go_wp2_with (first | (go_at_call 37; refine (refNewY C R 2 true hz (by simp) W1).mono ?_; rintro e V1 ⟨r, d, rfl, hR1, lr, ld, gv1⟩; have HR1 : Hid (Rf V1 r d C R 2 true (fun _ => 0)) := hR1; clear hR1; have B2 := B1.kept gv1 (by simp); have b0 := B2.cell 0 (v := .int .i64 (C : Nat)) rfl; have b1 := B2.cell 1 (v := .int .i64 (R : Nat)) rfl; have b2 := B2.cell 2 (v := .int .i64 2) rfl; have b3 := B2.cell 3 (v := .bool true) rfl; have b4 := B2.cell 4 (v := .slice sp n cp) rfl) | (go_at_call 33; refine (Tt.newY C R hz V1).mono ?_; rintro e V2 ⟨b, s, q, rfl, hF2, f1, f2, f3, f4, gv2⟩; have HF2 : Hid (Tt.Fb V2 b s q C R 2 (fun _ => 0)) := hF2; clear hF2; have B3 := B2.kept gv2 (by simp); have c0 := B3.cell 0 (v := .int .i64 (C : Nat)) rfl; have c1 := B3.cell 1 (v := .int .i64 (R : Nat)) rfl; have c2 := B3.cell 2 (v := .int .i64 2) rfl; have c3 := B3.cell 3 (v := .bool true) rfl; have c4 := B3.cell 4 (v := .slice sp n cp) rfl))
  have hs1 := sz1.out
  have lR := HR1.out.lts
  have gw2 : w.grownBy V2 none := gb_trans g1 (gb_trans gv1 gv2)
  have HR2 : Hid (Rf V2 r d C R 2 true (fun _ => 0)) := HR1.out.kept gv2 (by simp) (by simp)
  have HB : Hid (Bo V2 w.heap.size 41 #[.int .i64 (C : Nat), .int .i64 (R : Nat), .int .i64 2, .bool true, .slice sp n cp]) := B3
  clear a0 a1 a2 a3 a4 b0 b1 b2 b3 b4 c0 c1 c2 c3 c4 B1 B2 B3 hW1 HR1
  go_loopw [9] (fun x wr => ∃ j : Nat, j ≤ n ∧ x = .int .i64 (j : Nat) ∧ Hid (Rf wr r d C R 2 true (mg C R 2 f j)) ∧ Hid (Tt.Fb wr b s q C R 2 (mg C R 2 f j)) ∧ Hid (Bo wr w.heap.size 41 #[.int .i64 (C : Nat), .int .i64 (R : Nat), .int .i64 2, .bool true, .slice sp n cp]) ∧ Hid (w.grownBy wr none)) (fun x _ => n - (intOf x).toNat)
  case atStart => exact ⟨0, Nat.zero_le _, rfl, HR2, HF2, HB, gw2⟩
  case round =>
    clear HR2 HF2 HB gw2
    obtain ⟨j, hj, rfl, HR, HF, HB, HG⟩ := hrel
    obtain ⟨U, hU⟩ : ∃ U, U = wr := ⟨_, rfl⟩
    subst hU
    have b4 := HB.out.cell 4 (v := .slice sp n cp) rfl
    by_cases hlt : j < n
    · have hlt' : (j : Int) < (n : Int) := by omega
      obtain ⟨a, rfl, y0, y1, y2⟩ := HC.out j hlt
      have hp1 : a.add (j * 3 + 1) = ⟨(a.add (j * 3)).block, (a.add (j * 3)).off + 1, none⟩ := by rw [← Addr.add_add]; rfl
      have hp2 : a.add (j * 3 + 2) = ⟨(a.add (j * 3)).block, (a.add (j * 3)).off + 2, none⟩ := by rw [← Addr.add_add]; rfl
      rw [hp1] at y1
      rw [hp2] at y2
      clear hp1 hp2
      have y0 := HG.out.cell y0 (by simp)
      have y1 := HG.out.cell y1 (by simp)
      have y2 := HG.out.cell y2 (by simp)
      have hu8 := H8.out j hlt
      have hmg : mg C R 2 f (j + 1) = stG C R 2 (f j).1 (f j).2.1 (f j).2.2 (mg C R 2 f j) := rfl
      obtain ⟨x, hx⟩ : ∃ x, (f j).1 = x := ⟨_, rfl⟩
      obtain ⟨y, hy⟩ : ∃ y, (f j).2.1 = y := ⟨_, rfl⟩
      obtain ⟨u, hu⟩ : ∃ u, (f j).2.2 = u := ⟨_, rfl⟩
      rw [hx] at y0
      rw [hy] at y1
      rw [hu] at y2 hu8
      rw [hx, hy, hu] at hmg
      have HM : Hid (mg C R 2 f (j + 1) = stG C R 2 x y u (mg C R 2 f j)) := hmg
      clear hx hy hu hmg
      obtain ⟨W5, hW5, sz5, g5, B5⟩ := boxn U #[.int .i64 x, .int .i64 y, .int .u8 (u : Nat)] 87
      have g5d : U.grownBy W5.drew none := gb_drew g5
      have HR5 : Hid (Rf W5.drew r d C R 2 true (mg C R 2 f j)) := HR.out.kept g5d (by simp) (by simp)
      have HF5 : Hid (Tt.Fb W5.drew b s q C R 2 (mg C R 2 f j)) := HF.out.kept g5d
      have B5d : Bo W5.drew U.heap.size 87 #[.int .i64 x, .int .i64 y, .int .u8 (u : Nat)] := B5
      have z0 := B5.cell 0 (v := .int .i64 x) rfl
      have z1 := B5.cell 1 (v := .int .i64 y) rfl
      have z2 := B5.cell 2 (v := .int .u8 (u : Nat)) rfl
      have t0 := B5d.cell 0 (v := .int .i64 x) rfl
      have t1 := B5d.cell 1 (v := .int .i64 y) rfl
      have t2 := B5d.cell 2 (v := .int .u8 (u : Nat)) rfl
      have k1 := refSetA r d C R 2 true (mg C R 2 f j) hz x y u hu8 W5.drew HR5.out
      have k2 := fun V h => Tt.fSetA b s q C R 2 (mg C R 2 f j) hz x y u hu8 V h
      obtain ⟨E, hE⟩ : ∃ E, stE C R 2 x y u = E := ⟨_, rfl⟩
      rw [hE] at k1 k2
      have hlU := HR.out.lts
      have hlF : b < U.heap.size ∧ s < U.heap.size ∧ q.1 < U.heap.size ∧ ∀ j, j < R → q.2 j < U.heap.size := HF.out.lts
      clear hE
      go_wp2
      go_region_held2 (fun w' => w'.cell? ⟨U.heap.size, 0, none⟩ = some (.int .i64 x) ∧ w'.cell? ⟨U.heap.size, 1, none⟩ = some (.int .i64 y) ∧ w'.cell? ⟨U.heap.size, 2, none⟩ = some (.int .u8 (u : Nat))) (go_keep) (first | (go_at_call 38; refine k1.mono ?_; rintro e V6 ⟨rfl, hR6, g6⟩; clear k1; have HR6 : Hid (Rf V6 r d C R 2 true (stG C R 2 x y u (mg C R 2 f j))) := hR6; clear hR6; have HF6 : Hid (Tt.Fb V6 b s q C R 2 (mg C R 2 f j)) := HF5.out.keptX g6 (fun i e => by have e := Option.some.inj e; exact ⟨by omega, by omega, by omega, fun j2 hj2 => by have := f4 j2 hj2; omega⟩); have B6 := B5d.kept g6 (fun e => by have e := Option.some.inj e; omega); have v0 := B6.cell 0 (v := .int .i64 x) rfl; have v1 := B6.cell 1 (v := .int .i64 y) rfl; have v2 := B6.cell 2 (v := .int .u8 (u : Nat)) rfl) | (go_at_call 17; refine (k2 V6 HF6.out).mono ?_; rintro e V7 ⟨rfl, hF7, jj, hjj, g7⟩; clear k2; have HF7 : Hid (Tt.Fb V7 b s q C R 2 (stG C R 2 x y u (mg C R 2 f j))) := hF7; clear hF7; have B7 := B6.kept g7 (fun e => by have e := Option.some.inj e; have := hlF.2.2.2 jj hjj; omega); have o0 := B7.cell 0 (v := .int .i64 x) rfl; have o1 := B7.cell 1 (v := .int .i64 y) rfl; have o2 := B7.cell 2 (v := .int .u8 (u : Nat)) rfl))
      have HB7 : Hid (Bo V7 w.heap.size 41 #[.int .i64 (C : Nat), .int .i64 (R : Nat), .int .i64 2, .bool true, .slice (some a) n cp]) := ((HB.out.kept g5d (by simp)).kept g6 (fun e => by have e := Option.some.inj e; omega)).kept g7 (fun e => by have e := Option.some.inj e; have := f4 jj hjj; omega)
      have HR7 : Hid (Rf V7 r d C R 2 true (stG C R 2 x y u (mg C R 2 f j))) := HR6.out.kept g7 (fun e => by have e := Option.some.inj e; have := f4 jj hjj; omega) (fun e => by have e := Option.some.inj e; have := f4 jj hjj; omega)
      have HG7 : Hid (w.grownBy V7 none) := gb_past (gb_past (gb_trans HG.out g5d) g6 (by omega)) g7 (by have := f4 jj hjj; omega)
      rw [← HM.out] at HF7 HR7
      go_wp2
      go_roundw
      case rel => exact ⟨j + 1, by omega, by go_num, HR7, HF7, HB7, HG7⟩
      case measure => simp [intOf]; omega
    · obtain rfl : j = n := by omega
      have hlt' : ¬ (j : Int) < (j : Int) := by omega
      go_wp2
      go_ret3
      exact ⟨r, d, b, rfl, HR.out, s, q.1, q.2, HF.out, by omega, by omega, by omega, by omega, by omega, fun j2 hj2 => by have := f4 j2 hj2; omega, HG.out⟩
end Go.Proofs.YthjiiljglgmkpaaGreatDoor.Pd
