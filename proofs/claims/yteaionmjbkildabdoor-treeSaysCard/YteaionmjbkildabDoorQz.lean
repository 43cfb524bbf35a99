/- The statements' says, of. -/
import Derived.Test.YteaionmjbkildabDoorQy
import Derived.Test.YteaionmjbkildabDoorQ26
namespace Go.Proofs.YteaionmjbkildabDoor
open Go.RowKit
set_option linter.unusedVariables false
set_option linter.unusedSimpArgs false
set_option maxRecDepth 100000

/-- Where says looks behind the first k inputs. -/
def syN (st m : Nat) (l : Nat → Nat) : Nat → Nat
  | 0 => 0
  | k + 1 => (syN st m l k * st + l k) % m
/-- What says answers of a row. -/
def syF (st m : Nat) (a : Nat → Nat) (x : List Nat) : Nat := if m = 0 then 0 else a (syN st m (fun i => x.getD i 0) x.length)
theorem syN_lt (st : Nat) {m : Nat} (h : 0 < m) (l : Nat → Nat) : ∀ k, syN st m l k < m
  | 0 => h
  | k + 1 => Nat.mod_lt _ h
theorem syF_lt (st m : Nat) (h : 0 < st) {a : Nat → Nat} (ha : ∀ i, a i < st) (x : List Nat) : syF st m a x < st := by
  unfold syF
  split
  · exact h
  · exact ha _
theorem syN_congr (st m : Nat) {l l' : Nat → Nat} : ∀ k, (∀ i, i < k → l i = l' i) → syN st m l k = syN st m l' k
  | 0, _ => rfl
  | k + 1, h => by rw [syN, syN, syN_congr st m k (fun i hi => h i (by omega)), h k (by omega)]
set_option maxHeartbeats 1000000 in
theorem saysC (st inp m cq : Nat) (hst : st ≤ 4) (hm : m ≤ 2000) (sq : Option Addr) (a : Nat → Nat) (sp : Option Addr) (k cp : Nat) (hk : k ≤ 16) (l : Nat → Nat) (hl : ∀ i, i < k → l i < 256) (w : World) (ha : By w sq m a) (hx : By w sp k l) :
    Calls Tryd.prog 24 #[.agg #[.int .i64 (st : Nat), .int .i64 (inp : Nat), .slice sq m cq], .slice sp k cp] w fun e w' => e = .returned (.int .u8 ((if m = 0 then 0 else a (syN st m l k) : Nat) : Int)) ∧ w.grownBy w' none := by
  obtain ⟨W1, hW1, sz1, g1, B1⟩ := boxn w #[.int .i64 (st : Nat), .int .i64 (inp : Nat), .slice sq m cq] 46
  have HB : Hid (Bo W1 w.heap.size 46 #[.int .i64 (st : Nat), .int .i64 (inp : Nat), .slice sq m cq]) := B1
  have Ha : Hid (By W1 sq m a) := ha.kept g1 (by simp)
  have Hx : Hid (By W1 sp k l) := hx.kept g1 (by simp)
  have HG : Hid (w.grownBy W1 none) := g1
  have c0 := B1.cell 0 (v := .int .i64 (st : Nat)) rfl
  have c1 := B1.cell 1 (v := .int .i64 (inp : Nat)) rfl
  have c2 := B1.cell 2 (v := .slice sq m cq) rfl
  by_cases h0 : m = 0
  · subst h0
    clear Ha Hx ha hx
    go_enter Tryd.func24, Tryd.ntmps24
    go_wp2
    go_ret
    exact ⟨rfl, HG.out⟩
  · have hm0 : ((m : Int) == 0) = false := by simp; omega
    have hmp : 0 < m := by omega
    rw [if_neg h0]
    obtain ⟨r, hr⟩ : ∃ r, a (syN st m l k) = r := ⟨_, rfl⟩
    have HR : Hid (a (syN st m l k) = r) := hr
    rw [hr]
    clear hr ha hx B1 g1
    go_enter Tryd.func24, Tryd.ntmps24
    go_wp2
    go_loopw [5, 6] (fun v i wr => ∃ j : Nat, j ≤ k ∧ i = .int .i64 (j : Nat) ∧ v = .int .i64 ((syN st m l j : Nat) : Int) ∧ Hid (W1.grownBy wr none)) (fun _ i _ => k - (intOf i).toNat)
    case atStart => exact ⟨0, Nat.zero_le _, rfl, rfl, World.grownBy.refl _ _⟩
    case round =>
      obtain ⟨j, hj, rfl, rfl, gj⟩ := hrel
      have Bj := HB.out.kept gj.out (by simp)
      have b0 := Bj.cell 0 (v := .int .i64 (st : Nat)) rfl
      have b1 := Bj.cell 1 (v := .int .i64 (inp : Nat)) rfl
      have b2 := Bj.cell 2 (v := .slice sq m cq) rfl
      have hlt9 := syN_lt st hmp l j
      by_cases hlt : j < k
      · have hlt' : (j : Int) < (k : Int) := by omega
        obtain ⟨pa, rfl⟩ := Hx.out.some (by omega)
        have hc := (Hx.out.kept gj.out (by simp)).at hlt
        have hlj := hl j hlt
        have HS : Hid (syN st m l (j + 1) = (syN st m l j * st + l j) % m) := rfl
        obtain ⟨y, hy⟩ : ∃ y, syN st m l j = y := ⟨_, rfl⟩
        obtain ⟨lj, hljn⟩ : ∃ lj, l j = lj := ⟨_, rfl⟩
        rw [hy] at hlt9 HS ⊢
        rw [hljn] at hc hlj HS
        obtain ⟨z, hz⟩ : ∃ z, (y * st + lj) % m = z := ⟨_, rfl⟩
        rw [hz] at HS
        have hys : y * st ≤ 8000 := Nat.le_trans (Nat.mul_le_mul (show y ≤ 2000 by omega) hst) (by decide)
        have e1 : IntKind.i64.wrap ((y : Int) * (st : Int)) = ((y * st : Nat) : Int) := by rw [← Int.natCast_mul, IntKind.wrap_i64]; omega
        have e2 : IntKind.i64.wrap (((y * st : Nat) : Int) + (lj : Int)) = ((y * st + lj : Nat) : Int) := by rw [← Int.natCast_add, IntKind.wrap_i64]; omega
        obtain ⟨q, hq⟩ : ∃ q, y * st = q := ⟨_, rfl⟩
        rw [hq] at e1 e2 hz hys
        obtain ⟨q2, hq2⟩ : ∃ q2, q + lj = q2 := ⟨_, rfl⟩
        rw [hq2] at e2 hz
        have e3 : ((q2 : Nat) : Int).tmod (m : Int) = (z : Int) := by rw [← hz]; exact (Int.ofNat_tmod q2 m).symm
        have e4 : IntKind.i64.wrap (lj : Int) = (lj : Int) := by rw [IntKind.wrap_i64]; omega
        have hm1 : ¬ m = 0 := h0
        clear hy hljn hz hq hq2
        go_wp2
        go_quiet (fail)
        go_wp2
        go_roundw
        case rel => exact ⟨j + 1, hlt, by go_num, by rw [HS.out], gb_drewN gj.out _⟩
        case measure => simp [intOf]; omega
      · obtain rfl : j = k := by omega
        have hlt' : ¬ (j : Int) < (j : Int) := by omega
        obtain ⟨pa, rfl⟩ := Ha.out.some (by omega)
        have hc := (Ha.out.kept gj.out (by simp)).at hlt9
        rw [HR.out] at hc
        obtain ⟨y, hy⟩ : ∃ y, syN st m l j = y := ⟨_, rfl⟩
        rw [hy] at hc hlt9 ⊢
        have hyI : (y : Int) < (m : Int) := by omega
        clear hy
        go_wp2
        try (go_quiet (fail); go_wp2)
        go_ret
        exact ⟨rfl, by first | exact gb_trans HG.out gj.out | exact gb_drewN (gb_trans HG.out gj.out) _⟩
set_option maxHeartbeats 1000000 in
theorem cloC (st inp m cq : Nat) (hst : st ≤ 4) (hm : m ≤ 2000) (sq : Option Addr) (a : Nat → Nat) (gx gr : Nat) (x : List Nat) (hx : x.length = inp) (hi : inp ≤ 5) (hs : ∀ s ∈ x, s < st) (w : World) (BX : Bo w gx 46 #[.int .i64 (st : Nat), .int .i64 (inp : Nat), .slice sq m cq]) (ha : By w sq m a) (hr : w.rowIs gr 5 inp (fun i => .int .u8 (x.getD i 0 : Nat))) :
    Calls Tryd.prog 45 #[.slice (some ⟨gr, 0, none⟩) inp inp, .pointer (some ⟨gx, 0, none⟩)] w fun e w' => e = .returned (.int .u8 ((syF st m a x : Nat) : Int)) ∧ w.grownBy w' none := by
  have c0 := BX.cell 0 (v := .int .i64 (st : Nat)) rfl
  have c1 := BX.cell 1 (v := .int .i64 (inp : Nat)) rfl
  have c2 := BX.cell 2 (v := .slice sq m cq) rfl
  have hrow : By w (some ⟨gr, 0, none⟩) inp (fun i => x.getD i 0) := fun k hk => ⟨_, rfl, by rw [add_mid, Nat.zero_add]; exact hr.cell hk⟩
  have hk := saysC st inp m cq hst hm sq a (some ⟨gr, 0, none⟩) inp inp (by omega) (fun i => x.getD i 0) (fun i hi2 => by
    have : x.getD i 0 ∈ x := by
      refine List.mem_of_getElem? (i := i) ?_
      rw [List.getD_eq_getElem?_getD, List.getElem?_eq_getElem (by omega)]; rfl
    have := hs _ this
    omega) w ha hrow
  unfold syF
  rw [hx]
  obtain ⟨r, hre⟩ : ∃ r, (if m = 0 then 0 else a (syN st m (fun i => x.getD i 0) inp)) = r := ⟨_, rfl⟩
  rw [hre] at hk ⊢
  clear hre hr hrow ha
  go_enter Tryd.func45, Tryd.ntmps45
  go_wp2_with (first | (go_at_call 24; refine hk.mono ?_; rintro e w1 ⟨rfl, g1⟩))
  go_ret
  exact ⟨rfl, g1⟩
theorem pow_small {st inp : Nat} (h : st ≤ 4) (hi : inp ≤ 5) (h1 : 1 ≤ st) : st ^ inp ≤ 1024 := Nat.le_trans (Nat.pow_le_pow_left h inp) (Nat.le_trans (Nat.pow_le_pow_right (by decide) hi) (by decide))
theorem frm_small {st inp : Nat} (h1 : 1 ≤ st) (h4 : st ≤ 4) (hi : inp ≤ 5) (A : Nat → Nat) (hA : ∀ i, A i < 256) : (frm st inp A).length ≤ 65536 := by
  have e1 := (bld_stp st A (by omega) hA inp).le ([], 0)
  have e2 := clN_le st h1 inp (by omega)
  have e3 := pow_small h4 hi h1
  unfold frm
  simp at e1
  omega
theorem By.lt {w : World} {sp : Option Addr} {n : Nat} {f : Nat → Nat} (h : By w sp n f) {k : Nat} (hk : k < n) : ∀ a, sp = Option.some a → a.block < w.heap.size := fun a e => by
  obtain ⟨a', ha, hc⟩ := h k hk
  rw [e] at ha
  cases ha
  have := cell_lt hc
  rwa [add_block] at this
theorem By.stays {A B : World} {b : Nat} {sp : Option Addr} {n : Nat} {f : Nat → Nat} (h : By A sp n f) (hb : Below b A B) (hlt : ∀ a, sp = Option.some a → 0 < n → a.block < b) : By B sp n f := fun k hk => by
  obtain ⟨a, ha, hc⟩ := h k hk
  refine ⟨a, ha, ?_⟩
  have := hb.block (a.add k).block (by rw [add_block]; exact hlt a ha (by omega))
  unfold World.cell? at hc ⊢
  rw [this]; exact hc
set_option maxHeartbeats 1000000 in
/-- of a function that was made small: its form. -/
theorem ofC (st inp m cq : Nat) (h1 : 1 ≤ st) (hst : st ≤ 4) (hi : inp ≤ 5) (hm : m ≤ 2000) (sq : Option Addr) (a : Nat → Nat) (haL : ∀ i, a i < st) (w : World) (ha : By w sq m a) (L : List Nd) (hL : frm st inp (ans st inp (syF st m a)) = L) :
    Calls Tryd.prog 19 #[.agg #[.int .i64 (st : Nat), .int .i64 (inp : Nat), .slice sq m cq]] w fun e w' => ∃ gN kb, e = .returned (.tuple #[.agg #[.int .i64 (st : Nat), .int .i64 (inp : Nat), .slice (some ⟨gN, 0, none⟩) L.length L.length, .int .i64 ((L.length - 1 : Nat) : Int)], .int .i64 0]) ∧ Nz w' w.heap.size gN kb L ∧ Ap gN kb L ∧ w.grownBy w' none ∧ w.heap.size ≤ gN := by
  obtain ⟨fs, hfs⟩ := underTree
  have HFs : Hid (Tryd.prog.underlying 24 = some (.struct fs)) := hfs
  clear hfs
  obtain ⟨W1, hW1, sz1, g1, B1⟩ := boxn w #[.int .i64 (st : Nat), .int .i64 (inp : Nat), .slice sq m cq] 46
  obtain ⟨W2, hW2, sz2, g2, B2⟩ := boxn W1 #[.int .i64 0, .int .i64 0, .slice none 0 0, .int .i64 0] 24
  have X2 := B1.kept g2 (by simp)
  have A2 : By W2 sq m a := (ha.kept g1 (by simp)).kept g2 (by simp)
  have lx := X2.lt
  have hlow := syF_lt st m (by omega) haL
  have ho := ofOk st inp w.heap.size h1 (by omega) (by omega) (by have := pow_small hst hi h1; omega) (syF st m a) (fun x => by have := hlow x; omega) (fun W => Bo W w.heap.size 46 #[.int .i64 (st : Nat), .int .i64 (inp : Nat), .slice sq m cq] ∧ By W sq m a) W2 ⟨X2, A2⟩
    (fun X Y h hb => ⟨(hb.block _ lx).trans h.1, h.2.stays hb (fun b e h0 => A2.lt h0 b e)⟩)
    (fun gr x W hE hx hs hr => cloC st inp m cq hst hm sq a _ gr x hx hi hs W hE.1 hE.2 hr)
    (List.all_eq_true.2 fun x _ => decide_eq_true (hlow x)) (frm_small h1 hst hi _ (fun i => by have := hlow ((rws st inp).getD i []); unfold ans; omega))
  rw [hL] at ho
  clear lx ha A2 B1
  have c0 := X2.cell 0 (v := .int .i64 (st : Nat)) rfl
  have c1 := X2.cell 1 (v := .int .i64 (inp : Nat)) rfl
  clear X2
  go_enter Tryd.func19, Tryd.ntmps19
  go_wp2_with (go_at_call 27; refine ho.mono ?_; rintro e w4 ⟨gN, kb, rfl, N4, hAp, g4, hl4⟩; have B4 := B2.kept g4 (by simp); have d0 := B4.cell 0 (v := .int .i64 0) rfl; have d1 := B4.cell 1 (v := .int .i64 0) rfl; have d2 := B4.cell 2 (v := .slice none 0 0) rfl; have d3 := B4.cell 3 (v := .int .i64 0) rfl; have f0 := B4.frozen 0; have f1 := B4.frozen 1; have f2 := B4.frozen 2; have f3 := B4.frozen 3)
  have le : w.heap.size ≤ W1.heap.size := g1.size
  have hlo : W1.heap.size < W2.heap.size := B2.lt
  have hgN : gN ≠ W1.heap.size := by omega
  have G4 : w.grownBy w4 none := gb_trans g1 (gb_trans g2 g4)
  have go4 : ∀ {W : World} i v, W.grownBy (W.setCell ⟨W1.heap.size, i, none⟩ v) (some W1.heap.size) := fun i v => gb_set (World.grownBy.refl _ _) i v
  exact ret_c2 (g := W1.heap.size) (t := 24) (cs := #[.int .i64 (st : Nat), .int .i64 (inp : Nat), .slice (some ⟨gN, 0, none⟩) L.length L.length, .int .i64 ((L.length - 1 : Nat) : Int)]) rfl HFs.out infoTree rfl ((((B4.set 0 _).set 1 _).set 2 _).set 3 _) rfl ⟨gN, kb, rfl, ((((N4.keep (go4 _ _) hgN hlo).keep (go4 _ _) hgN hlo).keep (go4 _ _) hgN hlo).keep (go4 _ _) hgN hlo).low (by omega), hAp, gb_new (gb_new (gb_new (gb_new G4 le _) le _) le _) le _, by omega⟩
end Go.Proofs.YteaionmjbkildabDoor
