/- A form's tree says what the function says; orders of the inputs. -/
import Derived.Test.YteaionmjbkildabDoorOn
import Derived.Test.YteaionmjbkildabDoorQ23
import Derived.Test.YteaionmjbkildabDoorOa
import Derived.Test.YteaionmjbkildabDoorQz
import Derived.Test.YteaionmjbkildabDoorOm
import Derived.Test.YteaionmjbkildabDoorOc
namespace Go.Proofs.YteaionmjbkildabDoor
set_option linter.unusedVariables false
set_option linter.unusedSimpArgs false
set_option maxRecDepth 100000

theorem ev_says (S I : Nat) (h1 : 1 ≤ S) (h4 : S ≤ 4) (hi : I ≤ 5) (f : List Nat → Nat) (hf : ∀ x, f x < S) (L : List Nd) (hL : frm S I (ans S I f) = L) (sp : Nat → Option Addr) : ∃ lv, Tok S I (L.length - 1) L.length (tnOf L sp) lv ∧ ∀ x, x.length = I → (∀ s ∈ x, s < S) → ev (tnOf L sp) (L.length - 1) I x = f x := by
  have hA : ∀ i, ans S I f i < S := fun i => by unfold ans; exact hf _
  obtain ⟨lv, ht, hc⟩ := tok_frm S I h1 h4 hi _ hA L hL sp
  refine ⟨lv, ht, fun x hx hs => ?_⟩
  have h := hL.trans (hc.symm.trans (canon_is ht))
  rw [frm_eq S h1 I _ _ hA (ans_lt ht), same_rows S I (by omega)] at h
  obtain ⟨k, k1, k2⟩ := dgs_all (show 0 < S by omega) x hs
  rw [hx] at k1 k2
  rw [← k2]
  exact (h k k1).symm
theorem px_len (p : Nat → Nat) (I : Nat) (x : List Nat) : (px p I x).length = I := by simp [px]
theorem px_at (p : Nat → Nat) (I : Nat) (x : List Nat) {i : Nat} (h : i < I) : (px p I x).getD i 0 = x.getD (p i) 0 := by
  simp [px, List.getD_eq_getElem?_getD, h]
theorem px_lt {S I : Nat} {p : Nat → Nat} (hp : ∀ i, i < I → p i < I) {x : List Nat} (hx : x.length = I) (hs : ∀ s ∈ x, s < S) : ∀ s ∈ px p I x, s < S := by
  intro s hm
  simp only [px, List.mem_map, List.mem_range] at hm
  obtain ⟨i, hi, rfl⟩ := hm
  refine hs _ ?_
  have := hp i hi
  rw [List.getD_eq_getElem?_getD, List.getElem?_eq_getElem (by omega)]
  exact List.getElem_mem _
theorem px_px {I : Nat} {p q : Nat → Nat} (hq : ∀ i, i < I → q i < I) (x : List Nat) : px (fun i => p (q i)) I x = px q I (px p I x) := by
  unfold px
  apply List.map_congr_left
  intro i hi
  have h := hq i (List.mem_range.1 hi)
  show x.getD (p (q i)) 0 = (px p I x).getD (q i) 0
  rw [px_at p I x h]
theorem px_id {I : Nat} {p : Nat → Nat} (hp : ∀ i, i < I → p i = i) {x : List Nat} (hx : x.length = I) : px p I x = x := by
  apply List.ext_getElem (by rw [px_len, hx])
  intro i a b
  rw [px_len] at a
  simp [px, hp i a, List.getD_eq_getElem?_getD, b]
/-- Whether a function keeps an order. -/
def KB (S I : Nat) (f : List Nat → Nat) (p : Nat → Nat) : Bool := (rws S I).all fun x => decide (f x = f (px p I x))
theorem kb_iff (S I : Nat) (f : List Nat → Nat) (p : Nat → Nat) : KB S I f p = true ↔ ∀ x, x.length = I → (∀ s ∈ x, s < S) → f x = f (px p I x) := by
  unfold KB
  rw [List.all_eq_true]
  constructor
  · intro h x h1 h2
    exact of_decide_eq_true (h x ((rws_memI S I x).2 ⟨h1, h2⟩))
  · intro h x hx
    obtain ⟨h1, h2⟩ := (rws_memI S I x).1 hx
    exact decide_eq_true (h x h1 h2)
theorem kb_ev {S I : Nat} {f g : List Nat → Nat} {p : Nat → Nat} (hp : ∀ i, i < I → p i < I) (h : ∀ x, x.length = I → (∀ s ∈ x, s < S) → g x = f x) : KB S I g p = KB S I f p := by
  rw [Bool.eq_iff_iff, kb_iff, kb_iff]
  constructor
  · intro k x h1 h2
    have := k x h1 h2
    rwa [h x h1 h2, h _ (px_len p I x) (px_lt hp h1 h2)] at this
  · intro k x h1 h2
    rw [h x h1 h2, h _ (px_len p I x) (px_lt hp h1 h2)]
    exact k x h1 h2
theorem kb_same (S I : Nat) (h1 : 1 ≤ S) (f : List Nat → Nat) (hf : ∀ x, f x < S) (p : Nat → Nat) (L M : List Nd) (hL : frm S I (ans S I f) = L) (hM : frm S I (ans S I (fun x => f (px p I x))) = M) : KB S I f p = true ↔ L = M := by
  have hA : ∀ i, ans S I f i < S := fun i => by unfold ans; exact hf _
  have hB : ∀ i, ans S I (fun x => f (px p I x)) i < S := fun i => by unfold ans; exact hf _
  rw [← hL, ← hM, frm_eq S h1 I _ _ hA hB, same_rows S I (by omega), kb_iff]
  constructor
  · intro h k _
    exact h _ (dgs_len S I k) (dgs_lt (by omega) I k)
  · intro h x hx hs
    obtain ⟨k, k1, k2⟩ := dgs_all (show 0 < S by omega) x hs
    rw [hx] at k1 k2
    rw [← k2]
    exact h k k1
theorem kb_id {S I : Nat} {f : List Nat → Nat} {p : Nat → Nat} (hp : ∀ i, i < I → p i = i) : KB S I f p = true := by
  rw [kb_iff]
  intro x hx _
  rw [px_id hp hx]
theorem kb_both {S I : Nat} {f : List Nat → Nat} {p q r : Nat → Nat} (hp : ∀ i, i < I → p i < I) (hq : ∀ i, i < I → q i < I) (hr : ∀ i, i < I → r i = p (q i)) : (KB S I f r || !KB S I f p || !KB S I f q) = true := by
  cases e1 : KB S I f p <;> cases e2 : KB S I f q <;> simp
  rw [kb_iff] at e1 e2 ⊢
  intro x hx hs
  have e : px r I x = px q I (px p I x) := by
    rw [← px_px hq x]
    unfold px
    apply List.map_congr_left
    intro i hi
    show x.getD (r i) 0 = x.getD (p (q i)) 0
    rw [hr i (List.mem_range.1 hi)]
  rw [e, e1 x hx hs]
  exact e2 _ (px_len p I x) (px_lt hp hx hs)
end Go.Proofs.YteaionmjbkildabDoor
namespace Go.Proofs.YteaionmjbkildabDoor
open Go.RowKit
set_option linter.unusedVariables false
set_option linter.unusedSimpArgs false
set_option maxRecDepth 100000

set_option maxHeartbeats 1000000 in
theorem cloP (st inp m cq : Nat) (h1 : 1 ≤ st) (hst : st ≤ 4) (hi : inp ≤ 5) (hm : m ≤ 2000) (sq : Option Addr) (a : Nat → Nat) (gx gp gr : Nat) (sp : Option Addr) (cp : Nat) (p : Nat → Nat) (hp : ∀ i, i < inp → p i < inp) (x : List Nat) (hx : x.length = inp) (hs : ∀ s ∈ x, s < st) (w : World) (BX : Bo w gx 46 #[.int .i64 (st : Nat), .int .i64 (inp : Nat), .slice sq m cq]) (BP : Bo w gp 63 #[.slice sp inp cp]) (ha : By w sq m a) (hI : In w sp inp (fun i => (p i : Int))) (hr : w.rowIs gr 5 inp (fun i => .int .u8 (x.getD i 0 : Nat))) :
    Calls Tryd.prog 30 #[.slice (some ⟨gr, 0, none⟩) inp inp, .pointer (some ⟨gx, 0, none⟩), .pointer (some ⟨gp, 0, none⟩)] w fun e w' => e = .returned (.int .u8 ((syF st m a (px p inp x) : Nat) : Int)) ∧ w.grownBy w' none := by
  have hmk := run_make_row' (P := Tryd.prog) 44 5 (.int .u8 0) 1 under8S info8 rfl .i64 .i64 inp (by omega) (by omega)
  obtain ⟨W2, hW2⟩ : ∃ W2, w.alloc (.cells (madeCells #[.int .u8 0] inp) 5) = W2 := ⟨_, rfl⟩
  have g2 : w.grownBy W2 none := (by rw [← hW2]; exact World.grownBy_alloc _ _ _)
  have R2 : W2.rowIs w.heap.size 5 inp (fun _ => .int .u8 0) := (by rw [← hW2]; exact World.rowIs_made w (.int .u8 0) inp 5)
  have HX : Hid (Bo w gx 46 #[.int .i64 (st : Nat), .int .i64 (inp : Nat), .slice sq m cq]) := BX
  have HP : Hid (Bo w gp 63 #[.slice sp inp cp]) := BP
  have HA : Hid (By w sq m a) := ha
  have HI : Hid (In w sp inp (fun i => (p i : Int))) := hI
  have HR : Hid (w.rowIs gr 5 inp (fun i => .int .u8 (x.getD i 0 : Nat))) := hr
  have HPP : Hid (∀ i, i < inp → p i < inp) := hp
  have HS : Hid (∀ s ∈ x, s < st) := hs
  have c0 := BX.cell 0 (v := .int .i64 (st : Nat)) rfl
  have c1 := BX.cell 1 (v := .int .i64 (inp : Nat)) rfl
  obtain ⟨R0, hR0⟩ : ∃ R0, syF st m a (px p inp x) = R0 := ⟨_, rfl⟩
  have HR0 : Hid (syF st m a (px p inp x) = R0) := hR0
  rw [hR0]
  clear ha hI hr hp hs BX BP hR0
  go_enter Tryd.func30, Tryd.ntmps30
  go_wp2
  clear c0 c1
  go_loopw [6] (fun i wr => ∃ j : Nat, j ≤ inp ∧ i = .int .i64 (j : Nat) ∧ Hid (w.grownBy wr none) ∧ ∃ F : Nat → Value, Hid (wr.rowIs w.heap.size 5 inp F) ∧ Hid (∀ k, k < j → F k = .int .u8 ((x.getD (p k) 0 : Nat) : Int))) (fun i _ => inp - (intOf i).toNat)
  case atStart => exact ⟨0, Nat.zero_le _, rfl, g2, _, R2, fun k hk => absurd hk (Nat.not_lt_zero _)⟩
  case round =>
    obtain ⟨j, hj, rfl, gj, F, Rj, hF⟩ := hrel
    by_cases hlt : j < inp
    · have hlt' : (j : Int) < (inp : Int) := by omega
      have P2 := HP.out.kept gj.out (by simp)
      have p0 := P2.cell 0 (v := .slice sp inp cp) rfl
      obtain ⟨ap, rfl⟩ := HI.out.some (by omega)
      have pj := (HI.out.kept gj.out (by simp)).at hlt
      have hpj := HPP.out j hlt
      obtain ⟨pv, hpv⟩ : ∃ pv, p j = pv := ⟨_, rfl⟩
      have HPV : Hid (p j = pv) := hpv
      rw [hpv] at hpj
      have pj2 : wr.cell? (ap.add j) = some (.int .i64 (pv : Nat)) := by rw [← hpv]; exact pj
      clear pj
      have RX := World.rowIs.of_block HR.out (gj.out.block gr (World.rowIs.lt HR.out) (by simp))
      have xj := World.rowIs.cell RX (i := pv) hpj
      obtain ⟨y, hy⟩ : ∃ y, x.getD pv 0 = y := ⟨_, rfl⟩
      have HY : Hid (x.getD pv 0 = y) := hy
      simp only [hy] at xj
      have hpj' : (pv : Int) < (inp : Int) := by omega
      have r0 := World.rowIs.cell Rj.out (i := j) hlt
      have r1 := World.rowIs.frozen Rj.out j
      have RX2 : Hid ((wr.setCell ⟨w.heap.size, j, none⟩ (.int .u8 (y : Nat))).rowIs w.heap.size 5 inp (fun k => if k = j then .int .u8 (y : Nat) else F k)) := World.rowIs.set Rj.out j _
      have GX : Hid (w.grownBy (wr.setCell ⟨w.heap.size, j, none⟩ (.int .u8 (y : Nat))) none) := gb_new gj.out (Nat.le_refl _) _
      have HF2 : Hid (∀ k, k < j + 1 → (if k = j then (Value.int .u8 (y : Nat)) else F k) = .int .u8 ((x.getD (p k) 0 : Nat) : Int)) := fun k hk => by
        by_cases e : k = j
        · subst e; rw [if_pos rfl, HPV.out, HY.out]
        · rw [if_neg e]; exact hF.out k (by omega)
      clear hpv hy RX P2
      go_wp2
      go_roundw
      case rel => exact ⟨j + 1, hlt, by go_num, GX, _, RX2, HF2⟩
      case measure => simp [intOf]; omega
    · obtain rfl : j = inp := by omega
      have hlt' : ¬ (j : Int) < (j : Int) := by omega
      have BX2 := HX.out.kept gj.out (by simp)
      have b0 := BX2.cell 0 (v := .int .i64 (st : Nat)) rfl
      have b1 := BX2.cell 1 (v := .int .i64 (j : Nat)) rfl
      have b2 := BX2.cell 2 (v := .slice sq m cq) rfl
      have hrow : By wr (some ⟨w.heap.size, 0, none⟩) j (fun i => (px p j x).getD i 0) := fun k hk => ⟨_, rfl, by
        rw [add_mid, Nat.zero_add]; show wr.cell? _ = some (Value.int .u8 (((px p j x).getD k 0 : Nat) : Int)); rw [px_at p j x hk, ← hF.out k hk]; exact World.rowIs.cell Rj.out hk⟩
      have hk := saysC st j m cq hst hm sq a (some ⟨w.heap.size, 0, none⟩) j j (by omega) (fun i => (px p j x).getD i 0) (fun i hi2 => by
        have h9 : (px p j x).getD i 0 ∈ px p j x := by
          refine List.mem_of_getElem? (i := i) ?_
          rw [List.getD_eq_getElem?_getD, List.getElem?_eq_getElem (by rw [px_len]; exact hi2)]; rfl
        have := px_lt HPP.out hx HS.out _ h9
        omega) wr (HA.out.kept gj.out (by simp)) hrow
      have HQ : Hid (syF st m a (px p j x) = if m = 0 then 0 else a (syN st m (fun i => (px p j x).getD i 0) j)) := by unfold Hid syF; rw [px_len]
      rw [← HQ.out, HR0.out] at hk
      clear hrow HQ
      go_wp2_with (first | (go_at_call 24; refine hk.mono ?_; rintro e w1 ⟨rfl, g1⟩))
      go_ret
      exact ⟨rfl, gb_trans gj.out g1⟩
end Go.Proofs.YteaionmjbkildabDoor
namespace Go.Proofs.YteaionmjbkildabDoor
open Go.RowKit
set_option linter.unusedVariables false
set_option linter.unusedSimpArgs false
set_option maxRecDepth 100000

theorem ofP (st inp m cq : Nat) (h1 : 1 ≤ st) (h4 : st ≤ 4) (h5 : inp ≤ 5) (hm : m ≤ 2000) (sq : Option Addr) (a : Nat → Nat) (haL : ∀ i, a i < st) (gx gp : Nat) (sp : Option Addr) (cp : Nat) (p : Nat → Nat) (hp : ∀ i, i < inp → p i < inp) (w : World) (BX : Bo w gx 46 #[.int .i64 (st : Nat), .int .i64 (inp : Nat), .slice sq m cq]) (BP : Bo w gp 63 #[.slice sp inp cp]) (ha : By w sq m a) (hI : In w sp inp (fun i => (p i : Int))) (L : List Nd) (hL : frm st inp (ans st inp (fun x => syF st m a (px p inp x))) = L) :
    Calls Tryd.prog 27 #[.int .i64 (st : Nat), .int .i64 (inp : Nat), .func (.func 30) #[] #[.pointer (some ⟨gx, 0, none⟩), .pointer (some ⟨gp, 0, none⟩)]] w fun e w' => ∃ gN kb, e = .returned (.tuple #[.agg #[.int .i64 (st : Nat), .int .i64 (inp : Nat), .slice (some ⟨gN, 0, none⟩) L.length L.length, .int .i64 ((L.length - 1 : Nat) : Int)], .int .i64 0]) ∧ Nz w' w.heap.size gN kb L ∧ w.grownBy w' none := by
  have hq := pow_small h4 h5 h1
  have lx := BX.lt
  have lp := BP.lt
  have hlow := fun x => syF_lt st m (show 0 < st by omega) haL (px p inp x)
  have ho := C30.ofOk st inp gx gp h1 (by omega) (by omega) (by omega) (fun x => syF st m a (px p inp x)) (fun x => by have := hlow x; show syF st m a (px p inp x) < 256; omega) (fun X => Below w.heap.size w X) w (gb_below (World.grownBy.refl _ _))
    (fun X Y hX hY => ⟨hY.os.trans hX.os, hY.tape.trans hX.tape, hY.output.trans hX.output, Nat.le_trans hX.size hY.size, fun i hi => (hY.block i hi).trans (hX.block i hi)⟩)
    (fun gr x X hE hx hs hr => cloP st inp m cq h1 h4 h5 hm sq a gx gp gr sp cp p hp x hx hs X ((hE.block _ lx).trans BX) ((hE.block _ lp).trans BP) (ha.stays hE (fun b e h0 => ha.lt h0 b e)) (hI.below hE) hr)
    (List.all_eq_true.2 fun x hx => decide_eq_true (hlow x)) (frm_small h1 h4 h5 _ (fun i => by have := hlow ((rws st inp).getD i []); show syF st m a (px p inp ((rws st inp).getD i [])) < 256; omega))
  rw [hL] at ho
  exact ho.mono (fun e w' ⟨gN, kb, k1, k2, _, k3, _⟩ => ⟨gN, kb, k1, k2, k3⟩)
theorem keepF (st inp : Nat) (h1 : 1 ≤ st) (h4 : st ≤ 4) (h5 : inp ≤ 5) (f : List Nat → Nat) (hf : ∀ x, f x < st) (L : List Nd) (hL : frm st inp (ans st inp f) = L) (g : Nat) (spa : Nat → Option Addr) (sp : Option Addr) (pc : Nat) (p : Nat → Nat) (hp : Ord (fun i => (p i : Int)) inp) (K : Bool) (hK : KB st inp f p = K) (w : World) (hT : Tn w g 0 L.length (tnOf L spa)) (hI : In w sp inp (fun i => (p i : Int))) :
    Calls Tryd.prog 31 #[.agg #[.int .i64 (st : Nat), .int .i64 (inp : Nat), .slice (some ⟨g, 0, none⟩) L.length L.length, .int .i64 ((L.length - 1 : Nat) : Int)], .slice sp inp pc] w fun e w' => e = .returned (.tuple #[.bool K, .int .i64 0]) ∧ w.grownBy w' none := by
  obtain ⟨lv, ht, hev⟩ := ev_says st inp h1 h4 h5 f hf L hL spa
  have hk := keepsC st inp (L.length - 1) g 0 L.length L.length (tnOf L spa) lv ht (by have := pow_small h4 h5 h1; omega) sp pc p hp w hT hI
  have e : ((rws st inp).all fun x => decide (ev (tnOf L spa) (L.length - 1) inp x = ev (tnOf L spa) (L.length - 1) inp (px p inp x))) = K := (kb_ev (Ord.to hp) hev).trans hK
  rw [e] at hk
  exact hk
theorem ord_congr {p q : Nat → Nat} {n : Nat} (h : ∀ i, i < n → q i = p i) (hp : Ord (fun i => (p i : Int)) n) : Ord (fun i => (q i : Int)) n := fun i hi => by
  obtain ⟨a, b, c⟩ := hp i hi
  refine ⟨by simp, by show ((q i : Nat) : Int) < (n : Int); rw [h i hi]; exact b, fun j hj => ?_⟩
  show ((q j : Nat) : Int) ≠ ((q i : Nat) : Int)
  rw [h j (by omega), h i hi]
  exact c j hj
end Go.Proofs.YteaionmjbkildabDoor
