/- The function 'node' of formOf, level by level. -/
import Derived.Laws.EntriesVeiled
import Derived.Test.YteaionmjbkildabDoorQ11
namespace Go.Proofs.YteaionmjbkildabDoor
open Go.RowKit
set_option linter.unusedVariables false
set_option linter.unusedSimpArgs false
set_option maxRecDepth 100000

theorem mixedT : Tryd.prog.follows .mixedOrders = true := by kernel_rfl
/-- Two blocks may turn; all else stays. -/
structure Gt (b c : Nat) (w w' : World) : Prop where
  os : w'.os = w.os
  tape : w'.tape = w.tape
  output : w'.output = w.output
  size : w.heap.size ≤ w'.heap.size
  block : ∀ k, k < w.heap.size → k ≠ b → k ≠ c → w'.heap[k]? = w.heap[k]?
theorem Gt.refl (b c : Nat) (w : World) : Gt b c w w := ⟨rfl, rfl, rfl, Nat.le_refl _, fun _ _ _ _ => rfl⟩
theorem Gt.trans {b c : Nat} {u v w : World} (h : Gt b c u v) (k : Gt b c v w) : Gt b c u w :=
  ⟨k.os.trans h.os, k.tape.trans h.tape, k.output.trans h.output, Nat.le_trans h.size k.size, fun i hi h1 h2 => (k.block i (Nat.lt_of_lt_of_le hi h.size) h1 h2).trans (h.block i hi h1 h2)⟩
theorem Gt.of {b c : Nat} {w w' : World} {r : Option Nat} (h : w.grownBy w' r) (hr : ∀ k, r = some k → k = b ∨ k = c ∨ w.heap.size ≤ k) : Gt b c w w' :=
  ⟨h.os, h.tape, h.output, h.size, fun k hk h1 h2 => h.block k hk (fun e => by rcases hr k e.symm with h | h | h <;> omega)⟩
theorem Gt.bo {b c : Nat} {w w' : World} {g : Nat} {t : TypeId} {cs : Array Value} (h : Gt b c w w') (B : Bo w g t cs) (hb : g ≠ b) (hc : g ≠ c) : Bo w' g t cs := (h.block g B.lt hb hc).trans B
theorem Gt.cell {b c : Nat} {w w' : World} {p : Addr} {v : Value} (h : Gt b c w w') (hv : w.cell? p = some v) (hb : p.block ≠ b) (hc : p.block ≠ c) : w'.cell? p = some v := by
  have := h.block p.block (cell_lt hv) hb hc
  unfold World.cell? at hv ⊢
  rw [this]; exact hv
/-- Bytes that can be read. -/
def By (w : World) (sp : Option Addr) (n : Nat) (f : Nat → Nat) : Prop := ∀ k, k < n → ∃ a, sp = some a ∧ w.cell? (a.add k) = some (.int .u8 (f k : Nat))
theorem By.at {w : World} {a : Addr} {n : Nat} {f : Nat → Nat} (h : By w (some a) n f) {k : Nat} (hk : k < n) : w.cell? (a.add k) = some (.int .u8 (f k : Nat)) := by
  obtain ⟨a', ha, hc⟩ := h k hk
  cases ha
  exact hc
theorem By.some {w : World} {sp : Option Addr} {n : Nat} {f : Nat → Nat} (h : By w sp n f) (hn : 0 < n) : ∃ a, sp = Option.some a := by
  obtain ⟨a, ha, _⟩ := h 0 hn
  exact ⟨a, ha⟩
theorem By.kept {w w' : World} {sp : Option Addr} {n : Nat} {f : Nat → Nat} {r : Option Nat} (h : By w sp n f) (hg : w.grownBy w' r) (hne : ∀ a, sp = Option.some a → Option.some a.block ≠ r) : By w' sp n f := fun k hk => by
  obtain ⟨a, ha, hc⟩ := h k hk
  have hb : (a.add k).block = a.block := by unfold Addr.add; split <;> simp_all
  exact ⟨a, ha, hg.cell hc (by rw [hb]; exact hne a ha)⟩
theorem add_block (a : Addr) (k : Nat) : (a.add k).block = a.block := by unfold Addr.add; split <;> simp_all
theorem By.gt {b c : Nat} {w w' : World} {sp : Option Addr} {n : Nat} {f : Nat → Nat} (h : By w sp n f) (hg : Gt b c w w') (hne : ∀ a, sp = Option.some a → a.block ≠ b ∧ a.block ≠ c) : By w' sp n f := fun k hk => by
  obtain ⟨a, ha, hc⟩ := h k hk
  exact ⟨a, ha, hg.cell hc (by rw [add_block]; exact (hne a ha).1) (by rw [add_block]; exact (hne a ha).2)⟩
/-- What the function 'node' has captured, but for the map and the next answer's number. -/
structure Cap (w : World) (b gn gf ga gs gN : Nat) (sa : Option Addr) (na ca st : Nat) (A : Nat → Nat) : Prop where
  f : Bo w gf 100 #[.map (some b)]
  a : Bo w ga 44 #[.slice sa na ca]
  s : Bo w gs 3 #[.int .i64 (st : Nat)]
  n : Bo w gN 113 #[.func (.func 67) #[] #[.pointer (some ⟨gn, 0, none⟩), .pointer (some ⟨gf, 0, none⟩), .pointer (some ⟨ga, 0, none⟩), .pointer (some ⟨gs, 0, none⟩), .pointer (some ⟨gN, 0, none⟩)]]
  an : By w sa na A
  ne : (gf ≠ b ∧ gf ≠ gn) ∧ (ga ≠ b ∧ ga ≠ gn) ∧ (gs ≠ b ∧ gs ≠ gn) ∧ (gN ≠ b ∧ gN ≠ gn) ∧ (b ≠ gn) ∧ ∀ x, sa = some x → x.block ≠ b ∧ x.block ≠ gn
theorem Cap.gt {w w' : World} {b gn gf ga gs gN : Nat} {sa : Option Addr} {na ca st : Nat} {A : Nat → Nat} (h : Cap w b gn gf ga gs gN sa na ca st A) (g : Gt b gn w w') : Cap w' b gn gf ga gs gN sa na ca st A :=
  ⟨g.bo h.f h.ne.1.1 h.ne.1.2, g.bo h.a h.ne.2.1.1 h.ne.2.1.2, g.bo h.s h.ne.2.2.1.1 h.ne.2.2.1.2, g.bo h.n h.ne.2.2.2.1.1 h.ne.2.2.2.1.2, h.an.gt g h.ne.2.2.2.2.2, h.ne⟩
theorem Gt.past {b c : Nat} {u w w' : World} (h : Gt b c u w) {g : Nat} (k : w.grownBy w' (some g)) (hg : u.heap.size ≤ g) : Gt b c u w' :=
  ⟨k.os.trans h.os, k.tape.trans h.tape, k.output.trans h.output, Nat.le_trans h.size k.size, fun i hi h1 h2 => (k.block i (Nat.lt_of_lt_of_le hi h.size) (fun e => by cases e; omega)).trans (h.block i hi h1 h2)⟩
theorem bo_at {w : World} {t : TypeId} {cs : Array Value} {k : Nat} (h : w.heap.size = k) : Bo (w.alloc (.cells cs t)) k t cs := h ▸ Bo.new w t cs
theorem Gt.set {b c : Nat} (w : World) (i : Nat) (v : Value) : Gt b c w (w.setCell ⟨c, i, none⟩ v) :=
  Gt.of (gb_set (World.grownBy.refl w (some c)) i v) (fun k e => by cases e; exact .inr (.inl rfl))

def nodeA (gn gf ga gs gN : Nat) (l : Int) : Array Value := #[.int .i64 l, .pointer (some ⟨gn, 0, none⟩), .pointer (some ⟨gf, 0, none⟩), .pointer (some ⟨ga, 0, none⟩), .pointer (some ⟨gs, 0, none⟩), .pointer (some ⟨gN, 0, none⟩)]

set_option maxHeartbeats 1000000 in
theorem node0 (b gn gf ga gs gN : Nat) (sa : Option Addr) (na ca st : Nat) (A : Nat → Nat) (hA : ∀ i, A i < 256) (hna : na ≤ 1048576) (L : List Nd) (nx : Nat) (w : World) (C : Cap w b gn gf ga gs gN sa na ca st A) (F : Fm w b L) (X : Bo w gn 3 #[.int .i64 (nx : Nat)]) (hG : Gf L) (hl : L.length + 1 ≤ 16777216) (hx : nx + 1 ≤ na) :
    Calls Tryd.prog 67 #[.int .i64 0, .pointer (some ⟨gn, 0, none⟩), .pointer (some ⟨gf, 0, none⟩), .pointer (some ⟨ga, 0, none⟩), .pointer (some ⟨gs, 0, none⟩), .pointer (some ⟨gN, 0, none⟩)] w fun e w' => e = .returned (.int .i64 (nix L (A nx, []) : Nat)) ∧ Fm w' b (nfm L (A nx, [])) ∧ Bo w' gn 3 #[.int .i64 (nx + 1 : Nat)] ∧ Gt b gn w w' := by
  have x0 := X.cell 0 (v := .int .i64 (nx : Nat)) rfl
  have x1 := X.frozen 0
  obtain ⟨W1, hW1⟩ : ∃ W1, w.setCell ⟨gn, 0, none⟩ (.int .i64 ((nx : Int) + 1)) = W1 := ⟨_, rfl⟩
  have G1 : Gt b gn w W1 := (by rw [← hW1]; exact Gt.set _ _ _)
  have X1 : Bo W1 gn 3 #[.int .i64 ((nx : Int) + 1)] := (by rw [← hW1]; exact X.set 0 _)
  have C1 := C.gt G1
  have F1 : Fm W1 b L := (by rw [← hW1]; exact F.kept (gb_set (World.grownBy.refl w (some gn)) 0 _) (by simp; exact C.ne.2.2.2.2.1))
  have y0 : W1.drew.cell? ⟨gn, 0, none⟩ = some (.int .i64 ((nx : Int) + 1)) := X1.dr.cell 0 rfl
  have y1 : W1.drew.cell? ⟨gf, 0, none⟩ = some (.map (some b)) := C1.f.dr.cell 0 rfl
  obtain ⟨a, rfl⟩ := C.an.some (by omega)
  have y2 : W1.drew.cell? ⟨ga, 0, none⟩ = some (.slice (some a) na ca) := C1.a.dr.cell 0 rfl
  have y3 : W1.drew.cell? (a.add nx) = some (.int .u8 (A nx : Nat)) := C1.an.at (by omega)
  have hn := numberC b L (A nx, []) hG ⟨hA _, by simp, by simp⟩ (by omega) none 0 W1.drew F1 (fun k hk => absurd hk (Nat.not_lt_zero _))
  have hi1 : IntKind.i64.wrap (nx : Int) = (nx : Int) := by rw [IntKind.wrap_i64]; omega
  have hi2 : (nx : Int) < (na : Int) := by omega
  have hi3 : (0 : Int) ≤ (nx : Int) := by omega
  have hi4 : ((nx : Int)).toNat = nx := by omega
  go_enter Tryd.func67, Tryd.ntmps67
  go_wp2
  refine region_tail 6 mixedT (by kernel_rfl) ?_
  simp only [List.take_succ_cons, List.take_zero, List.drop_succ_cons, List.drop_zero]
  repeat still_step
  refine wpStill_nil ?_
  go_wp2_with (go_at_call 65; refine hn.mono ?_; rintro e w2 ⟨rfl, F2, g2⟩)
  go_ret
  have G2 : Gt b gn W1 w2 := Gt.of (w := W1) ⟨g2.os, g2.tape, g2.output, g2.size, g2.block⟩ (fun k e => by cases e; exact .inl rfl)
  exact ⟨rfl, F2, (X1.dr.kept g2 (by simp; exact C.ne.2.2.2.2.1.symm)), G1.trans G2⟩

theorem lf_snoc (l : List Nat) (k j : Nat) (hj : j ≤ l.length) : lf (l ++ [k]) j = if j = l.length then (k : Int) else lf l j := by
  unfold lf
  split
  · rename_i e; subst e; simp [List.getD_eq_getElem?_getD]
  · rename_i e
    have : j < l.length := by omega
    simp [List.getD_eq_getElem?_getD, List.getElem?_append_left this]
/-- A row of numbers of one's own. -/
def Ri (w : World) (g n : Nat) (f : Nat → Int) : Prop := w.rowIs g 3 n (fun k => .int .i64 (f k))
theorem Ri.inr {w : World} {g n m : Nat} {f f' : Nat → Int} (h : Ri w g n f) (hm : m ≤ n) (e : ∀ k, k < m → f k = f' k) : In w (some ⟨g, 0, none⟩) m f' := fun k hk => ⟨_, rfl, by
  have := World.rowIs.cell h (i := k) (by omega)
  rw [add_mid, Nat.zero_add, this, e k hk]⟩
theorem Gt.ri {b c : Nat} {w w' : World} {g n : Nat} {f : Nat → Int} (h : Gt b c w w') (B : Ri w g n f) (hb : g ≠ b) (hc : g ≠ c) : Ri w' g n f := World.rowIs.of_block B (h.block g (World.rowIs.lt B) hb hc)

set_option maxHeartbeats 1000000 in
theorem nodeC (b gn gf ga gs gN : Nat) (sa : Option Addr) (na ca st : Nat) (A : Nat → Nat) (hA : ∀ i, A i < 256) (hna : na ≤ 1048576) (hst : st ≤ 256) : ∀ (l : Nat) (L : List Nd) (nx : Nat) (w : World), l ≤ 16 → Cap w b gn gf ga gs gN sa na ca st A → Fm w b L → Bo w gn 3 #[.int .i64 (nx : Nat)] → Gf L → L.length + clN st l ≤ 16777216 → nx + st ^ l ≤ na →
    Calls Tryd.prog 67 #[.int .i64 (l : Nat), .pointer (some ⟨gn, 0, none⟩), .pointer (some ⟨gf, 0, none⟩), .pointer (some ⟨ga, 0, none⟩), .pointer (some ⟨gs, 0, none⟩), .pointer (some ⟨gN, 0, none⟩)] w fun e w' => e = .returned (.int .i64 ((bld st A l (L, nx)).1 : Nat)) ∧ Fm w' b (bld st A l (L, nx)).2.1 ∧ Bo w' gn 3 #[.int .i64 ((bld st A l (L, nx)).2.2 : Nat)] ∧ Gt b gn w w'
  | 0, L, nx, w, _, C, F, X, hG, hl, hx => node0 b gn gf ga gs gN sa na ca st A hA hna L nx w C F X hG (by simpa [clN] using hl) (by simpa using hx)
  | l + 1, L, nx, w, hl16, C, F, X, hG, hl, hx => by
    have ih := nodeC b gn gf ga gs gN sa na ca st A hA hna hst l
    have K := kidsF_stp (bld_stp st A hst hA l) (L, nx)
    have c3 := C.s.cell 0 (v := .int .i64 (st : Nat)) rfl
    have hmk := run_make_row' (P := Tryd.prog) 63 3 (.int .i64 0) 8 underIS infoI rfl .i64 .i64 st (by omega) (by omega)
    have hp1 : st * clN st l + 1 = clN st (l + 1) := rfl
    have hp2 : st ^ (l + 1) = st * st ^ l := by rw [Nat.pow_succ, Nat.mul_comm]
    have hl1 : ¬ ((l : Int) + 1 = 0) := by omega
    have hl2 : ((l : Int) + 1 == 0) = false := by simp; omega
    obtain ⟨f, hf⟩ : ∃ f, bld st A l = f := ⟨_, rfl⟩
    have HB : Hid (bld st A (l + 1) (L, nx) = (nix (kidsF f st (L, nx)).2.1 (0, (kidsF f st (L, nx)).1), (nfm (kidsF f st (L, nx)).2.1 (0, (kidsF f st (L, nx)).1), (kidsF f st (L, nx)).2.2))) := by unfold Hid; rw [← hf]; rfl
    rw [hf] at ih K
    clear hf
    obtain ⟨W1, hW1⟩ : ∃ W1, w.alloc (.cells (madeCells #[.int .i64 0] st) 3) = W1 := ⟨_, rfl⟩
    have g1 : w.grownBy W1 none := (by rw [← hW1]; exact World.grownBy_alloc _ _ _)
    have R1 : Ri W1 w.heap.size st (fun _ => 0) := (by rw [← hW1]; exact World.rowIs_made w (.int .i64 0) st 3)
    have hbw := F.lt
    have hnw := X.lt
    have HCB : Hid (Gf L ∧ L.length + (st * clN st l + 1) ≤ 16777216 ∧ nx + st * st ^ l ≤ na) := ⟨hG, by rw [hp1]; exact hl, by rw [← hp2]; exact hx⟩
    obtain ⟨c, hc⟩ : ∃ c, clN st l = c := ⟨_, rfl⟩
    obtain ⟨q, hq⟩ : ∃ q, st ^ l = q := ⟨_, rfl⟩
    rw [hc] at ih K HCB
    rw [hq] at ih K HCB
    clear hp1 hp2 hl hx hc hq
    go_enter Tryd.func67, Tryd.ntmps67
    go_wp2
    go_loopw [25] (fun i wr => ∃ j : Nat, j ≤ st ∧ i = .int .i64 j ∧ Fm wr b (kidsF f j (L, nx)).2.1 ∧ Bo wr gn 3 #[.int .i64 ((kidsF f j (L, nx)).2.2 : Nat)] ∧ Gt b gn w wr ∧ Hid (w.heap.size < wr.heap.size) ∧ ∃ h : Nat → Int, Ri wr w.heap.size st h ∧ Hid (∀ k, k < j → h k = lf (kidsF f j (L, nx)).1 k)) (fun i _ => st - (intOf i).toNat)
    case atStart => exact ⟨0, Nat.zero_le _, rfl, F.kept g1 (by simp), X.kept g1 (by simp), Gt.of g1 (by simp), (by unfold Hid; exact World.rowIs.lt R1), _, R1, fun k hk => absurd hk (Nat.not_lt_zero _)⟩
    case round =>
      obtain ⟨j, hj, rfl, Fj, Xj, Gj, hsz, h, Rj, Hj⟩ := hrel
      have Cj := C.gt Gj
      by_cases hlt : j < st
      · have hlt' : (j : Int) < (st : Int) := by omega
        obtain ⟨k1, k2, k3, k4, k5⟩ := K j
        have hjc : j * c + c ≤ st * c := by rw [← Nat.succ_mul]; exact Nat.mul_le_mul_right _ hlt
        have hjq : j * q + q ≤ st * q := by rw [← Nat.succ_mul]; exact Nat.mul_le_mul_right _ hlt
        have hcb := HCB.out
        have k5' := k5 hcb.1 (by omega)
        have ihj := ih (kidsF f j (L, nx)).2.1 (kidsF f j (L, nx)).2.2 wr (by omega) Cj Fj Xj k5' (by omega) (by omega)
        have HL : Hid ((kidsF f j (L, nx)).1.length = j) := kidsF_len f (L, nx) j
        have HS : Hid (kidsF f (j + 1) (L, nx) = ((kidsF f j (L, nx)).1 ++ [(f (kidsF f j (L, nx)).2).1], (f (kidsF f j (L, nx)).2).2)) := rfl
        have e2 : ((kidsF f j (L, nx)).2.1, (kidsF f j (L, nx)).2.2) = (kidsF f j (L, nx)).2 := rfl
        rw [e2] at ihj
        clear e2 k1 k2 k3 k4 k5 k5' hjc hjq hcb
        generalize kidsF f j (L, nx) = sj at *
        obtain ⟨v, hv⟩ : ∃ v : Nat, (f sj.2).1 = v := ⟨_, rfl⟩
        rw [hv] at ihj HS
        have n0 := Cj.n.cell 0 (v := .func (.func 67) #[] #[.pointer (some ⟨gn, 0, none⟩), .pointer (some ⟨gf, 0, none⟩), .pointer (some ⟨ga, 0, none⟩), .pointer (some ⟨gs, 0, none⟩), .pointer (some ⟨gN, 0, none⟩)]) rfl
        go_wp2_with (go_at_call 67; refine ihj.mono ?_; rintro e w2 ⟨rfl, F2, X2, G2⟩; have R2 := G2.ri Rj (by omega) (by omega); have r2 := World.rowIs.cell R2 (i := j) hlt; have r3 := World.rowIs.frozen R2 j)
        have gw : w2.grownBy (w2.setCell ⟨w.heap.size, j, none⟩ (.int .i64 (v : Nat))) (some w.heap.size) := gb_set (World.grownBy.refl w2 (some w.heap.size)) j _
        have hs2 := G2.size
        go_roundw
        case rel =>
          refine ⟨j + 1, hlt, by go_num, ?_, ?_, ?_, ?_, _, World.rowIs.set R2 j (.int .i64 (v : Nat)) |>.congr (g := fun k => .int .i64 (if k = j then (v : Int) else h k)) (fun k hk => by by_cases e : k = j <;> simp [e]), ?_⟩
          · rw [HS.out]; exact F2.kept gw (by simp; omega)
          · rw [HS.out]; exact X2.kept gw (by simp; omega)
          · exact (Gj.trans G2).past gw (Nat.le_refl _)
          · have := hsz.out; unfold Hid; simp [World.setCell]; omega
          · intro k hk
            rw [HS.out]
            show _ = lf (sj.1 ++ [v]) k
            have hL := HL.out
            rw [lf_snoc _ _ _ (by omega), hL]
            by_cases e : k = j
            · simp [e]
            · simp only [if_neg e]
              exact Hj.out k (by omega)
        case measure => simp [intOf]; omega
      · have hjs : j = st := by omega
        subst hjs
        obtain ⟨k1, k2, k3, k4, k5⟩ := K j
        have hcb := HCB.out
        have k5' := k5 hcb.1 (by omega)
        have hkl := kidsF_len f (L, nx) j
        have hok : NdOk (0, (kidsF f j (L, nx)).1) := ⟨by simp, fun k hk => by have := k4 k hk; omega, by simp only; omega⟩
        have hn := numberC b (kidsF f j (L, nx)).2.1 (0, (kidsF f j (L, nx)).1) k5' hok (by omega) (some ⟨w.heap.size, 0, none⟩) j wr Fj (by
          rw [show ((0, (kidsF f j (L, nx)).1) : Nd).2.length = j from hkl]
          exact Rj.inr (Nat.le_refl _) Hj.out)
        rw [show ((0, (kidsF f j (L, nx)).1) : Nd).2.length = j from hkl] at hn
        clear k1 k2 k3 k4 k5 k5' hcb hkl hok
        generalize kidsF f j (L, nx) = sj at *
        have f0 := Cj.f.cell 0 (v := .map (some b)) rfl
        go_wp2_with (go_at_call 65; refine hn.mono ?_; rintro e w2 ⟨rfl, F2, g2⟩)
        go_ret
        rw [HB.out]
        exact ⟨rfl, F2, Xj.kept g2 (by simp; exact C.ne.2.2.2.2.1.symm), Gj.trans (Gt.of g2 (fun k e => by cases e; exact .inl rfl))⟩

set_option maxHeartbeats 1000000 in
theorem formOfC (st l na ca : Nat) (sa : Option Addr) (A : Nat → Nat) (hA : ∀ i, A i < 256) (hst : st ≤ 256) (hl : l ≤ 16) (hna : na ≤ 1048576) (hq : st ^ l ≤ na) (hc : clN st l ≤ 16777216) (w : World) (hy : By w sa na A) (hsa : ∀ x, sa = some x → x.block < w.heap.size) :
    Calls Tryd.prog 54 #[.int .i64 (st : Nat), .int .i64 (l : Nat), .slice sa na ca] w fun e w' => ∃ b, e = .returned (.map (some b)) ∧ Fm w' b (frm st l A) ∧ w.grownBy w' none ∧ w.heap.size ≤ b := by
  have hmm := @run_makeMap Tryd.prog
  obtain ⟨W6, hW6⟩ : ∃ W6, (((((w.alloc (.cells #[.int .i64 (st : Nat)] 3)).alloc (.cells #[.slice sa na ca] 44)).alloc (.map #[] 0)).alloc (.cells #[.map (some (w.heap.size + 1 + 1))] 100)).alloc (.cells #[.int .i64 0] 3)).alloc (.cells #[.func (.func 67) #[] #[.pointer (some ⟨w.heap.size + 1 + 1 + 1 + 1, 0, none⟩), .pointer (some ⟨w.heap.size + 1 + 1 + 1, 0, none⟩), .pointer (some ⟨w.heap.size + 1, 0, none⟩), .pointer (some ⟨w.heap.size, 0, none⟩), .pointer (some ⟨w.heap.size + 1 + 1 + 1 + 1 + 1, 0, none⟩)]] 113) = W6 := ⟨_, rfl⟩
  have g6 : w.grownBy W6 none := (by rw [← hW6]; exact gb_alloc (gb_alloc (gb_alloc (gb_alloc (gb_alloc (World.grownBy_alloc _ _ _) _) _) _) _) _)
  have B1 : Bo W6 w.heap.size 3 #[.int .i64 (st : Nat)] := (by rw [← hW6]; exact (((((Bo.new w _ _).more _).more _).more _).more _).more _)
  have B2 : Bo W6 (w.heap.size + 1) 44 #[.slice sa na ca] := (by rw [← hW6]; exact (((((bo_at (by simp)).more _).more _).more _).more _))
  have B4 : Bo W6 (w.heap.size + 1 + 1 + 1) 100 #[.map (some (w.heap.size + 1 + 1))] := (by rw [← hW6]; exact (((bo_at (by simp)).more _).more _))
  have B5 : Bo W6 (w.heap.size + 1 + 1 + 1 + 1) 3 #[.int .i64 (0 : Nat)] := (by rw [← hW6]; exact ((bo_at (by simp)).more _))
  have B6 : Bo W6 (w.heap.size + 1 + 1 + 1 + 1 + 1) 113 #[.func (.func 67) #[] #[.pointer (some ⟨w.heap.size + 1 + 1 + 1 + 1, 0, none⟩), .pointer (some ⟨w.heap.size + 1 + 1 + 1, 0, none⟩), .pointer (some ⟨w.heap.size + 1, 0, none⟩), .pointer (some ⟨w.heap.size, 0, none⟩), .pointer (some ⟨w.heap.size + 1 + 1 + 1 + 1 + 1, 0, none⟩)]] := (by rw [← hW6]; exact (bo_at (by simp)))
  have n6 := B6.cell 0 (v := .func (.func 67) #[] #[.pointer (some ⟨w.heap.size + 1 + 1 + 1 + 1, 0, none⟩), .pointer (some ⟨w.heap.size + 1 + 1 + 1, 0, none⟩), .pointer (some ⟨w.heap.size + 1, 0, none⟩), .pointer (some ⟨w.heap.size, 0, none⟩), .pointer (some ⟨w.heap.size + 1 + 1 + 1 + 1 + 1, 0, none⟩)]) rfl
  have F6 : Fm W6 (w.heap.size + 1 + 1) [] := (by
    rw [← hW6]
    have h := Fm.made ((w.alloc (.cells #[.int .i64 (st : Nat)] 3)).alloc (.cells #[.slice sa na ca] 44))
    rw [show ((w.alloc (.cells #[.int .i64 (st : Nat)] 3)).alloc (.cells #[.slice sa na ca] 44)).heap.size = w.heap.size + 1 + 1 by simp] at h
    exact ((h.kept (World.grownBy_alloc _ _ none) (by simp)).kept (World.grownBy_alloc _ _ none) (by simp)).kept (World.grownBy_alloc _ _ none) (by simp))
  have C6 : Cap W6 (w.heap.size + 1 + 1) (w.heap.size + 1 + 1 + 1 + 1) (w.heap.size + 1 + 1 + 1) (w.heap.size + 1) w.heap.size (w.heap.size + 1 + 1 + 1 + 1 + 1) sa na ca st A := ⟨B4, B2, B1, B6, hy.kept g6 (by simp), ⟨by omega, by omega⟩, ⟨by omega, by omega⟩, ⟨by omega, by omega⟩, ⟨by omega, by omega⟩, by omega, fun x hx => by have := hsa x hx; constructor <;> omega⟩
  have hn := nodeC (w.heap.size + 1 + 1) (w.heap.size + 1 + 1 + 1 + 1) (w.heap.size + 1 + 1 + 1) (w.heap.size + 1) w.heap.size (w.heap.size + 1 + 1 + 1 + 1 + 1) sa na ca st A hA hna hst l [] 0 W6 hl C6 F6 B5 Gf.nil (by simpa using hc) (by omega)
  go_enter Tryd.func54, Tryd.ntmps54
  go_wp2_with (go_at_call 67; refine hn.mono ?_; rintro e w2 ⟨rfl, F2, X2, G2⟩; have f0 := (G2.bo B4 (by omega) (by omega)).cell 0 (v := .map (some (w.heap.size + 1 + 1))) rfl)
  go_ret
  exact ⟨_, rfl, F2, ⟨G2.os.trans g6.os, G2.tape.trans g6.tape, G2.output.trans g6.output, Nat.le_trans g6.size G2.size, fun k hk _ => (G2.block k (Nat.lt_of_lt_of_le hk g6.size) (by omega) (by omega)).trans (g6.block k hk (by simp))⟩, by omega⟩
end Go.Proofs.YteaionmjbkildabDoor
