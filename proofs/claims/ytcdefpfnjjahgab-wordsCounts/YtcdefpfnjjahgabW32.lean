/- The statements' own book of answers: all answers stand. -/
import Derived.Test.YtcdefpfnjjahgabW24
import Derived.ArgAppend
import Derived.Deep.RegionHeld2
namespace Go.Proofs.Ytcdefpfnjjahgab
open Go.RowKit
set_option linter.unusedVariables false
set_option linter.unusedSimpArgs false

/-- The words of the rows that were answered. -/
def GotIs (w : World) (m : Nat) (sg : Nat → Option Addr) (nn : Nat → Nat) (G : Nat → Nat → Nat) : Prop := ∀ j, j < m → (sg j = none ∧ nn j = 0) ∨ ∃ b, sg j = some ⟨b, 0, none⟩ ∧ w.rowIs b 22 (nn j) (fun k => .int .u64 (G j k))
theorem GotIs.kept {w w' : World} {m : Nat} {sg : Nat → Option Addr} {nn : Nat → Nat} {G : Nat → Nat → Nat} (h : GotIs w m sg nn G) (hg : w.grownBy w' none) : GotIs w' m sg nn G := fun j hj => by
  rcases h j hj with h0 | ⟨b, h1, h2⟩
  · exact .inl h0
  · exact .inr ⟨b, h1, rowIs_kept h2 hg (by simp)⟩
def Apart (m : Nat) (sg : Nat → Option Addr) : Prop := ∀ i j, i < m → j < m → i ≠ j → ∀ a b, sg i = some a → sg j = some b → a.block ≠ b.block
theorem GotIs.set {w : World} {m i k b x : Nat} {sg : Nat → Option Addr} {nn : Nat → Nat} {G : Nat → Nat → Nat} (h : GotIs w m sg nn G) (hd : Apart m sg) (hi : i < m) (hb : sg i = some ⟨b, 0, none⟩) : GotIs (w.setCell ⟨b, k, none⟩ (.int .u64 (x : Nat))) m sg nn (fun j q => if j = i ∧ q = k then x else G j q) := fun j hj => by
  rcases h j hj with h0 | ⟨b', h1, h2⟩
  · exact .inl h0
  · refine .inr ⟨b', h1, ?_⟩
    by_cases e : j = i
    · subst e
      rw [h1] at hb
      obtain rfl : b' = b := by simpa using hb
      exact (World.rowIs.set h2 k _).congr fun q hq => by
        dsimp only
        by_cases e2 : q = k
        · rw [if_pos e2, if_pos ⟨rfl, e2⟩]
        · rw [if_neg e2, if_neg (fun hh => e2 hh.2)]
    · have hne := hd j i hj hi e _ _ h1 hb
      exact (World.rowIs.setOther h2 (a := ⟨b, k, none⟩) hne _).congr fun q hq => by dsimp only; rw [if_neg (fun hh => e hh.1)]
theorem GotIs.congr {w : World} {m : Nat} {sg : Nat → Option Addr} {nn : Nat → Nat} {G H : Nat → Nat → Nat} (h : GotIs w m sg nn G) (e : ∀ j k, j < m → k < nn j → G j k = H j k) : GotIs w m sg nn H := fun j hj => by
  rcases h j hj with h0 | ⟨b, h1, h2⟩
  · exact .inl h0
  · exact .inr ⟨b, h1, h2.congr fun k hk => by rw [e j k hj hk]⟩
theorem got_wd {w : World} {m i : Nat} {sg : Nat → Option Addr} {nn : Nat → Nat} {G : Nat → Nat → Nat} (h : GotIs w m sg nn G) (hi : i < m) : Wd w (sg i) (nn i) (G i) := fun k hk => by
  rcases h i hi with h0 | ⟨b, h1, h2⟩
  · omega
  · exact ⟨_, h1, by rw [add_mid, Nat.zero_add]; exact h2.cell hk⟩
/-- What is no words is as it was. -/
def Nt (w w' : World) : Prop := w.heap.size ≤ w'.heap.size ∧ ∀ k, k < w.heap.size → (∀ cs z, w.heap[k]? ≠ some (.cells cs 22 z)) → w'.heap[k]? = w.heap[k]?
theorem Nt.refl (w : World) : Nt w w := ⟨Nat.le_refl _, fun _ _ _ => rfl⟩
theorem Nt.trans {a b c : World} (h : Nt a b) (k : Nt b c) : Nt a c := ⟨Nat.le_trans h.1 k.1, fun i hi hn => by
  have e := h.2 i hi hn
  exact (k.2 i (Nat.lt_of_lt_of_le hi h.1) (fun cs z => by rw [e]; exact hn cs z)).trans e⟩
theorem Nt.gb {a b c : World} (h : Nt a b) (k : b.grownBy c none) : Nt a c := h.trans ⟨k.size, fun i hi _ => k.block i hi (by simp)⟩
theorem Nt.set {a b : World} {g n : Nat} {F : Nat → Value} (h : Nt a b) (hr : b.rowIs g 22 n F) (k : Nat) (v : Value) : Nt a (b.setCell ⟨g, k, none⟩ v) := h.trans ⟨by simp [World.setCell], fun i hi hn => Below.heap_setCell _ _ _ _ (fun e => by
  obtain ⟨c, hc, _⟩ := hr
  exact hn c (0, 0) (by rw [e]; exact hc))⟩
/-- A list of rows, as it may be read. -/
def ListIs (w : World) (g m : Nat) (NN : Nat → Int) (sp : Nat → Option Addr) (nn cc : Nat → Nat) : Prop := (∃ cs, w.heap[g]? = some (.cells cs 31 (0, 0))) ∧ ∀ i, i < m → w.cell? ⟨g, i * 2, none⟩ = some (.int .i64 (NN i)) ∧ w.cell? ⟨g, i * 2 + 1, none⟩ = some (.slice (sp i) (nn i) (cc i))
theorem ListIs.nt {w w' : World} {g m : Nat} {NN : Nat → Int} {sp : Nat → Option Addr} {nn cc : Nat → Nat} (h : ListIs w g m NN sp nn cc) (k : Nt w w') : ListIs w' g m NN sp nn cc := by
  obtain ⟨⟨cs, hcs⟩, hh⟩ := h
  have e : w'.heap[g]? = w.heap[g]? := k.2 g (Array.getElem?_eq_some_iff.1 hcs).1 (fun cs' z e => by rw [hcs] at e; simp at e)
  exact ⟨⟨cs, e.trans hcs⟩, fun i hi => ⟨(World.cell?_of_block e).trans (hh i hi).1, (World.cell?_of_block e).trans (hh i hi).2⟩⟩
theorem Bk.nt {w w' : World} {B : Nat} {vg vw : Value} (h : Bk w B vg vw) (k : Nt w w') : Bk w' B vg vw := (k.2 B h.lt (fun cs z e => by rw [show w.heap[B]? = _ from h] at e; simp at e)).trans h
theorem Bk.c2 {w : World} {B : Nat} {vg vw : Value} (h : Bk w B vg vw) : w.cell? ⟨B, 2, none⟩ = some (.bool false) := by unfold Bk at h; simp [World.cell?, h]

theorem bInfoW : (Try.prog.info? 22).map (fun i => (i.zero, i.size, i.bytes)) = some (some (.int .u64 0), 1, 8) := by kernel_rfl
theorem bInfoS : (Try.prog.info? 29).map (fun i => (i.zero, i.size, i.bytes)) = some (some (.slice none 0 0), 1, 24) := by kernel_rfl
theorem bUnderS : Try.prog.underlying 29 = some (.slice 22) := by kernel_rfl
theorem bUnderM : Try.prog.underlying 75 = some (.slice 29) := by kernel_rfl
theorem gb_row {a b c : World} {v : Option Nat} (h : a.grownBy b none) (k : b.grownBy c v) (hv : ∀ i, v = some i → a.heap.size ≤ i) : a.grownBy c none :=
  ⟨k.os.trans h.os, k.tape.trans h.tape, k.output.trans h.output, Nat.le_trans h.size k.size, fun i hi _ => (k.block i (Nat.lt_of_lt_of_le hi h.size) (fun e => by have := hv i e.symm; omega)).trans (h.block i hi (by simp))⟩
theorem row_mono {w : World} {base base' e size n : Nat} {v : Value} {xs : List Value} (h : w.ownsRow base e size v n xs) (hb : base' ≤ base) : w.ownsRow base' e size v n xs := by
  refine ⟨h.1, ?_⟩
  rcases h.2 with h0 | ⟨g, cap, cur, hv, h1, h2⟩
  · exact .inl h0
  · exact .inr ⟨g, cap, cur, hv, Nat.le_trans hb h1, h2⟩
theorem own_apart {w : World} {b1 b2 t1 t2 s1 s2 n1 n2 : Nat} {v1 v2 : Value} {x1 x2 : List Value} (h : w.ownsRow b1 t1 s1 v1 n1 x1) (k : w.ownsRow b2 t2 s2 v2 n2 x2) (ht : t1 ≠ t2) : v1.ownBlock = none ∨ v1.ownBlock ≠ v2.ownBlock := by
  rcases h.2 with ⟨rfl, _⟩ | ⟨g, cap, cur, rfl, _, hg, _⟩
  · exact .inl rfl
  · refine .inr (fun e => ?_)
    rcases k.2 with ⟨rfl, _⟩ | ⟨g', cap', cur', rfl, _, hg', _⟩
    · cases e
    · simp only [Value.ownBlock, Option.some.injEq] at e
      subst e
      rw [hg] at hg'
      simp only [Option.some.injEq, Obj.cells.injEq] at hg'
      exact ht hg'.2.1

theorem own_slice {w : World} {base t n : Nat} {v : Value} {xs : List Value} (h : w.ownsRow base t 1 v n xs) : ∃ sp cap, v = .slice sp n cap := by
  rcases h.2 with ⟨rfl, h0⟩ | ⟨g, cap, cur, rfl, hb, hg, _⟩
  · exact ⟨none, 0, by rw [h0]⟩
  · exact ⟨_, cap, rfl⟩
theorem own_at1 {w : World} {base t n cap : Nat} {sp : Option Addr} {xs : List Value} (h : w.ownsRow base t 1 (.slice sp n cap) n xs) (j : Nat) (hj : j < xs.length) : ∃ g, sp = some ⟨g, 0, none⟩ ∧ w.cell? ⟨g, j, none⟩ = some xs[j] := by
  have hl := h.1
  rcases h.2 with ⟨e, h0⟩ | ⟨g, cap', cur, e, hb, hg, _⟩
  · omega
  · injection e with e1 _ _
    subst e1
    refine ⟨g, rfl, ?_⟩
    have hc := h.cells (g := g) rfl j xs[j] (List.getElem?_eq_getElem hj)
    rwa [add_mid, Nat.zero_add] at hc
theorem own_rep {w : World} {base t n g cap q : Nat} {V : Value} (h : w.ownsRow base t 1 (.slice (some ⟨g, 0, none⟩) n cap) n (List.replicate n V)) (hq : q < n) : w.cell? ⟨g, q, none⟩ = some V := by
  have hc := h.cells (g := g) rfl q V (by rw [List.getElem?_replicate, if_pos hq])
  rwa [add_mid, Nat.zero_add] at hc

set_option maxRecDepth 100000 in
set_option maxHeartbeats 8000000 in
theorem standsT (B bg bw m cg cw base : Nat) (NN : Nat → Int) (sg sw : Nat → Option Addr) (nn cc : Nat → Nat) (F : Nat → Nat → Nat) (hm : m ≤ 1000) (hnn : ∀ j, j < m → nn j ≤ 1025) (w : World) (hB : Bk w B (.slice (some ⟨bg, 0, none⟩) m cg) (.slice (some ⟨bw, 0, none⟩) m cw))
    (hg : ListIs w bg m NN sg nn nn) (hw : ListIs w bw m NN sw nn cc) (hG : GotIs w m sg nn F) (hW : ∀ j, j < m → Wd w (sw j) (nn j) (F j)) (hd : Apart m sg) (hba : ∀ j, j < m → ∀ a, sg j = some a → base ≤ a.block) (hbs : base ≤ w.heap.size) :
    Calls Try.prog 17 #[.pointer (some ⟨B, 0, none⟩)] w fun e w' => e = .returned (.bool true) ∧ Below base w w' := by
  have b0 := hB.c0
  have b1 := hB.c1
  have b2 := hB.c2
  obtain ⟨iw, hiw⟩ := info_parts bInfoW
  have HW : Hid (Try.prog.info? 22 = some iw ∧ iw.zero = some (.int .u64 0) ∧ iw.size = 1 ∧ iw.bytes = 8) := hiw
  obtain ⟨is, his⟩ := info_parts bInfoS
  have HS : Hid (Try.prog.info? 29 = some is ∧ is.zero = some (.slice none 0 0) ∧ is.size = 1 ∧ is.bytes = 24) := his
  clear hiw his
  go_enter Try.func17, Try.ntmps17
  go_wp2
  go_loopw [3] (fun v wr => ∃ k : Nat, k ≤ m ∧ v = .int .i64 k ∧ w.grownBy wr none) (fun v _ => m - (intOf v).toNat)
  case atStart => exact ⟨0, Nat.zero_le _, rfl, World.grownBy.refl _ _⟩
  case round =>
    obtain ⟨k, hk, rfl, hgk⟩ := hrel
    have ntk := (Nt.refl w).gb hgk
    have hBk := hB.nt ntk
    have y0 := hBk.c0
    have y1 := hBk.c1
    have hgk2 := hg.nt ntk
    by_cases hlt : k < m
    · have hlt' : (k : Int) < (m : Int) := by omega
      obtain ⟨p0, p1⟩ := (hg.nt ntk).2 k hlt
      obtain ⟨p2, p3⟩ := (hw.nt ntk).2 k hlt
      obtain ⟨Nk, hNk⟩ : ∃ Nk, NN k = Nk := ⟨_, rfl⟩
      have hS := fun w' h1 h2 => sameYes (NN k) (nn k) (nn k) (cc k) (sg k) (sw k) (F k) (by have := hnn k hlt; omega) w' h1 h2
      have hGk : Wd wr.drew (sg k) (nn k) (F k) := got_wd (hG.kept (gb_drew hgk)) hlt
      have hWk : Wd wr.drew (sw k) (nn k) (F k) := (hW k hlt).kept (gb_drew hgk) (by simp)
      rw [hNk] at p0 p2 hS
      generalize nn k = nk at *
      generalize sg k = ak at *
      generalize sw k = wk at *
      generalize cc k = ck at *
      generalize F k = fk at *
      clear hNk
      go_wp2
      refine region_tail 14 mixed (by kernel_rfl) ?_
      simp only [List.take_succ_cons, List.take_zero, List.drop_succ_cons, List.drop_zero]
      repeat still_step
      refine wpStill_nil ?_
      go_wp2_with (go_at_call 38; refine (hS wr.drew hGk hWk).mono ?_; rintro e w2 ⟨rfl, g2⟩)
      go_wp2
      go_roundw
      case rel => exact ⟨k + 1, by omega, by go_num, gb_trans (gb_drew hgk) g2⟩
      case measure => simp [intOf]; omega
    · have hlt' : ¬ (k : Int) < (m : Int) := by omega
      clear hlt
      have G1 := hG.kept hgk
      generalize wr = W1 at *
      have bl1 := (gb_below hgk).mono hbs
      clear hB hg hw hG hW b0 b1 b2
      go_wp2
      go_loopw [5] (fun v wr' => ∃ i : Nat, i ≤ m ∧ v = .int .i64 i ∧ GotIs wr' m sg nn (fun j q => if j < i then 100 + j else F j q) ∧ Nt W1 wr' ∧ Below base w wr') (fun v _ => m - (intOf v).toNat)
      case atStart => exact ⟨0, Nat.zero_le _, rfl, G1.congr (fun j q _ _ => by rw [if_neg (Nat.not_lt_zero _)]), Nt.refl _, bl1⟩
      case round =>
        obtain ⟨i, hi, rfl, hGi, nti, bli⟩ := hrel
        have hBi := hBk.nt nti
        have hgi := hgk2.nt nti
        have y0 := hBi.c0
        by_cases hlt : i < m
        · have hlt' : (i : Int) < (m : Int) := by omega
          obtain ⟨p0, p1⟩ := hgi.2 i hlt
          have hwi : IntKind.i64.wrap (100 + (i : Int)) = 100 + (i : Int) := by rw [IntKind.wrap_i64]; omega
          have hwu : IntKind.u64.wrap (100 + (i : Int)) = 100 + (i : Int) := by rw [IntKind.wrap_u64]; omega
          obtain ⟨nk, hnk⟩ : ∃ nk, Hid (nn i = nk) := ⟨_, rfl⟩
          obtain ⟨ak, hak⟩ : ∃ ak, Hid (sg i = ak) := ⟨_, rfl⟩
          rw [hnk.out, hak.out] at p1
          have hnb := hnn i hlt
          rw [hnk.out] at hnb
          go_wp2
          go_loopw [7] (fun v wr' => ∃ q : Nat, q ≤ nk ∧ v = .int .i64 q ∧ GotIs wr' m sg nn (fun j p => if j < i ∨ (j = i ∧ p < q) then 100 + j else F j p) ∧ Nt W1 wr' ∧ Below base w wr') (fun v _ => nk - (intOf v).toNat)
          case atStart => exact ⟨0, Nat.zero_le _, rfl, hGi.congr (fun j p _ _ => by
            by_cases h : j < i
            · rw [if_pos h, if_pos (.inl h)]
            · rw [if_neg h, if_neg (fun hh => hh.elim h (fun h2 => Nat.not_lt_zero _ h2.2))]), nti, bli⟩
          case round =>
            obtain ⟨q, hq, rfl, hGq, ntq, blq⟩ := hrel
            by_cases hql : q < nk
            · have hql' : (q : Int) < (nk : Int) := by omega
              rcases hGq i hlt with ⟨_, h0⟩ | ⟨b, hb, hr⟩
              · rw [hnk.out] at h0; omega
              · have eak : ak = some ⟨b, 0, none⟩ := by rw [← hak.out]; exact hb
                have x0 := hr.cell (i := q) (by rw [hnk.out]; exact hql)
                have x1 := hr.frozen q
                have hbb := hba i hlt _ hb
                have hst : GotIs (wr.setCell ⟨b, q, none⟩ (.int .u64 (100 + (i : Int)))) m sg nn (fun j p => if j < i ∨ (j = i ∧ p < q + 1) then 100 + j else F j p) := by
                  have h := hGq.set (k := q) (x := 100 + i) hd hlt hb
                  rw [show ((100 + i : Nat) : Int) = 100 + (i : Int) by omega] at h
                  exact h.congr (fun j p _ _ => by
                    by_cases h1 : j = i ∧ p = q
                    · rw [if_pos h1, if_pos (.inr ⟨h1.1, by omega⟩), h1.1]
                    · rw [if_neg h1]
                      by_cases h2 : j < i ∨ (j = i ∧ p < q)
                      · rw [if_pos h2, if_pos (h2.imp id (fun h3 => ⟨h3.1, by omega⟩))]
                      · rw [if_neg h2, if_neg (fun h3 => h3.elim (fun h4 => h2 (.inl h4)) (fun h4 => by
                          by_cases h5 : p = q
                          · exact h1 ⟨h4.1, h5⟩
                          · exact h2 (.inr ⟨h4.1, by omega⟩)))])
                have hnt := ntq.set hr q (.int .u64 (100 + (i : Int)))
                have hbl := blq.setCell (p := ⟨b, q, none⟩) hbb (.int .u64 (100 + (i : Int)))
                subst eak
                clear hr hGq
                go_wp2
                go_roundw
                case rel => exact ⟨q + 1, by omega, by go_num, hst, hnt, hbl⟩
                case measure => simp [intOf]; omega
            · have hql' : ¬ (q : Int) < (nk : Int) := by omega
              have hGn : GotIs wr m sg nn (fun j p => if j < i + 1 then 100 + j else F j p) := hGq.congr (fun j p hj hp => by
                by_cases h : j < i
                · rw [if_pos (.inl h), if_pos (by omega)]
                · by_cases h2 : j = i
                  · have : p < q := by
                      rw [h2, hnk.out] at hp
                      omega
                    rw [if_pos (.inr ⟨h2, this⟩), if_pos (by omega)]
                  · rw [if_neg (fun hh => hh.elim h (fun h3 => h2 h3.1)), if_neg (by omega)])
              clear hGq
              go_wp2
              go_roundw
              case rel => exact ⟨i + 1, by omega, by go_num, hGn, ntq, blq⟩
              case measure => simp [intOf]; omega
        · have hlt' : ¬ (i : Int) < (m : Int) := by omega
          have G2 : GotIs wr m sg nn (fun j q => 100 + j) := hGi.congr (fun j q hj _ => by rw [if_pos (by omega)])
          clear hlt hGi
          go_wp2
          generalize wr = W2 at *
          have y2 := hBi.c0
          have zb := bli.size
          go_loopw [8, 9] (fun vm v wr' => ∃ (ls : List Value), ls.length ≤ m ∧ v = .int .i64 (ls.length : Nat) ∧ wr'.ownsRow W2.heap.size 29 1 vm ls.length ls ∧ Hid (∀ j (hj : j < ls.length), wr'.ownsRow W2.heap.size 22 1 ls[j] (nn j + 70) (List.replicate (nn j + 70) (.int .u64 (100 + (j : Int))))) ∧ W2.grownBy wr' none) (fun _ v _ => m - (intOf v).toNat)
          case atStart => exact ⟨[], Nat.zero_le _, rfl, World.ownsRow_nil _ _ _ _, fun j hj => absurd hj (Nat.not_lt_zero _), World.grownBy.refl _ _⟩
          case round =>
            obtain ⟨ls, hl, rfl, hvm, HLS, hg3⟩ := hrel
            have nt3 := (Nt.refl W2).gb hg3
            have y3 := (hBi.nt nt3).c0
            by_cases hl2 : ls.length < m
            · have hl2' : (ls.length : Int) < (m : Int) := by omega
              obtain ⟨p0, p1⟩ := (hgi.nt nt3).2 ls.length hl2
              have hW3 := got_wd (G2.kept hg3) hl2
              have hnb := hnn ls.length hl2
              obtain ⟨i, hi9⟩ : ∃ i, Hid (ls.length = i) := ⟨_, rfl⟩
              have h0n : (sg ls.length = none → nn ls.length = 0) := fun e => by
                rcases G2 ls.length hl2 with h | ⟨b, h, _⟩
                · exact h.2
                · rw [h] at e; cases e
              have hwi : IntKind.i64.wrap (100 + (ls.length : Int)) = 100 + (ls.length : Int) := by rw [IntKind.wrap_i64]; omega
              have hwu : IntKind.u64.wrap (100 + (ls.length : Int)) = 100 + (ls.length : Int) := by rw [IntKind.wrap_u64]; omega
              obtain ⟨nk, hnk⟩ : ∃ nk, Hid (nn ls.length = nk) := ⟨_, rfl⟩
              obtain ⟨ak, hak⟩ : ∃ ak, Hid (sg ls.length = ak) := ⟨_, rfl⟩
              rw [hnk.out, hak.out] at p1 hW3 h0n
              rw [hnk.out] at hnb
              go_wp2
              generalize wr = W3 at *
              have z3 := hg3.size
              go_loopw [10, 11] (fun vl v wr' => ∃ q : Nat, q ≤ 70 ∧ v = .int .i64 q ∧ ((Hid (q = 0) ∧ vl = .slice ak nk nk) ∨ (1 ≤ q ∧ wr'.ownsRow W3.heap.size 22 1 vl (nk + q) (List.replicate (nk + q) (.int .u64 (100 + (ls.length : Int)))))) ∧ W3.grownBy wr' none) (fun _ v _ => 70 - (intOf v).toNat)
              case atStart => exact ⟨0, Nat.zero_le _, rfl, .inl ⟨rfl, rfl⟩, World.grownBy.refl _ _⟩
              case round =>
                obtain ⟨q, hq, rfl, hcase, hg4⟩ := hrel
                by_cases hq7 : q < 70
                · have hq7' : (q : Int) < 70 := by omega
                  obtain ⟨W4, hW4⟩ : ∃ W4, wr.alloc (.cells #[(.int .u64 (100 + (ls.length : Int)))] 22) = W4 := ⟨_, rfl⟩
                  have g4 : wr.grownBy W4 none := by rw [← hW4]; exact World.grownBy_alloc _ _ _
                  have hN4 : ∀ j u, [(.int .u64 (100 + (ls.length : Int)))][j]? = some u → W4.cell? ((⟨wr.heap.size, 0, none⟩ : Addr).add j) = some u := by rw [← hW4]; exact World.news_of_block (cs := #[(.int .u64 (100 + (ls.length : Int)))]) (heap_alloc_new wr _)
                  have z4 := g4.size
                  have z5 := hg4.size
                  rcases hcase with ⟨hq0, rfl⟩ | ⟨hq1, hvl⟩
                  · have hold : ∀ b, ak = some b → ∀ j u, (List.replicate nk (.int .u64 (100 + (ls.length : Int))))[j]? = some u → W4.cell? (b.add j) = some u := fun b e j u hj => by
                      have hjn : j < nk := by
                        have := (List.getElem?_eq_some_iff.1 hj).1
                        simpa using this
                      obtain ⟨a, ha, hc⟩ := hW3 j hjn
                      rw [ha] at e
                      cases e
                      rw [List.getElem?_replicate, if_pos hjn] at hj
                      cases hj
                      rw [show ((100 + ls.length : Nat) : Int) = 100 + (ls.length : Int) by omega] at hc
                      exact g4.cell (hg4.cell hc (by simp)) (by simp)
                    go_wp2_with (at_builtin; refine wpList_append_grows _ rfl _ _ 29 rfl 22 iw (.int .u64 0) 1 8 bUnderS HW.out.1 HW.out.2.1 HW.out.2.2.1 HW.out.2.2.2 rfl (by decide) ak nk nk (List.replicate nk (.int .u64 (100 + (ls.length : Int)))) rfl (fun e => ⟨h0n e, h0n e⟩) (by simp) hold ⟨wr.heap.size, 0, none⟩ 1 1 [(.int .u64 (100 + (ls.length : Int)))] rfl rfl hN4 (by intro u hu; simp at hu; subst hu; rfl) (by omega) (by unfold maxLen; omega) (by omega) ?_; intro v5 w5 hown5 hgrow5)
                    go_roundw
                    case rel =>
                      have hz := hq0.out
                      subst hz
                      refine ⟨0 + 1, by omega, by go_num, .inr ⟨by omega, ?_⟩, gb_trans hg4 (gb_trans g4 hgrow5)⟩
                      rw [show nk + (0 + 1) = nk + 1 by omega, List.replicate_succ']
                      exact row_mono hown5 (by omega)
                    case measure => simp [intOf]; omega
                  · have hv4 := hvl.kept g4 (Classical.em _)
                    go_wp2_with (at_builtin; refine wpList_append_own _ rfl _ _ 29 rfl W3.heap.size 22 iw (.int .u64 0) 1 8 bUnderS HW.out.1 HW.out.2.1 HW.out.2.2.1 HW.out.2.2.2 rfl (by decide) _ _ _ rfl hv4 ⟨wr.heap.size, 0, none⟩ 1 1 [(.int .u64 (100 + (ls.length : Int)))] rfl rfl hN4 (by intro u hu; simp at hu; subst hu; rfl) (by unfold maxLen; omega) (by omega) (by omega) ?_; intro v5 w5 hown5 hgrow5 hnil5)
                    go_roundw
                    case rel =>
                      refine ⟨q + 1, by omega, by go_num, .inr ⟨by omega, ?_⟩, gb_row (gb_trans hg4 g4) hgrow5 (fun i e => (hvl.lt i e).1)⟩
                      rw [show nk + (q + 1) = nk + q + 1 by omega, List.replicate_succ']
                      exact hown5
                    case measure => simp [intOf]; omega
                · have hq7' : ¬ (q : Int) < 70 := by omega
                  rcases hcase with ⟨hq0, _⟩ | ⟨hq1, hvl⟩
                  · exact absurd hq0.out (by omega)
                  · obtain rfl : q = 70 := by omega
                    rw [show nk + 70 = (nk + 69) + 1 by omega] at hvl
                    obtain ⟨g9, c9, rfl⟩ := ownsRow_succ hvl
                    obtain ⟨vl, hvle⟩ : ∃ vl, Hid (vl = Value.slice (some ⟨g9, 0, none⟩) (nk + 69 + 1) c9) := ⟨_, rfl⟩
                    obtain ⟨W6, hW6⟩ : ∃ W6, wr.alloc (.cells #[.slice (some ⟨g9, 0, none⟩) (nk + 69 + 1) c9] 29) = W6 := ⟨_, rfl⟩
                    have g6 : wr.grownBy W6 none := by rw [← hW6]; exact World.grownBy_alloc _ _ _
                    have hN6 : ∀ j u, [Value.slice (some ⟨g9, 0, none⟩) (nk + 69 + 1) c9][j]? = some u → W6.cell? ((⟨wr.heap.size, 0, none⟩ : Addr).add j) = some u := by rw [← hW6]; exact World.news_of_block (cs := #[Value.slice (some ⟨g9, 0, none⟩) (nk + 69 + 1) c9]) (heap_alloc_new wr _)
                    have hvm4 := hvm.kept hg4 (Classical.em _)
                    have hvm6 := hvm4.kept g6 (Classical.em _)
                    have z6 := g6.size
                    have z5 := hg4.size
                    have hv6 := hvl.kept g6 (Classical.em _)
                    clear hvle
                    go_wp2_with (at_builtin; refine wpList_append_own _ rfl _ _ 75 rfl W2.heap.size 29 is (.slice none 0 0) 1 24 bUnderM HS.out.1 HS.out.2.1 HS.out.2.2.1 HS.out.2.2.2 rfl (by decide) _ _ _ rfl hvm6 ⟨wr.heap.size, 0, none⟩ 1 1 [(Value.slice (some ⟨g9, 0, none⟩) (nk + 69 + 1) c9)] rfl rfl hN6 (by intro u hu; simp at hu; subst hu; rfl) (by unfold maxLen; omega) (by omega) (by omega) ?_; intro v7 w7 hown7 hgrow7 hnil7)
                    go_roundw
                    case rel =>
                      have el : (ls ++ [(Value.slice (some ⟨g9, 0, none⟩) (nk + 69 + 1) c9)]).length = ls.length + 1 := by simp
                      refine ⟨ls ++ [(Value.slice (some ⟨g9, 0, none⟩) (nk + 69 + 1) c9)], by rw [el]; omega, by rw [el]; go_num, by rw [el]; exact hown7, fun j hj => ?_, gb_row (gb_trans hg3 (gb_trans hg4 g6)) hgrow7 (fun i e => (hvm.lt i e).1)⟩
                      by_cases hjl : j < ls.length
                      · rw [List.getElem_append_left hjl]
                        have h1 := ((HLS.out j hjl).kept hg4 (Classical.em _)).kept g6 (Classical.em _)
                        exact h1.kept hgrow7 (own_apart h1 hvm6 (by decide))
                      · obtain rfl : j = ls.length := by rw [el] at hj; omega
                        rw [List.getElem_append_right (Nat.le_refl _)]
                        simp only [Nat.sub_self, List.getElem_cons_zero]
                        rw [hnk.out, show nk + 70 = (nk + 69) + 1 by omega]
                        exact row_mono (hv6.kept hgrow7 (own_apart hv6 hvm6 (by decide))) (by omega)
                    case measure => simp [intOf]; omega
            · have hl2' : ¬ (ls.length : Int) < (m : Int) := by omega
              have G3 := G2.kept hg3
              have hB3 := hBi.nt nt3
              have hg5 := hgi.nt nt3
              have BL : Below base w wr := bli.trans ((gb_below hg3).mono (Nat.le_trans hbs zb))
              obtain ⟨sm, cm, hvme⟩ := own_slice hvm
              subst hvme
              go_wp2
              generalize wr = W5 at *
              go_loopw [12] (fun v wr' => ∃ i : Nat, i ≤ ls.length ∧ v = .int .i64 i ∧ W5.grownBy wr' none) (fun v _ => ls.length - (intOf v).toNat)
              case atStart => exact ⟨0, Nat.zero_le _, rfl, World.grownBy.refl _ _⟩
              case round =>
                obtain ⟨i, hi5, rfl, hg6⟩ := hrel
                by_cases hil : i < ls.length
                · have hil' : (i : Int) < (ls.length : Int) := by omega
                  have him : i < m := by omega
                  have him' : (i : Int) < (m : Int) := by omega
                  obtain ⟨gm, hsm, xm⟩ := own_at1 (hvm.kept hg6 (Classical.em _)) i hil
                  have hrow := (HLS.out i hil).kept hg6 (Classical.em _)
                  obtain ⟨nk, hnk⟩ : ∃ nk, Hid (nn i = nk) := ⟨_, rfl⟩
                  obtain ⟨ak, hak⟩ : ∃ ak, Hid (sg i = ak) := ⟨_, rfl⟩
                  have hnb := hnn i him
                  rw [hnk.out] at hrow hnb
                  rw [show nk + 70 = (nk + 69) + 1 by omega] at hrow
                  obtain ⟨hh, ch, hle⟩ := ownsRow_succ hrow
                  rw [hle] at xm hrow
                  have nt6 := (Nt.refl W5).gb hg6
                  have y6 := (hB3.nt nt6).c0
                  obtain ⟨p0, p1⟩ := (hg5.nt nt6).2 i him
                  have hwd := got_wd (G3.kept hg6) him
                  rw [hnk.out, hak.out] at p1 hwd
                  have hwi : IntKind.i64.wrap (100 + (i : Int)) = 100 + (i : Int) := by rw [IntKind.wrap_i64]; omega
                  have hwu : IntKind.u64.wrap (100 + (i : Int)) = 100 + (i : Int) := by rw [IntKind.wrap_u64]; omega
                  have hnn0 : ((100 + (i : Int)) != (100 + (i : Int))) = false := by simp
                  subst hsm
                  go_wp2
                  generalize wr = W6 at *
                  go_loopw [13] (fun v wr' => ∃ q : Nat, q ≤ nk + 69 + 1 ∧ v = .int .i64 q ∧ wr' = W6) (fun v _ => nk + 69 + 1 - (intOf v).toNat)
                  case atStart => exact ⟨0, Nat.zero_le _, rfl, rfl⟩
                  case round =>
                    obtain ⟨q, hq, rfl, hw6⟩ := hrel
                    subst hw6
                    by_cases hql : q < nk + 69 + 1
                    · have hql' : (q : Int) < (nk : Int) + 69 + 1 := by omega
                      have xq := own_rep hrow hql
                      by_cases hqn : q < nk
                      · have hqn' : (q : Int) < (nk : Int) := by omega
                        obtain ⟨a, ha, xa⟩ := hwd q hqn
                        rw [show ((100 + i : Nat) : Int) = 100 + (i : Int) by omega] at xa
                        subst ha
                        go_wp2
                        refine ⟨⟨q + 1, by omega, by go_num, trivial⟩, ?_⟩
                        simp [intOf]; omega
                      · have hqn' : ¬ (q : Int) < (nk : Int) := by omega
                        go_wp2
                        refine ⟨⟨q + 1, by omega, by go_num, trivial⟩, ?_⟩
                        simp [intOf]; omega
                    · have hql' : ¬ (q : Int) < (nk : Int) + 69 + 1 := by omega
                      go_wp2
                      go_roundw
                      case rel => exact ⟨i + 1, by omega, by go_num, hg6⟩
                      case measure => simp [intOf]; omega
                · have hil' : ¬ (i : Int) < (ls.length : Int) := by omega
                  go_wp2
                  go_ret
                  exact ⟨rfl, BL.trans ((gb_below hg6).mono (Nat.le_trans hbs BL.size))⟩
end Go.Proofs.Ytcdefpfnjjahgab
