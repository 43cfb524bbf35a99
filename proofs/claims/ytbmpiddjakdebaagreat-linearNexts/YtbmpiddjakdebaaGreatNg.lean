/- Rows of points by their numbers, in a map. -/
import Derived.Test.YtbmpiddjakdebaaGreatNo
import Derived.Test.YtbmpiddjakdebaaGreatNd
import Derived.Test.YtbmpiddjakdebaaGreatTa
namespace Go.Proofs.YtbmpiddjakdebaaGreat
open Go.RowKit
set_option linter.unusedVariables false
set_option linter.unusedSimpArgs false
set_option maxRecDepth 100000

namespace Ln
/-- The value itself is what an element reads as. -/
def hdR (v : Value) : Option (DataW Value × List MemPlace) := some (.held v, [])
def nilS : Value := .slice none 0 0
theorem underR : Tryz.prog.underlying 96 = some (.map 3 24) := by kernel_rfl
theorem lawI : Maps.Keyed Tryz.prog 3 := Maps.int_keyed underI
theorem zeroPS (w : World) : (zeroValue 24).run Tryz.prog w = .ok (.slice none 0 0) w := by kernel_rfl
theorem wf_i64 {y : Int} (h : -9223372036854775808 ≤ y ∧ y ≤ 9223372036854775807) : (Lit.int .i64 y).wf = true := by have hp : PtOk (y, y) := ⟨h, h⟩; have := hp.key; obtain ⟨a, b, e, h1, _⟩ := (keyOf_is _ _).1 this; unfold ptV at e; simp at e; rw [e.1]; exact h1
def In64 (y : Int) : Prop := -9223372036854775808 ≤ y ∧ y ≤ 9223372036854775807
theorem keyI {y : Int} (h : In64 y) : keyOf Tryz.prog 3 (.int .i64 y) = some (.int .i64 y) := Maps.keyOf_int_mk underI (wf_i64 h)
/-- The map of block b has for each number its row's slice, and that its points. -/
structure Gm (w : World) (base b c : Nat) (V : Int → Value) (P : Int → List Pt) (D : DataW Value) : Prop where
  own : w.ownsMap Tryz.prog 3 hdR b c D
  at_ : ∀ y, In64 y → D.atKey (.int .i64 y) (.held nilS) = .held (V y)
  row : ∀ y, w.ownsRow base 40 2 (V y) (P y).length (fl (P y))
  one : ∀ y y' g, (V y).ownBlock = some g → (V y').ownBlock = some g → y = y'
  lb : b < base
theorem Gm.kept {w w' : World} {base b c : Nat} {V : Int → Value} {P : Int → List Pt} {D : DataW Value} (h : Gm w base b c V P D) (hg : w.grownBy w' none) : Gm w' base b c V P D := ⟨h.own.kept hg (by simp), h.at_, fun y => (h.row y).kept hg (Classical.em _), h.one, h.lb⟩
theorem Gm.keptBy {w w' : World} {base b c q : Nat} {V : Int → Value} {P : Int → List Pt} {D : DataW Value} (h : Gm w base b c V P D) (hg : w.grownBy w' (some q)) (hb : b ≠ q) (hq : ∀ y, (V y).ownBlock ≠ some q) : Gm w' base b c V P D := ⟨h.own.kept hg (fun e => hb (Option.some.inj e)), h.at_, fun y => (h.row y).kept hg (.inr (hq y)), h.one, h.lb⟩
theorem Gm.look {w : World} {base b c : Nat} {V : Int → Value} {P : Int → List Pt} {D : DataW Value} (h : Gm w base b c V P D) {y : Int} (hy : In64 y) : (Instr.lookup 96 (.map (some b)) (.int .i64 y) false).run Tryz.prog w = .ok (V y) w := by
  obtain ⟨v, ps, hrun, hv⟩ := h.own.lookup lawI underR (zeroPS w) (zd := .held nilS) (zp := []) rfl (keyI hy)
  rw [h.at_ y hy] at hv
  have : v = V y := by
    unfold hdR at hv
    injection hv with hv
    injection hv with hv _
    injection hv
  rw [this] at hrun
  exact hrun
theorem own_shape {w : World} {base n : Nat} {v : Value} {ps : List Pt} (h : w.ownsRow base 40 2 v n (fl ps)) (hn : ps.length = n) : ∃ sp cap, v = .slice sp n cap ∧ Pl w sp n (fun k => ps.getD k (0, 0)) := by
  rcases h.2 with ⟨rfl, h0⟩ | ⟨g, cap, cur, rfl, _⟩
  · subst h0
    exact ⟨none, 0, rfl, fun k hk => by omega⟩
  · exact ⟨some ⟨g, 0, none⟩, cap, rfl, pl_own h hn⟩
end Ln
end Go.Proofs.YtbmpiddjakdebaaGreat
namespace Go.Proofs.YtbmpiddjakdebaaGreat
open Go.RowKit
set_option linter.unusedVariables false
set_option linter.unusedSimpArgs false
set_option maxRecDepth 100000

namespace Ln
def rwP (X x y0 a : Int) (p : Pt) : Pt := (X + (p.1 - a) % x, y0)
def rwI (X x y0 : Int) (ps : List Pt) (a : Int) (T : List Pt) : Nat → List Pt
  | 0 => T
  | i + 1 => flp (rwI X x y0 ps a T i) (rwP X x y0 a (ps.getD i (0, 0)))
/-- What comes to a row by the first j moves. -/
def rwL (k x y t z X y0 : Int) (P : Int → List Pt) (f : Nat → Pt) : Nat → List Pt
  | 0 => []
  | j + 1 => rwI X x y0 (P (cellP k x y t z (X - (f j).1, y0 - (f j).2)).2) (cellP k x y t z (X - (f j).1, y0 - (f j).2)).1 (rwL k x y t z X y0 P f j) (P (cellP k x y t z (X - (f j).1, y0 - (f j).2)).2).length
/-- Places of the row. -/
def Rin (X x y0 : Int) (T : List Pt) : Prop := ∀ p ∈ T, p.2 = y0 ∧ X ≤ p.1 ∧ p.1 < X + x
theorem Rin.flp {X x y0 : Int} {T : List Pt} (h : Rin X x y0 T) (hx : 1 ≤ x) (a : Int) (q : Pt) : Rin X x y0 (flp T (rwP X x y0 a q)) := fun p hp => by
  unfold Ln.flp at hp
  split at hp
  · exact h p (List.mem_of_mem_erase hp)
  · rcases List.mem_append.1 hp with hp | hp
    · exact h p hp
    · have : p = rwP X x y0 a q := by simpa using hp
      subst this
      have h1 := Int.emod_nonneg (q.1 - a) (show x ≠ 0 by omega)
      have h2 := Int.emod_lt_of_pos (q.1 - a) (show 0 < x by omega)
      refine ⟨rfl, ?_, ?_⟩
      · show X ≤ X + (q.1 - a) % x
        omega
      · show X + (q.1 - a) % x < X + x
        omega
theorem Rin.len {X x y0 : Int} {T : List Pt} (h : Rin X x y0 T) (hn : T.Nodup) (hx : x ≤ 65536) : T.length ≤ 65536 := by
  have := len_sub T ((List.range 65536).map (fun i : Nat => ((X + (i : Int), y0) : Pt))) hn (fun q hq => by
    obtain ⟨h1, h2, h3⟩ := h q hq
    refine List.mem_map.2 ⟨(q.1 - X).toNat, List.mem_range.2 (by omega), ?_⟩
    obtain ⟨a, b⟩ := q
    simp only at h1 h2 h3 ⊢
    rw [h1, Int.toNat_of_nonneg (by omega)]
    congr 1
    omega)
  simpa using this
theorem Rin.rwI {X x y0 : Int} {T : List Pt} (h : Rin X x y0 T) (hx : 1 ≤ x) (ps : List Pt) (a : Int) : ∀ i, Rin X x y0 (rwI X x y0 ps a T i)
  | 0 => h
  | i + 1 => (Rin.rwI h hx ps a i).flp hx a _
set_option maxHeartbeats 4000000 in
theorem rowC (k x y t z X Y U V : Int) (ac : Bool) (ht : 0 ≤ t) (hx : 1 ≤ x ∧ x ≤ 65536) (hX : -65536 ≤ X ∧ X ≤ 65536) (hB : ∀ p, -65536 ≤ (cellP k x y t z p).1 ∧ (cellP k x y t z p).1 ≤ 65536 ∧ -65536 ≤ (cellP k x y t z p).2 ∧ (cellP k x y t z p).2 ≤ 65536) (y0 : Int) (hy0 : -65536 ≤ y0 ∧ y0 ≤ 65536) (base b c : Nat) (VV : Int → Value) (P : Int → List Pt) (D : DataW Value) (hP : ∀ y, (P y).length < 1000000000 ∧ ∀ p ∈ P y, -65536 ≤ p.1 ∧ p.1 ≤ 65536) (sp : Option Addr) (m cap : Nat) (f : Nat → Pt) (hf : ∀ j, j < m → (-65536 ≤ (f j).1 ∧ (f j).1 ≤ 65536) ∧ (-65536 ≤ (f j).2 ∧ (f j).2 ≤ 65536)) (hm : m < 1000000000) (w : World) (hbw : base ≤ w.heap.size) (G : Gm w base b c VV P D) (h : Pl w sp m f) :
    Calls Tryz.prog 61 #[.agg #[.int .u8 k, .int .i64 x, .int .i64 y, .int .u8 t, .int .i64 z, .int .i64 X, .int .i64 Y, .int .i64 U, .int .i64 V, .bool ac], .int .i64 y0, .map (some b), .slice sp m cap] w fun e w' => ∃ b', e = .returned (.map (some b')) ∧ Sm w' b' (rwL k x y t z X y0 P f m) ∧ w.heap.size ≤ b' ∧ w.grownBy w' none := by
  obtain ⟨W1, hW1, sz1, g1, B1⟩ := boxn w #[.int .u8 k, .int .i64 x, .int .i64 y, .int .u8 t, .int .i64 z, .int .i64 X, .int .i64 Y, .int .i64 U, .int .i64 V, .bool ac] 62
  have hmk := mkM0 W1
  have M1 := Sm.made W1
  obtain ⟨W2, hW2⟩ : ∃ W2, W1.alloc (.map #[] 0) = W2 := ⟨_, rfl⟩
  have g2 : W1.grownBy W2 none := (by rw [← hW2]; exact World.grownBy_alloc _ _ _)
  have hs2 : W1.heap.size < W2.heap.size := (by rw [← hW2]; simp)
  rw [hW2] at M1 hmk
  clear hW2
  have B2 := B1.kept g2 (by simp)
  have lB := B1.lt
  have lG := G.own.lt
  have G12 := gb_trans g1 g2
  obtain ⟨F, hF⟩ : ∃ F, rwL k x y t z X y0 P f = F := ⟨_, rfl⟩
  rw [hF]
  have HF0 : Hid (F 0 = []) := by rw [← hF]; rfl
  have HFS : Hid (∀ j, F (j + 1) = rwI X x y0 (P (cellP k x y t z (X - (f j).1, y0 - (f j).2)).2) (cellP k x y t z (X - (f j).1, y0 - (f j).2)).1 (F j) (P (cellP k x y t z (X - (f j).1, y0 - (f j).2)).2).length) := fun j => by rw [← hF]; rfl
  clear hF
  go_enter Tryz.func61, Tryz.ntmps61
  go_wp2
  clear hmk
  go_loopw [20] (fun v wr => ∃ j : Nat, j ≤ m ∧ v = .int .i64 j ∧ Sm wr W1.heap.size (F j) ∧ Hid (Rin X x y0 (F j)) ∧ Bo wr w.heap.size 62 #[.int .u8 k, .int .i64 x, .int .i64 y, .int .u8 t, .int .i64 z, .int .i64 X, .int .i64 Y, .int .i64 U, .int .i64 V, .bool ac] ∧ w.grownBy wr none) (fun v _ => m - (intOf v).toNat)
  case atStart => exact ⟨0, Nat.zero_le _, rfl, by rw [HF0.out]; exact M1, (by unfold Hid; rw [HF0.out]; intro p hp; cases hp), B2, G12⟩
  case round =>
    obtain ⟨j, hj, rfl, Mj, HRj, Bj, gj⟩ := hrel
    by_cases hlt : j < m
    · have hlt' : (j : Int) < (m : Int) := by omega
      obtain ⟨q, o, rfl, c0, c1⟩ := (h.kept gj (by simp)) j hlt
      have hfj := hf j hlt
      have HS := HFS.out j
      obtain ⟨p, hp⟩ : ∃ p, f j = p := ⟨_, rfl⟩
      rw [hp] at c0 c1 hfj HS
      clear hp
      obtain ⟨a, d⟩ := p
      simp only at hfj HS
      have w1 : IntKind.i64.wrap (X - a) = X - a := by rw [IntKind.wrap_i64]; omega
      have w2 : IntKind.i64.wrap (y0 - d) = y0 - d := by rw [IntKind.wrap_i64]; omega
      have kc := fun w1 => cellTC k x y t z X Y U V ac (X - a) (y0 - d) ht w1
      rw [ceV_is] at kc
      have hBj := hB (X - a, y0 - d)
      obtain ⟨fs, hfs⟩ : ∃ fs, cellP k x y t z (X - a, y0 - d) = fs := ⟨_, rfl⟩
      rw [hfs] at kc HS hBj
      clear hfs
      obtain ⟨fa, fb⟩ := fs
      simp only at kc HS hBj
      have HSS : Hid (F (j + 1) = rwI X x y0 (P fb) fa (F j) (P fb).length) := HS
      clear HS
      obtain ⟨W3, hW3, sz3, g3, B3⟩ := boxn wr #[.int .i64 a, .int .i64 d] 40
      have d0 := B3.cell 0 (v := .int .i64 a) rfl
      have d1 := B3.cell 1 (v := .int .i64 d) rfl
      have Bj3 := Bj.kept g3 (by simp)
      have e0 := Bj3.cell 0 (v := .int .u8 k) rfl; have e1 := Bj3.cell 1 (v := .int .i64 x) rfl; have e2 := Bj3.cell 2 (v := .int .i64 y) rfl; have e3 := Bj3.cell 3 (v := .int .u8 t) rfl; have e4 := Bj3.cell 4 (v := .int .i64 z) rfl; have e5 := Bj3.cell 5 (v := .int .i64 X) rfl; have e6 := Bj3.cell 6 (v := .int .i64 Y) rfl; have e7 := Bj3.cell 7 (v := .int .i64 U) rfl; have e8 := Bj3.cell 8 (v := .int .i64 V) rfl; have e9 := Bj3.cell 9 (v := .bool ac) rfl
      have Mj3 := Mj.kept g3 (by simp)
      have Gj := G.kept (gb_trans gj g3)
      have hfb : In64 fb := ⟨by omega, by omega⟩
      obtain ⟨wo, hwo⟩ : ∃ W, W = wr := ⟨_, rfl⟩
      subst hwo
      go_wp2_with (first | (go_at_call 74; refine (kc _).mono ?_; rintro e w4 ⟨rfl, g4⟩; obtain ⟨W5, hW5, sz5, g5, B5⟩ := boxn w4 #[.int .i64 fa, .int .i64 fb] 40; have G5 := Gj.kept (gb_trans g4 g5); have lk := G5.look hfb; obtain ⟨sp', cap', hvv, hPl5⟩ := own_shape (G5.row fb) rfl; rw [hvv] at lk; have f0 := B5.cell 0 (v := .int .i64 fa) rfl; have f1 := B5.cell 1 (v := .int .i64 fb) rfl) | go_in)
      have Bj5 := Bj3.kept (gb_trans g4 g5) (by simp)
      have Mj5 := Mj3.kept (gb_trans g4 g5) (by simp)
      have gw5 := gb_trans gj (gb_trans g3 (gb_trans g4 g5))
      have l4 : W1.heap.size < w4.heap.size := by have := Mj3.lt; have := g4.size; omega
      have hPb := hP fb
      have hq' : ∀ q', (∃ o', sp' = some ⟨q', o', none⟩) → q' = W1.heap.size → False := fun q' ho' e => by
        have h1 := (G.row fb)
        obtain ⟨o', ho'⟩ := ho'
        rcases h1.2 with ⟨hh, _⟩ | ⟨gg, cc, cur, hh, _, hb', _⟩
        · rw [hvv, ho'] at hh
          injection hh with h1 _ _
          cases h1
        · rw [hvv, ho'] at hh
          injection hh with h1 _ _
          injection h1 with h1
          have h2 : q' = gg := congrArg Addr.block h1
          have := (Array.getElem?_eq_some_iff.1 hb').1
          omega
      obtain ⟨ps, hps⟩ : ∃ ps, P fb = ps := ⟨_, rfl⟩
      rw [hps] at HSS hPl5 hPb
      rw [hps]
      clear lk hvv kc
      obtain ⟨n', hn'⟩ : ∃ n', ps.length = n' := ⟨_, rfl⟩
      have HN : Hid (ps.length = n') := hn'
      rw [hn'] at HSS hPl5 hPb
      rw [hn']
      go_loopw [42] (fun v wr' => ∃ i : Nat, i ≤ n' ∧ v = .int .i64 i ∧ Sm wr' W1.heap.size (rwI X x y0 ps fa (F j) i) ∧ Bo wr' w.heap.size 62 #[.int .u8 k, .int .i64 x, .int .i64 y, .int .u8 t, .int .i64 z, .int .i64 X, .int .i64 Y, .int .i64 U, .int .i64 V, .bool ac] ∧ Bo wr' w4.heap.size 40 #[.int .i64 fa, .int .i64 fb] ∧ w.grownBy wr' none ∧ Pl wr' sp' n' (fun k => ps.getD k (0, 0))) (fun v _ => n' - (intOf v).toNat)
      case atStart => exact ⟨0, Nat.zero_le _, rfl, Mj5, Bj5, B5, gw5, hPl5⟩
      case round =>
        obtain ⟨i, hi, rfl, Mi, Bi, Bf, gi, Pi⟩ := hrel
        by_cases hli : i < n'
        · have hli' : (i : Int) < (n' : Int) := by omega
          obtain ⟨q', o', rfl, e0, e1⟩ := Pi i hli
          have hbd := hPb.2 (ps.getD i (0, 0)) (by rw [List.getD_eq_getElem?_getD, List.getElem?_eq_getElem (by rw [hn']; exact hli)]; exact List.getElem_mem _)
          have HI : Hid (rwI X x y0 ps fa (F j) (i + 1) = flp (rwI X x y0 ps fa (F j) i) (rwP X x y0 fa (ps.getD i (0, 0)))) := rfl
          have hRi := (HRj.out.rwI hx.1 ps fa i)
          have hndi : (rwI X x y0 ps fa (F j) i).Nodup := by obtain ⟨_, _, _, h3, _⟩ := Mi; exact h3
          have hleni := hRi.len hndi hx.2
          obtain ⟨p, hp⟩ : ∃ p, ps.getD i (0, 0) = p := ⟨_, rfl⟩
          simp only [hp] at e0 e1 hbd HI
          clear hp hRi hndi
          obtain ⟨pa, pb⟩ := p
          simp only at hbd
          unfold rwP at HI
          simp only at HI
          have hr1 := Int.emod_nonneg (pa - fa) (show x ≠ 0 by omega)
          have hr2 := Int.emod_lt_of_pos (pa - fa) (show 0 < x by omega)
          have w3 : IntKind.i64.wrap (pa - fa) = pa - fa := by rw [IntKind.wrap_i64]; omega
          have kmd := fun w1 => To.modP (pa - fa) x w1 hx.1 hx.2
          obtain ⟨rr, hrr⟩ : ∃ rr, (pa - fa) % x = rr := ⟨_, rfl⟩
          rw [hrr] at kmd HI hr1 hr2
          clear hrr
          have w4' : IntKind.i64.wrap (X + rr) = X + rr := by rw [IntKind.wrap_i64]; omega
          have hpk : PtOk (X + rr, y0) := ⟨⟨by simp only; omega, by simp only; omega⟩, ⟨by simp only; omega, by simp only; omega⟩⟩
          obtain ⟨W6, hW6, sz6, g6, B6⟩ := boxn wr #[.int .i64 pa, .int .i64 pb] 40
          have u0 := B6.cell 0 (v := .int .i64 pa) rfl
          have u1 := B6.cell 1 (v := .int .i64 pb) rfl
          have Bi6 := Bi.kept g6 (by simp)
          have Bf6 := Bf.kept g6 (by simp)
          have v0 := Bi6.cell 0 (v := .int .u8 k) rfl; have v1 := Bi6.cell 1 (v := .int .i64 x) rfl; have v2 := Bi6.cell 2 (v := .int .i64 y) rfl; have v3 := Bi6.cell 3 (v := .int .u8 t) rfl; have v4 := Bi6.cell 4 (v := .int .i64 z) rfl; have v5 := Bi6.cell 5 (v := .int .i64 X) rfl; have v6 := Bi6.cell 6 (v := .int .i64 Y) rfl; have v7 := Bi6.cell 7 (v := .int .i64 U) rfl; have v8 := Bi6.cell 8 (v := .int .i64 V) rfl; have v9 := Bi6.cell 9 (v := .bool ac) rfl
          have f6 := Bf6.cell 0 (v := .int .i64 fa) rfl
          have kf := flipC W1.heap.size (rwI X x y0 ps fa (F j) i) (X + rr, y0) hpk (by omega) W6 (Mi.kept g6 (by simp))
          unfold ptV at kf
          have lW : w.heap.size ≠ W1.heap.size := by omega
          go_wp2_with (first | (go_at_call 77; refine (kmd _).mono ?_; rintro e w' ⟨rfl, hw'⟩; subst w') | (go_at_call 66; refine kf.mono ?_; rintro e w7 ⟨rfl, M7, g7⟩; refine Hid.out ?_) | go_in)
          refine Lib.hid ?_
          have Bi7 := Bi6.kept g7 (fun e => lW (Option.some.inj e))
          have Bf7 := Bf6.kept g7 (fun e => by have e := Option.some.inj e; omega)
          have G7 : w.grownBy w7 none := (gb_trans gi g6).andThen g7 (fun j hj => .inl (by injection hj with hj; omega))
          have P7 := (Pi.kept g6 (by simp)).kept g7 (fun a ha e => by
            cases ha
            have e : q' = W1.heap.size := Option.some.inj e
            exact hq' q' ⟨_, rfl⟩ e)
          clear kf kmd
          go_wp2
          go_roundw
          case rel => exact ⟨i + 1, by omega, by go_num, by rw [HI.out]; exact M7, Bi7, Bf7, G7, P7⟩
          case measure => simp [intOf]; omega
        · have hin : i = n' := by omega
          subst hin
          have hli' : ¬ (i : Int) < (i : Int) := by omega
          go_wp2
          go_roundw
          case rel => exact ⟨j + 1, by omega, by go_num, by rw [HSS.out]; exact Mi, (by unfold Hid; rw [HSS.out]; exact HRj.out.rwI hx.1 ps fa i), Bi, gi⟩
          case measure => simp [intOf]; omega
    · have hkn : j = m := by omega
      subst hkn
      have hlt' : ¬ (j : Int) < (j : Int) := by omega
      go_wp2
      go_ret
      exact ⟨_, rfl, Mj, g1.size, gj⟩
end Ln
end Go.Proofs.YtbmpiddjakdebaaGreat
namespace Go.Proofs.YtbmpiddjakdebaaGreat
open Go.RowKit
set_option linter.unusedVariables false
set_option linter.unusedSimpArgs false
set_option maxRecDepth 100000

namespace Ln
def kI (y : Int) : Lit := .int .i64 y
theorem kI_inj {y y' : Int} (h : kI y = kI y') : y = y' := by unfold kI at h; injection h
/-- A point is put in. -/
def adi (S : List Int) (p : Int) : List Int := if p ∈ S then S else S ++ [p]
theorem nodup_adi {S : List Int} (h : S.Nodup) (p : Int) : (adi S p).Nodup := by
  unfold adi
  split
  · exact h
  · rename_i hp
    rw [List.nodup_append]
    exact ⟨h, by simp, fun a ha b hb => by simp at hb; subst hb; exact fun e => hp (e ▸ ha)⟩
theorem mem_adi (S : List Int) (p q : Int) : q ∈ adi S p ↔ q ∈ S ∨ q = p := by
  unfold adi
  split
  · rename_i hp
    constructor
    · exact .inl
    · rintro (h | h)
      · exact h
      · exact h ▸ hp
  · simp
theorem length_adi (S : List Int) (p : Int) : (adi S p).length ≤ S.length + 1 := by
  unfold adi
  split
  · omega
  · simp

/-- The map of block b has the points S, none twice. -/
def Si (w : World) (b : Nat) (S : List Int) : Prop := ∃ D : DataW Unit, w.ownsMap Tryz.prog 3 unitElem b S.length D ∧ Maps.size D = S.length ∧ S.Nodup ∧ (∀ p ∈ S, In64 p) ∧ (∀ p ∈ S, Maps.has D (kI p) = true) ∧ (∀ q, Maps.has D q = true → ∃ p ∈ S, q = kI p)
theorem tightI {w : World} {b n : Nat} {D : DataW Unit} (h : w.ownsMap Tryz.prog 3 unitElem b n D) : w.ownsMap Tryz.prog 3 unitElem b (Maps.size D) D := by
  obtain ⟨es, clock, h1, h2, h3, h4⟩ := h
  refine ⟨es, clock, h1, h2, ?_, h4⟩
  rw [h4, Maps.size_eq, length_read]
  exact Nat.le_refl _
theorem Si.kept {w w' : World} {b : Nat} {S : List Int} {r : Option Nat} (h : Si w b S) (hg : w.grownBy w' r) (hne : some b ≠ r) : Si w' b S := by
  obtain ⟨D, h1, h2⟩ := h
  exact ⟨D, h1.kept hg hne, h2⟩
theorem Si.lt {w : World} {b : Nat} {S : List Int} (h : Si w b S) : b < w.heap.size := by
  obtain ⟨D, h1, h2⟩ := h
  exact h1.lt
theorem Si.made (w : World) : Si (w.alloc (.map #[] 0)) w.heap.size [] := ⟨.map [], World.ownsMap_made _ _ _ _, rfl, List.nodup_nil, fun p h => by simp at h, fun p h => by simp at h, fun q h => by cases h⟩
theorem Si.has {S : List Int} {D : DataW Unit} (h1 : ∀ p ∈ S, In64 p) (h2 : ∀ p ∈ S, Maps.has D (kI p) = true) (h3 : ∀ q, Maps.has D q = true → ∃ p ∈ S, q = kI p) {p : Int} (hp : In64 p) : Maps.has D (kI p) = decide (p ∈ S) := by
  by_cases h : p ∈ S
  · rw [h2 p h]; simp [h]
  · cases hq : Maps.has D (kI p) with
    | false => simp [h]
    | true =>
      obtain ⟨y, hy, e⟩ := h3 _ hq
      exact absurd (kI_inj e ▸ hy) h
/-- Behind a store. -/
theorem iput_facts {S : List Int} {D : DataW Unit} {p : Int} (hp : In64 p) (hT : Maps.Tidy D) (s : Maps.size D = S.length) (h1 : ∀ p ∈ S, In64 p) (h2 : ∀ p ∈ S, Maps.has D (kI p) = true) (h3 : ∀ q, Maps.has D q = true → ∃ p ∈ S, q = kI p) : Maps.size (D.put (kI p) (.agg [])) = (adi S p).length ∧ (∀ q ∈ adi S p, Maps.has (D.put (kI p) (.agg [])) (kI q) = true) ∧ (∀ q, Maps.has (D.put (kI p) (.agg [])) q = true → ∃ y ∈ adi S p, q = kI y) := by
  have hh := Si.has h1 h2 h3 hp
  refine ⟨?_, fun q hq => ?_, fun q hq => ?_⟩
  · rw [Maps.size_put hT, hh, s]
    unfold adi
    by_cases h : p ∈ S
    · simp [h]
    · simp [h]
  · by_cases e : kI q = kI p
    · rw [e]; exact Maps.has_put_same hT.isMap (lawI.key (keyI hp)) _
    · rw [Maps.has_put_other e]
      rcases (mem_adi S p q).1 hq with h | h
      · exact h2 q h
      · exact absurd (h ▸ rfl) e
  · by_cases e : q = kI p
    · exact ⟨p, (mem_adi S p p).2 (.inr rfl), e⟩
    · rw [Maps.has_put_other e] at hq
      obtain ⟨y, hy, e'⟩ := h3 q hq
      exact ⟨y, (mem_adi S p y).2 (.inl hy), e'⟩
theorem Si.put {w : World} {b n : Nat} {S : List Int} {D : DataW Unit} {p : Int} (hp : In64 p) (hT : Maps.Tidy D) (own : w.ownsMap Tryz.prog 3 unitElem b n (D.put (kI p) (.agg []))) (s : Maps.size D = S.length) (nd : S.Nodup) (h1 : ∀ p ∈ S, In64 p) (h2 : ∀ p ∈ S, Maps.has D (kI p) = true) (h3 : ∀ q, Maps.has D q = true → ∃ p ∈ S, q = kI p) : Si w b (adi S p) ∧ Maps.size (D.put (kI p) (.agg [])) = (adi S p).length := by
  obtain ⟨hs, k2, k3⟩ := iput_facts hp hT s h1 h2 h3
  exact ⟨⟨_, hs ▸ tightI own, hs, nodup_adi nd p, fun q hq => ((mem_adi S p q).1 hq).elim (h1 q) (fun h => h ▸ hp), k2, k3⟩, hs⟩

theorem underS : Tryz.prog.underlying 97 = some (.map 3 71) := by kernel_rfl
theorem mkS (w : World) : (Instr.makeMap 97 none).run Tryz.prog w = .ok (.map (some w.heap.size)) (w.alloc (.map #[] 0)) := by
  simp [Instr.makeMap, asInt, asIntOf]
/-- The keys of a map of numbers. -/
structure Kd (D : DataW Value) (Ks : List Int) : Prop where
  nd : Ks.Nodup
  ok : ∀ y ∈ Ks, In64 y
  has : ∀ y ∈ Ks, Maps.has D (kI y) = true
  all : ∀ q, Maps.has D q = true → ∃ y ∈ Ks, q = kI y
/-- Which keys have come. -/
structure Ci (S dn : List Int) (left : Lit → Bool) : Prop where
  nd : dn.Nodup
  sub : ∀ p ∈ dn, p ∈ S ∧ left (kI p) = false
  all : ∀ p ∈ S, left (kI p) = false → p ∈ dn
theorem Ci.start {S : List Int} {left : Lit → Bool} (h : ∀ p ∈ S, left (kI p) = true) : Ci S [] left := ⟨List.nodup_nil, fun p hp => by simp at hp, fun p hp h' => by rw [h p hp] at h'; cases h'⟩
theorem kI_same (p : Int) : (kI p).sameKey (kI p) = true := by simp [kI, Lit.sameKey]
theorem Ci.next {S dn : List Int} {left : Lit → Bool} (h : Ci S dn left) {p : Int} (hp : p ∈ S) (hl : left (kI p) = true) : Ci S (p :: dn) (fun z => left z && !z.sameKey (kI p)) := by
  have hnp : p ∉ dn := fun hh => by have := (h.sub p hh).2; rw [hl] at this; cases this
  refine ⟨List.nodup_cons.2 ⟨hnp, h.nd⟩, fun q hq => ?_, fun q hq hf => ?_⟩
  · rcases List.mem_cons.1 hq with rfl | hq
    · exact ⟨hp, by simp [kI_same]⟩
    · exact ⟨(h.sub q hq).1, by simp [(h.sub q hq).2]⟩
  · by_cases e : q = p
    · exact e ▸ List.mem_cons_self
    · have hne : kI q ≠ kI p := fun ee => e (kI_inj ee)
      simp only [Maps.sameKey_ne hne, Bool.not_false, Bool.and_true] at hf
      exact List.mem_cons_of_mem _ (h.all q hq hf)
theorem Ci.done {S dn : List Int} {left : Lit → Bool} (h : Ci S dn left) (hS : S.Nodup) (hl : ∀ l, left l = false) : dn.Perm S := (List.perm_ext_iff_of_nodup h.nd hS).2 (fun q => ⟨fun hq => (h.sub q hq).1, fun hq => h.all q hq (hl _)⟩)
end Ln
end Go.Proofs.YtbmpiddjakdebaaGreat
namespace Go.Proofs.YtbmpiddjakdebaaGreat
open Go.RowKit
set_option linter.unusedVariables false
set_option linter.unusedSimpArgs false
set_option maxRecDepth 100000

namespace Ln
/-- The row to which a move takes a row. -/
def rcY (k x y t z : Int) (f : Nat → Pt) (r : Int) (j : Nat) : Int := (cellP k x y t z ((f j).1, r + (f j).2)).2
/-- T has the rows to which those of S come by the first m moves. -/
def Rc (k x y t z : Int) (f : Nat → Pt) (m : Nat) (S T : List Int) : Prop := ∀ q, q ∈ T ↔ ∃ r ∈ S, ∃ j, j < m ∧ q = rcY k x y t z f r j
def adR (T : List Int) (F : Nat → Int) : Nat → List Int
  | 0 => T
  | j + 1 => adi (adR T F j) (F j)
theorem adR_mem (T : List Int) (F : Nat → Int) (q : Int) : ∀ j, q ∈ adR T F j ↔ q ∈ T ∨ ∃ i, i < j ∧ q = F i
  | 0 => by simp [adR]
  | j + 1 => by
    show q ∈ adi (adR T F j) (F j) ↔ _
    rw [mem_adi, adR_mem T F q j]
    constructor
    · rintro ((h | ⟨i, hi, e⟩) | e)
      · exact .inl h
      · exact .inr ⟨i, by omega, e⟩
      · exact .inr ⟨j, by omega, e⟩
    · rintro (h | ⟨i, hi, e⟩)
      · exact .inl (.inl h)
      · by_cases hij : i = j
        · exact .inr (hij ▸ e)
        · exact .inl (.inr ⟨i, by omega, e⟩)
theorem Rc.more {k x y t z : Int} {f : Nat → Pt} {m : Nat} {S T : List Int} (h : Rc k x y t z f m S T) (r : Int) : Rc k x y t z f m (r :: S) (adR T (rcY k x y t z f r) m) := fun q => by
  rw [adR_mem, h q]
  constructor
  · rintro (⟨r', h1, h2⟩ | ⟨i, hi, e⟩)
    · exact ⟨r', List.mem_cons_of_mem _ h1, h2⟩
    · exact ⟨r, List.mem_cons_self, i, hi, e⟩
  · rintro ⟨r', h1, h2⟩
    rcases List.mem_cons.1 h1 with rfl | h1
    · exact .inr h2
    · exact .inl ⟨r', h1, h2⟩
theorem Rc.perm {k x y t z : Int} {f : Nat → Pt} {m : Nat} {S S' T : List Int} (h : Rc k x y t z f m S T) (hp : S.Perm S') : Rc k x y t z f m S' T := fun q => by
  rw [h q]
  constructor
  · rintro ⟨p, h1, h2⟩; exact ⟨p, hp.mem_iff.1 h1, h2⟩
  · rintro ⟨p, h1, h2⟩; exact ⟨p, hp.mem_iff.2 h1, h2⟩
/-- Numbers no further than 65536. -/
def Nr (T : List Int) : Prop := ∀ q ∈ T, -65536 ≤ q ∧ q ≤ 65536
theorem len_subI : ∀ (dn S : List Int), dn.Nodup → (∀ q ∈ dn, q ∈ S) → dn.length ≤ S.length
  | [], S, _, _ => Nat.zero_le _
  | p :: dn, S, hn, hs => by
    have h1 := List.nodup_cons.1 hn
    have hp := hs p List.mem_cons_self
    have := len_subI dn (S.erase p) h1.2 (fun q hq => (List.mem_erase_of_ne (fun (e : q = p) => h1.1 (by rw [← e]; exact hq))).2 (hs q (List.mem_cons_of_mem _ hq)))
    rw [List.length_erase_of_mem hp] at this
    have := List.length_pos_of_mem hp
    simp only [List.length_cons]
    omega
theorem Nr.len {T : List Int} (h : Nr T) (hn : T.Nodup) : T.length ≤ 131073 := by
  have := len_subI T ((List.range 131073).map (fun i : Nat => (i : Int) - 65536)) hn (fun q hq => by
    have := h q hq
    exact List.mem_map.2 ⟨(q + 65536).toNat, List.mem_range.2 (by omega), by omega⟩)
  simpa using this
theorem Nr.adR {T : List Int} (h : Nr T) {F : Nat → Int} (hF : ∀ i, -65536 ≤ F i ∧ F i ≤ 65536) (j : Nat) : Nr (adR T F j) := fun q hq => by
  rcases (adR_mem T F q j).1 hq with h' | ⟨i, _, rfl⟩
  · exact h q h'
  · exact hF i
theorem fldY (a b : Value) (w : World) : (Instr.field 40 (.agg #[a, b]) 1).run Tryz.prog w = .ok b w := by kernel_rfl
set_option maxHeartbeats 4000000 in
theorem reachedC (k x y t z X Y U V : Int) (ac : Bool) (ht : 0 ≤ t) (hB : ∀ p, -65536 ≤ (cellP k x y t z p).1 ∧ (cellP k x y t z p).1 ≤ 65536 ∧ -65536 ≤ (cellP k x y t z p).2 ∧ (cellP k x y t z p).2 ≤ 65536) (b c : Nat) (D : DataW Value) (Ks : List Int) (hK : Kd D Ks) (hKr : Nr Ks) (sp : Option Addr) (m cap : Nat) (f : Nat → Pt) (hf : ∀ j, j < m → (-65536 ≤ (f j).1 ∧ (f j).1 ≤ 65536) ∧ (-65536 ≤ (f j).2 ∧ (f j).2 ≤ 65536)) (hm : m < 1000000000) (w : World) (own : w.ownsMap Tryz.prog 3 hdR b c D) (h : Pl w sp m f) :
    Calls Tryz.prog 60 #[.agg #[.int .u8 k, .int .i64 x, .int .i64 y, .int .u8 t, .int .i64 z, .int .i64 X, .int .i64 Y, .int .i64 U, .int .i64 V, .bool ac], .map (some b), .slice sp m cap] w fun e w' => ∃ b' T, e = .returned (.map (some b')) ∧ Si w' b' T ∧ Rc k x y t z f m Ks T ∧ Nr T ∧ w.heap.size ≤ b' ∧ w.grownBy w' none := by
  obtain ⟨W1, hW1, sz1, g1, B1⟩ := boxn w #[.int .u8 k, .int .i64 x, .int .i64 y, .int .u8 t, .int .i64 z, .int .i64 X, .int .i64 Y, .int .i64 U, .int .i64 V, .bool ac] 62
  have hmk := mkS W1
  have M1 := Si.made W1
  obtain ⟨W2, hW2⟩ : ∃ W2, W1.alloc (.map #[] 0) = W2 := ⟨_, rfl⟩
  have g2 : W1.grownBy W2 none := (by rw [← hW2]; exact World.grownBy_alloc _ _ _)
  have hs2 : W1.heap.size < W2.heap.size := (by rw [← hW2]; simp)
  rw [hW2] at M1 hmk
  clear hW2
  have B2 := B1.kept g2 (by simp)
  have lB := B1.lt
  have lb := own.lt
  have G12 := gb_trans g1 g2
  have own2 := own.kept G12 (by simp)
  go_enter Tryz.func60, Tryz.ntmps60
  go_wp2_with (first | (at_range; refine wpList_range_own _ rfl _ 96 rfl 3 24 lawI underR _ b _ D rfl own2 ?_; intro w0 hrg0 hg0 hs0) | go_in)
  go_frame
  have hall : ∀ p ∈ Ks, Maps.has D (kI p) = true := hK.has
  have nbr : b ≠ W1.heap.size := by omega
  have nrb : W2.heap.size ≠ W1.heap.size := by omega
  clear hmk
  go_loopw [8] (fun _ wr => ∃ (left : Lit → Bool) (cnt : Nat) (T dn : List Int), wr.ranges Tryz.prog 3 hdR b W2.heap.size c D left cnt ∧ Si wr W1.heap.size T ∧ Bo wr w.heap.size 62 #[.int .u8 k, .int .i64 x, .int .i64 y, .int .u8 t, .int .i64 z, .int .i64 X, .int .i64 Y, .int .i64 U, .int .i64 V, .bool ac] ∧ w.grownBy wr none ∧ Ci Ks dn left ∧ Hid (Rc k x y t z f m dn T) ∧ Hid (Nr T)) (fun _ wr => wr.rangeLeft b W2.heap.size)
  case atStart => exact ⟨_, _, [], [], hrg0, M1.kept hg0 (by simp), B2.kept hg0 (by simp), gb_trans G12 hg0, Ci.start hall, (fun q => by simp), (fun q hq => by cases hq)⟩
  case round =>
    obtain ⟨left, cnt, T, dn, hrg, MT, Bj, Gw, hC, HT, HN⟩ := hrel
    go_wp2_with (first | (at_next; refine wpList_next_ranges (α := Int) (β := Value) _ rfl _ rfl 3 lawI _ (fun p => .int .i64 p) (fun v => v) (fun key l hk => by obtain ⟨x, e, _⟩ := Maps.keyOf_int_inv underI hk; exact ⟨x, e⟩) (fun v y hv => ⟨v, rfl⟩) b W2.heap.size c D left cnt rfl hrg ?_ ?_) | go_in)
    · intro hc0 hl0
      have hperm := hC.done hK.nd hl0
      have HP : Hid (Rc k x y t z f m Ks T) := HT.out.perm hperm
      clear hperm hC
      go_wp2
      go_ret
      exact ⟨_, T, rfl, MT, HP.out, HN.out, g1.size, Gw⟩
    · intro yk vv l yd yp w3 cnt1 hkey hlk hv hat hrg1 hlt hg1 hsw hen
      try dsimp only at hkey hen ⊢
      obtain ⟨r, hrS, rfl⟩ := hK.all _ (Maps.has_true_of_atKey hat)
      have hr := hK.ok r hrS
      have hkv : (.int .i64 yk : Value) = .int .i64 r := lawI.inj hkey (keyI hr)
      have hyr : yk = r := by injection hkv
      subst hyr
      clear hkv hkey hv hat hr
      have hrb := hKr yk hrS
      have hC1 := hC.next hrS hlk
      have HC1 : Hid (Ci Ks (yk :: dn) (fun z => left z && !z.sameKey (kI yk))) := hC1
      have HT1 : Hid (Rc k x y t z f m (yk :: dn) (adR T (rcY k x y t z f yk) m)) := HT.out.more yk
      have HN1 : Hid (∀ j, Nr (adR T (rcY k x y t z f yk) j)) := fun j => HN.out.adR (fun i => (hB _).2.2) j
      have hr2 := hrg.lt
      have hG1 : w.grownBy w3 none := Gw.andThen hg1 (fun j hj => .inl (by injection hj with hj; omega))
      have MT1 := MT.kept hg1 (fun e => by injection e with e; omega)
      have Bj1 := Bj.kept hg1 (fun e => by injection e with e; omega)
      have hlt2 : Hid (cnt1 < cnt) := hlt
      have hrgl : Hid (wr.rangeLeft b W2.heap.size = cnt) := hrg.left_eq
      obtain ⟨F, hF⟩ : ∃ F, rcY k x y t z f yk = F := ⟨_, rfl⟩
      have HF : Hid (∀ j, F j = (cellP k x y t z ((f j).1, yk + (f j).2)).2) := fun j => by rw [← hF]; rfl
      rw [hF] at HT1 HN1
      clear hF
      obtain ⟨wo, hwo⟩ : ∃ W, W = wr := ⟨_, rfl⟩
      subst hwo
      clear hC hC1 hrg hlt MT Bj HT HN
      go_wp2
      clear hen
      go_loopw [20] (fun v wr' => ∃ j : Nat, j ≤ m ∧ v = .int .i64 j ∧ Si wr' W1.heap.size (adR T F j) ∧ wr'.ranges Tryz.prog 3 hdR b W2.heap.size c D (fun z => left z && !z.sameKey (kI yk)) cnt1 ∧ Bo wr' w.heap.size 62 #[.int .u8 k, .int .i64 x, .int .i64 y, .int .u8 t, .int .i64 z, .int .i64 X, .int .i64 Y, .int .i64 U, .int .i64 V, .bool ac] ∧ w.grownBy wr' none) (fun v _ => m - (intOf v).toNat)
      case atStart => exact ⟨0, Nat.zero_le _, rfl, MT1, hrg1, Bj1, hG1⟩
      case round =>
        obtain ⟨j, hj, rfl, Mj, rj, Bq, gj⟩ := hrel
        by_cases hjm : j < m
        · have hjm' : (j : Int) < (m : Int) := by omega
          obtain ⟨q, o, rfl, c0, c1⟩ := (h.kept gj (by simp)) j hjm
          have hfj := hf j hjm
          have HFj := HF.out j
          have HS : Hid (adR T F (j + 1) = adi (adR T F j) (F j)) := rfl
          have hndj : (adR T F j).Nodup := by obtain ⟨_, _, _, h3, _⟩ := Mj; exact h3
          have hlenj := (HN1.out j).len hndj
          obtain ⟨p, hp⟩ : ∃ p, f j = p := ⟨_, rfl⟩
          rw [hp] at c0 c1 hfj HFj
          clear hp hndj
          obtain ⟨a, d⟩ := p
          simp only at hfj HFj
          have w1 : IntKind.i64.wrap (yk + d) = yk + d := by rw [IntKind.wrap_i64]; omega
          have kc := fun w1 => cellTC k x y t z X Y U V ac a (yk + d) ht w1
          rw [ceV_is] at kc
          have hBj := hB (a, yk + d)
          obtain ⟨fs, hfs⟩ : ∃ fs, cellP k x y t z (a, yk + d) = fs := ⟨_, rfl⟩
          rw [hfs] at kc HFj hBj
          clear hfs
          obtain ⟨fa, fb⟩ := fs
          simp only at kc HFj hBj
          rw [HFj] at HS
          clear HFj
          have hfb : In64 fb := ⟨by omega, by omega⟩
          have KY := keyI hfb
          obtain ⟨W3, hW3, sz3, g3, B3⟩ := boxn wr #[.int .i64 a, .int .i64 d] 40
          have d0 := B3.cell 0 (v := .int .i64 a) rfl
          have d1 := B3.cell 1 (v := .int .i64 d) rfl
          have Bq3 := Bq.kept g3 (by simp)
          have e0 := Bq3.cell 0 (v := .int .u8 k) rfl; have e1 := Bq3.cell 1 (v := .int .i64 x) rfl; have e2 := Bq3.cell 2 (v := .int .i64 y) rfl; have e3 := Bq3.cell 3 (v := .int .u8 t) rfl; have e4 := Bq3.cell 4 (v := .int .i64 z) rfl; have e5 := Bq3.cell 5 (v := .int .i64 X) rfl; have e6 := Bq3.cell 6 (v := .int .i64 Y) rfl; have e7 := Bq3.cell 7 (v := .int .i64 U) rfl; have e8 := Bq3.cell 8 (v := .int .i64 V) rfl; have e9 := Bq3.cell 9 (v := .bool ac) rfl
          have hfd := fun w => fldY (.int .i64 fa) (.int .i64 fb) w
          go_wp2_with (first | (go_at_call 74; refine (kc _).mono ?_; rintro e w4 ⟨rfl, g4⟩; obtain ⟨D4, A1, A2, A3, A4, A5, A6⟩ := (Mj.kept g3 (by simp)).kept g4 (by simp)) | (at_mapUpdate; refine wpList_mapUpdate_own _ rfl _ _ _ 97 rfl 3 71 lawI underS _ _ _ _ rfl A1 (by unfold maxLen; omega) _ _ _ rfl rfl KY _ [] unitElem_mk ?_; intro w5 own5 g5; obtain ⟨P5, _⟩ := Si.put (p := fb) hfb (A1.tidy lawI) own5 A2 A3 A4 A5 A6; refine Hid.out ?_) | go_in)
          refine Lib.hid ?_
          have G5 : w.grownBy w5 none := (gb_trans gj (gb_trans g3 g4)).andThen g5 (fun j hj => .inl (by injection hj with hj; omega))
          have r5 := ((rj.kept g3 (by simp) (by simp)).kept g4 (by simp) (by simp)).kept g5 (by simpa using nbr) (by simpa using nrb)
          have B5 := (Bq3.kept g4 (by simp)).kept g5 (fun e => by have e := Option.some.inj e; omega)
          clear own5 g5 A1 A2 A3 A4 A5 A6 kc
          go_wp2
          go_roundw
          case rel => exact ⟨j + 1, by omega, by go_num, by rw [HS.out]; exact P5, r5, B5, G5⟩
          case measure => simp [intOf]; omega
        · have hjn : j = m := by omega
          subst hjn
          have hjm' : ¬ (j : Int) < (j : Int) := by omega
          go_wp2
          go_roundw
          case rel => exact ⟨_, cnt1, adR T F j, yk :: dn, rj, Mj, Bq, gj, HC1.out, HT1.out, HN1.out j⟩
          case measure =>
            have h9 := rj.left_eq
            have := hrgl.out
            have := hlt2.out
            omega
end Ln
end Go.Proofs.YtbmpiddjakdebaaGreat
namespace Go.Proofs.YtbmpiddjakdebaaGreat
open Go.RowKit
set_option linter.unusedVariables false
set_option linter.unusedSimpArgs false
set_option maxRecDepth 100000

namespace Ln
def upV (V : Int → Value) (y : Int) (v : Value) (y' : Int) : Value := if y' = y then v else V y'
def upP (P : Int → List Pt) (p : Pt) (y' : Int) : List Pt := if y' = p.2 then P y' ++ [p] else P y'
theorem Gm.made (w : World) : Gm (w.alloc (.map #[] 0)) (w.alloc (.map #[] 0)).heap.size w.heap.size 0 (fun _ => nilS) (fun _ => []) (.map []) :=
  ⟨World.ownsMap_made _ _ _ _, fun y _ => rfl, fun y => World.ownsRow_nil _ _ _ _, fun y y' g h => (by cases h), (by simp)⟩
theorem Kd.made : Kd (.map []) [] := ⟨List.nodup_nil, fun y h => (by cases h), fun y h => (by cases h), fun q h => (by cases h)⟩
theorem Kd.put {D : DataW Value} {Ks : List Int} (h : Kd D Ks) (hT : Maps.Tidy D) {y : Int} (hy : In64 y) (d : DataW Value) : Kd (D.put (kI y) d) (adi Ks y) := by
  refine ⟨nodup_adi h.nd y, fun q hq => ?_, fun q hq => ?_, fun q hq => ?_⟩
  · rcases (mem_adi Ks y q).1 hq with h' | rfl
    · exact h.ok q h'
    · exact hy
  · by_cases e : kI q = kI y
    · rw [e]; exact Maps.has_put_same hT.isMap (lawI.key (keyI hy)) _
    · rw [Maps.has_put_other e]
      rcases (mem_adi Ks y q).1 hq with h' | h'
      · exact h.has q h'
      · exact absurd (h' ▸ rfl) e
  · by_cases e : q = kI y
    · exact ⟨y, (mem_adi Ks y y).2 (.inr rfl), e⟩
    · rw [Maps.has_put_other e] at hq
      obtain ⟨y', hy', e'⟩ := h.all q hq
      exact ⟨y', (mem_adi Ks y y').2 (.inl hy'), e'⟩
/-- Behind an append onto a row and the store of its slice. -/
theorem Gm.push {w w3 w4 w5 : World} {base b c : Nat} {V : Int → Value} {P : Int → List Pt} {D : DataW Value} (h : Gm w base b c V P D) {p : Pt} (hp : In64 p.2) (g3 : w.grownBy w3 none) (g4 : w3.grownBy w4 (V p.2).ownBlock) {g n cap c' : Nat} (own4 : w4.ownsRow base 40 2 (.slice (some ⟨g, 0, none⟩) n cap) n (fl (P p.2 ++ [p]))) (hn : (P p.2 ++ [p]).length = n) (hat : (V p.2).ownBlock = some g ∨ w.heap.size ≤ g) (g5 : w4.grownBy w5 (some b)) (own5 : w5.ownsMap Tryz.prog 3 hdR b c' (D.put (kI p.2) (.held (.slice (some ⟨g, 0, none⟩) n cap)))) :
    Gm w5 base b c' (upV V p.2 (.slice (some ⟨g, 0, none⟩) n cap)) (upP P p) (D.put (kI p.2) (.held (.slice (some ⟨g, 0, none⟩) n cap))) := by
  have hT := h.own.tidy lawI
  have hlb := h.lb
  have hgl := own4.lt g rfl
  have hold : ∀ y' gg, (V y').ownBlock = some gg → base ≤ gg ∧ gg < w.heap.size := fun y' gg e => (h.row y').lt gg e
  refine ⟨own5, fun y' hy' => ?_, fun y' => ?_, fun y1 y2 gg e1 e2 => ?_, hlb⟩
  · unfold upV
    by_cases e : y' = p.2
    · rw [if_pos e, e]
      exact Maps.atKey_put_same hT.isMap (lawI.key (keyI hp)) _ _
    · rw [if_neg e]
      have hne : kI y' ≠ kI p.2 := fun ee => e (kI_inj ee)
      exact (Maps.atKey_put_other hne _ _).trans (h.at_ y' hy')
  · unfold upV upP
    by_cases e : y' = p.2
    · rw [if_pos e, if_pos e, e, hn]
      exact own4.kept g5 (.inr (fun ee => by have ee : g = b := Option.some.inj ee; omega))
    · rw [if_neg e, if_neg e]
      have r3 := (h.row y').kept g3 (Classical.em _)
      have r4 := r3.kept g4 (by
        cases hv : (V y').ownBlock with
        | none => exact .inl rfl
        | some gg => exact .inr (fun ee => e (h.one y' p.2 gg hv ee.symm)))
      refine r4.kept g5 ?_
      cases hv : (V y').ownBlock with
      | none => exact .inl rfl
      | some gg => exact .inr (fun ee => by have ee : gg = b := Option.some.inj ee; have := hold y' gg hv; omega)
  · unfold upV at e1 e2
    by_cases h1 : y1 = p.2 <;> by_cases h2 : y2 = p.2
    · rw [h1, h2]
    · rw [if_pos h1] at e1
      rw [if_neg h2] at e2
      have e1 : g = gg := Option.some.inj e1
      subst e1
      rcases hat with hh | hh
      · exact h1.trans (h.one p.2 y2 g hh e2)
      · have := hold y2 g e2; omega
    · rw [if_neg h1] at e1
      rw [if_pos h2] at e2
      have e2 : g = gg := Option.some.inj e2
      subst e2
      rcases hat with hh | hh
      · exact (h.one y1 p.2 g e1 hh).trans h2.symm
      · have := hold y1 g e1; omega
    · rw [if_neg h1] at e1
      rw [if_neg h2] at e2
      exact h.one y1 y2 gg e1 e2
/-- The points of a row. -/
def psF (f : Nat → Pt) : Nat → Int → List Pt
  | 0 => fun _ => []
  | i + 1 => upP (psF f i) (f i)
theorem psF_mem (f : Nat → Pt) (q : Pt) (y : Int) : ∀ i, q ∈ psF f i y ↔ q.2 = y ∧ ∃ j, j < i ∧ q = f j
  | 0 => by simp [psF]
  | i + 1 => by
    show q ∈ upP (psF f i) (f i) y ↔ _
    unfold upP
    by_cases e : y = (f i).2
    · rw [if_pos e, List.mem_append, psF_mem f q y i]
      constructor
      · rintro (⟨h1, j, hj, e'⟩ | h)
        · exact ⟨h1, j, by omega, e'⟩
        · have : q = f i := by simpa using h
          exact ⟨by rw [this, e], i, by omega, this⟩
      · rintro ⟨h1, j, hj, e'⟩
        by_cases hij : j = i
        · subst hij; exact .inr (by simp [e'])
        · exact .inl ⟨h1, j, by omega, e'⟩
    · rw [if_neg e, psF_mem f q y i]
      constructor
      · rintro ⟨h1, j, hj, e'⟩; exact ⟨h1, j, by omega, e'⟩
      · rintro ⟨h1, j, hj, e'⟩
        by_cases hij : j = i
        · subst hij; exact absurd (by rw [← h1, e']) e
        · exact ⟨h1, j, by omega, e'⟩
theorem psF_len (f : Nat → Pt) (y : Int) : ∀ i, (psF f i y).length ≤ i
  | 0 => Nat.le_refl _
  | i + 1 => by
    have := psF_len f y i
    show (upP (psF f i) (f i) y).length ≤ _
    unfold upP
    split
    · rw [List.length_append]; simp; omega
    · omega
end Ln
end Go.Proofs.YtbmpiddjakdebaaGreat
