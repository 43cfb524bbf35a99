/- halve, halved. -/
import Derived.Test.YtbmpiddjakdebaaGreatNa
import Derived.Laws.MakeOwn
import Derived.Deep.RegionHeld2
import Derived.Test.YtbmpiddjakdebaaGreatNc
import Derived.Maps.OwnOps
namespace Go.Proofs.YtbmpiddjakdebaaGreat
open Go.RowKit
set_option linter.unusedVariables false
set_option linter.unusedSimpArgs false
set_option maxRecDepth 100000

namespace Ln
theorem two_up {a : Int} (h : 0 ≤ a.tmod 2) : a.tmod 2 = a % 2 ∧ a.tdiv 2 = a / 2 := by
  have h1 := Int.mul_tdiv_add_tmod a 2
  have h2 := Int.tmod_lt_of_pos a (show (0:Int) < 2 by omega)
  omega
theorem two_down {a : Int} (h : a.tmod 2 < 0) : a.tmod 2 + 2 = a % 2 ∧ a.tdiv 2 - 1 = a / 2 := by
  have h1 := Int.mul_tdiv_add_tmod a 2
  have h2 := Int.lt_tmod_of_pos a (show (0:Int) < 2 by omega)
  omega
theorem mod2C (a : Int) (w : World) : Calls Tryz.prog 77 #[.int .i64 a, .int .i64 2] w fun e w' => e = .returned (.tuple #[.int .i64 (a % 2), .bool true]) ∧ w' = w := by
  by_cases hm : a.tmod 2 < 0
  · have hb := Int.lt_tmod_of_pos a (show (0:Int) < 2 by omega)
    rw [← (two_down hm).1]
    go_enter Tryz.func77, Tryz.ntmps77
    go_wp2
    go_ret2
    exact ⟨rfl, rfl⟩
  · have hm1 : 0 ≤ a.tmod 2 := by omega
    rw [← (two_up hm1).1]
    clear hm
    go_enter Tryz.func77, Tryz.ntmps77
    go_wp2
    go_ret2
    exact ⟨rfl, rfl⟩
theorem div2C (a : Int) (ha : -9223372036854775808 ≤ a ∧ a ≤ 9223372036854775807) (w : World) : Calls Tryz.prog 80 #[.int .i64 a, .int .i64 2] w fun e w' => e = .returned (.tuple #[.int .i64 (a / 2), .bool true]) ∧ w' = w := by
  by_cases hm : a.tmod 2 < 0
  · have hb := Int.lt_tmod_of_pos a (show (0:Int) < 2 by omega)
    have hd := (two_down hm).2
    have hq : -4611686018427387904 ≤ a.tdiv 2 ∧ a.tdiv 2 ≤ 4611686018427387904 := by omega
    rw [← hd]
    have w1 : IntKind.i64.wrap (a.tdiv 2) = a.tdiv 2 := by rw [IntKind.wrap_i64]; omega
    have w2 : IntKind.i64.wrap (a.tdiv 2 - 1) = a.tdiv 2 - 1 := by rw [IntKind.wrap_i64]; omega
    clear hd
    go_enter Tryz.func80, Tryz.ntmps80
    go_wp2
    go_ret2
    exact ⟨rfl, rfl⟩
  · have hm1 : 0 ≤ a.tmod 2 := by omega
    have hd := (two_up hm1).2
    have hq : -4611686018427387904 ≤ a.tdiv 2 ∧ a.tdiv 2 ≤ 4611686018427387904 := by omega
    rw [← hd]
    have w1 : IntKind.i64.wrap (a.tdiv 2) = a.tdiv 2 := by rw [IntKind.wrap_i64]; omega
    clear hm hd
    go_enter Tryz.func80, Tryz.ntmps80
    go_wp2
    go_ret2
    exact ⟨rfl, rfl⟩
theorem halveC (a : Int) (ha : -9223372036854775808 ≤ a ∧ a ≤ 9223372036854775807) (w : World) : Calls Tryz.prog 67 #[.int .i64 a] w fun e w' => e = .returned (.tuple #[.int .i64 (a / 2), .int .i64 (a % 2)]) ∧ w' = w := by
  have h1 := div2C a ha w
  have h2 := mod2C a w
  generalize a / 2 = q at h1 ⊢
  generalize a % 2 = r at h2 ⊢
  go_enter Tryz.func67, Tryz.ntmps67
  go_wp2_with (first | (go_at_call 80; refine h1.mono ?_; rintro e w' ⟨rfl, rfl⟩) | (go_at_call 77; refine h2.mono ?_; rintro e w' ⟨rfl, rfl⟩) | go_in)
  go_ret2
  exact ⟨rfl, rfl⟩
/-- The half of a place of the line. -/
def hfp (p : Pt) : Pt := (p.1 / 2, 0)
/-- T has the halves of those of S whose rest is r. -/
def Hv (S : List Pt) (r : Int) (T : List Pt) : Prop := ∀ q, q ∈ T ↔ ∃ p ∈ S, p.1 % 2 = r ∧ q = hfp p
theorem Hv.nil (r : Int) : Hv [] r [] := fun q => by simp
theorem Hv.skip {S T : List Pt} {r : Int} (h : Hv S r T) {p : Pt} (hp : p.1 % 2 ≠ r) : Hv (p :: S) r T := fun q => by
  rw [h q]
  constructor
  · rintro ⟨p', h1, h2⟩; exact ⟨p', List.mem_cons_of_mem _ h1, h2⟩
  · rintro ⟨p', h1, h2⟩
    rcases List.mem_cons.1 h1 with rfl | h1
    · exact absurd h2.1 hp
    · exact ⟨p', h1, h2⟩
theorem Hv.more {S T : List Pt} {r : Int} (h : Hv S r T) {p : Pt} (hp : p.1 % 2 = r) : Hv (p :: S) r (adp T (hfp p)) := fun q => by
  rw [mem_adp, h q]
  constructor
  · rintro (⟨p', h1, h2⟩ | e)
    · exact ⟨p', List.mem_cons_of_mem _ h1, h2⟩
    · exact ⟨p, List.mem_cons_self, hp, e⟩
  · rintro ⟨p', h1, h2⟩
    rcases List.mem_cons.1 h1 with rfl | h1
    · exact .inr h2.2
    · exact .inl ⟨p', h1, h2⟩
theorem Hv.perm {S S' T : List Pt} {r : Int} (h : Hv S r T) (hp : S.Perm S') : Hv S' r T := fun q => by
  rw [h q]
  constructor
  · rintro ⟨p, h1, h2⟩; exact ⟨p, hp.mem_iff.1 h1, h2⟩
  · rintro ⟨p, h1, h2⟩; exact ⟨p, hp.mem_iff.2 h1, h2⟩
set_option maxHeartbeats 2000000 in
theorem halvedC (b : Nat) (S : List Pt) (at_ : Int) (ha : -9223372036854775808 ≤ at_ ∧ at_ ≤ 9223372036854775807) (hSl : S.length < 1000000000) (w : World) (F : Sm w b S) :
    Calls Tryz.prog 38 #[.map (some b), .int .i64 at_] w fun e w' => ∃ b' T, e = .returned (.tuple #[.map (some b'), .int .i64 (at_ / 2)]) ∧ Sm w' b' T ∧ Hv S (at_ % 2) T ∧ T.length ≤ S.length ∧ w.heap.size ≤ b' ∧ w.grownBy w' none := by
  obtain ⟨D, F1, F2, F3, F4, F5, F6⟩ := F
  have hh := halveC at_ ha w
  obtain ⟨hf, hhf⟩ : ∃ hf, at_ / 2 = hf := ⟨_, rfl⟩
  obtain ⟨r, hr⟩ : ∃ r, at_ % 2 = r := ⟨_, rfl⟩
  rw [hhf, hr] at hh
  rw [hhf, hr]
  clear hhf hr
  have hmk := mkM w S.length
  have M1 := Sm.made w
  obtain ⟨W1, hW1⟩ : ∃ W1, w.alloc (.map #[] 0) = W1 := ⟨_, rfl⟩
  have g1 : w.grownBy W1 none := (by rw [← hW1]; exact World.grownBy_alloc _ _ _)
  have hs1 : w.heap.size < W1.heap.size := (by rw [← hW1]; simp)
  rw [hW1] at M1 hmk
  clear hW1
  have hb := F1.lt
  have own1 := F1.kept g1 (by simp)
  obtain ⟨c, hc⟩ : ∃ c, S.length = c := ⟨_, rfl⟩
  have HC : Hid (S.length = c) := hc
  rw [hc] at F2 own1 F1 hmk hSl ⊢
  clear hc
  go_enter Tryz.func38, Tryz.ntmps38
  go_wp2_with (first | (go_at_call 67; refine hh.mono ?_; rintro e w' ⟨rfl, hw'⟩; subst w') | (at_len; refine wpList_len_own _ rfl _ 73 rfl 40 71 underM _ b _ D rfl F1 ?_; rw [F2]) | (at_range; refine wpList_range_own _ rfl _ 73 rfl 40 71 lawK underM _ b _ D rfl own1 ?_; intro w0 hrg0 hg0 hs0) | go_in)
  go_frame
  have hall : ∀ p ∈ S, Maps.has D (pk p) = true := F5
  have nbr : b ≠ w.heap.size := by omega
  have nrb : W1.heap.size ≠ w.heap.size := by omega
  clear hmk hh
  go_loopw [10] (fun _ wr => ∃ (left : Lit → Bool) (cnt : Nat) (T dn : List Pt), wr.ranges Tryz.prog 40 unitElem b W1.heap.size c D left cnt ∧ Sm wr w.heap.size T ∧ w.grownBy wr none ∧ Cm S dn left ∧ Hid (Hv dn r T) ∧ T.length ≤ dn.length) (fun _ wr => wr.rangeLeft b W1.heap.size)
  case atStart => exact ⟨_, _, [], [], hrg0, M1.kept hg0 (by simp), gb_trans g1 hg0, Cm.start hall, Hv.nil r, Nat.zero_le _⟩
  case round =>
    obtain ⟨left, cnt, T, dn, hrg, MT, Gw, hC, HT, hTl⟩ := hrel
    go_wp2_with (first | (at_next; refine wpList_next_ranges (α := Int × Int) (β := Unit) _ rfl _ rfl 40 lawK _ (fun p => .agg #[.int .i64 p.1, .int .i64 p.2]) (fun _ => .agg #[]) (fun key l hk => by obtain ⟨x, y, e, _⟩ := (keyOf_is key l).1 hk; exact ⟨(x, y), e⟩) (fun v y hv => ⟨(), (unitElem_inv hv).1⟩) b W1.heap.size c D left cnt rfl hrg ?_ ?_) | go_in)
    · intro hc0 hl0
      have hperm := hC.done F3 hl0
      have HP : Hid (Hv S r T) := HT.out.perm hperm
      have hl2 : T.length ≤ c := by have := hperm.length_eq; have := HC.out; omega
      clear hperm hC
      go_wp2
      go_ret2
      exact ⟨_, T, rfl, MT, HP.out, hl2, Nat.le_refl _, Gw⟩
    · intro x y l yd yp w1 cnt1 hkey hlk hv hat hrg1 hlt hg1 hsw hen
      try dsimp only at hkey hen ⊢
      obtain ⟨p, hpS, rfl⟩ := F6 _ (Maps.has_true_of_atKey hat)
      have hp := F4 p hpS
      have hkv : (.agg #[.int .i64 x, .int .i64 y] : Value) = ptV p := lawK.inj hkey hp.key
      have hxy : x = p.1 ∧ y = p.2 := by simpa [ptV] using hkv
      have hbx : -9223372036854775808 ≤ x ∧ x ≤ 9223372036854775807 := by rw [hxy.1]; exact hp.1
      have HX : Hid (p.1 = x) := hxy.1.symm
      clear hkv hxy hkey hv hat
      have hC1 := hC.next F4 hpS hlk
      have hdl : (p :: dn).length ≤ S.length := hC1.len
      have HC1 : Hid (Cm S (p :: dn) (fun z => left z && !z.sameKey (pk p))) := hC1
      have hTc : T.length < c := by have := HC.out; rw [List.length_cons] at hdl; omega
      have hr2 := hrg.lt
      have hG1 : w.grownBy w1 none := Gw.andThen hg1 (fun j hj => .inl (by injection hj with hj; omega))
      have MT1 := MT.kept hg1 (fun e => by injection e with e; omega)
      obtain ⟨W3, hW3, sz3, g3, B3⟩ := boxn w1 #[.int .i64 x, .int .i64 y] 40
      have hrg3 := hrg1.kept g3 (by simp) (by simp)
      have MT3 := MT1.kept g3 (by simp)
      have hG3 := gb_trans hG1 g3
      rw [hsw] at B3
      have e0 := B3.cell 0 (v := .int .i64 x) rfl
      have hlt2 : Hid (cnt1 < cnt) := hlt
      have hrgl : Hid (wr.rangeLeft b W1.heap.size = cnt) := hrg.left_eq
      have hv1 := halveC x hbx W3
      have hq : PtOk (x / 2, 0) := ⟨⟨by simp only; omega, by simp only; omega⟩, ⟨by simp, by simp⟩⟩
      have KY : keyOf Tryz.prog 40 (.agg #[.int .i64 (x / 2), .int .i64 0]) = some (pk (x / 2, 0)) := hq.key
      have HT' := HT.out
      have HSk : Hid (x % 2 ≠ r → Hv (p :: dn) r T) := fun h => HT'.skip (by rw [HX.out]; exact h)
      have HMo : Hid (x % 2 = r → Hv (p :: dn) r (adp T (x / 2, 0))) := fun h => by
        have := HT'.more (p := p) (by rw [HX.out]; exact h)
        unfold hfp at this
        rw [HX.out] at this
        exact this
      have HLa : Hid ((adp T (x / 2, 0)).length ≤ (p :: dn).length) := by have := length_adp T (x / 2, 0); unfold Hid; rw [List.length_cons]; omega
      have HLb : Hid (T.length ≤ (p :: dn).length) := by unfold Hid; rw [List.length_cons]; omega
      clear HT' hC hrg hrg1 hlt hC1 hdl
      obtain ⟨xh, hxh⟩ : ∃ xh, x / 2 = xh := ⟨_, rfl⟩
      obtain ⟨xr, hxr⟩ : ∃ xr, x % 2 = xr := ⟨_, rfl⟩
      rw [hxh, hxr] at hv1
      rw [hxh] at hq KY HMo HLa
      rw [hxr] at HMo HSk
      clear hxh hxr
      by_cases hrr : xr = r
      · have hrb : (xr == r) = true := by simp [hrr]
        have HM := HMo.out hrr
        have HM2 : Hid (Hv (p :: dn) r (adp T (xh, 0))) := HM
        clear HMo HSk HM hrr
        obtain ⟨D3, A1, A2, A3, A4, A5, A6⟩ := MT3
        go_wp2_with (first | (go_at_call 67; refine hv1.mono ?_; rintro e w' ⟨rfl, hw'⟩; subst w') | (at_mapUpdate; refine wpList_mapUpdate_own _ rfl _ _ _ 73 rfl 40 71 lawK underM _ _ _ _ rfl A1 (by unfold maxLen; omega) _ _ _ rfl rfl KY _ [] unitElem_mk ?_; intro w4 own4 g4; obtain ⟨P4, _⟩ := Sm.put (p := (xh, 0)) hq (A1.tidy lawK) own4 A2 A3 A4 A5 A6; refine Hid.out ?_) | go_in)
        refine Lib.hid ?_
        have G4 : w.grownBy w4 none := hG3.andThen g4 (fun j hj => .inl (by injection hj with hj; omega))
        have r4 := hrg3.kept g4 (by simpa using nbr) (by simpa using nrb)
        clear own4 g4 A1 A2 A3 A4 A5 A6
        go_wp2
        go_roundw
        case rel => exact ⟨_, cnt1, _, p :: dn, r4, P4, G4, HC1.out, HM2, HLa.out⟩
        case measure =>
          have h9 := r4.left_eq
          have := hrgl.out
          have := hlt2.out
          omega
      · have hrb : (xr == r) = false := by simp [hrr]
        have HM2 : Hid (Hv (p :: dn) r T) := HSk.out hrr
        clear HMo HSk hrr
        go_wp2_with (first | (go_at_call 67; refine hv1.mono ?_; rintro e w' ⟨rfl, hw'⟩; subst w') | go_in)
        go_roundw
        case rel => exact ⟨_, cnt1, _, p :: dn, hrg3, MT3, hG3, HC1.out, HM2, HLb.out⟩
        case measure =>
          have h9 := hrg3.left_eq
          have := hrgl.out
          have := hlt2.out
          omega
end Ln
end Go.Proofs.YtbmpiddjakdebaaGreat
namespace Go.Proofs.YtbmpiddjakdebaaGreat
open Go.RowKit
set_option linter.unusedVariables false
set_option linter.unusedSimpArgs false
set_option maxRecDepth 100000

namespace Ln
theorem underPS' : Tryz.prog.underlying 24 = some (.slice 40) := by kernel_rfl
theorem infoK' : (Tryz.prog.info? 40).map (fun i => (i.zero, i.size, i.bytes)) = some (some (.agg #[.int .i64 0, .int .i64 0]), 2, 16) := by kernel_rfl
/-- The cells of points. -/
def ptC (f : Nat → Pt) (c : Nat) : Value := if c % 2 = 0 then .int .i64 (f (c / 2)).1 else .int .i64 (f (c / 2)).2
def upTo (f : Nat → Pt) (k : Nat) (j : Nat) : Pt := if j < k then f j else (0, 0)
theorem makeP (n : Nat) (hn : n ≤ 1000000000) (w : World) : (Instr.makeSlice 24 (.int .i64 (n : Int)) (.int .i64 (n : Int))).run Tryz.prog w = .ok (.slice (some ⟨w.heap.size, 0, none⟩) n n) (w.alloc (.cells (madeCells #[.int .i64 0, .int .i64 0] (n * 2)) 40)) := by
  obtain ⟨i, hi, hzz⟩ := Option.map_eq_some_iff.1 infoK'
  simp only [Prod.mk.injEq] at hzz
  obtain ⟨hz, hs, hb⟩ := hzz
  have hr := run_make (P := Tryz.prog) w 24 40 i _ underPS' hi hz .i64 .i64 n n (by omega) (Int.le_refl _) (by rw [hb]; omega) (by omega)
  simp only [Int.toNat_natCast, hs] at hr
  exact hr
theorem madeP (w : World) (n : Nat) (f : Nat → Pt) : (w.alloc (.cells (madeCells #[.int .i64 0, .int .i64 0] (n * 2)) 40)).rowIs w.heap.size 40 (2 * n) (ptC (upTo f 0)) := by
  refine ⟨_, heap_alloc_new _ _, by rw [size_madeCells]; omega, fun i hi => ?_⟩
  unfold ptC upTo
  have h1 : i < n * 2 := by omega
  rcases Nat.mod_two_eq_zero_or_one i with h | h
  · simp [madeCells, h1, h]
  · simp [madeCells, h1, h]
theorem ptC_step (f : Nat → Pt) (k c : Nat) : (if c = k * 2 + 1 then (.int .i64 (f k).2 : Value) else if c = k * 2 then .int .i64 (f k).1 else ptC (upTo f k) c) = ptC (upTo f (k + 1)) c := by
  unfold ptC upTo
  by_cases h1 : c = k * 2 + 1
  · rw [if_pos h1, if_neg (show ¬ c % 2 = 0 by omega), if_pos (show c / 2 < k + 1 by omega), show c / 2 = k by omega]
  · rw [if_neg h1]
    by_cases h2 : c = k * 2
    · rw [if_pos h2, if_pos (show c % 2 = 0 by omega), if_pos (show c / 2 < k + 1 by omega), show c / 2 = k by omega]
    · rw [if_neg h2]
      by_cases h3 : c / 2 < k
      · rw [if_pos h3, if_pos (show c / 2 < k + 1 by omega)]
      · rw [if_neg h3, if_neg (show ¬ c / 2 < k + 1 by omega)]
theorem pl_row {w : World} {g n : Nat} {f : Nat → Pt} (h : w.rowIs g 40 (2 * n) (ptC (upTo f n))) : Pl w (some ⟨g, 0, none⟩) n f := fun k hk => by
  have c0 := h.cell (i := k * 2) (by omega)
  have c1 := h.cell (i := k * 2 + 1) (by omega)
  unfold ptC upTo at c0 c1
  rw [if_pos (by omega), show k * 2 / 2 = k by omega, if_pos hk] at c0
  rw [if_neg (by omega), show (k * 2 + 1) / 2 = k by omega, if_pos hk] at c1
  exact ⟨g, 0, rfl, by rw [Nat.zero_add]; exact c0, by rw [Nat.zero_add]; exact c1⟩
/-- Ints that can be read. -/
def In (w : World) (sp : Option Addr) (n : Nat) (h : Nat → Int) : Prop := ∀ k, k < n → ∃ q o, sp = some ⟨q, o, none⟩ ∧ w.cell? ⟨q, o + k, none⟩ = some (.int .i64 (h k))
theorem In.kept {w w' : World} {sp : Option Addr} {n : Nat} {f : Nat → Int} {r : Option Nat} (h : In w sp n f) (hg : w.grownBy w' r) (hne : ∀ a, sp = some a → some a.block ≠ r) : In w' sp n f := fun k hk => by
  obtain ⟨q, o, h1, h2⟩ := h k hk
  exact ⟨q, o, h1, hg.cell h2 (hne ⟨q, o, none⟩ h1)⟩
theorem In.lt {w : World} {sp : Option Addr} {n : Nat} {f : Nat → Int} (h : In w sp n f) (k : Nat) (hk : k < n) (a : Addr) (ha : sp = some a) : a.block < w.heap.size := by
  obtain ⟨q, o, h1, h2⟩ := h k hk
  rw [ha] at h1
  cases h1
  exact (World.block_lt_of_cell? w ⟨q, o + k, none⟩ h2 : q < _)
theorem Pl.lt {w : World} {sp : Option Addr} {n : Nat} {f : Nat → Pt} (h : Pl w sp n f) (k : Nat) (hk : k < n) (a : Addr) (ha : sp = some a) : a.block < w.heap.size := by
  obtain ⟨q, o, h1, h2, _⟩ := h k hk
  rw [ha] at h1
  cases h1
  exact (World.block_lt_of_cell? w ⟨q, o + k * 2, none⟩ h2 : q < _)
set_option maxHeartbeats 1000000 in
theorem onLineC (sp : Option Addr) (n cap : Nat) (h : Nat → Int) (hn : n ≤ 1000000000) (w : World) (H : In w sp n h) :
    Calls Tryz.prog 33 #[.slice sp n cap] w fun e w' => ∃ g, e = .returned (.slice (some ⟨g, 0, none⟩) n n) ∧ w'.rowIs g 40 (2 * n) (ptC (upTo (fun k => (h k, 0)) n)) ∧ w.heap.size ≤ g ∧ w.grownBy w' none := by
  have hmk := makeP n hn w
  have hm0 := madeP w n (fun k => (h k, 0))
  obtain ⟨V, hV, szV, gV, BV⟩ := boxn w (madeCells #[.int .i64 0, .int .i64 0] (n * 2)) 40
  rw [hV] at hmk hm0
  have lV : w.heap.size < V.heap.size := BV.lt
  go_enter Tryz.func33, Tryz.ntmps33
  go_wp2
  go_loopw [11] (fun x wr => ∃ k : Nat, k ≤ n ∧ x = .int .i64 k ∧ wr.rowIs w.heap.size 40 (2 * n) (ptC (upTo (fun k => (h k, 0)) k)) ∧ V.grownBy wr (some w.heap.size)) (fun x _ => n - (intOf x).toNat)
  case atStart => exact ⟨0, Nat.zero_le _, rfl, hm0, World.grownBy.refl _ _⟩
  case round =>
    obtain ⟨k, hk, rfl, hrow, gk⟩ := hrel
    by_cases hlt : k < n
    · have hlt' : (k : Int) < (n : Int) := by omega
      have Hk := (H.kept gV (by simp)).kept gk (fun a ha e => by have := H.lt k hlt a ha; injection e with e; omega)
      obtain ⟨q, o, rfl, c0⟩ := Hk k hlt
      obtain ⟨x, hx⟩ : ∃ x, h k = x := ⟨_, rfl⟩
      have HX : Hid (h k = x) := hx
      rw [hx] at c0
      clear hx
      have z0 := hrow.cell (i := k * 2) (by omega)
      have y0 := hrow.frozen (k * 2)
      go_wp2
      go_roundw
      case rel =>
        refine ⟨k + 1, hlt, by go_num, (hrow.set (k * 2) _).congr (fun c hc => ?_), gb_set gk _ _⟩
        rw [← ptC_step]
        simp only
        rw [HX.out]
        by_cases e : c = k * 2 + 1
        · rw [if_neg (by omega), if_pos e]
          unfold ptC upTo
          rw [if_neg (by omega), if_neg (by omega)]
        · rw [if_neg e]
      case measure => simp [intOf]; omega
    · have hkn : k = n := by omega
      subst hkn
      have hlt' : ¬ (k : Int) < (k : Int) := by omega
      go_wp2
      go_ret
      exact ⟨_, rfl, hrow, Nat.le_refl _, gV.andThen gk (fun j hj => .inl (by injection hj with hj; omega))⟩
def neg (p : Pt) : Pt := (-p.1, -p.2)
set_option maxHeartbeats 1000000 in
theorem backwardC (sp : Option Addr) (n cap : Nat) (f : Nat → Pt) (hf : ∀ k, k < n → -1152921504606846976 ≤ (f k).1 ∧ (f k).1 ≤ 1152921504606846976 ∧ -1152921504606846976 ≤ (f k).2 ∧ (f k).2 ≤ 1152921504606846976) (hn : n ≤ 1000000000) (w : World) (H : Pl w sp n f) :
    Calls Tryz.prog 30 #[.slice sp n cap] w fun e w' => ∃ g, e = .returned (.slice (some ⟨g, 0, none⟩) n n) ∧ w'.rowIs g 40 (2 * n) (ptC (upTo (fun k => neg (f k)) n)) ∧ w.heap.size ≤ g ∧ w.grownBy w' none := by
  have hmk := makeP n hn w
  have hm0 := madeP w n (fun k => neg (f k))
  obtain ⟨V, hV, szV, gV, BV⟩ := boxn w (madeCells #[.int .i64 0, .int .i64 0] (n * 2)) 40
  rw [hV] at hmk hm0
  have lV : w.heap.size < V.heap.size := BV.lt
  go_enter Tryz.func30, Tryz.ntmps30
  go_wp2
  go_loopw [11] (fun x wr => ∃ k : Nat, k ≤ n ∧ x = .int .i64 k ∧ wr.rowIs w.heap.size 40 (2 * n) (ptC (upTo (fun k => neg (f k)) k)) ∧ V.grownBy wr (some w.heap.size)) (fun x _ => n - (intOf x).toNat)
  case atStart => exact ⟨0, Nat.zero_le _, rfl, hm0, World.grownBy.refl _ _⟩
  case round =>
    obtain ⟨k, hk, rfl, hrow, gk⟩ := hrel
    by_cases hlt : k < n
    · have hlt' : (k : Int) < (n : Int) := by omega
      have Hk := (H.kept gV (by simp)).kept gk (fun a ha e => by have := H.lt k hlt a ha; injection e with e; omega)
      obtain ⟨q, o, rfl, c0, c1⟩ := Hk k hlt
      have hb := hf k hlt
      obtain ⟨p, hp⟩ : ∃ p, f k = p := ⟨_, rfl⟩
      have HX : Hid (f k = p) := hp
      rw [hp] at c0 c1 hb
      clear hp
      obtain ⟨x, y⟩ := p
      simp only at hb
      obtain ⟨W3, hW3, sz3, g3, B3⟩ := boxn wr #[.int .i64 x, .int .i64 y] 40
      have hr3 := rowIs_kept hrow g3 (by simp)
      have d0 := B3.cell 0 (v := .int .i64 x) rfl
      have d1 := B3.cell 1 (v := .int .i64 y) rfl
      have w1 : IntKind.i64.wrap (-x) = -x := by rw [IntKind.wrap_i64]; omega
      have w2 : IntKind.i64.wrap (-y) = -y := by rw [IntKind.wrap_i64]; omega
      have z0 := hr3.cell (i := k * 2) (by omega)
      have y0 := hr3.frozen (k * 2)
      have z1 := hr3.cell (i := k * 2 + 1) (by omega)
      have y1 := hr3.frozen (k * 2 + 1)
      go_wp2
      go_roundw
      case rel =>
        refine ⟨k + 1, hlt, by go_num, ((hr3.set (k * 2) _).set (k * 2 + 1) _).congr (fun c hc => ?_), gb_set (gb_set (gb_none gk g3) _ _) _ _⟩
        rw [← ptC_step]
        try simp only
        rw [HX.out]
        rfl
      case measure => simp [intOf]; omega
    · have hkn : k = n := by omega
      subst hkn
      have hlt' : ¬ (k : Int) < (k : Int) := by omega
      go_wp2
      go_ret
      exact ⟨_, rfl, hrow, Nat.le_refl _, gV.andThen gk (fun j hj => .inl (by injection hj with hj; omega))⟩
end Ln
end Go.Proofs.YtbmpiddjakdebaaGreat
namespace Go.Proofs.YtbmpiddjakdebaaGreat
open Go.RowKit
set_option linter.unusedVariables false
set_option linter.unusedSimpArgs false
set_option maxRecDepth 100000

namespace Ln
/-- An odd number of the places x + h k lives. -/
def parA (h : Nat → Int) : Nat → (Int → Bool) → Int → Bool
  | 0, _, _ => false
  | k + 1, A, x => Bool.xor (parA h k A x) (A (x + h k))
/-- One step of Line. -/
def stA (h : Nat → Int) (m n : Nat) (A : Int → Bool) : Int → Bool := if n % 2 = 1 then parA h m A else A
def lnR (h : Nat → Int) (m : Nat) (n : Nat) (A : Int → Bool) (p : Int) : Bool :=
  if hn : n = 0 then A p else lnR h m (n / 2) (fun z => stA h m n A (2 * z + p % 2)) (p / 2)
termination_by n
decreasing_by omega
theorem lnR_zero (h : Nat → Int) (m : Nat) (A : Int → Bool) (p : Int) : lnR h m 0 A p = A p := by rw [lnR]; simp
theorem lnR_pos (h : Nat → Int) (m : Nat) {n : Nat} (hn : n ≠ 0) (A : Int → Bool) (p : Int) : lnR h m n A p = lnR h m (n / 2) (fun z => stA h m n A (2 * z + p % 2)) (p / 2) := by
  rw [lnR]; simp [hn]
/-- Which places of the line live. -/
def lv (S : List Pt) (x : Int) : Bool := decide ((x, 0) ∈ S)
def one (d q : Pt) (S : List Pt) : Bool := S.foldr (fun p a => Bool.xor (decide (q = padd p d)) a) false
theorem odS_succ (f : Nat → Pt) (n : Nat) (q : Pt) : ∀ S : List Pt, odS S f (n + 1) q = Bool.xor (odS S f n q) (one (f n) q S)
  | [] => rfl
  | p :: S => by
    have ih := odS_succ f n q S
    show Bool.xor (Bool.xor (od1 p f n q) (decide (q = padd p (f n)))) (odS S f (n + 1) q) = Bool.xor (Bool.xor (od1 p f n q) (odS S f n q)) (Bool.xor (decide (q = padd p (f n))) (one (f n) q S))
    rw [ih]
    cases od1 p f n q <;> cases decide (q = padd p (f n)) <;> cases odS S f n q <;> cases one (f n) q S <;> rfl
theorem odS_zero (f : Nat → Pt) (q : Pt) : ∀ S : List Pt, odS S f 0 q = false
  | [] => rfl
  | p :: S => by
    show Bool.xor false (odS S f 0 q) = false
    rw [odS_zero f q S]; rfl
theorem one_is (d q : Pt) : ∀ S : List Pt, S.Nodup → one d q S = decide ((q.1 - d.1, q.2 - d.2) ∈ S)
  | [], _ => rfl
  | p :: S, h => by
    have h1 := List.nodup_cons.1 h
    have ih := one_is d q S h1.2
    have e : q = padd p d ↔ (q.1 - d.1, q.2 - d.2) = p := by
      obtain ⟨a, b⟩ := q
      obtain ⟨c, e⟩ := p
      obtain ⟨x, y⟩ := d
      simp only [padd, Prod.mk.injEq]
      omega
    show Bool.xor (decide (q = padd p d)) (one d q S) = _
    rw [ih]
    by_cases h2 : (q.1 - d.1, q.2 - d.2) = p
    · have h3 : (q.1 - d.1, q.2 - d.2) ∉ S := fun hh => h1.1 (h2 ▸ hh)
      rw [decide_eq_true (e.2 h2), decide_eq_false h3, decide_eq_true (List.mem_cons.2 (.inl h2))]; rfl
    · have h4 : ¬ q = padd p d := fun hh => h2 (e.1 hh)
      rw [decide_eq_false h4]
      by_cases h3 : (q.1 - d.1, q.2 - d.2) ∈ S
      · rw [decide_eq_true h3, decide_eq_true (List.mem_cons_of_mem _ h3)]; rfl
      · rw [decide_eq_false h3, decide_eq_false (fun hh => (List.mem_cons.1 hh).elim h2 h3)]; rfl
/-- Places of the line, no further than B. -/
structure Lv (S : List Pt) (B : Int) : Prop where
  nd : S.Nodup
  on : ∀ p ∈ S, p.2 = 0 ∧ -B ≤ p.1 ∧ p.1 ≤ B
theorem Lv.len {S : List Pt} {B : Nat} (h : Lv S B) : S.length ≤ 2 * B + 1 := by
  have := len_sub S ((List.range (2 * B + 1)).map (fun i : Nat => (((i : Int) - B, 0) : Pt))) h.nd (fun q hq => by
    obtain ⟨h1, h2, h3⟩ := h.on q hq
    refine List.mem_map.2 ⟨(q.1 + B).toNat, List.mem_range.2 (by omega), ?_⟩
    obtain ⟨a, b⟩ := q
    simp only at h1 h2 h3 ⊢
    rw [h1, Int.toNat_of_nonneg (by omega)]
    congr 1
    omega)
  simpa using this
/-- The moves of the line, backward. -/
def bwF (h : Nat → Int) (k : Nat) : Pt := neg (h k, 0)
theorem spread_is {S : List Pt} {B : Int} (hS : Lv S B) {h : Nat → Int} : ∀ (m : Nat) (x : Int), odS S (bwF h) m (x, 0) = parA h m (lv S) x
  | 0, x => odS_zero _ _ S
  | m + 1, x => by
    rw [odS_succ, spread_is hS m x, one_is _ _ S hS.nd]
    show _ = Bool.xor (parA h m (lv S) x) (lv S (x + h m))
    unfold lv bwF neg
    rw [show ((x, (0:Int)).1 - (-(h m, (0:Int)).1, -(h m, (0:Int)).2).1, (x, (0:Int)).2 - (-(h m, (0:Int)).1, -(h m, (0:Int)).2).2) = ((x + h m, 0) : Pt) from by simp only [Prod.mk.injEq]; omega]
theorem Lv.spread {S T : List Pt} {h : Nat → Int} {m : Nat} (hS : Lv S 128) (hh : ∀ k, k < m → -64 ≤ h k ∧ h k ≤ 64) (hn : T.Nodup) (hT : ∀ q, decide (q ∈ T) = odS S (bwF h) m q) : Lv T 192 ∧ lv T = parA h m (lv S) := by
  refine ⟨⟨hn, fun q hq => ?_⟩, funext fun x => (hT (x, 0)).trans (spread_is hS m x)⟩
  have h1 := hT q
  rw [decide_eq_true hq] at h1
  have : ∀ S : List Pt, odS S (bwF h) m q = true → ∃ p ∈ S, ∃ k, k < m ∧ q = padd p (bwF h k) := fun S hO => by
    clear h1 hT
    induction S with
    | nil => cases hO
    | cons p S ih =>
      by_cases hS : odS S (bwF h) m q = true
      · obtain ⟨p', hp', h'⟩ := ih hS
        exact ⟨p', List.mem_cons_of_mem _ hp', h'⟩
      · have e : odS (p :: S) (bwF h) m q = Bool.xor (od1 p (bwF h) m q) (odS S (bwF h) m q) := rfl
        rw [e, (Bool.not_eq_true _).mp hS, Bool.xor_false] at hO
        have : ∀ m, od1 p (bwF h) m q = true → ∃ k, k < m ∧ q = padd p (bwF h k) := fun m => by
          induction m with
          | zero => intro h; cases h
          | succ n ih =>
            intro hh
            by_cases hq : q = padd p (bwF h n)
            · exact ⟨n, by omega, hq⟩
            · have e : od1 p (bwF h) (n + 1) q = Bool.xor (od1 p (bwF h) n q) (decide (q = padd p (bwF h n))) := rfl
              rw [e, decide_eq_false hq, Bool.xor_false] at hh
              obtain ⟨k, hk, h'⟩ := ih hh
              exact ⟨k, by omega, h'⟩
        exact ⟨p, List.mem_cons_self, this m hO⟩
  obtain ⟨p, hp, k, hk, rfl⟩ := this S h1.symm
  obtain ⟨a1, a2, a3⟩ := hS.on p hp
  have := hh k hk
  unfold padd bwF neg
  simp only
  omega
theorem Lv.halved {S T : List Pt} {r : Int} (hS : Lv S 192) (hn : T.Nodup) (hT : Hv S r T) : Lv T 128 := ⟨hn, fun q hq => by
  obtain ⟨p, hp, hr, rfl⟩ := (hT q).1 hq
  obtain ⟨a1, a2, a3⟩ := hS.on p hp
  refine ⟨rfl, ?_, ?_⟩
  · show _ ≤ p.1 / 2
    omega
  · show p.1 / 2 ≤ _
    omega⟩
theorem lv_halved {S T : List Pt} {r : Int} {B : Int} (hS : Lv S B) (hr : 0 ≤ r ∧ r < 2) (hT : Hv S r T) : lv T = fun z => lv S (2 * z + r) := funext fun z => by
  unfold lv
  rw [decide_eq_decide, hT]
  constructor
  · rintro ⟨p, hp, h1, h2⟩
    obtain ⟨a1, _⟩ := hS.on p hp
    obtain ⟨x, y⟩ := p
    simp only [hfp, Prod.mk.injEq] at h1 h2 a1
    subst a1
    rw [show 2 * z + r = x by omega]
    exact hp
  · intro h
    refine ⟨_, h, ?_, ?_⟩
    · show (2 * z + r) % 2 = r
      omega
    · show (z, (0 : Int)) = ((2 * z + r) / 2, 0)
      rw [show (2 * z + r) / 2 = z by omega]
theorem Lv.up {S : List Pt} {B C : Int} (h : Lv S B) (hBC : B ≤ C) : Lv S C := ⟨h.nd, fun p hp => by have := h.on p hp; omega⟩
end Ln
end Go.Proofs.YtbmpiddjakdebaaGreat
namespace Go.Proofs.YtbmpiddjakdebaaGreat
open Go.RowKit
set_option linter.unusedVariables false
set_option linter.unusedSimpArgs false
set_option maxRecDepth 100000

namespace Ln
def onL (h : Nat → Int) (k : Nat) : Pt := (h k, 0)
/-- What is wrong with what Line is asked. -/
def lnE (h : Nat → Int) (m : Nat) (n : Int) : Int := orL [ckO (onL h) m 64, ckG n]
theorem onL_ok {h : Nat → Int} {m : Nat} (hh : ∀ k, k < m → -9223372036854775808 ≤ h k ∧ h k ≤ 9223372036854775807) : ∀ k, k < m → PtOk (onL h k) := fun k hk => ⟨hh k hk, by unfold onL; simp⟩
set_option maxHeartbeats 2000000 in
theorem lineN (sp : Option Addr) (m cap : Nat) (h : Nat → Int) (hh : ∀ k, k < m → -9223372036854775808 ≤ h k ∧ h k ≤ 9223372036854775807) (hm : m < 1000000000) (n at_ : Int) (w : World) (H : In w sp m h) (hE : lnE h m n ≠ 0) :
    Calls Tryz.prog 18 #[.slice sp m cap, .int .i64 n, .int .i64 at_] w fun e w' => e = .returned (.tuple #[.bool false, .int .i64 (lnE h m n)]) ∧ w.grownBy w' none := by
  have k0 := onLineC sp m cap h (by omega) w H
  have k1 := fun (g : Nat) w1 (hr : Pl w1 (some ⟨g, 0, none⟩) m (onL h)) => checkOffsetsC (some ⟨g, 0, none⟩) m m (onL h) (onL_ok hh) 64 (by omega) (by omega) w1 hr
  have k2 := fun w => checkGenC n w
  unfold lnE at hE ⊢
  obtain ⟨e1, he1⟩ : ∃ e, ckO (onL h) m 64 = e := ⟨_, rfl⟩
  obtain ⟨e2, he2⟩ : ∃ e, ckG n = e := ⟨_, rfl⟩
  rw [he1] at k1 hE ⊢
  rw [he2] at k2 hE ⊢
  clear he1 he2
  obtain ⟨r, hr⟩ : ∃ r, orL [e1, e2] = r := ⟨_, rfl⟩
  have HR : Hid (orL [e1, e2] = r) := hr
  rw [hr] at hE ⊢
  clear hr
  have hb : (r != 0) = true := by simp [hE]
  have kO : ∀ W : World, Calls Tryz.prog 34 #[.slice (some ⟨W.heap.size, 0, none⟩) 2 2] (W.alloc (.cells #[.int .i64 e1, .int .i64 e2] 34)) fun e w' => e = .returned (.int .i64 r) ∧ w' = W.alloc (.cells #[.int .i64 e1, .int .i64 e2] 34) := fun W => by
    have := orE W.heap.size 2 [e1, e2] (by simp) (W.alloc (.cells #[.int .i64 e1, .int .i64 e2] 34)) (fun k x hx => by
      match k, hx with
      | 0, hx => cases hx; exact World.news_of_block (heap_alloc_new _ _) 0 _ rfl
      | 1, hx => cases hx; exact World.news_of_block (heap_alloc_new _ _) 1 _ rfl)
    rw [HR.out] at this
    exact this
  go_enter Tryz.func18, Tryz.ntmps18
  go_wp2_with (first | (go_at_call 33; refine k0.mono ?_; rintro e w0 ⟨g, rfl, hrow, hgl, g0⟩; have hPl := pl_row hrow) | (go_at_call 35; refine (k1 g _ hPl).mono ?_; rintro e w1 ⟨rfl, g1⟩; have g01 := gb_trans g0 g1) | (go_at_call 36; refine (k2 _).mono ?_; rintro e w2 ⟨rfl, hw2⟩; subst w2) | (go_at_call 34; refine (kO _).mono ?_; rintro e w3 ⟨rfl, hw3⟩; subst w3) | go_in)
  go_ret2
  exact ⟨rfl, gb_trans g01 (World.grownBy_alloc _ _ _)⟩
theorem mkM0 (w : World) : (Instr.makeMap 73 none).run Tryz.prog w = .ok (.map (some w.heap.size)) (w.alloc (.map #[] 0)) := by
  simp [Instr.makeMap, asInt, asIntOf]
set_option maxHeartbeats 4000000 in
theorem lineY (sp : Option Addr) (m cap : Nat) (h : Nat → Int) (hh : ∀ k, k < m → -9223372036854775808 ≤ h k ∧ h k ≤ 9223372036854775807) (hm : m < 1000000000) (n : Nat) (at_ : Int) (ha : -9223372036854775808 ≤ at_ ∧ at_ ≤ 9223372036854775807) (w : World) (H : In w sp m h) (hE : ckO (onL h) m 64 = 0) (hn : n ≤ 1125899906842624) :
    Calls Tryz.prog 18 #[.slice sp m cap, .int .i64 n, .int .i64 at_] w fun e w' => e = .returned (.tuple #[.bool (lnR h m n (lv [(0, 0)]) at_), .int .i64 0]) ∧ w.grownBy w' none := by
  obtain ⟨l1, a1, -⟩ := ckO_zero hE
  have b1 : ∀ k, k < m → -64 ≤ h k ∧ h k ≤ 64 := fun k hk => by
    have := ((alW_is _ _ _).1 a1 k hk).1
    rw [inW_is] at this
    exact this
  have k0 := onLineC sp m cap h (by omega) w H
  have k1 := fun (g : Nat) w1 (hr : Pl w1 (some ⟨g, 0, none⟩) m (onL h)) => checkOffsetsC (some ⟨g, 0, none⟩) m m (onL h) (onL_ok hh) 64 (by omega) (by omega) w1 hr
  have k2 := fun w => checkGenC (n : Int) w
  have he2 : ckG (n : Int) = 0 := by unfold ckG; rw [if_neg (by omega), if_neg (by omega)]
  rw [hE] at k1
  rw [he2] at k2
  have kB := fun (g : Nat) w1 (hr : Pl w1 (some ⟨g, 0, none⟩) m (onL h)) => backwardC (some ⟨g, 0, none⟩) m m (onL h) (fun k hk => by have := b1 k hk; unfold onL; simp only; omega) (by omega) w1 hr
  clear he2
  obtain ⟨e1, he1⟩ : ∃ e : Int, e = 0 := ⟨_, rfl⟩
  obtain ⟨e2, he2⟩ : ∃ e : Int, e = 0 := ⟨_, rfl⟩
  obtain ⟨r, hr⟩ : ∃ r, orL [e1, e2] = r := ⟨_, rfl⟩
  have HR : Hid (orL [e1, e2] = r) := hr
  have kO : ∀ W : World, Calls Tryz.prog 34 #[.slice (some ⟨W.heap.size, 0, none⟩) 2 2] (W.alloc (.cells #[.int .i64 e1, .int .i64 e2] 34)) fun e w' => e = .returned (.int .i64 r) ∧ w' = W.alloc (.cells #[.int .i64 e1, .int .i64 e2] 34) := fun W => by
    have := orE W.heap.size 2 [e1, e2] (by simp) (W.alloc (.cells #[.int .i64 e1, .int .i64 e2] 34)) (fun k x hx => by
      match k, hx with
      | 0, hx => cases hx; exact World.news_of_block (heap_alloc_new _ _) 0 _ rfl
      | 1, hx => cases hx; exact World.news_of_block (heap_alloc_new _ _) 1 _ rfl)
    rw [HR.out] at this
    exact this
  have hr0 : r = 0 := by rw [← hr, he1, he2]; rfl
  subst hr0
  subst he1
  subst he2
  clear hr HR
  obtain ⟨r, hr⟩ : ∃ r, lnR h m n (lv [(0, 0)]) at_ = r := ⟨_, rfl⟩
  have HR : Hid (lnR h m n (lv [(0, 0)]) at_ = r) := hr
  rw [hr]
  clear hr a1 hE
  have kM := fun w => mkM0 w
  have kM1 := fun w => mkM w 1
  have HP0 : PtOk (0, 0) := ⟨by simp, by simp⟩
  have KY0 : keyOf Tryz.prog 40 (.agg #[.int .i64 0, .int .i64 0]) = some (pk (0, 0)) := HP0.key
  go_enter Tryz.func18, Tryz.ntmps18
  go_wp2_with (first | (go_at_call 33; refine k0.mono ?_; rintro e w0 ⟨g, rfl, hrow, hgl, g0⟩; have hPl : Pl w0 (some ⟨g, 0, none⟩) m (onL h) := pl_row hrow) | (go_at_call 35; refine (k1 g _ hPl).mono ?_; rintro e w1 ⟨rfl, g1⟩; have g01 := gb_trans g0 g1) | (go_at_call 36; refine (k2 _).mono ?_; rintro e w2 ⟨rfl, hw2⟩; subst w2) | (go_at_call 34; refine (kO _).mono ?_; rintro e w3 ⟨rfl, hw3⟩; have gA : w1.grownBy w3 none := (by rw [hw3]; exact World.grownBy_alloc _ _ _); clear hw3; have g03 := gb_trans g01 gA; have hPl3 := (hPl.kept g1 (by simp)).kept gA (by simp)) | (go_at_call 30; refine (kB g _ hPl3).mono ?_; rintro e w4 ⟨g', rfl, hrow4, hgl4, g4⟩; have g04 := gb_trans g03 g4; have hP4 : Pl w4 (some ⟨g', 0, none⟩) m (bwF h) := pl_row hrow4; have M5 := Sm.made w4; have g5 : w4.grownBy (w4.alloc (.map #[] 0)) none := World.grownBy_alloc _ _ _; obtain ⟨W5, hW5⟩ : ∃ W5, w4.alloc (.map #[] 0) = W5 := ⟨_, rfl⟩; rw [hW5] at M5 g5; have kM2 := kM w4; have kM3 := kM1 w4; rw [hW5] at kM2 kM3; obtain ⟨D5, A1, A2, A3, A4, A5, A6⟩ := M5; obtain ⟨w6, hrun6, own6, g6⟩ := A1.update lawK underM (by unfold maxLen; simp) KY0 unitElem_mk; obtain ⟨P6, _⟩ := Sm.put (p := (0, 0)) HP0 (A1.tidy lawK) own6 A2 A3 A4 A5 A6) | go_in)
  have hw5 : w4.heap.size < W5.heap.size := by rw [← hW5]; simp
  have g06 : w.grownBy w6 none := (gb_trans g04 g5).andThen g6 (fun j hj => .inl (by injection hj with hj; have := g04.size; omega))
  have hP6 := (hP4.kept g5 (by simp)).kept g6 (fun a ha e => by have hlt : a.block < w4.heap.size := (by cases ha; exact (Array.getElem?_eq_some_iff.1 hrow4.choose_spec.1).1); injection e with e; omega)
  have L0 : Lv [(0, 0)] 128 := ⟨by simp, fun p hp => by simp at hp; subst hp; simp⟩
  have P6' : Sm w6 w4.heap.size [(0, 0)] := P6
  have hng : g' < w4.heap.size := (Array.getElem?_eq_some_iff.1 hrow4.choose_spec.1).1
  clear own6 g6 A1 A2 A3 A4 A5 A6 P6 kO kM kM1 kM2 kM3 k0 k1 k2 kB hPl hPl3 hP4 hrow hrow4 hrun6
  go_loopw [11, 1, 2] (fun u x y wr => ∃ (N : Nat) (p : Int) (b : Nat) (S : List Pt), u = .map (some b) ∧ x = .int .i64 N ∧ y = .int .i64 p ∧ Sm wr b S ∧ Lv S 128 ∧ Hid (lnR h m N (lv S) p = r) ∧ (-9223372036854775808 ≤ p ∧ p ≤ 9223372036854775807) ∧ N ≤ 1125899906842624 ∧ w6.grownBy wr none) (fun _ x _ _ => (intOf x).toNat)
  case atStart => exact ⟨n, at_, _, _, rfl, rfl, rfl, P6', L0, HR.out, ha, hn, World.grownBy.refl _ _⟩
  case round =>
    obtain ⟨N, p, b, S, rfl, rfl, rfl, MS, LS, HN, hp, hNb, gr⟩ := hrel
    have hPr := hP6.kept gr (by simp)
    have hlen := LS.len (B := 128)
    have gwr := gb_trans g06 gr
    by_cases hN : N = 0
    · subst hN
      have hr : lv S p = r := (lnR_zero h m (lv S) p).symm.trans HN.out
      obtain ⟨D, F1, F2, F3, F4, F5, F6⟩ := MS
      have hpp : PtOk (p, 0) := ⟨hp, by simp⟩
      have KYp : keyOf Tryz.prog 40 (.agg #[.int .i64 p, .int .i64 0]) = some (pk (p, 0)) := hpp.key
      have hasr : Maps.has D (pk (p, 0)) = r := (Sm.has F4 F5 F6 hpp).trans hr
      clear F4 F5 F6 hr
      go_wp2_with (first | (at_lookup; refine wpList_lookup_own_unit _ rfl _ _ 73 rfl 40 71 lawK underM (zeroU _) b _ D rfl F1 _ _ rfl KYp ?_; rw [hasr]) | go_in)
      go_ret2
      exact ⟨rfl, gb_trans gwr (World.grownBy_alloc _ _ _)⟩
    · have hN0 : (0 : Int) < (N : Int) := by omega
      obtain ⟨M, hM⟩ : ∃ M, N / 2 = M := ⟨_, rfl⟩
      have HM : Hid (N / 2 = M) := hM
      have hdv : Int.tdiv (N : Int) 2 = (M : Int) := by rw [Int.tdiv_eq_ediv_of_nonneg (by omega)]; omega
      have hMb : M ≤ 1125899906842624 := by omega
      have hMN : M < N := by omega
      have hwM : IntKind.i64.wrap (M : Int) = (M : Int) := by rw [IntKind.wrap_i64]; omega
      have hq : -9223372036854775808 ≤ p / 2 ∧ p / 2 ≤ 9223372036854775807 := by omega
      have hHS : Hid (lnR h m M (fun z => stA h m N (lv S) (2 * z + p % 2)) (p / 2) = r) := by unfold Hid; rw [← HN.out, lnR_pos h m hN, hM]
      have hp2 : 0 ≤ p % 2 ∧ p % 2 < 2 := by omega
      have HQ : Hid (0 ≤ p % 2 ∧ p % 2 < 2) := hp2
      by_cases hodd : N % 2 = 1
      · have hrm : Int.tmod (N : Int) 2 = 1 := by rw [Int.tmod_eq_emod_of_nonneg (by omega)]; omega
        have HST : Hid (∀ A : Int → Bool, stA h m N A = parA h m A) := fun A => by unfold stA; rw [if_pos hodd]
        have hmul : S.length * m ≤ 257 * 64 := Nat.mul_le_mul hlen l1
        have kS := spreadC b S (some ⟨g', 0, none⟩) m m (bwF h) (fun p hp k hk => by
          have h1 := LS.on p hp
          have h2 := b1 k hk
          unfold padd bwF neg
          exact ⟨⟨by simp only; omega, by simp only; omega⟩, ⟨by simp only; omega, by simp only; omega⟩⟩) (by omega) (by omega) (by omega) wr MS hPr
        have HB1 : Hid (∀ k, k < m → -64 ≤ h k ∧ h k ≤ 64) := b1
        have HLS : Hid (Lv S 128) := LS
        clear hM hodd MS hp2
        go_wp2_with (first | (go_at_call 37; refine kS.mono ?_; rintro e w7 ⟨b7, T, rfl, F7, hT, hTl, hb7, g7⟩; have ndT : T.Nodup := (by obtain ⟨_, _, _, h3, _⟩ := F7; exact h3); obtain ⟨LT, hlvT⟩ := HLS.out.spread HB1.out ndT hT; have HLV : Hid (lv T = parA h m (lv S)) := hlvT; clear hlvT hT; have g17 := gb_trans gr g7; have hv8 := halvedC b7 T p hp (by omega) w7 F7) | (go_at_call 38; refine hv8.mono ?_; rintro e w8 ⟨b8, U, rfl, F8, hU, hUl, hb8, g8⟩; have ndU : U.Nodup := (by obtain ⟨_, _, _, h3, _⟩ := F8; exact h3); have LU := LT.halved ndU hU; have HLU : Hid (lv U = fun z => lv T (2 * z + p % 2)) := (lv_halved LT HQ.out hU); clear hU hv8; have g18 := gb_trans g17 g8) | go_in)
        go_roundw
        case rel =>
          refine ⟨M, p / 2, b8, U, rfl, by go_num, rfl, F8, LU, ?_, hq, hMb, g18⟩
          unfold Hid
          rw [HLU.out, HLV.out, ← HST.out]
          exact hHS.out
        case measure => simp [intOf]; omega
      · have hrm : Int.tmod (N : Int) 2 = 0 := by rw [Int.tmod_eq_emod_of_nonneg (by omega)]; omega
        have HST : Hid (∀ A : Int → Bool, stA h m N A = A) := fun A => by unfold stA; rw [if_neg hodd]
        have LT := LS.up (C := 192) (by omega)
        have hv8 := halvedC b S p hp (by omega) wr MS
        clear hM hodd MS hp2
        go_wp2_with (first | (go_at_call 38; refine hv8.mono ?_; rintro e w8 ⟨b8, U, rfl, F8, hU, hUl, hb8, g8⟩; have ndU : U.Nodup := (by obtain ⟨_, _, _, h3, _⟩ := F8; exact h3); have LU := LT.halved ndU hU; have HLU : Hid (lv U = fun z => lv S (2 * z + p % 2)) := (lv_halved LT HQ.out hU); clear hU hv8; have g18 := gb_trans gr g8) | go_in)
        go_roundw
        case rel =>
          refine ⟨M, p / 2, b8, U, rfl, by go_num, rfl, F8, LU, ?_, hq, hMb, g18⟩
          unfold Hid
          have := hHS.out
          rw [HST.out] at this
          rw [HLU.out]
          exact this
        case measure => simp [intOf]; omega
end Ln
end Go.Proofs.YtbmpiddjakdebaaGreat
