/- LinearNames: the walk. -/
import Derived.Test.YtbmpiddjakdebaaGreatNt
import Derived.Test.YtbmpiddjakdebaaGreatNq
import Derived.Laws.AppendOwnNone
namespace Go.Proofs.YtbmpiddjakdebaaGreat
open Go.RowKit
set_option linter.unusedVariables false
set_option linter.unusedSimpArgs false
set_option maxRecDepth 100000

namespace Ln
def gN (j : Nat) : Pt := ((j : Int), -(j : Int))
theorem psL_succ (f : Nat → Pt) (n : Nat) : psL f (n + 1) = psL f n ++ [f n] := by unfold psL; rw [List.range_succ, List.map_append]; rfl
theorem gN_64 : ckO gN 64 1099511627776 = 0 := by
  unfold ckO
  rw [if_neg (by omega), if_neg (by
    rw [(alW_is _ gN 64).2 (fun k hk => by rw [inW_is, inW_is]; unfold gN; simp only; omega)]
    simp), tw_no (fun i j hij hj h => by unfold gN at h; simp at h; omega)]
  rfl
theorem gN_65 : ckO gN 65 1099511627776 = 6 := by unfold ckO; rw [if_pos (by omega)]
theorem gN_ok (k : Nat) (hk : k < 65) : PtOk (gN k) := by unfold gN; exact ⟨⟨by simp only; omega, by simp only; omega⟩, ⟨by simp only; omega, by simp only; omega⟩⟩
end Ln
end Go.Proofs.YtbmpiddjakdebaaGreat
namespace Go.Proofs.YtbmpiddjakdebaaGreat
open Go.RowKit
set_option linter.unusedVariables false
set_option linter.unusedSimpArgs false
set_option maxRecDepth 100000

namespace Ln
/-- A list with marks behind it. -/
def lentF (f : Nat → Pt) (n j : Nat) : Pt := if j < n then f j else (-77, ((j - n : Nat) : Int))
theorem psL_congr {f g : Nat → Pt} {n : Nat} (h : ∀ j, j < n → f j = g j) : psL f n = psL g n := by
  unfold psL
  exact List.map_congr_left (fun j hj => h j (List.mem_range.1 hj))
theorem psL_lent (f : Nat → Pt) (n : Nat) : psL f n = psL (lentF f n) n := psL_congr (fun j hj => by unfold lentF; rw [if_pos hj])
theorem slice_nil2 {n cap : Nat} (h : n = 0) (h' : cap = 0) : Value.slice none n cap = Value.slice none 0 0 := by rw [h, h']
theorem own_nilP {w : World} {base n : Nat} {f : Nat → Pt} (h : n = 0) : w.ownsRow base 40 2 (.slice none 0 0) n (fl (psL f n)) := by subst h; exact World.ownsRow_nil _ _ _ _
/-- A list that was lent. -/
def Le (w : World) (base g cap n : Nat) (f : Nat → Pt) : Prop := w.ownsRow base 40 2 (.slice (some ⟨g, 0, none⟩) (n + 70) cap) (n + 70) (fl (psL (lentF f n) (n + 70)))
theorem Le.kept {w w' : World} {base g cap n : Nat} {f : Nat → Pt} {r : Option Nat} (h : Le w base g cap n f) (hg : w.grownBy w' r) (hne : some g ≠ r) : Le w' base g cap n f := World.ownsRow.kept h hg (.inr hne)
theorem Le.all {w : World} {base g cap n : Nat} {f : Nat → Pt} (h : Le w base g cap n f) : Pl w (some ⟨g, 0, none⟩) (n + 70) (lentF f n) := (pl_own h (psL_len _ _)).congr (fun j hj => psL_at _ _ j hj)
theorem Le.pl {w : World} {base g cap n : Nat} {f : Nat → Pt} (h : Le w base g cap n f) : Pl w (some ⟨g, 0, none⟩) n f := fun k hk => by
  have := h.all k (by omega)
  unfold lentF at this
  rw [if_pos hk] at this
  exact this
theorem Le.cap {w : World} {base g cap n : Nat} {f : Nat → Pt} (h : Le w base g cap n f) : n + 70 ≤ cap := by
  rcases h.2 with ⟨h0, _⟩ | ⟨g', cap', cur, hv, hb, hbk, h1, h2, h3, h4⟩
  · cases h0
  · cases hv
    exact h1
theorem Le.lt {w : World} {base g cap n : Nat} {f : Nat → Pt} (h : Le w base g cap n f) : base ≤ g ∧ g < w.heap.size := World.ownsRow.lt h g rfl
set_option maxHeartbeats 2000000 in
theorem lentC (sp : Option Addr) (n c : Nat) (f : Nat → Pt) (hn : n ≤ 3000) (h0 : sp = none → n = 0 ∧ c = 0) (w : World) (H : Pl w sp n f) :
    Calls Tryz.prog 7 #[.slice sp n c] w fun e w' => ∃ g cap, e = .returned (.slice (some ⟨g, 0, none⟩) n cap) ∧ Le w' w.heap.size g cap n f ∧ w.grownBy w' none := by
  obtain ⟨i0, HI⟩ : ∃ i, Hid (Tryz.prog.info? 40 = some i ∧ i.zero = some (.agg #[.int .i64 0, .int .i64 0]) ∧ i.size = 2 ∧ i.bytes = 16) := by
    obtain ⟨i, h1, h2, h3, h4⟩ := info_parts infoK
    exact ⟨i, h1, h2, h3, h4⟩
  cases sp with
  | none =>
    have HN0 : Hid (n = 0) := (h0 rfl).1
    have HC0 : Hid (c = 0) := (h0 rfl).2
    clear h0
    go_enter Tryz.func7, Tryz.ntmps7
    go_wp2_with (first | (at_builtin; refine wpList_append_own_none rfl _ _ 24 rfl w.heap.size 40 i0 2 underPS HI.out.1 _ 0 [] rfl (World.ownsRow_nil _ _ _ _) (slice_nil2 HN0.out HC0.out) ?_) | go_in)
    have own2 : w.ownsRow w.heap.size 40 2 (.slice none 0 0) n (fl (psL f n)) := own_nilP HN0.out
    have G2 : w.grownBy w none := World.grownBy.refl _ _
    rw [psL_lent] at own2
    have HO : Hid (w.ownsRow w.heap.size 40 2 (.slice none 0 0) n (fl (psL (lentF f n) n))) := own2
    clear own2
    go_loopw [3, 4] (fun u v wr => ∃ (i : Nat) (ov : Value), i ≤ 70 ∧ u = ov ∧ v = .int .i64 i ∧ wr.ownsRow w.heap.size 40 2 ov (n + i) (fl (psL (lentF f n) (n + i))) ∧ w.grownBy wr none) (fun _ v _ => 70 - (intOf v).toNat)
    case atStart => exact ⟨0, _, by omega, rfl, rfl, HO.out, G2⟩
    case round =>
      obtain ⟨i, ov, hi, hov, rfl, own, gi⟩ := hrel
      subst hov
      by_cases hlt : i < 70
      · have hlt' : (i : Int) < 70 := by omega
        obtain ⟨W3, hW3⟩ : ∃ W3, wr.alloc (.cells #[.int .i64 (-77), .int .i64 (i : Int)] 40) = W3 := ⟨_, rfl⟩
        have g3 : wr.grownBy W3 none := (by rw [← hW3]; exact World.grownBy_alloc _ _ _)
        have nX : ∀ l u, [Value.int .i64 (-77), .int .i64 (i : Int)][l]? = some u → W3.cell? ((⟨wr.heap.size, 0, none⟩ : Addr).add l) = some u := by rw [← hW3]; exact World.news_of_block (heap_alloc_new _ _)
        have own3 := own.kept g3 (Classical.em _)
        have hb3 : w.heap.size ≤ W3.heap.size := (gb_trans gi g3).size
        have HX : Hid (fl (psL (lentF f n) (n + i)) ++ [.int .i64 (-77), .int .i64 (i : Int)] = fl (psL (lentF f n) (n + (i + 1)))) := by
          unfold Hid
          rw [show n + (i + 1) = (n + i) + 1 from rfl, psL_succ, fl_app]
          have e : lentF f n (n + i) = (-77, (i : Int)) := by unfold lentF; rw [if_neg (by omega), show n + i - n = i by omega]
          rw [e]
          rfl
        have how := fun gg e => own3.lt gg e
        clear own
        go_wp2_with (first | (at_builtin; refine wpList_append_lies _ rfl _ _ 24 rfl w.heap.size 40 i0 (.agg #[.int .i64 0, .int .i64 0]) 2 16 underPS HI.out.1 HI.out.2.1 HI.out.2.2.1 HI.out.2.2.2 rfl (by decide) _ (n + i) _ rfl own3 ⟨wr.heap.size, 0, none⟩ 1 1 [.int .i64 (-77), .int .i64 (i : Int)] rfl rfl nX (by intro u hu; simp at hu; rcases hu with rfl | rfl <;> rfl) (by decide) (by unfold maxLen; omega) (by omega) hb3 _ rfl ?_; intro g6 c6 w6 own6 g6' at6 lt6) | go_in)
        go_roundw
        case rel => exact ⟨i + 1, _, by omega, rfl, by go_num, by rw [← HX.out]; exact own6, (gb_trans gi g3).andThen g6' (fun j hj => .inl (how j hj).1)⟩
        case measure => simp [intOf]; omega
      · have hin : i = 70 := by omega
        subst hin
        rcases own.2 with ⟨_, hnil⟩ | ⟨gg, cap, cur, rfl, hb, hbk, h1, h2, h3, h4⟩
        · exact absurd hnil (by omega)
        · have hnc : (n : Int) ≤ (cap : Int) := by omega
          have HL : Hid (Le wr w.heap.size gg cap n f) := own
          clear own h3 h4 hbk h2 hb
          go_wp2
          go_ret
          exact ⟨gg, cap, rfl, HL.out, gi⟩
  | some a =>
    clear h0
    go_enter Tryz.func7, Tryz.ntmps7
    go_wp2_with (first | (at_builtin; refine wpList_append_own _ rfl _ _ 24 rfl w.heap.size 40 i0 (.agg #[.int .i64 0, .int .i64 0]) 2 16 underPS HI.out.1 HI.out.2.1 HI.out.2.2.1 HI.out.2.2.2 rfl (by decide) _ 0 [] rfl (World.ownsRow_nil _ _ _ _) a n c (fl (psL f n)) rfl (by rw [fl_len, psL_len]) (fl_pl H) (fl_one _) (by unfold maxLen; omega) (by omega) (Nat.le_refl _) ?_; intro v2 w2 own2 g2 _) | go_in)
    have G2 : w.grownBy w2 none := (World.grownBy.refl w none).andThen g2 (fun j hj => by cases hj)
    rw [Nat.zero_add, List.nil_append] at own2
    rw [psL_lent] at own2
    have HO : Hid (w2.ownsRow w.heap.size 40 2 v2 n (fl (psL (lentF f n) n))) := own2
    clear own2
    go_loopw [3, 4] (fun u v wr => ∃ (i : Nat) (ov : Value), i ≤ 70 ∧ u = ov ∧ v = .int .i64 i ∧ wr.ownsRow w.heap.size 40 2 ov (n + i) (fl (psL (lentF f n) (n + i))) ∧ w.grownBy wr none) (fun _ v _ => 70 - (intOf v).toNat)
    case atStart => exact ⟨0, _, by omega, rfl, rfl, HO.out, G2⟩
    case round =>
      obtain ⟨i, ov, hi, hov, rfl, own, gi⟩ := hrel
      subst hov
      by_cases hlt : i < 70
      · have hlt' : (i : Int) < 70 := by omega
        obtain ⟨W3, hW3⟩ : ∃ W3, wr.alloc (.cells #[.int .i64 (-77), .int .i64 (i : Int)] 40) = W3 := ⟨_, rfl⟩
        have g3 : wr.grownBy W3 none := (by rw [← hW3]; exact World.grownBy_alloc _ _ _)
        have nX : ∀ l u, [Value.int .i64 (-77), .int .i64 (i : Int)][l]? = some u → W3.cell? ((⟨wr.heap.size, 0, none⟩ : Addr).add l) = some u := by rw [← hW3]; exact World.news_of_block (heap_alloc_new _ _)
        have own3 := own.kept g3 (Classical.em _)
        have hb3 : w.heap.size ≤ W3.heap.size := (gb_trans gi g3).size
        have HX : Hid (fl (psL (lentF f n) (n + i)) ++ [.int .i64 (-77), .int .i64 (i : Int)] = fl (psL (lentF f n) (n + (i + 1)))) := by
          unfold Hid
          rw [show n + (i + 1) = (n + i) + 1 from rfl, psL_succ, fl_app]
          have e : lentF f n (n + i) = (-77, (i : Int)) := by unfold lentF; rw [if_neg (by omega), show n + i - n = i by omega]
          rw [e]
          rfl
        have how := fun gg e => own3.lt gg e
        clear own
        go_wp2_with (first | (at_builtin; refine wpList_append_lies _ rfl _ _ 24 rfl w.heap.size 40 i0 (.agg #[.int .i64 0, .int .i64 0]) 2 16 underPS HI.out.1 HI.out.2.1 HI.out.2.2.1 HI.out.2.2.2 rfl (by decide) _ (n + i) _ rfl own3 ⟨wr.heap.size, 0, none⟩ 1 1 [.int .i64 (-77), .int .i64 (i : Int)] rfl rfl nX (by intro u hu; simp at hu; rcases hu with rfl | rfl <;> rfl) (by decide) (by unfold maxLen; omega) (by omega) hb3 _ rfl ?_; intro g6 c6 w6 own6 g6' at6 lt6) | go_in)
        go_roundw
        case rel => exact ⟨i + 1, _, by omega, rfl, by go_num, by rw [← HX.out]; exact own6, (gb_trans gi g3).andThen g6' (fun j hj => .inl (how j hj).1)⟩
        case measure => simp [intOf]; omega
      · have hin : i = 70 := by omega
        subst hin
        rcases own.2 with ⟨_, hnil⟩ | ⟨gg, cap, cur, rfl, hb, hbk, h1, h2, h3, h4⟩
        · exact absurd hnil (by omega)
        · have hnc : (n : Int) ≤ (cap : Int) := by omega
          have HL : Hid (Le wr w.heap.size gg cap n f) := own
          clear own h3 h4 hbk h2 hb
          go_wp2
          go_ret
          exact ⟨gg, cap, rfl, HL.out, gi⟩

set_option maxHeartbeats 2000000 in
theorem keptC (g cap n base : Nat) (f : Nat → Pt) (hf : ∀ k, k < n → PtOk (f k)) (hn : n ≤ 3000) (s2 : Option Addr) (c2 : Nat) (w : World) (HL : Le w base g cap n f) (H2 : Pl w s2 n f) :
    Calls Tryz.prog 11 #[.slice (some ⟨g, 0, none⟩) n cap, .slice s2 n c2] w fun e w' => e = .returned (.bool true) ∧ w.grownBy w' none := by
  have kS := sameEq (some ⟨g, 0, none⟩) n cap f hf (by omega) s2 c2 w HL.pl H2
  have hcap := HL.cap
  have hw1 : IntKind.i64.wrap ((n : Int) + 70) = (n : Int) + 70 := by rw [IntKind.wrap_i64]; omega
  have hi1 : (n : Int) + 70 ≤ (cap : Int) := by omega
  have hi6 : ((n : Int) + 70).toNat = n + 70 := by omega
  have hi7 : (0 : Int) ≤ (n : Int) + 70 := by omega
  go_enter Tryz.func11, Tryz.ntmps11
  go_wp2_with (first | (go_at_call 20; refine kS.mono ?_; rintro e w1 ⟨rfl, g1⟩; clear kS) | go_in)
  go_loopw [7] (fun v wr => ∃ i : Nat, i ≤ 70 ∧ v = .int .i64 i ∧ w.grownBy wr none) (fun v _ => 70 - (intOf v).toNat)
  case atStart => exact ⟨0, by omega, rfl, g1⟩
  case round =>
    obtain ⟨i, hi, rfl, gi⟩ := hrel
    by_cases hlt : i < 70
    · have hlt' : (i : Int) < 70 := by omega
      obtain ⟨q, o, hq, c0, c1⟩ := (HL.kept gi (by simp)).all (n + i) (by omega)
      obtain ⟨rfl, rfl⟩ : g = q ∧ 0 = o := by simpa using hq
      have e : lentF f n (n + i) = (-77, (i : Int)) := by unfold lentF; rw [if_neg (by omega), show n + i - n = i by omega]
      rw [e, Nat.zero_add] at c0 c1
      simp only at c0 c1
      have hw2 : IntKind.i64.wrap ((n : Int) + (i : Int)) = (n : Int) + (i : Int) := by rw [IntKind.wrap_i64]; omega
      have j1 : (n : Int) + (i : Int) < (n : Int) + 70 := by omega
      have j2 : (0 : Int) ≤ (n : Int) + (i : Int) := by omega
      have j3 : ((n : Int) + (i : Int)).toNat = n + i := by omega
      clear e hq
      go_wp2
      go_roundw
      case rel => exact ⟨i + 1, by omega, by go_num, by first | exact gi | exact gb_drew gi | exact gb_drewN gi _⟩
      case measure => simp [intOf]; omega
    · have hin : i = 70 := by omega
      subst hin
      go_wp2
      go_ret
      exact ⟨rfl, gi⟩
end Ln
end Go.Proofs.YtbmpiddjakdebaaGreat
