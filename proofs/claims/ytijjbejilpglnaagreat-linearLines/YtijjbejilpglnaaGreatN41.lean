/- Line in one form; LinearLines: the walk. -/
import Derived.Test.YtijjbejilpglnaaGreatN40
namespace Go.Proofs.YtijjbejilpglnaaGreat
open Go.RowKit
set_option linter.unusedVariables false
set_option linter.unusedSimpArgs false
set_option maxRecDepth 100000

namespace Ln
theorem lineG (sp : Option Addr) (m cap : Nat) (h : Nat → Int) (hh : ∀ k, k < m → -9223372036854775808 ≤ h k ∧ h k ≤ 9223372036854775807) (hm : m < 1000000000) (n p : Int) (hp : -9223372036854775808 ≤ p ∧ p ≤ 9223372036854775807) (w : World) (H : In w sp m h) :
    Calls Tryz.prog 25 #[.slice sp m cap, .int .i64 n, .int .i64 p] w fun e w' => e = .returned (.tuple #[.bool (lnB h m n p), .int .i64 (lnE h m n)]) ∧ w.grownBy w' none := by
  by_cases hE : lnE h m n = 0
  · have hck : ckO (onL h) m 64 = 0 := by
      by_cases e : ckO (onL h) m 64 = 0
      · exact e
      · exact absurd hE (by rw [lnE_ck rfl e]; exact e)
    have hg : ckG n = 0 := by rw [← lnE_g hck]; exact hE
    have hgn : 0 ≤ n ∧ n ≤ 1125899906842624 := by
      unfold ckG at hg
      split at hg
      · omega
      · split at hg <;> omega
    obtain ⟨M, rfl⟩ : ∃ M : Nat, n = (M : Int) := ⟨n.toNat, by omega⟩
    have k := lineY sp m cap h hh hm M p hp w H hck (by omega)
    rw [lnR_gen, lv_one] at k
    have e : lnB h m (M : Int) p = gen h m M oneA p := by unfold lnB; rw [if_pos hE, Int.toNat_natCast]
    rw [e, hE]
    exact k
  · rw [lnB_no hE]
    exact lineN sp m cap h hh hm n p w H hE
theorem underIL : Tryz.prog.underlying 52 = some (.slice 3) := by kernel_rfl
theorem infoI : (Tryz.prog.info? 3).map (fun i => (i.zero, i.size, i.bytes)) = some (some (.int .i64 0), 1, 8) := by kernel_rfl
theorem own_nilI {w : World} {base m : Nat} {h : Nat → Int} (e : m = 0) : w.ownsRow base 3 1 (.slice none 0 0) m ((List.range m).map fun k : Nat => Value.int .i64 (h k)) := by subst e; exact World.ownsRow_nil _ _ _ _
theorem ints_news {w : World} {a : Addr} {m : Nat} {h : Nat → Int} (H : In w (some a) m h) : ∀ j u, ((List.range m).map fun k : Nat => Value.int .i64 (h k))[j]? = some u → w.cell? (a.add j) = some u := fun j u hj => by
  have hjn : j < m := by
    have := (List.getElem?_eq_some_iff.1 hj).1
    simpa using this
  rw [List.getElem?_map, List.getElem?_range hjn] at hj
  cases hj
  obtain ⟨q, o, ha, c0⟩ := H j hjn
  injection ha with ha
  subst ha
  rw [Addr.add_lit]
  exact c0
theorem ints_one {m : Nat} {h : Nat → Int} : ∀ u ∈ ((List.range m).map fun k : Nat => Value.int .i64 (h k)), u.oneCell' = true := fun u hu => by
  obtain ⟨k, _, rfl⟩ := List.mem_map.1 hu
  rfl
theorem own_at {w : World} {base g n cap : Nat} {xs : List Value} (H : w.ownsRow base 3 1 (.slice (some ⟨g, 0, none⟩) n cap) n xs) {j : Nat} {u : Value} (hj : xs[j]? = some u) (hn : j < n) : w.cell? ⟨g, j, none⟩ = some u := by
  rcases H.2 with ⟨h0, _⟩ | ⟨g', cap', cur, hv, hb, hbk, h1, h2, h3, h4⟩
  · cases h0
  · cases hv
    have e : (cur.toList.take (n * 1))[j]? = xs[j]? := by rw [h4]
    rw [List.getElem?_take_of_lt (by omega), hj, Array.getElem?_toList] at e
    simp only [World.cell?, hbk]
    simpa using e
theorem own_cap {w : World} {base g n cap : Nat} {xs : List Value} (H : w.ownsRow base 3 1 (.slice (some ⟨g, 0, none⟩) n cap) n xs) : n ≤ cap := by
  rcases H.2 with ⟨h0, _⟩ | ⟨g', cap', cur, hv, hb, hbk, h1, h2, h3, h4⟩
  · cases h0
  · cases hv
    exact h1
theorem in_own {w : World} {base g m cap : Nat} {h : Nat → Int} {x : Value} (H : w.ownsRow base 3 1 (.slice (some ⟨g, 0, none⟩) (m + 1) cap) (m + 1) (((List.range m).map fun k : Nat => Value.int .i64 (h k)) ++ [x])) : In w (some ⟨g, 0, none⟩) m h := fun k hk => ⟨g, 0, rfl, by
  rw [Nat.zero_add]
  exact own_at H (by rw [List.getElem?_append_left (by simpa using hk), List.getElem?_map, List.getElem?_range hk]; rfl) (by omega)⟩
theorem own_last {w : World} {base g m cap : Nat} {h : Nat → Int} {x : Value} (H : w.ownsRow base 3 1 (.slice (some ⟨g, 0, none⟩) (m + 1) cap) (m + 1) (((List.range m).map fun k : Nat => Value.int .i64 (h k)) ++ [x])) : w.cell? ⟨g, m, none⟩ = some x := own_at H (by rw [List.getElem?_append_right (by simp)]; simp) (by omega)
set_option maxHeartbeats 4000000 in
theorem lines_walk (sp : Option Addr) (m c : Nat) (h : Nat → Int) (n p : Int) (h0 : sp = none → m = 0 ∧ c = 0) (hm : m ≤ 17592186043904) (hh : ∀ j, j < m → -9223372036854775808 ≤ h j ∧ h j ≤ 9223372036854775807) (hn : -9223372036854775808 ≤ n ∧ n ≤ 9223372036854775807) (hp : -9223372036854775808 ≤ p ∧ p ≤ 9223372036854775807) (w : World) (H : In w sp m h) :
    Calls Tryz.prog 8 #[.slice sp m c, .int .i64 n, .int .i64 p] w fun e w' => e = .returned (.bool true) ∧ Below w.heap.size w w' := by
  have kA := aliveC w
  by_cases hbig : 300 < m
  · have hb' : (300 : Int) < (m : Int) := by omega
    clear h0 hh H
    go_enter Tryz.func8, Tryz.ntmps8
    go_wp2_with (first | (go_at_call 9; refine kA.mono ?_; rintro e w1 ⟨rfl, g1⟩; clear kA) | go_in)
    go_ret
    exact ⟨rfl, gb_below g1⟩
  have hb' : ¬ (300 : Int) < (m : Int) := by omega
  obtain ⟨i0, HI⟩ : ∃ i, Hid (Tryz.prog.info? 3 = some i ∧ i.zero = some (.int .i64 0) ∧ i.size = 1 ∧ i.bytes = 8) := by
    obtain ⟨i, h1, h2, h3, h4⟩ := info_parts infoI
    exact ⟨i, h1, h2, h3, h4⟩
  have kL := fun w1 g cap (HL : In w1 (some ⟨g, 0, none⟩) m h) => lineG (some ⟨g, 0, none⟩) m cap h hh (by omega) n p hp w1 HL
  have kR := fun w1 (g1 : w.grownBy w1 none) => refLineC sp m c h hh (by omega) n p hp w1 (H.kept g1 (by simp))
  obtain ⟨rB, hrB⟩ : ∃ r, lnB h m n p = r := ⟨_, rfl⟩
  obtain ⟨rE, hrE⟩ : ∃ r, lnE h m n = r := ⟨_, rfl⟩
  rw [hrB, hrE] at kL kR
  clear hrB hrE hh hn hp hbig
  cases sp with
  | none =>
    have HN0 : Hid (m = 0) := (h0 rfl).1
    have HC0 : Hid (c = 0) := (h0 rfl).2
    clear h0
    go_enter Tryz.func8, Tryz.ntmps8
    go_wp2_with (first | (go_at_call 9; refine kA.mono ?_; rintro e w1 ⟨rfl, g1⟩; clear kA; have H1 := H.kept g1 (by simp)) | (at_builtin; (fail_if_success (guard_hyp G2)); refine wpList_append_own_none rfl _ _ 52 rfl w.heap.size 3 i0 1 underIL HI.out.1 _ 0 [] rfl (World.ownsRow_nil _ _ _ _) (slice_nil2 HN0.out HC0.out) ?_; have own2 : w1.ownsRow w.heap.size 3 1 (.slice none 0 0) m ((List.range m).map fun k : Nat => Value.int .i64 (h k)) := own_nilI HN0.out; have G2 : w.grownBy w1 none := g1; obtain ⟨W3, hW3⟩ : ∃ W3, w1.alloc (.cells #[.int .i64 1099511627776] 3) = W3 := ⟨_, rfl⟩; have g3 : w1.grownBy W3 none := (by rw [← hW3]; exact World.grownBy_alloc _ _ _); have nX : ∀ l u, [Value.int .i64 1099511627776][l]? = some u → W3.cell? ((⟨w1.heap.size, 0, none⟩ : Addr).add l) = some u := (by rw [← hW3]; exact World.news_of_block (heap_alloc_new _ _)); have own3 := own2.kept g3 (Classical.em _); have hb3 : w.heap.size ≤ W3.heap.size := (gb_trans G2 g3).size; have how := (fun gg e => own3.lt gg e); clear own2) | (at_builtin; guard_hyp G2; refine wpList_append_lies _ rfl _ _ 52 rfl w.heap.size 3 i0 (.int .i64 0) 1 8 underIL HI.out.1 HI.out.2.1 HI.out.2.2.1 HI.out.2.2.2 rfl (by decide) _ m _ rfl own3 ⟨w1.heap.size, 0, none⟩ 1 1 [.int .i64 1099511627776] rfl rfl nX (by intro u hu; simp at hu; subst hu; rfl) (by decide) (by unfold maxLen; omega) (by omega) hb3 _ rfl ?_; intro g6 c6 w6 own6 gg6 at6 lt6; have G6 : w.grownBy w6 none := (gb_trans G2 g3).andThen gg6 (fun j hj => .inl (how j hj).1); have hc6 := own_cap own6; have hnc : (m : Int) ≤ (c6 : Int) := (by omega); have kL6 := kL w6 g6 c6 (in_own own6); clear kL) | (go_at_call 25; refine kL6.mono ?_; rintro e w7 ⟨rfl, g7⟩; clear kL6; have kR7 := kR w7 (gb_trans G6 g7); clear kR) | (go_at_call 26; refine kR7.mono ?_; rintro e w8 ⟨rfl, g8⟩; clear kR7) | go_in)
    have G8 := gb_trans G6 (gb_trans g7 g8)
    have I8 : In w8 (some ⟨g6, 0, none⟩) m h := ((in_own own6).kept g7 (by simp)).kept g8 (by simp)
    have M8 := g8.cell (g7.cell (own_last own6) (by simp)) (by simp)
    go_loopw [13] (fun v wr => ∃ i : Nat, i ≤ m ∧ v = .int .i64 i ∧ w8.grownBy wr none) (fun v _ => m - (intOf v).toNat)
    case atStart => exact ⟨0, Nat.zero_le _, rfl, World.grownBy.refl _ _⟩
    case round =>
      obtain ⟨i, hi, rfl, gi⟩ := hrel
      by_cases hlt : i < m
      · exact absurd hlt (by rw [HN0.out]; omega)
      · have hin : i = m := by omega
        subst hin
        have hlt' : ¬ (i : Int) < (i : Int) := by omega
        have hlt2 : (i : Int) < (i : Int) + 1 := by omega
        have m0 := gi.cell M8 (by simp)
        have hbb : (rB == rB) = true := by simp
        have hbe : (rE == rE) = true := by simp
        go_wp2
        first | go_ret | (go_quiet (fail); go_wp2; go_ret)
        exact ⟨rfl, gb_below (by first | exact gb_trans G8 gi | exact gb_drew (gb_trans G8 gi) | exact gb_drewN (gb_trans G8 gi) _)⟩
  | some a =>
    clear h0
    go_enter Tryz.func8, Tryz.ntmps8
    go_wp2_with (first | (go_at_call 9; refine kA.mono ?_; rintro e w1 ⟨rfl, g1⟩; clear kA; have H1 := H.kept g1 (by simp)) | (at_builtin; (fail_if_success (guard_hyp G2)); refine wpList_append_own _ rfl _ _ 52 rfl w.heap.size 3 i0 (.int .i64 0) 1 8 underIL HI.out.1 HI.out.2.1 HI.out.2.2.1 HI.out.2.2.2 rfl (by decide) _ 0 [] rfl (World.ownsRow_nil _ _ _ _) a m c ((List.range m).map fun k : Nat => Value.int .i64 (h k)) rfl (by simp) (ints_news H1) ints_one (by unfold maxLen; omega) (by omega) g1.size ?_; intro v2 w2 own2 g2 _; rw [Nat.zero_add, List.nil_append] at own2; have G2 : w.grownBy w2 none := g1.andThen g2 (fun j hj => by cases hj); obtain ⟨W3, hW3⟩ : ∃ W3, w2.alloc (.cells #[.int .i64 1099511627776] 3) = W3 := ⟨_, rfl⟩; have g3 : w2.grownBy W3 none := (by rw [← hW3]; exact World.grownBy_alloc _ _ _); have nX : ∀ l u, [Value.int .i64 1099511627776][l]? = some u → W3.cell? ((⟨w2.heap.size, 0, none⟩ : Addr).add l) = some u := (by rw [← hW3]; exact World.news_of_block (heap_alloc_new _ _)); have own3 := own2.kept g3 (Classical.em _); have hb3 : w.heap.size ≤ W3.heap.size := (gb_trans G2 g3).size; have how := (fun gg e => own3.lt gg e); clear own2) | (at_builtin; guard_hyp G2; refine wpList_append_lies _ rfl _ _ 52 rfl w.heap.size 3 i0 (.int .i64 0) 1 8 underIL HI.out.1 HI.out.2.1 HI.out.2.2.1 HI.out.2.2.2 rfl (by decide) _ m _ rfl own3 ⟨w2.heap.size, 0, none⟩ 1 1 [.int .i64 1099511627776] rfl rfl nX (by intro u hu; simp at hu; subst hu; rfl) (by decide) (by unfold maxLen; omega) (by omega) hb3 _ rfl ?_; intro g6 c6 w6 own6 gg6 at6 lt6; have G6 : w.grownBy w6 none := (gb_trans G2 g3).andThen gg6 (fun j hj => .inl (how j hj).1); have hc6 := own_cap own6; have hnc : (m : Int) ≤ (c6 : Int) := (by omega); have kL6 := kL w6 g6 c6 (in_own own6); clear kL) | (go_at_call 25; refine kL6.mono ?_; rintro e w7 ⟨rfl, g7⟩; clear kL6; have kR7 := kR w7 (gb_trans G6 g7); clear kR) | (go_at_call 26; refine kR7.mono ?_; rintro e w8 ⟨rfl, g8⟩; clear kR7) | go_in)
    have G8 := gb_trans G6 (gb_trans g7 g8)
    have I8 : In w8 (some ⟨g6, 0, none⟩) m h := ((in_own own6).kept g7 (by simp)).kept g8 (by simp)
    have M8 := g8.cell (g7.cell (own_last own6) (by simp)) (by simp)
    go_loopw [13] (fun v wr => ∃ i : Nat, i ≤ m ∧ v = .int .i64 i ∧ w8.grownBy wr none) (fun v _ => m - (intOf v).toNat)
    case atStart => exact ⟨0, Nat.zero_le _, rfl, World.grownBy.refl _ _⟩
    case round =>
      obtain ⟨i, hi, rfl, gi⟩ := hrel
      by_cases hlt : i < m
      · have hlt' : (i : Int) < (m : Int) := by omega
        have hlt2 : (i : Int) < (m : Int) + 1 := by omega
        obtain ⟨q, o, hq, c0⟩ := (I8.kept gi (by simp)) i hlt
        obtain ⟨rfl, rfl⟩ : g6 = q ∧ 0 = o := by simpa using hq
        obtain ⟨q2, o2, hq2, d0⟩ := (H.kept (gb_trans G8 gi) (by simp)) i hlt
        obtain rfl : a = ⟨q2, o2, none⟩ := by simpa using hq2
        rw [Nat.zero_add] at c0
        have hb : (h i == h i) = true := by simp
        generalize h i = x at c0 d0 hb
        clear hq
        go_wp2
        first | go_roundw | (go_quiet (fail); go_wp2; go_roundw)
        case rel => exact ⟨i + 1, by omega, by go_num, by first | exact gi | exact gb_drew gi | exact gb_drewN gi _⟩
        case measure => simp [intOf]; omega
      · have hin : i = m := by omega
        subst hin
        have hlt' : ¬ (i : Int) < (i : Int) := by omega
        have hlt2 : (i : Int) < (i : Int) + 1 := by omega
        have m0 := gi.cell M8 (by simp)
        have hbb : (rB == rB) = true := by simp
        have hbe : (rE == rE) = true := by simp
        go_wp2
        first | go_ret | (go_quiet (fail); go_wp2; go_ret)
        exact ⟨rfl, gb_below (by first | exact gb_trans G8 gi | exact gb_drew (gb_trans G8 gi) | exact gb_drewN (gb_trans G8 gi) _)⟩
end Ln
end Go.Proofs.YtijjbejilpglnaaGreat
