/- same. -/
import Derived.Test.YtbmpiddjakdebaaGreatNa
import Derived.Test.YtbmpiddjakdebaaGreatTa
import Derived.Deep.QuietTactic
import Derived.Test.YtbmpiddjakdebaaGreatNi
namespace Go.Proofs.YtbmpiddjakdebaaGreat
open Go.RowKit
set_option linter.unusedVariables false
set_option linter.unusedSimpArgs false
set_option maxRecDepth 100000

namespace Ln
/-- The first so many places of two lists are the same. -/
def smL (f h : Nat → Pt) : Nat → Bool
  | 0 => true
  | k + 1 => smL f h k && decide (f k = h k)
theorem smL_no (f h : Nat → Pt) (k : Nat) (hk : f k ≠ h k) : ∀ n, k < n → smL f h n = false
  | 0, hn => by omega
  | n + 1, hn => by
    show (smL f h n && decide (f n = h n)) = false
    by_cases e : k = n
    · subst e; simp [hk]
    · rw [smL_no f h k hk n (by omega)]; rfl
theorem smL_yes (f h : Nat → Pt) : ∀ n, (∀ k, k < n → f k = h k) → smL f h n = true
  | 0, _ => rfl
  | n + 1, hn => by
    show (smL f h n && decide (f n = h n)) = true
    rw [smL_yes f h n (fun k hk => hn k (by omega)), decide_eq_true (hn n (by omega))]; rfl
set_option maxHeartbeats 1000000 in
theorem sameC (s1 : Option Addr) (n c1 : Nat) (f : Nat → Pt) (hf : ∀ k, k < n → PtOk (f k)) (hn : n < 1000000000) (s2 : Option Addr) (m c2 : Nat) (h : Nat → Pt) (hh : ∀ k, k < m → PtOk (h k)) (hm : m < 1000000000) (w : World) (H1 : Pl w s1 n f) (H2 : Pl w s2 m h) :
    Calls Tryz.prog 20 #[.slice s1 n c1, .slice s2 m c2] w fun e w' => e = .returned (.bool (decide (n = m) && smL f h n)) ∧ w.grownBy w' none := by
  by_cases hnm : n = m
  · subst hnm
    rw [decide_eq_true rfl, Bool.true_and]
    obtain ⟨r, hr⟩ : ∃ r, smL f h n = r := ⟨_, rfl⟩
    have HR : Hid (smL f h n = r) := hr
    rw [hr]
    clear hr
    go_enter Tryz.func20, Tryz.ntmps20
    go_wp2
    go_loopw [5] (fun v wr => ∃ i : Nat, i ≤ n ∧ v = .int .i64 i ∧ w.grownBy wr none ∧ Hid (∀ k, k < i → f k = h k)) (fun v _ => n - (intOf v).toNat)
    case atStart => exact ⟨0, Nat.zero_le _, rfl, World.grownBy.refl _ _, fun k hk => by omega⟩
    case round =>
      obtain ⟨i, hi, rfl, gi, HS⟩ := hrel
      by_cases hlt : i < n
      · have hlt' : (i : Int) < (n : Int) := by omega
        obtain ⟨q, o, rfl, c0, c1⟩ := (H1.kept gi (by simp)) i hlt
        obtain ⟨q2, o2, rfl, d0, d1⟩ := (H2.kept gi (by simp)) i hlt
        have hfi := hf i hlt
        have hhi := hh i hlt
        by_cases he : f i = h i
        · have HS1 : Hid (∀ k, k < i + 1 → f k = h k) := fun k hk => by
            by_cases e : k = i
            · subst e; exact he
            · exact HS.out k (by omega)
          rw [← he] at d0 d1
          clear he HS
          obtain ⟨p, hp⟩ : ∃ p, f i = p := ⟨_, rfl⟩
          rw [hp] at c0 c1 d0 d1
          clear hp
          obtain ⟨a, b⟩ := p
          go_wp2
          go_quiet (fail)
          go_wp2
          go_roundw
          case rel => exact ⟨i + 1, by omega, by go_num, by first | exact gi | exact gb_drew gi | exact gb_drewN gi _, HS1.out⟩
          case measure => simp [intOf]; omega
        · have HV : r = false := HR.out.symm.trans (smL_no f h i he n hlt)
          subst HV
          clear HS HR
          obtain ⟨p, hp⟩ : ∃ p, f i = p := ⟨_, rfl⟩
          obtain ⟨p2, hp2⟩ : ∃ p, h i = p := ⟨_, rfl⟩
          rw [hp] at c0 c1 he
          rw [hp2] at d0 d1 he
          clear hp hp2
          obtain ⟨a, b⟩ := p
          obtain ⟨c, d⟩ := p2
          have he' : ¬ (a = c ∧ b = d) := fun e => he (by rw [e.1, e.2])
          by_cases hac : a = c
          · subst hac
            have hbd : (b == d) = false := by simp; exact fun e => he' ⟨rfl, e⟩
            go_wp2
            go_quiet (fail)
            go_wp2
            go_ret
            exact ⟨rfl, by first | exact gi | exact gb_drew gi | exact gb_drewN gi _⟩
          · have hbd : (a == c) = false := by simp; exact hac
            go_wp2
            go_quiet (fail)
            go_wp2
            go_ret
            exact ⟨rfl, by first | exact gi | exact gb_drew gi | exact gb_drewN gi _⟩
      · have hin : i = n := by omega
        subst hin
        have hlt' : ¬ (i : Int) < (i : Int) := by omega
        have HV : r = true := HR.out.symm.trans (smL_yes f h i HS.out)
        subst HV
        go_wp2
        go_ret
        exact ⟨rfl, gi⟩
  · have hb : ((n : Int) != (m : Int)) = true := by simp; omega
    rw [decide_eq_false hnm, Bool.false_and]
    go_enter Tryz.func20, Tryz.ntmps20
    go_wp2
    go_ret
    exact ⟨rfl, World.grownBy.refl _ _⟩
end Ln
end Go.Proofs.YtbmpiddjakdebaaGreat
namespace Go.Proofs.YtbmpiddjakdebaaGreat
open Go.RowKit
set_option linter.unusedVariables false
set_option linter.unusedSimpArgs false
set_option maxRecDepth 100000

namespace Ln
theorem pl_box {w : World} {g : Nat} {n : Nat} {f : Nat → Pt} (h : ∀ j, j < n → w.cell? ⟨g, j * 2, none⟩ = some (.int .i64 (f j).1) ∧ w.cell? ⟨g, j * 2 + 1, none⟩ = some (.int .i64 (f j).2)) : Pl w (some ⟨g, 0, none⟩) n f := fun k hk => ⟨g, 0, rfl, by rw [Nat.zero_add]; exact (h k hk).1, by rw [Nat.zero_add]; exact (h k hk).2⟩
theorem pl_lit {w : World} {g : Nat} {cs : Array Value} {ps : List Pt} (B : Bo w g 40 cs) (h : cs.toList = fl ps) : Pl w (some ⟨g, 0, none⟩) ps.length (fun k => ps.getD k (0, 0)) := fun k hk => by
  obtain ⟨h1, h2⟩ := fl_at ps k hk
  refine ⟨g, 0, rfl, ?_, ?_⟩
  · rw [Nat.zero_add]
    exact B.cell _ (by rw [← Array.getElem?_toList, h]; exact h1)
  · rw [Nat.zero_add]
    exact B.cell _ (by rw [← Array.getElem?_toList, h]; exact h2)
theorem pl_o {w : World} {sp : Option Addr} (h : Pl w sp ([(0, 0)] : List Pt).length (fun k => ([(0, 0)] : List Pt).getD k (0, 0))) : Pl w sp 1 oA := h.congr (fun j hj => by
  have h1 : ([(0, 0)] : List Pt).length = 1 := rfl
  obtain rfl : j = 0 := by omega
  rfl)
theorem pl_r {w : World} {sp : Option Addr} (h : Pl w sp ([(0, 0), (1, 0)] : List Pt).length (fun k => ([(0, 0), (1, 0)] : List Pt).getD k (0, 0))) : Pl w sp 2 rA := h.congr (fun j hj => by
  have h1 : ([(0, 0), (1, 0)] : List Pt).length = 2 := rfl
  rcases (by omega : j = 0 ∨ j = 1) with rfl | rfl <;> rfl)
theorem ptOkS {a b : Int} (ha : -9223372036854775808 ≤ a ∧ a ≤ 9223372036854775807) (hb : -9223372036854775808 ≤ b ∧ b ≤ 9223372036854775807) : PtOk (a, b) := ⟨ha, hb⟩
theorem rA_ok (k : Nat) : PtOk (rA k) := by unfold rA; split <;> exact ⟨by decide, by decide⟩
theorem oA_ok (k : Nat) : PtOk (oA k) := by unfold oA; exact ⟨by decide, by decide⟩
theorem jumpAC (s1 : Option Addr) (c1 : Nat) (hs : s1 = none → (2 = 0 ∧ c1 = 0)) (w : World) (H : Pl w s1 2 rA) (b : Nat) (HO : Pl w (some ⟨b, 0, none⟩) 1 oA) :
    Calls Tryz.prog 14 #[.agg #[.int .u8 2, .int .i64 5, .int .i64 1, .int .u8 0, .int .i64 0], .slice s1 2 c1, .slice (some ⟨b, 0, none⟩) 1 1, .int .i64 3] w fun e w' => ∃ v, e = .returned (.tuple #[v, .int .i64 0]) ∧ w'.ownsRow w.heap.size 40 2 v 4 (fl [(-2, 0), (-1, 0), (0, 0), (2, 0)]) ∧ w.grownBy w' none := by
  have h := jumpY 2 5 1 0 0 (by decide) (by decide) (fun _ => by decide) s1 2 c1 rA (fun k _ => rA_ok k) (by decide) hs (some ⟨b, 0, none⟩) 1 1 oA (fun k _ => oA_ok k) (by decide) (fun h => by cases h) 3 (by decide) (Nat.le_trans (lpL_short _ _ _ _ _ 2 3 _ (by decide)) (by decide)) w H HO jpA
  refine h.mono ?_
  rintro e w' ⟨v, L, nx, he, own, hL, hr, hg⟩
  have hs := jumpA hL hr
  have hl : nx.length = 4 := by rw [← srt_len nx, hs]; rfl
  rw [hs, hl] at own
  exact ⟨v, he, own, hg⟩
set_option maxHeartbeats 1000000 in
theorem powerA (s1 : Option Addr) (c1 : Nat) (hs : s1 = none → (2 = 0 ∧ c1 = 0)) (w : World) (H : Pl w s1 2 rA) :
    Calls Tryz.prog 16 #[.agg #[.int .u8 2, .int .i64 5, .int .i64 1, .int .u8 0, .int .i64 0], .slice s1 2 c1, .int .i64 3] w fun e w' => ∃ v, e = .returned (.tuple #[v, .int .i64 0]) ∧ w'.ownsRow w.heap.size 40 2 v 4 (fl [(-2, 0), (-1, 0), (0, 0), (2, 0)]) ∧ w.grownBy w' none := by
  have kJ := fun w1 (g1 : w.grownBy w1 none) (b : Nat) (HO : Pl w1 (some ⟨b, 0, none⟩) 1 oA) => jumpAC s1 c1 hs w1 (H.kept g1 (by simp)) b HO
  obtain ⟨R, hR⟩ : ∃ R, fl [(-2, 0), (-1, 0), (0, 0), (2, 0)] = R := ⟨_, rfl⟩
  rw [hR] at kJ ⊢
  clear hR
  obtain ⟨W1, hW1, sz1, g1, B1⟩ := boxn w #[.int .u8 2, .int .i64 5, .int .i64 1, .int .u8 0, .int .i64 0] 23
  have c0 := B1.cell 0 (v := .int .u8 2) rfl; have c1 := B1.cell 1 (v := .int .i64 5) rfl; have c2 := B1.cell 2 (v := .int .i64 1) rfl; have c3 := B1.cell 3 (v := .int .u8 0) rfl; have c4 := B1.cell 4 (v := .int .i64 0) rfl
  obtain ⟨W2, hW2, sz2, g2, B2⟩ := boxn W1 #[.int .i64 0, .int .i64 0] 40
  have kJ2 := kJ W2 (gb_trans g1 g2) W1.heap.size (pl_o (pl_lit (ps := [(0, 0)]) B2 rfl))
  have HG : Hid (w.grownBy W2 none) := gb_trans g1 g2
  go_enter Tryz.func16, Tryz.ntmps16
  go_wp2_with (first | (go_at_call 14; refine kJ2.mono ?_; rintro e w3 ⟨v, rfl, own, g3⟩) | go_in)
  go_ret2
  exact ⟨v, rfl, own_less own HG.out.size, gb_trans HG.out g3⟩
theorem timesAC (s1 : Option Addr) (c1 c2 : Nat) (w : World) (H : Pl w s1 2 rA) :
    Calls Tryz.prog 19 #[.slice s1 2 c1, .slice s1 2 c2] w fun e w' => ∃ g cap, e = .returned (.tuple #[.slice (some ⟨g, 0, none⟩) 2 cap, .int .i64 0]) ∧ w'.ownsRow w.heap.size 40 2 (.slice (some ⟨g, 0, none⟩) 2 cap) 2 (fl [(0, 0), (2, 0)]) ∧ w.grownBy w' none := by
  refine (timesY s1 s1 2 c1 2 c2 rA rA (by decide) (by decide) w H H ckA ckA).mono ?_
  rintro e w' ⟨hg, T, hT, _, hh⟩
  have hs := timesA hT
  have hl : T.length = 2 := by rw [← srt_len T, hs]; rfl
  rw [hs] at hh
  rcases hh with ⟨h1, _⟩ | ⟨_, g, cap, he, own⟩
  · exact absurd h1 (by decide)
  · rw [hl] at he own
    exact ⟨g, cap, he, own, hg⟩
def hA (k : Nat) : Int := if k = 1 then 1 else 0
theorem lineAC (b c : Nat) (w : World) (H : In w (some ⟨b, 0, none⟩) 2 hA) :
    Calls Tryz.prog 18 #[.slice (some ⟨b, 0, none⟩) 2 c, .int .i64 3, .int .i64 (-2)] w fun e w' => e = .returned (.tuple #[.bool true, .int .i64 0]) ∧ w.grownBy w' none := by
  have h := lineY (some ⟨b, 0, none⟩) 2 c hA (fun k _ => by unfold hA; split <;> decide) (by decide) 3 (-2) (by decide) w H ckLA (by decide)
  refine h.mono ?_
  rintro e w' ⟨he, hg⟩
  have e1 : lnR hA 2 3 (lv [(0, 0)]) (-2) = true := lnA
  rw [e1] at he
  exact ⟨he, hg⟩
theorem underTo : ∃ fs, Tryz.prog.underlying 23 = some (.struct fs) := by
  have h : (match Tryz.prog.underlying 23 with | some (.struct _) => true | _ => false) = true := by kernel_rfl
  split at h
  · rename_i fs hfs; exact ⟨fs, hfs⟩
  · cases h
theorem infoTo5 : (Tryz.prog.info? 23).map (·.size) = some 5 := by kernel_rfl
theorem fiveC (w : World) : Calls Tryz.prog 17 #[] w fun e w' => e = .returned (.agg #[.int .u8 2, .int .i64 5, .int .i64 1, .int .u8 0, .int .i64 0]) ∧ w.grownBy w' none := by
  obtain ⟨fs, hfs⟩ := underTo
  go_enter Tryz.func17, Tryz.ntmps17
  go_wp2
  obtain ⟨W1, hW1, sz1, g1, B1⟩ := boxn w #[.int .u8 2, .int .i64 5, .int .i64 1, .int .u8 0, .int .i64 0] 23
  rw [hW1]
  refine ret_c1 (g := w.heap.size) (cs := #[.int .u8 2, .int .i64 5, .int .i64 1, .int .u8 0, .int .i64 0]) rfl hfs infoTo5 rfl B1 rfl ⟨rfl, g1⟩
theorem in_lit {w : World} {g : Nat} (B : Bo w g 3 #[.int .i64 0, .int .i64 1]) : In w (some ⟨g, 0, none⟩) 2 hA := fun k hk => by
  rcases (by omega : k = 0 ∨ k = 1) with rfl | rfl
  · exact ⟨g, 0, rfl, B.cell 0 rfl⟩
  · exact ⟨g, 0, rfl, B.cell 1 rfl⟩
theorem sameEq (s1 : Option Addr) (n c1 : Nat) (f : Nat → Pt) (hf : ∀ k, k < n → PtOk (f k)) (hn : n < 1000000000) (s2 : Option Addr) (c2 : Nat) (w : World) (H1 : Pl w s1 n f) (H2 : Pl w s2 n f) :
    Calls Tryz.prog 20 #[.slice s1 n c1, .slice s2 n c2] w fun e w' => e = .returned (.bool true) ∧ w.grownBy w' none := by
  refine (sameC s1 n c1 f hf hn s2 n c2 f hf hn w H1 H2).mono ?_
  rintro e w' ⟨he, hg⟩
  rw [decide_eq_true rfl, smL_yes f f n (fun _ _ => rfl)] at he
  exact ⟨he, hg⟩
def f4 (k : Nat) : Pt := ([(-2, 0), (-1, 0), (0, 0), (2, 0)] : List Pt).getD k (0, 0)
def f2 (k : Nat) : Pt := ([(0, 0), (2, 0)] : List Pt).getD k (0, 0)
theorem f4_ok (k : Nat) (hk : k < 4) : PtOk (f4 k) := by
  rcases (by omega : k = 0 ∨ k = 1 ∨ k = 2 ∨ k = 3) with rfl | rfl | rfl | rfl <;> exact ⟨by decide, by decide⟩
theorem f2_ok (k : Nat) (hk : k < 2) : PtOk (f2 k) := by
  rcases (by omega : k = 0 ∨ k = 1) with rfl | rfl <;> exact ⟨by decide, by decide⟩
set_option maxHeartbeats 2000000 in
theorem aliveC (w : World) : Calls Tryz.prog 5 #[] w fun e w' => e = .returned (.bool true) ∧ w.grownBy w' none := by
  obtain ⟨W1, hW1, sz1, g1, B1⟩ := boxn w #[.int .i64 0, .int .i64 0, .int .i64 1, .int .i64 0] 40
  have HR : Pl W1 (some ⟨w.heap.size, 0, none⟩) 2 rA := pl_r (pl_lit (ps := [(0, 0), (1, 0)]) B1 rfl)
  have kP := fun w1 (gg : W1.grownBy w1 none) => powerA (some ⟨w.heap.size, 0, none⟩) 2 (fun h => by cases h) w1 (HR.kept gg (by simp))
  have kF := fiveC W1
  have kT := fun w1 (gg : W1.grownBy w1 none) => timesAC (some ⟨w.heap.size, 0, none⟩) 2 2 w1 (HR.kept gg (by simp))
  go_enter Tryz.func5, Tryz.ntmps5
  go_wp2_with (first | (go_at_call 17; refine kF.mono ?_; rintro e w2 ⟨rfl, g2⟩; have kP2 := kP w2 g2) | (go_at_call 16; refine kP2.mono ?_; rintro e w3 ⟨vl, rfl, own3, g3⟩; obtain ⟨sp, cp, rfl, Pv, hv0⟩ := own_shape0 own3 rfl; obtain ⟨W4, hW4, sz4, g4, B4⟩ := boxn w3 #[.int .i64 0, .int .i64 1] 3; have kL := lineAC w3.heap.size 2 W4 (in_lit B4); clear hv0 own3) | (go_at_call 18; refine kL.mono ?_; rintro e w5 ⟨rfl, g5⟩; have G5 := gb_trans g2 (gb_trans g3 (gb_trans g4 g5)); have kT5 := kT w5 G5) | (go_at_call 19; refine kT5.mono ?_; rintro e w6 ⟨gt, ct, rfl, own6, g6⟩; have Pt6 := pl_own own6 rfl; clear own6; obtain ⟨W7, hW7, sz7, g7, B7⟩ := boxn w6 #[.int .i64 (-2), .int .i64 0, .int .i64 (-1), .int .i64 0, .int .i64 0, .int .i64 0, .int .i64 2, .int .i64 0] 40; have kS7 := sameEq sp 4 cp f4 f4_ok (by decide) (some ⟨w6.heap.size, 0, none⟩) 4 W7 ((((Pv.kept g4 (by simp)).kept g5 (by simp)).kept g6 (by simp)).kept g7 (by simp)) (pl_lit (ps := [(-2, 0), (-1, 0), (0, 0), (2, 0)]) B7 rfl)) | (go_at_call 20; refine kS7.mono ?_; rintro e w8 ⟨rfl, g8⟩; obtain ⟨W9, hW9, sz9, g9, B9⟩ := boxn w8 #[.int .i64 0, .int .i64 0, .int .i64 2, .int .i64 0] 40; have kS9 := sameEq (some ⟨gt, 0, none⟩) 2 ct f2 f2_ok (by decide) (some ⟨w8.heap.size, 0, none⟩) 2 W9 (((Pt6.kept g7 (by simp)).kept g8 (by simp)).kept g9 (by simp)) (pl_lit (ps := [(0, 0), (2, 0)]) B9 rfl); have HG9 : Hid (w.grownBy W9 none) := gb_trans g1 (gb_trans G5 (gb_trans g6 (gb_trans g7 (gb_trans g8 g9)))); clear kS7 kT5 kL kP2 kP kT kF hW7 B7 Pv Pt6 B4 hW4 HR B1 B9 hW1 sz1 sz4 sz7 sz9 g1 g2 g3 g4 g5 g6 g7 g8 g9 G5) | (go_at_call 20; refine kS9.mono ?_; rintro e w10 ⟨rfl, g10⟩) | go_in)
  go_ret
  exact ⟨rfl, gb_trans HG9.out g10⟩
end Ln
end Go.Proofs.YtbmpiddjakdebaaGreat
