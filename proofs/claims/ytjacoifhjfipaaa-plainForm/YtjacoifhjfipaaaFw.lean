/- The walk of PlainForm. -/
import Derived.Test.YtjacoifhjfipaaaFp
import Derived.Test.YtjacoifhjfipaaaRw
namespace Go.Proofs.Ytjacoifhjfipaaa
open Go.RowKit Ln
set_option linter.unusedVariables false
set_option linter.unusedSimpArgs false
set_option maxRecDepth 100000

theorem lns_le (s : ByteArray) : ∀ (f i : Nat), ∀ k ∈ lnF f s i, k ≤ s.size
  | 0, i, k, h => by rw [lnF] at h; cases h
  | f + 1, i, k, h => by
    rw [lnF] at h
    split at h
    · rcases List.mem_cons.1 h with rfl | h
      · omega
      · exact lns_le s f _ k h
    · cases h
theorem rdF_pl (s : ByteArray) : ∀ (n : Nat) (l : List Nat), l.length = n → (∀ k ∈ l, k ≤ s.size) → ∀ p, (rdF s l).2.2 = some p → p < s.size
  | 0, l, h, _, p, e => by
    obtain rfl : l = [] := List.length_eq_zero_iff.1 h
    cases e
  | n + 1, l, h, hk, p, e => by
    rcases List.eq_nil_or_concat l with rfl | ⟨k, i, rfl⟩
    · simp at h
    rw [List.concat_eq_append] at h hk e
    rw [rdF_snoc] at e
    have hkl : k.length = n := by simpa using h
    by_cases he : (rdF s k).2.2.isSome = true
    · rw [stepR_err he] at e
      exact rdF_pl s n k hkl (fun x hx => hk x (List.mem_append_left _ hx)) p e
    · have he' : (rdF s k).2.2 = none := by simpa using he
      cases hr : remB (lin s i) with
      | true => rw [stepR_rem he' hr, he'] at e; cases e
      | false =>
        cases hp : (rowA (lin s i) (rdF s k).1 0 0 (rdF s k).2.1).2 with
        | some q =>
          rw [stepR_bad he' hr hp] at e
          obtain rfl : i + q = p := by injection e
          have hi := hk i (List.mem_append_right _ (List.mem_singleton_self i))
          have hq := rowA_lt (lin s i) _ _ 0 0 _ q (Nat.le_refl _) hp
          have hb := le_bd hi
          have hl := ln_le hi
          unfold lin at hq
          rw [Sc.size_ext s (by omega)] at hq
          omega
        | none =>
          have e2 : rowA (lin s i) (rdF s k).1 0 0 (rdF s k).2.1 = ((rowA (lin s i) (rdF s k).1 0 0 (rdF s k).2.1).1, none) := by rw [← hp]
          rw [stepR_row he' hr e2] at e; cases e
theorem mx_nat (x a N : Nat) (h1 : x ≤ N) (h2 : a + 1 ≤ N) : ∃ y : Nat, max (x : Int) ((a : Int) + 1) = (y : Int) ∧ x ≤ y ∧ a < y ∧ y ≤ N := by
  refine ⟨max x (a + 1), ?_, ?_, ?_, ?_⟩ <;> omega
theorem rcF_len : ∀ (l : List Nat) (x y : Nat), (rcF l x y).length ≤ l.length
  | [], _, _ => Nat.le_refl _
  | v :: l, x, y => by
    have h := rcF_len l (x + 1) y
    rw [rcF, List.length_append, List.length_cons]
    split
    · simp; omega
    · simp; omega
theorem pic_len (n : Nat) (g : Nat → Nat → Nat) : ∀ m, (pic n g m).length ≤ n * m
  | 0 => Nat.zero_le _
  | m + 1 => by
    have h := pic_len n g m
    have h2 := rcF_len (rowS n g m) 0 m
    have h3 : (rowS n g m).length = n := by unfold rowS; simp
    rw [pic_succ, List.length_append, Nat.mul_succ]
    omega
theorem ah_len {l : List Cx} {x y : Nat} (h : Ah l x y) {n m : Nat} (hin : ∀ c ∈ l, c.1 < (n : Int) ∧ c.2.1 < (m : Int)) : l.length ≤ n * m := by
  have h1 := pic_is h.1 (n := n) (m := m) (fun c hc => ⟨(h.2 c hc).1.1, (hin c hc).1, (h.2 c hc).1.2.1, (hin c hc).2, (h.2 c hc).1.2.2.1⟩)
  have h2 := pic_len n (gL l) m
  rw [h1] at h2
  exact h2
theorem wrap_mul_nat {a b P : Nat} (h : a * b = P) (ha : a ≤ 65536) (hb : b ≤ 65536) : IntKind.i64.wrap ((a : Int) * (b : Int)) = (P : Int) := by
  have h1 : a * b ≤ 65536 * 65536 := Nat.mul_le_mul ha hb
  have h2 : (a : Int) * (b : Int) = (P : Int) := by rw [← h]; exact (Int.natCast_mul a b).symm
  rw [h2, IntKind.wrap_i64]; omega
theorem rd_three (s : ByteArray) : (rdE s = 3 ∧ rdP s = 0 ∧ rdC s = [] ∧ 1048576 < s.size) ∨ (rdE s = 230 ∧ rdP s < s.size ∧ rdC s = []) ∨ (rdE s = 0 ∧ ¬ 1048576 < s.size) := by
  by_cases hs : 1048576 < s.size
  · refine .inl ⟨?_, ?_, ?_, hs⟩
    · unfold rdE; rw [if_pos hs]
    · unfold rdP; rw [if_pos hs]
    · unfold rdC; rw [if_pos hs]
  · cases hr : (rd s).2 with
    | none => refine .inr (.inr ⟨?_, hs⟩); unfold rdE; rw [if_neg hs, hr]; rfl
    | some p =>
      refine .inr (.inl ⟨?_, ?_, ?_⟩)
      · unfold rdE; rw [if_neg hs, hr]; rfl
      · unfold rdP; rw [if_neg hs, hr]
        exact rdF_pl s _ (lns s) rfl (lns_le s _ _) p hr
      · unfold rdC; rw [if_neg hs, hr]; rfl
set_option maxHeartbeats 8000000 in
theorem form_walk (s : ByteArray) (hs : s.size ≤ 9223372036854775807) (w : World) : Calls Try.prog 8 #[.string s] w fun e w' => e = .returned (.bool true) ∧ Below w.heap.size w w' := by
  rcases rd_three s with ⟨hE, hP, hC, hbig⟩ | ⟨hE, hP, hC⟩ | ⟨hE, hsm⟩
  · have hb' : (1048576 : Int) < (s.size : Int) := by omega
    have r2 := readAll s
    unfold LeftR at r2
    simp only [hE, hP, hC] at r2
    clear hE hP hC hbig
    go_enter Try.func8, Try.ntmps8
    go_wp2_with (first
      | (go_at_call 9; refine (aliveC w).mono ?_; rintro e w1 ⟨rfl, g1⟩)
      | (go_at_call 10; refine (r2 w1).mono ?_; rintro e w2 ⟨v2, rfl, o2, g2⟩; obtain ⟨sp2, cp2, rfl, ce2, _⟩ := ce_of o2; clear o2 ce2)
      | go_in)
    go_ret
    exact ⟨rfl, gb_below (gb_trans g1 g2)⟩
  · obtain ⟨p, hp⟩ : ∃ p, rdP s = p := ⟨_, rfl⟩
    rw [hp] at hP
    have h1 : (p : Int) ≤ (s.size : Int) := by omega
    have h2 : (p : Int) < (s.size : Int) := by omega
    have r2 := readAll s
    unfold LeftR at r2
    simp only [hE, hp, hC] at r2
    clear hE hP hC hp
    go_enter Try.func8, Try.ntmps8
    go_wp2_with (first
      | (go_at_call 9; refine (aliveC w).mono ?_; rintro e w1 ⟨rfl, g1⟩)
      | (go_at_call 10; refine (r2 w1).mono ?_; rintro e w2 ⟨v2, rfl, o2, g2⟩; obtain ⟨sp2, cp2, rfl, ce2, _⟩ := ce_of o2; clear o2 ce2)
      | go_in)
    go_ret
    exact ⟨rfl, gb_below (gb_trans g1 g2)⟩
  · have hlen := rdC_len s
    have hah := rdC_ah s
    have hy0 : (rdF s (lns s)).1 ≤ 1048576 := by
      have h1 := (rdF_len s (lns s).length (lns s) rfl).2
      have h2 := lnF_len s (s.size + 1) 0 (Nat.zero_le _)
      have h3 : (lns s).length ≤ s.size := by unfold lns; omega
      omega
    have r2 := readAll s
    unfold LeftR at r2
    obtain ⟨l, hl⟩ : ∃ l, rdC s = l := ⟨_, rfl⟩
    obtain ⟨p, hp⟩ : ∃ p, rdP s = p := ⟨_, rfl⟩
    obtain ⟨y0, hyy⟩ : ∃ y, (rdF s (lns s)).1 = y := ⟨_, rfl⟩
    rw [hyy] at hah hy0
    simp only [hE, hl, hp] at r2 hlen hah
    have HAH : Hid (Ah l 0 y0) := hah
    have HLL : Hid (l.length ≤ 1099512676352) := hlen
    have HY0 : Hid (y0 ≤ 1048576) := hy0
    clear hE hl hp hyy hah hlen hy0 hsm
    obtain ⟨n, hn⟩ : ∃ n, l.length = n := ⟨_, rfl⟩
    have HNl : Hid (l.length = n) := hn
    clear hn
    go_enter Try.func8, Try.ntmps8
    go_wp2_with (first
      | (go_at_call 9; refine (aliveC w).mono ?_; rintro e w1 ⟨rfl, g1⟩)
      | (go_at_call 10; refine (r2 w1).mono ?_; rintro e w2 ⟨v2, rfl, o2, g2⟩; obtain ⟨sp2, cp2, rfl, ce2, _⟩ := ce_of o2; have H2 : Hid (Ce w2 sp2 l) := ce2; have G2 := gb_trans g1 g2; clear o2 ce2; rw [HNl.out])
      | go_in)
    have hg0 : Hid (w2.grownBy w2 none) := World.grownBy.refl _ _
    go_loopw [7, 8, 9] (fun vw vh vk wr => ∃ k wd ht : Nat, k ≤ n ∧ vk = .int .i64 (k : Nat) ∧ vw = .int .i64 (wd : Nat) ∧ vh = .int .i64 (ht : Nat) ∧ Hid (w2.grownBy wr none) ∧ Hid (∀ c ∈ l.take k, c.1 < (wd : Int) ∧ c.2.1 < (ht : Int)) ∧ Hid (wd ≤ 1048577 ∧ ht ≤ 1048577)) (fun _ _ vk _ => n - (intOf vk).toNat)
    case atStart => exact ⟨0, 0, 0, Nat.zero_le _, rfl, rfl, rfl, hg0, (fun c hc => by cases hc), ⟨by omega, by omega⟩⟩
    case round =>
      obtain ⟨k, wd, ht, hk, rfl, rfl, rfl, HG, HM, HB⟩ := hrel
      by_cases hlt : k < n
      · have hlt' : (k : Int) < (n : Int) := by omega
        have hkl : k < l.length := by have := HNl.out; omega
        obtain ⟨q, o, rfl, c0, c1, c2⟩ := (H2.out.kept HG.out (by simp)) k hkl
        have hc := HAH.out.2 _ (List.getElem_mem hkl)
        have hprev : ∀ hk1 : 0 < k, Rw (l[k - 1]'(by omega)) l[k] := fun hk1 => (List.pairwise_iff_getElem.1 HAH.out.1) (k - 1) k (by omega) hkl (by omega)
        have hpc : 0 < k → w2.grownBy wr none → True := fun _ _ => trivial
        obtain ⟨c, hcc⟩ : ∃ c, l[k] = c := ⟨_, rfl⟩
        have HC : Hid (l[k] = c) := hcc
        rw [hcc] at c0 c1 c2 hc
        obtain ⟨cx, cy, z⟩ := c
        obtain ⟨⟨hx0, hyy0, hz0, hz8⟩, hah2, hx1⟩ := hc
        have hx0' : 0 ≤ cx := hx0
        have hy0' : 0 ≤ cy := hyy0
        have hx1' : cx < 1048576 := hx1
        have hy1' : cy ≤ 1048576 := by have h9 := HY0.out; have h8 : cy < (y0 : Int) ∨ cy = (y0 : Int) ∧ cx < ((0 : Nat) : Int) := hah2; omega
        obtain ⟨a, rfl⟩ : ∃ a : Nat, cx = (a : Int) := ⟨cx.toNat, by omega⟩
        obtain ⟨b, rfl⟩ : ∃ b : Nat, cy = (b : Int) := ⟨cy.toNat, by omega⟩
        have nz : ((z : Int) == 0) = false := beq_false_of_ne (by have h9 : z ≠ 0 := hz0; omega)
        have nx : ¬ (a : Int) < 0 := by omega
        have ny : ¬ (b : Int) < 0 := by omega
        have hwx : IntKind.i64.wrap ((a : Int) + 1) = ((a + 1 : Nat) : Int) := by rw [IntKind.wrap_i64]; omega
        have hwy : IntKind.i64.wrap ((b : Int) + 1) = ((b + 1 : Nat) : Int) := by rw [IntKind.wrap_i64]; omega
        have hwk : IntKind.i64.wrap ((k : Int) + 1) = (k : Int) + 1 := by have h9 := HLL.out; have h8 := HNl.out; rw [IntKind.wrap_i64]; omega
        have h9 := HB.out
        obtain ⟨w3, mxw, hw3⟩ : ∃ w3 : Nat, max (wd : Int) ((a : Int) + 1) = (w3 : Int) ∧ wd ≤ w3 ∧ a < w3 ∧ w3 ≤ 1048577 := mx_nat wd a 1048577 h9.1 (by omega)
        obtain ⟨h3, mxh, hh3⟩ : ∃ h3 : Nat, max (ht : Int) ((b : Int) + 1) = (h3 : Int) ∧ ht ≤ h3 ∧ b < h3 ∧ h3 ≤ 1048577 := mx_nat ht b 1048577 h9.2 (by omega)
        have HXW : Hid (max (wd : Int) ((a : Int) + 1) = (w3 : Int)) := mxw
        have HXH : Hid (max (ht : Int) ((b : Int) + 1) = (h3 : Int)) := mxh
        clear h9 mxw mxh
        have HM3 : Hid (∀ c ∈ l.take (k + 1), c.1 < (w3 : Int) ∧ c.2.1 < (h3 : Int)) := fun c hcm => by
          rw [take_succ l k hkl] at hcm
          rcases List.mem_append.1 hcm with hcm | hcm
          · have h9 := HM.out c hcm; omega
          · rw [HC.out] at hcm
            obtain rfl : c = ((a : Int), (b : Int), z) := by simpa using hcm
            exact ⟨by show (a : Int) < (w3 : Int); omega, by show (b : Int) < (h3 : Int); omega⟩
        have HB3 : Hid (w3 ≤ 1048577 ∧ h3 ≤ 1048577) := ⟨hw3.2.2, hh3.2.2⟩
        clear hw3 hh3 hah2 hx0 hyy0 hz0 hx1 hx0' hy0' hx1' hy1' hpc HM HB
        by_cases hk0 : 0 < k
        · have hk0' : (0 : Int) < (k : Int) := by omega
          have hrw := hprev hk0
          have hkm : k - 1 < l.length := by omega
          obtain ⟨q', o', hq', p0, p1, p2⟩ := (H2.out.kept HG.out (by simp)) (k - 1) hkm
          cases hq'
          obtain ⟨d, hdd⟩ : ∃ d, l[k - 1]'hkm = d := ⟨_, rfl⟩
          rw [hdd] at p0 p1 p2
          rw [hdd, hcc] at hrw
          obtain ⟨dx, dy, dz⟩ := d
          have hrw' : dy < (b : Int) ∨ dy = (b : Int) ∧ dx < (a : Int) := hrw
          obtain ⟨j, hj⟩ : ∃ j, k = j + 1 := ⟨k - 1, by omega⟩
          have hwm : IntKind.i64.wrap ((k : Int) - 1) = (j : Int) := by have h9 := HLL.out; have h8 := HNl.out; rw [IntKind.wrap_i64]; omega
          have hjk : k - 1 = j := by omega
          rw [hjk] at p0 p1 p2
          have hj1 : (j : Int) < (n : Int) := by omega
          have hj0 : (0 : Int) ≤ (j : Int) := by omega
          clear hprev hrw hdd hcc hkm hjk hj
          rcases hrw' with hlt3 | ⟨he3, hx3⟩
          · go_wp2
            have t1 : decide ((b : Int) < dy) = false := decide_eq_false (by omega)
            have t2' : ¬ dy = (b : Int) := by omega
            have t2 : (dy == (b : Int)) = false := beq_false_of_ne t2'
            clear hlt3
            go_quiet (fail)
            generalize hU : World.drewN wr _ = U
            have HGU : Hid (w2.grownBy U none) := by rw [← hU]; exact gb_drewN HG.out _
            have u0 : U.cell? ⟨q, o + k * 3, none⟩ = some (.int .i64 (a : Int)) := by rw [← hU]; exact c0
            have u1 : U.cell? ⟨q, o + k * 3 + 1, none⟩ = some (.int .i64 (b : Int)) := by rw [← hU]; exact c1
            clear hU c0 c1 c2 p0 p1 p2 HG
            go_wp2
            go_roundw
            case rel => exact ⟨k + 1, w3, h3, hlt, by go_num, (by first | rfl | rw [HXW.out]), (by first | rfl | rw [HXH.out]), HGU, HM3, HB3⟩
            case measure => simp [intOf]; omega
          · subst he3
            go_wp2
            have t1 : decide ((b : Int) < (b : Int)) = false := decide_eq_false (by omega)
            have t3 : decide ((a : Int) ≤ dx) = false := decide_eq_false (by omega)
            clear hx3
            go_quiet (fail)
            generalize hU : World.drewN wr _ = U
            have HGU : Hid (w2.grownBy U none) := by rw [← hU]; exact gb_drewN HG.out _
            have u0 : U.cell? ⟨q, o + k * 3, none⟩ = some (.int .i64 (a : Int)) := by rw [← hU]; exact c0
            have u1 : U.cell? ⟨q, o + k * 3 + 1, none⟩ = some (.int .i64 (b : Int)) := by rw [← hU]; exact c1
            clear hU c0 c1 c2 p0 p1 p2 HG
            go_wp2
            go_roundw
            case rel => exact ⟨k + 1, w3, h3, hlt, by go_num, (by first | rfl | rw [HXW.out]), (by first | rfl | rw [HXH.out]), HGU, HM3, HB3⟩
            case measure => simp [intOf]; omega
        · have hk0' : ¬ (0 : Int) < (k : Int) := by omega
          clear hprev hcc
          go_wp2
          go_quiet (fail)
          generalize hU : World.drewN wr _ = U
          have HGU : Hid (w2.grownBy U none) := by rw [← hU]; exact gb_drewN HG.out _
          have u0 : U.cell? ⟨q, o + k * 3, none⟩ = some (.int .i64 (a : Int)) := by rw [← hU]; exact c0
          have u1 : U.cell? ⟨q, o + k * 3 + 1, none⟩ = some (.int .i64 (b : Int)) := by rw [← hU]; exact c1
          clear hU c0 c1 c2 HG
          go_wp2
          go_roundw
          case rel => exact ⟨k + 1, w3, h3, hlt, by go_num, (by first | rfl | rw [HXW.out]), (by first | rfl | rw [HXH.out]), HGU, HM3, HB3⟩
          case measure => simp [intOf]; omega
      · have hkn : k = n := by omega
        have hlt' : ¬ (k : Int) < (n : Int) := by omega
        have HM2 : Hid (∀ c ∈ l, c.1 < (wd : Int) ∧ c.2.1 < (ht : Int)) := by
          have h9 := HM.out
          rw [hkn, ← HNl.out, List.take_length] at h9
          exact h9
        clear HM hkn hk hlt
        have hn : l.length = n := HNl.out
        subst hn
        by_cases h1 : 65536 < wd
        · have h1' : (65536 : Int) < (wd : Int) := by omega
          go_wp2
          go_ret
          exact ⟨rfl, gb_below (gb_trans G2 HG.out)⟩
        · have HW : Hid (wd ≤ 65536) := Nat.not_lt.1 h1
          have h1' : decide ((65536 : Int) < (wd : Int)) = false := decide_eq_false (by omega)
          by_cases h2 : 65536 < ht
          · have h2' : (65536 : Int) < (ht : Int) := by omega
            go_wp2
            go_ret
            exact ⟨rfl, gb_below (gb_trans G2 HG.out)⟩
          · have HH : Hid (ht ≤ 65536) := Nat.not_lt.1 h2
            have h2' : decide ((65536 : Int) < (ht : Int)) = false := decide_eq_false (by omega)
            obtain ⟨P, hP⟩ : ∃ P : Nat, wd * ht = P := ⟨_, rfl⟩
            have hmul : IntKind.i64.wrap ((wd : Int) * (ht : Int)) = (P : Int) := wrap_mul_nat hP HW.out HH.out
            have HP : Hid (wd * ht = P) := hP
            clear hP h1 h2
            by_cases h3 : 300000 < P
            · have h3' : (300000 : Int) < (P : Int) := by omega
              go_wp2
              go_ret
              exact ⟨rfl, gb_below (gb_trans G2 HG.out)⟩
            · have h3' : decide ((300000 : Int) < (P : Int)) = false := decide_eq_false (by omega)
              have hlen : l.length < 1099511627776 := by have h9 := ah_len HAH.out HM2.out; have h8 := HP.out; omega
              have HOK : Hid (∀ c ∈ l, CxOk c) := fun c hc => by
                have h7 := HAH.out.2 c hc
                have h8 := HM2.out c hc
                have h9 := HH.out
                unfold CxOk PtOk
                refine ⟨?_, h7.1.2.2.2⟩
                constructor <;> constructor <;> (try simp only []) <;> omega
              have hF := form_W HAH.out HW.out HH.out (by have h8 := HP.out; omega) HM2.out
              obtain ⟨T, hT⟩ : ∃ T, wrS l 0 0 (wd : Int) (ht : Int) = T := ⟨_, rfl⟩
              rw [hT] at hF
              have HT : Hid (wrS l 0 0 (wd : Int) (ht : Int) = T) := hT
              have HF : Hid (wrE l 0 0 (wd : Int) (ht : Int) = 0 ∧ rdE T = 0 ∧ rdC T = l) := hF
              obtain ⟨p', hp'⟩ : ∃ p', rdP T = p' := ⟨_, rfl⟩
              have HPP : Hid (rdP T = p') := hp'
              have ce9 : Ce wr sp2 l := H2.out.kept HG.out (by simp)
              have H9 : Hid (Ce wr sp2 l) := ce9
              have HLN : Hid (l.length < 1099511627776) := hlen
              clear hT hF hp' ce9 h3 hlen
              go_wp2_with (first
                | (go_at_call 11; refine (writeC sp2 cp2 l HLN.out HOK.out 0 0 (wd : Nat) (ht : Nat) wr H9.out).mono ?_; rintro e w5 ⟨he, g5⟩; rw [HF.out.1, HT.out] at he; subst he)
                | (go_at_call 10; refine (readAll T w5).mono ?_; rintro e w6 ⟨v6, he, o6, g6⟩; rw [HF.out.2.1, HPP.out] at he; rw [HF.out.2.2] at o6; subst he; obtain ⟨sp6, cp6, rfl, ce6, _⟩ := ce_of o6; have h96 : Hid (Ce w6 sp2 l) := H9.out.kept (gb_trans g5 g6) (by simp); have H66 : Hid (Ce w6 sp6 l) := ce6; clear o6 ce6)
                | (go_at_call 18; refine (sameC sp2 sp6 cp2 cp6 l l (by have := HLN.out; omega) (by have := HLN.out; omega) w6 h96.out H66.out).mono ?_; rintro e w7 ⟨he, g7⟩; rw [decide_eq_true rfl] at he; subst he)
                | go_in)
              go_ret
              exact ⟨rfl, gb_below (gb_trans G2 (gb_trans HG.out (gb_trans g5 (gb_trans g6 g7))))⟩
end Go.Proofs.Ytjacoifhjfipaaa
