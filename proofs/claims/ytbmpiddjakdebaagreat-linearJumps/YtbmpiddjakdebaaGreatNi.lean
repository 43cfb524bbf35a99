/- sortByRows of any rows; rows of lists; Jump that is not refused: the facts. -/
import Derived.Test.YtbmpiddjakdebaaGreatNh
namespace Go.Proofs.YtbmpiddjakdebaaGreat
open Go.RowKit Go.Shelf Go.Lib Go.Sort
set_option linter.unusedVariables false
set_option linter.unusedSimpArgs false
set_option maxRecDepth 100000

namespace Ln
theorem sortNil (w : World) : Calls Tryz.prog 32 #[.slice none 0 0] w fun e w' => e = .returned (.tuple #[]) ∧ w' = w := by
  have hin : Calls Tryz.prog 91 #[.slice none 0 0, .int .i64 0, .int .i64 0, .func (.func 63) #[] #[]] w fun e w' => e = .returned (.tuple #[]) ∧ w' = w := by
    go_enter Tryz.func91, Tryz.ntmps91
    go_wp2
    refine wp_loop_rounds 1 ?_
    rw [rounds_succ]
    go_wp2
    go_end0
    exact ⟨rfl, rfl⟩
  have hl : Calls Tryz.prog 79 #[.int .u64 0] w fun e w' => e = .returned (.int .i64 (Lib.bitLen 0 : Nat)) ∧ w' = w := by
    have h := Any.bits_Len (SlLaysF0.n15.bits { laysSort with }) 0 w (by omega) (by omega)
    exact h
  have hpd : ∀ lim, Calls Tryz.prog 78 #[.slice none 0 0, .int .i64 0, .int .i64 0, .int .i64 lim, .func (.func 63) #[] #[]] w fun e w' => e = .returned (.tuple #[]) ∧ w' = w := fun lim => by
    go_enter Tryz.func78, Tryz.ntmps78
    go_wp2
    refine wp_loop_rounds 1 ?_
    rw [rounds_succ]
    go_wp2_with (go_at_call 91; refine hin.mono ?_; rintro e w' ⟨rfl, hw'⟩; subst w')
    (try simp only [Exit.inBlock, Exit.then]); refine bodyPost_ret (results_none rfl _ _ _) rfl ?_
    exact ⟨rfl, rfl⟩
  have hso : Calls Tryz.prog 62 #[.slice none 0 0, .func (.func 63) #[] #[]] w fun e w' => e = .returned (.tuple #[]) ∧ w' = w := by
    go_enter Tryz.func62, Tryz.ntmps62
    go_wp2_with (first | (go_at_call 79; refine hl.mono ?_; rintro e w' ⟨rfl, hw'⟩; subst w') | (go_at_call 78; refine (hpd _).mono ?_; rintro e w' ⟨rfl, hw'⟩; subst w') | go_in)
    go_end0
    exact ⟨rfl, rfl⟩
  go_enter Tryz.func32, Tryz.ntmps32
  go_wp2_with (go_at_call 62; refine hso.mono ?_; rintro e w' ⟨rfl, hw'⟩; subst w')
  go_end0
  exact ⟨rfl, rfl⟩
theorem sortAny (w : World) (base n : Nat) (v : Value) (ps : List Pt) (hn : ps.length = n) (h : w.ownsRow base 40 2 v n (fl ps)) (hl : n < 1000000000) :
    Calls Tryz.prog 32 #[v] w fun e w' => e = .returned (.tuple #[]) ∧ w'.ownsRow base 40 2 v n (fl (srt ps)) ∧ w.grownBy w' v.ownBlock := by
  have hs := h.2
  rcases hs with ⟨rfl, hnil⟩ | ⟨g, cap, cur, rfl, _⟩
  · have h0 : ps = [] := by
      cases ps with
      | nil => rfl
      | cons p ps => exact absurd hn (by have h9 : n = 0 := hnil; rw [h9]; simp)
    subst h0
    simp at hn
    subst hn
    refine (sortNil w).mono ?_
    rintro e w' ⟨rfl, hw'⟩
    subst w'
    exact ⟨rfl, by simpa [srt] using h, World.grownBy.refl _ _⟩
  · exact sortRowsK w base g cap n ps hn h hl
/-- A row's slice; nil: it has no elements, and no room. -/
theorem own_shape0 {w : World} {base n : Nat} {v : Value} {ps : List Pt} (h : w.ownsRow base 40 2 v n (fl ps)) (hn : ps.length = n) : ∃ sp cap, v = .slice sp n cap ∧ Pl w sp n (fun k => ps.getD k (0, 0)) ∧ (sp = none → n = 0 ∧ cap = 0) := by
  have hs := h.2
  rcases hs with ⟨rfl, hnil⟩ | ⟨g, cap, cur, rfl, _⟩
  · have h0 : n = 0 := by
      cases n with
      | zero => rfl
      | succ n => simp at hnil
    subst h0
    exact ⟨none, 0, rfl, fun k hk => by omega, fun _ => ⟨rfl, rfl⟩⟩
  · exact ⟨_, cap, rfl, pl_own h hn, fun e => by cases e⟩
/-- Lists that are readable. -/
def Lm (w : World) (sp : Option Addr) (L : List Ml) : Prop := ∀ i, i < L.length → ∃ q l, sp = some ⟨q, 0, none⟩ ∧ L[i]? = some l ∧ w.cell? ⟨q, i, none⟩ = some (encM l)
theorem Lm.kept {w w' : World} {sp : Option Addr} {L : List Ml} {r : Option Nat} (h : Lm w sp L) (hg : w.grownBy w' r) (hne : ∀ a, sp = some a → some a.block ≠ r) : Lm w' sp L := fun i hi => by
  obtain ⟨q, l, rfl, e, c⟩ := h i hi
  exact ⟨q, l, rfl, e, hg.cell c (hne ⟨q, 0, none⟩ rfl)⟩
theorem lm_own {w : World} {base : Nat} {v : Value} {L : List Ml} (h : w.ownsRow base 24 1 v L.length (L.map encM)) : ∃ sp cap, v = .slice sp L.length cap ∧ Lm w sp L := by
  have hs := h.2
  rcases hs with ⟨rfl, hnil⟩ | ⟨g, cap, cur, rfl, hba, hb, h1, h2, h3, h4⟩
  · have h0 : L = [] := by
      cases L with
      | nil => rfl
      | cons l L => simp at hnil
    subst h0
    exact ⟨none, 0, rfl, fun k hk => by simp at hk⟩
  · refine ⟨_, cap, rfl, fun i hi => ⟨g, L[i], rfl, List.getElem?_eq_getElem hi, ?_⟩⟩
    have e : (cur.toList.take (L.length * 1))[i]? = (L.map encM)[i]? := by rw [h4]
    rw [List.getElem?_take_of_lt (by omega), List.getElem?_map, List.getElem?_eq_getElem hi, Array.getElem?_toList] at e
    simp only [World.cell?, hb]
    simpa using e
theorem psL_self (cs : List Pt) : psL (fun k => cs.getD k (0, 0)) cs.length = cs := by
  unfold psL
  apply List.ext_getElem?
  intro i
  by_cases hi : i < cs.length
  · simp [hi, List.getD]
  · simp [hi]
theorem jpE_zero {k x y t z : Int} {f : Nat → Pt} {n : Nat} {h : Nat → Pt} {m : Nat} {g : Int} (hE : jpE k x y t z f n h m g = 0) : Tp.chk k x y t z = 0 ∧ k = 2 ∧ (1 ≤ x ∧ x ≤ 65536) ∧ (1 ≤ y ∧ y ≤ 65536) ∧ ckO f n 1099511627776 = 0 ∧ ceL k x y t z h m = 0 ∧ (0 ≤ g ∧ g ≤ 1125899906842624) ∧ x * y ≤ 1048576 := by
  unfold jpE at hE
  by_cases h1 : toE k x y t z = 0
  · rw [if_neg (by omega)] at hE
    obtain ⟨hc, hk⟩ := toE_zero h1
    have hT := h1
    unfold toE at hT
    rw [if_neg (by omega), if_neg (by omega)] at hT
    have hen : (To.enB k x y t z x || To.enB k x y t z y) = false := by
      cases e : (To.enB k x y t z x || To.enB k x y t z y) with
      | false => rfl
      | true => rw [e] at hT; simp at hT
    have hb : 0 ≤ x ∧ x ≤ 65536 ∧ 0 ≤ y ∧ y ≤ 65536 := by
      have := hc
      unfold Tp.chk at this
      split at this
      · omega
      · split at this
        · omega
        · omega
    unfold To.enB at hen
    rw [hc] at hen
    simp at hen
    simp only [orL] at hE
    by_cases a1 : ckO f n 1099511627776 = 0
    · rw [if_pos a1] at hE
      by_cases a2 : ceL k x y t z h m = 0
      · rw [if_pos a2] at hE
        by_cases a3 : ckG g = 0
        · rw [if_pos a3] at hE
          have a4 : bdE x y = 0 := by
            by_cases a4 : bdE x y = 0
            · exact a4
            · rw [if_neg a4] at hE; exact hE
          refine ⟨hc, hk, ⟨by omega, by omega⟩, ⟨by omega, by omega⟩, a1, a2, ?_, ?_⟩
          · unfold ckG at a3
            split at a3
            · omega
            · split at a3 <;> omega
          · unfold bdE at a4
            split at a4 <;> omega
        · rw [if_neg a3] at hE; exact absurd hE a3
      · rw [if_neg a2] at hE; exact absurd hE a2
    · rw [if_neg a1] at hE; exact absurd hE a1
  · rw [if_pos h1] at hE; exact absurd hE h1
theorem alH_is {k x y t z : Int} {f : Nat → Pt} : ∀ {n : Nat}, alH k x y t z f n = true → ∀ j, j < n → To.hasV k x y t z (f j).1 (f j).2 = true
  | 0, _, j, hj => by omega
  | n + 1, h, j, hj => by
    have h' : (alH k x y t z f n && To.hasV k x y t z (f n).1 (f n).2) = true := h
    rw [Bool.and_eq_true] at h'
    by_cases e : j = n
    · subst e; exact h'.2
    · exact alH_is h'.1 j (by omega)
theorem ceL_zero {k x y t z : Int} {h : Nat → Pt} {m : Nat} (hx : 1 ≤ x) (hy : 1 ≤ y) (hE : ceL k x y t z h m = 0) : tw h m = false ∧ ∀ j, j < m → (To.fi x ≤ (h j).1 ∧ (h j).1 < To.fi x + x) ∧ (To.fi y ≤ (h j).2 ∧ (h j).2 < To.fi y + y) := by
  unfold ceL at hE
  by_cases a1 : alH k x y t z h m = true
  · rw [if_pos a1] at hE
    refine ⟨?_, fun j hj => ?_⟩
    · cases e : tw h m with
      | false => rfl
      | true => rw [e] at hE; simp at hE
    · have hv := alH_is a1 j hj
      unfold To.hasV To.liB at hv
      simp at hv
      omega
  · rw [if_neg a1] at hE
    omega
end Ln
end Go.Proofs.YtbmpiddjakdebaaGreat
namespace Go.Proofs.YtbmpiddjakdebaaGreat
open Go.RowKit
set_option linter.unusedVariables false
set_option linter.unusedSimpArgs false
set_option maxRecDepth 100000

namespace Ln
theorem lpL_facts (k x y t z : Int) : ∀ (n : Nat) (ms : List Pt), (∀ p ∈ ms, ∃ q, p = cellP k x y t z q) → ∀ l ∈ lpL k x y t z ms n, (∀ p ∈ l, ∃ q, p = cellP k x y t z q) ∧ l.length ≤ ms.length := by
  intro n
  induction n using Nat.strongRecOn with
  | _ n ih =>
    intro ms h l hl
    by_cases hn : n = 0
    · subst hn
      rw [lpL_zero] at hl
      cases hl
    · rw [lpL_pos k x y t z ms hn] at hl
      rcases List.mem_append.1 hl with hl | hl
      · split at hl
        · have : l = ms := by simpa using hl
          subst this
          exact ⟨h, Nat.le_refl _⟩
        · cases hl
      · obtain ⟨h1, h2⟩ := ih (n / 2) (by omega) (nxT k x y t z ms) (fun p hp => mvT_mem hp) l hl
        exact ⟨h1, Nat.le_trans h2 (mvT_len _ _ _ _ _ _ _ _)⟩
theorem lpL_length (k x y t z : Int) : ∀ (n : Nat) (ms : List Pt), (lpL k x y t z ms n).length ≤ n := by
  intro n
  induction n using Nat.strongRecOn with
  | _ n ih =>
    intro ms
    by_cases hn : n = 0
    · subst hn
      rw [lpL_zero]
      exact Nat.le_refl _
    · rw [lpL_pos k x y t z ms hn, List.length_append]
      have := ih (n / 2) (by omega) (nxT k x y t z ms)
      split
      · simp only [List.length_cons, List.length_nil]
        omega
      · simp only [List.length_nil]
        omega
theorem lpL_short (k x y t z : Int) : ∀ (j n : Nat) (ms : List Pt), n < 2 ^ j → (lpL k x y t z ms n).length ≤ j
  | 0, n, ms, h => by
    have : n = 0 := by rw [Nat.pow_zero] at h; omega
    subst this
    rw [lpL_zero]
    exact Nat.le_refl _
  | j + 1, n, ms, h => by
    by_cases hn : n = 0
    · subst hn
      rw [lpL_zero]
      exact Nat.zero_le _
    · rw [lpL_pos k x y t z ms hn, List.length_append]
      have := lpL_short k x y t z j (n / 2) (nxT k x y t z ms) (by rw [Nat.pow_succ] at h; omega)
      split
      · simp only [List.length_cons, List.length_nil]
        omega
      · simp only [List.length_nil]
        omega
theorem lpL_pow (k x y t z : Int) : ∀ (j : Nat) (ms : List Pt), (lpL k x y t z ms (2 ^ j)).length ≤ 1
  | 0, ms => lpL_short k x y t z 1 1 ms (by decide)
  | j + 1, ms => by
    rw [lpL_pos k x y t z ms (by have := Nat.two_pow_pos (j + 1); omega), List.length_append, if_neg (by rw [Nat.pow_succ]; omega), show 2 ^ (j + 1) / 2 = 2 ^ j by rw [Nat.pow_succ]; omega]
    have := lpL_pow k x y t z j (nxT k x y t z ms)
    simp only [List.length_nil]
    omega
theorem getD_mem (cs : List Pt) (j : Nat) (hj : j < cs.length) : cs.getD j (0, 0) ∈ cs := by
  rw [List.getD_eq_getElem?_getD, List.getElem?_eq_getElem hj]
  exact List.getElem_mem hj
set_option maxHeartbeats 4000000 in
theorem jumpY (k x y t z : Int) (ht : 0 ≤ t) (ha : t ≠ 2) (hb : t = 0 → y ≤ x) (s1 : Option Addr) (n c1 : Nat) (f : Nat → Pt) (hf : ∀ k, k < n → PtOk (f k)) (hn : n < 1073741824) (h01 : s1 = none → n = 0 ∧ c1 = 0) (s2 : Option Addr) (m c2 : Nat) (h : Nat → Pt) (hh : ∀ k, k < m → PtOk (h k)) (hm : m < 1000000000) (h02 : s2 = none → m = 0 ∧ c2 = 0) (g : Nat) (hg : g ≤ 1125899906842624) (hgl : (lpL k x y t z (mvT k x y t z 1 (fun j => neg (f j)) n) g).length ≤ 64) (w : World) (H1 : Pl w s1 n f) (H2 : Pl w s2 m h) (hE : jpE k x y t z f n h m g = 0) :
    Calls Tryz.prog 14 #[.agg #[.int .u8 k, .int .i64 x, .int .i64 y, .int .u8 t, .int .i64 z], .slice s1 n c1, .slice s2 m c2, .int .i64 g] w fun e w' => ∃ (v : Value) (L : List (List Pt)) (nx : List Pt), e = .returned (.tuple #[v, .int .i64 0]) ∧ w'.ownsRow w.heap.size 40 2 v nx.length (fl (srt nx)) ∧ L.Perm (lpL k x y t z (mvT k x y t z 1 (fun j => neg (f j)) n) g) ∧ runI k x y t z (To.fi x) (fun i => L.getD i []) L.length (psL h m) nx ∧ w.grownBy w' none := by
  obtain ⟨hc, hk, hx, hy, hO, hL, hG, hxy⟩ := jpE_zero hE
  obtain ⟨htw, hin⟩ := ceL_zero hx.1 hy.1 hL
  obtain ⟨hn64, haw, htw1⟩ := ckO_zero hO
  have hfb : ∀ j, j < n → (-1099511627776 ≤ (f j).1 ∧ (f j).1 ≤ 1099511627776) ∧ (-1099511627776 ≤ (f j).2 ∧ (f j).2 ≤ 1099511627776) := fun j hj => by
    have := (alW_is _ f n).1 haw j hj
    rw [inW_is, inW_is] at this
    exact this
  have hCell := fun p => cellP_in (t := t) (z := z) hk hx.1 hy.1 p
  have kJ := fun w1 (g1 : w.grownBy w1 none) => checkJumpC k x y t z ht s1 n c1 f hf hn s2 m c2 h hh (by omega) (g : Int) w1 (H1.kept g1 (by simp)) (H2.kept g1 (by simp))
  have kT := fun w1 => torusOfF k x y t z ht hc ha hb w1
  have hfx : To.fi x = -(x / 2) := rfl
  have hfy : To.fi y = -(y / 2) := rfl
  rw [hE] at kJ
  obtain ⟨X, hX⟩ : ∃ X, To.fi x = X := ⟨_, rfl⟩
  obtain ⟨Y, hY⟩ : ∃ Y, To.fi y = Y := ⟨_, rfl⟩
  rw [hX] at hfx
  rw [hY] at hfy
  rw [hX, hY] at kT hCell hin
  rw [hX]
  clear hX hY
  have hXb : -65536 ≤ X ∧ X ≤ 65536 := by omega
  have hB : ∀ p, -65536 ≤ (cellP k x y t z p).1 ∧ (cellP k x y t z p).1 ≤ 65536 ∧ -65536 ≤ (cellP k x y t z p).2 ∧ (cellP k x y t z p).2 ≤ 65536 := fun p => by have := hCell p; omega
  have hI0 : InT x y X Y (psL h m) := fun p hp => by
    unfold psL at hp
    obtain ⟨j, hj, rfl⟩ := List.mem_map.1 hp
    exact hin j (List.mem_range.1 hj)
  have HI0 : Hid (InT x y X Y (psL h m)) := hI0
  have hyx : y.toNat * x.toNat ≤ 1048576 := by
    have e : ((y.toNat * x.toNat : Nat) : Int) = x * y := by
      rw [Int.natCast_mul, Int.toNat_of_nonneg (by omega), Int.toNat_of_nonneg (by omega), Int.mul_comm]
    omega
  have kLc := fun w1 (g1 : w.grownBy w1 none) => laidF k x y t z X Y x y s2 m c2 h hm h02 w1 (H2.kept g1 (by simp))
  have kLo := fun w1 (g1 : w.grownBy w1 none) => laidF k x y t z X Y x y s1 n c1 f (by omega) h01 w1 (H1.kept g1 (by simp))
  have kB := fun (w1 : World) (sp : Option Addr) (cap : Nat) (hP : Pl w1 sp n f) => backwardC sp n cap f (fun j hj => by have := hfb j hj; omega) (by omega) w1 hP
  have kP := fun (w1 : World) (gb : Nat) (hP : Pl w1 (some ⟨gb, 0, none⟩) n (fun j => neg (f j))) => leapsC k x y t z X Y x y false ht hB (some ⟨gb, 0, none⟩) n n (fun j => neg (f j)) (fun j hj => by have := hfb j hj; unfold neg; simp only; omega) (by omega) g hg hgl w1 hP
  obtain ⟨LL, hLL⟩ : ∃ LL, lpL k x y t z (mvT k x y t z 1 (fun j => neg (f j)) n) g = LL := ⟨_, rfl⟩
  have HLF : Hid (∀ l ∈ LL, (∀ p ∈ l, ∃ q, p = cellP k x y t z q) ∧ l.length ≤ n) := fun l hl => by
    rw [← hLL] at hl
    obtain ⟨a, b⟩ := lpL_facts k x y t z g _ (fun p hp => mvT_mem hp) l hl
    exact ⟨a, Nat.le_trans b (mvT_len _ _ _ _ _ _ _ _)⟩
  have hLg : LL.length ≤ 64 := by rw [← hLL]; exact hgl
  rw [hLL] at kP ⊢
  clear hLL
  have hpf : ∀ j, j < n → (psL f n).getD j (0, 0) = f j := fun j hj => psL_at f n j hj
  have HPF : Hid (∀ j, j < n → (psL f n).getD j (0, 0) = f j) := hpf
  have HPL : Hid ((psL f n).length = n) := psL_len f n
  have HHL : Hid ((psL h m).length = m) := psL_len h m
  obtain ⟨cs0, hcs0⟩ : ∃ cs0, psL h m = cs0 := ⟨_, rfl⟩
  obtain ⟨fs0, hfs0⟩ : ∃ fs0, psL f n = fs0 := ⟨_, rfl⟩
  rw [hcs0] at kLc HI0 HHL ⊢
  rw [hfs0] at kLo HPF HPL
  clear hcs0 hfs0 hpf hI0 hin hfb htw htw1 haw hO hL hE hc hgl
  obtain ⟨W1, hW1, sz1, g1, B1⟩ := boxn w #[.int .u8 k, .int .i64 x, .int .i64 y, .int .u8 t, .int .i64 z] 23
  have c0 := B1.cell 0 (v := .int .u8 k) rfl; have c1 := B1.cell 1 (v := .int .i64 x) rfl; have c2 := B1.cell 2 (v := .int .i64 y) rfl; have c3 := B1.cell 3 (v := .int .u8 t) rfl; have c4 := B1.cell 4 (v := .int .i64 z) rfl
  have kJ1 := kJ W1 g1
  clear kJ
  have HCell : Hid (∀ p, (X ≤ (cellP k x y t z p).1 ∧ (cellP k x y t z p).1 < X + x) ∧ (Y ≤ (cellP k x y t z p).2 ∧ (cellP k x y t z p).2 < Y + y)) := hCell
  have HB : Hid (∀ p, -65536 ≤ (cellP k x y t z p).1 ∧ (cellP k x y t z p).1 ≤ 65536 ∧ -65536 ≤ (cellP k x y t z p).2 ∧ (cellP k x y t z p).2 ≤ 65536) := hB
  have HX : Hid ((1 ≤ x ∧ x ≤ 65536) ∧ (-65536 ≤ X ∧ X ≤ 65536)) := ⟨hx, hXb⟩
  have HYX : Hid (y.toNat * x.toNat ≤ 1048576 ∧ 0 ≤ t ∧ n ≤ 64) := ⟨hyx, ht, hn64⟩
  have HXY : Hid (X = -(x / 2) ∧ Y = -(y / 2) ∧ 1 ≤ y ∧ y ≤ 65536) := ⟨hfx, hfy, hy.1, hy.2⟩
  clear hCell hB hk hx hy hG hxy hyx hfx hfy hXb h01 h02 ha hb hf hh hn64 hn ht
  go_enter Tryz.func14, Tryz.ntmps14
  go_wp2_with (first | (go_at_call 26; refine kJ1.mono ?_; rintro e w2 ⟨rfl, g2⟩; have B2 := B1.kept g2 (by simp); have d0 := B2.cell 0 (v := .int .u8 k) rfl; have d1 := B2.cell 1 (v := .int .i64 x) rfl; have d2 := B2.cell 2 (v := .int .i64 y) rfl; have d3 := B2.cell 3 (v := .int .u8 t) rfl; have d4 := B2.cell 4 (v := .int .i64 z) rfl) | (go_at_call 27; refine (kT _).mono ?_; rintro e w3 ⟨rfl, g3⟩; obtain ⟨W4, hW4, sz4, g4, B4⟩ := boxn w3 #[.int .u8 0, .int .i64 0, .int .i64 0, .int .u8 0, .int .i64 0, .int .i64 0, .int .i64 0, .int .i64 0, .int .i64 0, .bool false] 62; have e0 := B4.cell 0 (v := .int .u8 0) rfl; have e1 := B4.cell 1 (v := .int .i64 0) rfl; have e2 := B4.cell 2 (v := .int .i64 0) rfl; have e3 := B4.cell 3 (v := .int .u8 0) rfl; have e4 := B4.cell 4 (v := .int .i64 0) rfl; have e5 := B4.cell 5 (v := .int .i64 0) rfl; have e6 := B4.cell 6 (v := .int .i64 0) rfl; have e7 := B4.cell 7 (v := .int .i64 0) rfl; have e8 := B4.cell 8 (v := .int .i64 0) rfl; have e9 := B4.cell 9 (v := .bool false) rfl; have f0 := B4.frozen 0; have f1 := B4.frozen 1; have f2 := B4.frozen 2; have f3 := B4.frozen 3; have f4 := B4.frozen 4; have f5 := B4.frozen 5; have f6 := B4.frozen 6; have f7 := B4.frozen 7; have f8 := B4.frozen 8; have f9 := B4.frozen 9; have G4z := gb_trans g1 (gb_trans g2 (gb_trans g3 g4)); have hs3 : w.heap.size ≤ w3.heap.size := (gb_trans g1 (gb_trans g2 g3)).size; have B5z : Bo ((((((((((W4.setCell ⟨w3.heap.size, 0, none⟩ (.int .u8 k)).setCell ⟨w3.heap.size, 1, none⟩ (.int .i64 x)).setCell ⟨w3.heap.size, 2, none⟩ (.int .i64 y)).setCell ⟨w3.heap.size, 3, none⟩ (.int .u8 t)).setCell ⟨w3.heap.size, 4, none⟩ (.int .i64 z)).setCell ⟨w3.heap.size, 5, none⟩ (.int .i64 X)).setCell ⟨w3.heap.size, 6, none⟩ (.int .i64 Y)).setCell ⟨w3.heap.size, 7, none⟩ (.int .i64 x)).setCell ⟨w3.heap.size, 8, none⟩ (.int .i64 y)).setCell ⟨w3.heap.size, 9, none⟩ (.bool false)) w3.heap.size 62 #[.int .u8 k, .int .i64 x, .int .i64 y, .int .u8 t, .int .i64 z, .int .i64 X, .int .i64 Y, .int .i64 x, .int .i64 y, .bool false] := bo10 B4; have G4 : w.grownBy ((((((((((W4.setCell ⟨w3.heap.size, 0, none⟩ (.int .u8 k)).setCell ⟨w3.heap.size, 1, none⟩ (.int .i64 x)).setCell ⟨w3.heap.size, 2, none⟩ (.int .i64 y)).setCell ⟨w3.heap.size, 3, none⟩ (.int .u8 t)).setCell ⟨w3.heap.size, 4, none⟩ (.int .i64 z)).setCell ⟨w3.heap.size, 5, none⟩ (.int .i64 X)).setCell ⟨w3.heap.size, 6, none⟩ (.int .i64 Y)).setCell ⟨w3.heap.size, 7, none⟩ (.int .i64 x)).setCell ⟨w3.heap.size, 8, none⟩ (.int .i64 y)).setCell ⟨w3.heap.size, 9, none⟩ (.bool false)) none := gb10 G4z hs3; obtain ⟨W5, hW5⟩ : ∃ W, ((((((((((W4.setCell ⟨w3.heap.size, 0, none⟩ (.int .u8 k)).setCell ⟨w3.heap.size, 1, none⟩ (.int .i64 x)).setCell ⟨w3.heap.size, 2, none⟩ (.int .i64 y)).setCell ⟨w3.heap.size, 3, none⟩ (.int .u8 t)).setCell ⟨w3.heap.size, 4, none⟩ (.int .i64 z)).setCell ⟨w3.heap.size, 5, none⟩ (.int .i64 X)).setCell ⟨w3.heap.size, 6, none⟩ (.int .i64 Y)).setCell ⟨w3.heap.size, 7, none⟩ (.int .i64 x)).setCell ⟨w3.heap.size, 8, none⟩ (.int .i64 y)).setCell ⟨w3.heap.size, 9, none⟩ (.bool false)) = W := ⟨_, rfl⟩; rw [hW5] at B5z G4; have y0 := B5z.cell 0 (v := .int .u8 k) rfl; have y1 := B5z.cell 1 (v := .int .i64 x) rfl; have y2 := B5z.cell 2 (v := .int .i64 y) rfl; have y3 := B5z.cell 3 (v := .int .u8 t) rfl; have y4 := B5z.cell 4 (v := .int .i64 z) rfl; have y5 := B5z.cell 5 (v := .int .i64 X) rfl; have y6 := B5z.cell 6 (v := .int .i64 Y) rfl; have y7 := B5z.cell 7 (v := .int .i64 x) rfl; have y8 := B5z.cell 8 (v := .int .i64 y) rfl; have y9 := B5z.cell 9 (v := .bool false) rfl; have kLc4 := kLc W5 G4) | (go_at_call 28; refine kLc4.mono ?_; rintro e w5 ⟨vl, rfl, ownL, g5⟩; have B5 := (B5z.kept g5 (by simp)).dr; have a0 := B5.cell 0 (v := .int .u8 k) rfl; have a1 := B5.cell 1 (v := .int .i64 x) rfl; have a2 := B5.cell 2 (v := .int .i64 y) rfl; have a3 := B5.cell 3 (v := .int .u8 t) rfl; have a4 := B5.cell 4 (v := .int .i64 z) rfl; have a5 := B5.cell 5 (v := .int .i64 X) rfl; have a6 := B5.cell 6 (v := .int .i64 Y) rfl; have a7 := B5.cell 7 (v := .int .i64 x) rfl; have a8 := B5.cell 8 (v := .int .i64 y) rfl; have a9 := B5.cell 9 (v := .bool false) rfl; have G5 := gb_drew (gb_trans G4 g5); have kLo5 := kLo w5.drew G5) | go_in)
  go_region_held2 (fun w' => w'.cell? ⟨w3.heap.size, 0, none⟩ = some (.int .u8 k) ∧ w'.cell? ⟨w3.heap.size, 1, none⟩ = some (.int .i64 x) ∧ w'.cell? ⟨w3.heap.size, 2, none⟩ = some (.int .i64 y) ∧ w'.cell? ⟨w3.heap.size, 3, none⟩ = some (.int .u8 t) ∧ w'.cell? ⟨w3.heap.size, 4, none⟩ = some (.int .i64 z) ∧ w'.cell? ⟨w3.heap.size, 5, none⟩ = some (.int .i64 X) ∧ w'.cell? ⟨w3.heap.size, 6, none⟩ = some (.int .i64 Y) ∧ w'.cell? ⟨w3.heap.size, 7, none⟩ = some (.int .i64 x) ∧ w'.cell? ⟨w3.heap.size, 8, none⟩ = some (.int .i64 y) ∧ w'.cell? ⟨w3.heap.size, 9, none⟩ = some (.bool false)) (go_keep) (first | (go_at_call 28; refine kLo5.mono ?_; rintro e w6 ⟨vo, rfl, ownO, g6⟩; obtain ⟨so, co, rfl, PO, _⟩ := own_shape0 ownO HPL.out; have B6 := B5.kept g6 (by simp); have b0 := B6.cell 0 (v := .int .u8 k) rfl; have b1 := B6.cell 1 (v := .int .i64 x) rfl; have b2 := B6.cell 2 (v := .int .i64 y) rfl; have b3 := B6.cell 3 (v := .int .u8 t) rfl; have b4 := B6.cell 4 (v := .int .i64 z) rfl; have b5 := B6.cell 5 (v := .int .i64 X) rfl; have b6 := B6.cell 6 (v := .int .i64 Y) rfl; have b7 := B6.cell 7 (v := .int .i64 x) rfl; have b8 := B6.cell 8 (v := .int .i64 y) rfl; have b9 := B6.cell 9 (v := .bool false) rfl; have kB6 := kB w6 so co (PO.congr HPF.out)) | (go_at_call 30; refine kB6.mono ?_; rintro e w7 ⟨gb, rfl, rowB, hgb, g7⟩; have B7 := B6.kept g7 (by simp); have p0 := B7.cell 0 (v := .int .u8 k) rfl; have p1 := B7.cell 1 (v := .int .i64 x) rfl; have p2 := B7.cell 2 (v := .int .i64 y) rfl; have p3 := B7.cell 3 (v := .int .u8 t) rfl; have p4 := B7.cell 4 (v := .int .i64 z) rfl; have p5 := B7.cell 5 (v := .int .i64 X) rfl; have p6 := B7.cell 6 (v := .int .i64 Y) rfl; have p7 := B7.cell 7 (v := .int .i64 x) rfl; have p8 := B7.cell 8 (v := .int .i64 y) rfl; have p9 := B7.cell 9 (v := .bool false) rfl; have kP7 := kP w7 gb (pl_row rowB)) | (go_at_call 29; refine kP7.mono ?_; rintro e w8 ⟨vL, L, rfl, ownR, hOw, hPerm, g8⟩; obtain ⟨sL, cL, rfl, hLm⟩ := lm_own ownR; have B8 := B7.kept g8 (by simp); have u0 := B8.cell 0 (v := .int .u8 k) rfl; have u1 := B8.cell 1 (v := .int .i64 x) rfl; have u2 := B8.cell 2 (v := .int .i64 y) rfl; have u3 := B8.cell 3 (v := .int .u8 t) rfl; have u4 := B8.cell 4 (v := .int .i64 z) rfl; have u5 := B8.cell 5 (v := .int .i64 X) rfl; have u6 := B8.cell 6 (v := .int .i64 Y) rfl; have u7 := B8.cell 7 (v := .int .i64 x) rfl; have u8 := B8.cell 8 (v := .int .i64 y) rfl; have u9 := B8.cell 9 (v := .bool false) rfl))
  go_wp2
  have G8 := gb_trans G5 (gb_trans g6 (gb_trans g7 g8))
  have ownL8 := (((ownL.kept (gb_drew (World.grownBy.refl _ none)) (Classical.em _)).kept g6 (Classical.em _)).kept g7 (Classical.em _)).kept g8 (Classical.em _)
  have HOw : Hid (Ow w8 w7.heap.size L) := hOw
  have HPerm : Hid ((L.map Ml.ps).Perm LL) := hPerm
  have HLm : Hid (Lm w8 sL L) := hLm
  have hLl : L.length ≤ 64 := by have := hPerm.length_eq; rw [List.length_map] at this; omega
  clear kLc kLo kB kP kJ1 kLc4 kLo5 kB6 kP7 hOw hPerm hLm ownR
  go_loopw [36, 12] (fun a b wr => ∃ (i : Nat) (cs : List Pt) (nc : Nat) (ov : Value), i ≤ L.length ∧ a = .int .i64 i ∧ b = ov ∧ Hid (cs.length = nc) ∧ wr.ownsRow w.heap.size 40 2 ov nc (fl cs) ∧ Hid (InT x y X Y cs) ∧ nc < 1000000000 ∧ Hid (runI k x y t z X (fun i => (L.map Ml.ps).getD i []) i cs0 cs) ∧ Bo wr w3.heap.size 62 #[.int .u8 k, .int .i64 x, .int .i64 y, .int .u8 t, .int .i64 z, .int .i64 X, .int .i64 Y, .int .i64 x, .int .i64 y, .bool false] ∧ w8.grownBy wr none) (fun a _ _ => L.length - (intOf a).toNat)
  case atStart => exact ⟨0, cs0, m, _, Nat.zero_le _, rfl, rfl, HHL.out, own_less ownL8 G4.size, HI0.out, hm, rfl, B8, World.grownBy.refl _ _⟩
  case round =>
    have hx := HX.out.1
    have hXb := HX.out.2
    have hyx := HYX.out.1
    have ht := HYX.out.2.1
    have hn64 := HYX.out.2.2
    obtain ⟨i, cs, nc, ov, hi, rfl, hov, HNC, own, HIN, hnc, HRUN, Bq, gq⟩ := hrel
    obtain ⟨sp, cap, rfl, PC, h0c⟩ := own_shape0 own HNC.out
    subst hov
    have gw := gb_trans G8 gq
    have gws := gw.size
    have r0 := Bq.cell 0 (v := .int .u8 k) rfl; have r1 := Bq.cell 1 (v := .int .i64 x) rfl; have r2 := Bq.cell 2 (v := .int .i64 y) rfl; have r3 := Bq.cell 3 (v := .int .u8 t) rfl; have r4 := Bq.cell 4 (v := .int .i64 z) rfl; have r5 := Bq.cell 5 (v := .int .i64 X) rfl; have r6 := Bq.cell 6 (v := .int .i64 Y) rfl; have r7 := Bq.cell 7 (v := .int .i64 x) rfl; have r8 := Bq.cell 8 (v := .int .i64 y) rfl; have r9 := Bq.cell 9 (v := .bool false) rfl
    by_cases hlt : i < L.length
    · have hlt' : (i : Int) < (L.length : Int) := by omega
      obtain ⟨q, l, rfl, hli, cl⟩ := (HLm.out.kept gq (by simp)) i hlt
      have hlm : l ∈ L := List.mem_of_getElem? hli
      have ownl := (HOw.out l hlm).kept gq (Classical.em _)
      obtain ⟨hcl, hll⟩ := HLF.out l.ps (HPerm.out.mem_iff.1 (List.mem_map.2 ⟨l, hlm, rfl⟩))
      have hget : (L.map Ml.ps).getD i [] = l.ps := by simp [List.getD, hli]
      have HGET : Hid ((L.map Ml.ps).getD i [] = l.ps) := hget
      obtain ⟨lg, lc, ps⟩ := l
      simp only [encM] at cl ownl hcl hll HGET
      have PM := pl_own ownl rfl
      have kL := leapC k x y t z X Y x y false ht hx hXb HB.out sp nc cap (fun k => cs.getD k (0, 0)) (fun j hj => by have := HIN.out _ (getD_mem cs j (by rw [HNC.out]; exact hj)); have := HXY.out; omega) hnc (some ⟨lg, 0, none⟩) ps.length lc (fun j => ps.getD j (0, 0)) (fun j hj => by obtain ⟨r, hr⟩ := hcl _ (getD_mem ps j hj); have := HB.out r; rw [hr]; omega) (by omega) wr PC PM
      clear hget hcl ownl PM PC hlm
      go_wp2_with (first | (go_at_call 31; refine kL.mono ?_; rintro e w9 ⟨v9, nx, Ks, T, rfl, own9, hKs, hRc, hTn, hPm, g9⟩) | go_in)
      have hLR : leapR k x y t z X ps cs nx := ⟨Ks, T, by rw [HNC.out]; exact hKs, hRc, hTn, by rw [HNC.out]; exact hPm⟩
      have hIn := leapR_in hx.1 (fun p => (HCell.out p).2) hLR
      have HLR : Hid (leapR k x y t z X ps cs nx) := hLR
      clear hKs hRc hTn hPm hLR kL
      go_roundw
      case rel => exact ⟨i + 1, nx, nx.length, v9, by omega, by go_num, rfl, rfl, own_less own9 gws, hIn.1, by omega, ⟨cs, HRUN.out, by show leapR k x y t z X ((L.map Ml.ps).getD i []) cs nx; rw [HGET.out]; exact HLR.out⟩, Bq.kept g9 (by simp), gb_trans gq g9⟩
      case measure => simp [intOf]; omega
    · have hin : i = L.length := by omega
      have hlt' : ¬ (i : Int) < (L.length : Int) := by omega
      have hps : psL (fun k => cs.getD k (0, 0)) nc = cs := by rw [← HNC.out]; exact psL_self cs
      have kF := laidF k x y t z X Y x y sp nc cap (fun k => cs.getD k (0, 0)) hnc h0c wr PC
      rw [hps] at kF
      clear hps
      go_wp2_with (first | (go_at_call 28; refine kF.mono ?_; rintro e w9 ⟨v9, rfl, own9, g9⟩; have kS := sortAny w9 wr.heap.size nc v9 cs HNC.out own9 hnc) | (go_at_call 32; refine kS.mono ?_; rintro e w10 ⟨rfl, own10, g10⟩) | go_in)
      go_ret2
      refine ⟨v9, L.map Ml.ps, cs, rfl, by rw [HNC.out]; exact own_less own10 gws, HPerm.out, by rw [List.length_map, ← hin]; exact HRUN.out, (gb_trans gw g9).andThen g10 (fun j hj => .inl (by have := own9.lt j hj; omega))⟩
end Ln
end Go.Proofs.YtbmpiddjakdebaaGreat
namespace Go.Proofs.YtbmpiddjakdebaaGreat
open Go.RowKit
set_option linter.unusedVariables false
set_option linter.unusedSimpArgs false
set_option maxRecDepth 100000

namespace Ln
/-- The offsets (0, 0), (1, 0). -/
def rA (j : Nat) : Pt := if j = 1 then (1, 0) else (0, 0)
def oA (j : Nat) : Pt := (0, 0)
theorem srtA {ps qs : List Pt} (h : qs.Perm ps) (hq : qs.Pairwise (fun x y => (x.2 < y.2 ∨ (x.2 = y.2 ∧ x.1 < y.1)))) : srt ps = qs := by
  refine (srt_only h (hq.imp ?_)).symm
  intro x y hxy
  rw [ltP_is]
  simp
  omega
theorem mvA : mvT 2 5 1 0 0 1 (fun j => neg (rA j)) 2 = [(-1, 0), (0, 0)] := by
  have e : flF (fun j => cellP 2 5 1 0 0 (tmsP 1 (neg (rA j)))) 2 = [(0, 0), (-1, 0)] := by decide
  unfold mvT
  rw [e]
  exact srtA (by decide) (by simp)
theorem nxA : nxT 2 5 1 0 0 [(-1, 0), (0, 0)] = [(-2, 0), (0, 0)] := by
  have e : flF (fun j => cellP 2 5 1 0 0 (tmsP 2 (([(-1, 0), (0, 0)] : List Pt).getD j (0, 0)))) 2 = [(-2, 0), (0, 0)] := by decide
  unfold nxT mvT
  show srt (flF _ 2) = _
  rw [e]
  exact srtA (by decide) (by simp)
theorem lpA : lpL 2 5 1 0 0 (mvT 2 5 1 0 0 1 (fun j => neg (rA j)) 2) 3 = [[(-1, 0), (0, 0)], [(-2, 0), (0, 0)]] := by
  rw [mvA, lpL_pos 2 5 1 0 0 _ (by decide), nxA, lpL_pos 2 5 1 0 0 _ (by decide)]
  show _ ++ (_ ++ lpL 2 5 1 0 0 _ 0) = _
  rw [lpL_zero]
  rfl
theorem perm2 {α : Type} [DecidableEq α] {a b : α} {c : List α} (h : c.Perm [a, b]) : c = [a, b] ∨ c = [b, a] := by
  have hl := h.length_eq
  match c, hl with
  | [p, q], _ =>
    by_cases e : p = a
    · subst e
      have := (List.perm_cons p).1 h
      have : [q] = [b] := List.perm_singleton.1 this
      simp at this
      subst this
      exact .inl rfl
    · have hp : p ∈ [a, b] := h.mem_iff.1 List.mem_cons_self
      have hp : p = b := by simp at hp; exact hp.resolve_left e
      subst hp
      have h2 : [p, q].Perm [p, a] := h.trans (List.Perm.swap _ _ _)
      have := (List.perm_cons p).1 h2
      have : [q] = [a] := List.perm_singleton.1 this
      simp at this
      subst this
      exact .inr rfl
theorem fewA {T : List Int} (hn : T.Nodup) (h : ∀ q ∈ T, q = 0) (h0 : 0 ∈ T) : T = [0] := by
  match T, hn, h, h0 with
  | [q], _, h, _ => rw [h q List.mem_cons_self]
  | q :: r :: T, hn, h, _ =>
    exfalso
    have h1 := h q List.mem_cons_self
    have h2 := h r (List.mem_cons_of_mem _ List.mem_cons_self)
    subst h1
    subst h2
    simp at hn
/-- One leap on the torus of five cells in one row. -/
theorem leapA {m0 c0 : Pt} {ms cs nx : List Pt} (hc : c0.2 = 0) (h : leapR 2 5 1 0 0 (-2) (m0 :: ms) (c0 :: cs) nx) : nx.Perm (rwL 2 5 1 0 0 (-2) 0 (psF (fun j => (c0 :: cs).getD j (0, 0)) (c0 :: cs).length) (fun j => (m0 :: ms).getD j (0, 0)) (m0 :: ms).length) := by
  obtain ⟨Ks, T, h1, h2, h3, h4⟩ := h
  have hT : ∀ q ∈ T, q = 0 := fun q hq => by
    obtain ⟨r, _, j, _, e⟩ := (h2 q).1 hq
    have := (cellP_in (k := 2) (x := 5) (y := 1) (t := 0) (z := 0) rfl (by decide) (by decide) (((m0 :: ms).getD j (0, 0)).1, r + ((m0 :: ms).getD j (0, 0)).2)).2
    have e2 : To.fi 1 = 0 := by decide
    rw [e2] at this
    rw [e]
    show (cellP 2 5 1 0 0 (((m0 :: ms).getD j (0, 0)).1, r + ((m0 :: ms).getD j (0, 0)).2)).2 = 0
    omega
  have h0 : (0 : Int) ∈ T := by
    have hk : (0 : Int) ∈ Ks := (h1 0).2 ⟨0, by simp, hc⟩
    have hq := (h2 (rcY 2 5 1 0 0 (fun j => (m0 :: ms).getD j (0, 0)) 0 0)).2 ⟨0, hk, 0, by simp, rfl⟩
    have e := hT _ hq
    rw [e] at hq
    exact hq
  rw [fewA h3 hT h0] at h4
  simpa using h4
theorem jumpA {L : List (List Pt)} {nx : List Pt} (hL : L.Perm (lpL 2 5 1 0 0 (mvT 2 5 1 0 0 1 (fun j => neg (rA j)) 2) 3)) (hr : runI 2 5 1 0 0 (To.fi 5) (fun i => L.getD i []) L.length (psL oA 1) nx) : srt nx = [(-2, 0), (-1, 0), (0, 0), (2, 0)] := by
  have e5 : To.fi 5 = -2 := by decide
  rw [lpA] at hL
  rw [e5] at hr
  have h0 : psL oA 1 = [(0, 0)] := by decide
  rw [h0] at hr
  rcases perm2 hL with rfl | rfl
  · obtain ⟨c1, ⟨c, rfl, hr0⟩, hr1⟩ := hr
    have p1 := leapA rfl hr0
    have p1' : c1.Perm [(-1, 0), (0, 0)] := p1.trans (by decide)
    rcases perm2 p1' with rfl | rfl
    · have p2 := leapA rfl hr1
      exact srtA ((show ([(-2, 0), (-1, 0), (0, 0), (2, 0)] : List Pt).Perm _ by decide).trans p2.symm) (by simp)
    · have p2 := leapA rfl hr1
      exact srtA ((show ([(-2, 0), (-1, 0), (0, 0), (2, 0)] : List Pt).Perm _ by decide).trans p2.symm) (by simp)
  · obtain ⟨c1, ⟨c, rfl, hr0⟩, hr1⟩ := hr
    have p1 := leapA rfl hr0
    have p1' : c1.Perm [(-2, 0), (0, 0)] := p1.trans (by decide)
    rcases perm2 p1' with rfl | rfl
    · have p2 := leapA rfl hr1
      exact srtA ((show ([(-2, 0), (-1, 0), (0, 0), (2, 0)] : List Pt).Perm _ by decide).trans p2.symm) (by simp)
    · have p2 := leapA rfl hr1
      exact srtA ((show ([(-2, 0), (-1, 0), (0, 0), (2, 0)] : List Pt).Perm _ by decide).trans p2.symm) (by simp)
theorem jpA : jpE 2 5 1 0 0 rA 2 oA 1 3 = 0 := by decide
theorem ckA : ckO rA 2 1099511627776 = 0 := by decide
theorem lnA : lnR (fun k => if k = 1 then 1 else 0) 2 3 (lv [(0, 0)]) (-2) = true := by
  rw [lnR_pos _ _ (by decide), lnR_pos _ _ (by decide)]
  show lnR _ _ 0 _ _ = true
  rw [lnR_zero]
  decide
theorem ckLA : ckO (onL (fun k => if k = 1 then 1 else 0)) 2 64 = 0 := by decide
theorem timesA {T : List Pt} (h : tmS rA 2 rA 2 T) : srt T = [(0, 0), (2, 0)] := by
  obtain ⟨hn, hq⟩ := h
  refine srtA ((List.perm_ext_iff_of_nodup (by decide) hn).2 (fun q => ?_)) (by simp)
  have e := hq q
  constructor
  · intro h
    have h' : q = (0, 0) ∨ q = (2, 0) := by simpa using h
    rcases h' with rfl | rfl
    · exact of_decide_eq_true (e.trans (by decide))
    · exact of_decide_eq_true (e.trans (by decide))
  · intro h
    rw [decide_eq_true h] at e
    obtain ⟨p, hp, k, hk, hqe⟩ := odS_ne e.symm
    obtain ⟨i, hi, hpe⟩ := (mem_adL rA p 2).1 hp
    rcases (by omega : i = 0 ∨ i = 1) with rfl | rfl <;> rcases (by omega : k = 0 ∨ k = 1) with rfl | rfl
    · rw [hqe, hpe]; decide
    · rw [hpe] at hqe
      rw [hqe] at e
      exact absurd e (by decide)
    · rw [hpe] at hqe
      rw [hqe] at e
      exact absurd e (by decide)
    · rw [hqe, hpe]; decide
end Ln
end Go.Proofs.YtbmpiddjakdebaaGreat
