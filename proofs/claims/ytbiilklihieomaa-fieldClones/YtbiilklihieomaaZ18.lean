/- Cells of a field of bytes. -/
import Derived.Test.YtbiilklihieomaaZ6
import Derived.Test.YtbiilklihieomaaZ7
import Derived.Test.YtbiilklihieomaaZ16
import Derived.Test.YtbiilklihieomaaZ17
namespace Go.Proofs.Ytbiilklihieomaa
open Go.RowKit Go.Shelf
set_option linter.unusedVariables false
set_option linter.unusedSimpArgs false
set_option maxRecDepth 100000
attribute [local go_sem] Oper.semAt_some

theorem cellsC (b : Nat) (s q C R S : Nat) (g : Nat → Nat) (hz : Sz C R S) (w : World) (h : Fb w b s q C R S g) : Calls Try.prog 14 #[.pointer (some ⟨b, 0, none⟩)] w fun e w' => ∃ bt s2 q2, e = .returned (.func (.func 48) #[] #[.pointer (some ⟨bt, 0, none⟩)]) ∧ Bo w' bt 50 #[.iface 108 (.pointer (some ⟨s2, 0, none⟩))] ∧ Sb w' s2 q2 C R S g ∧ w.heap.size ≤ bt ∧ w.heap.size ≤ s2 ∧ w.heap.size ≤ q2 ∧ w.grownBy w' none := by
  have h0 := h.cell
  have hcp := fun w => m_copied s w
  go_enter Try.func14, Try.ntmps14
  go_wp2_with (first | (go_at_call 46; refine (lacksN b s q C R S g w h).mono ?_; rintro e V ⟨rfl, hV⟩; subst V) | (go_at_call 111; refine (copiedC s q C R S g hz w h.st).mono ?_; rintro e V2 ⟨s2, q2, rfl, hS2, l1, l2, gV2⟩))
  go_ret
  have g9 : V2.grownBy (V2.alloc (.cells #[.iface 108 (.pointer (some ⟨s2, 0, none⟩))] 50)) none := World.grownBy_alloc _ _ none
  exact ⟨V2.heap.size, s2, q2, rfl, Bo.new V2 _ _, hS2.kept g9, gV2.size, l1, l2, gb_trans gV2 g9⟩

theorem Sb.kl {w w' : World} {s q C R S : Nat} {Pr : Nat → Prop} {g : Nat → Nat} (h : Sb w s q C R S g) (hb : Kl Pr w w') (h1 : Pr s) (h2 : Pr q) : Sb w' s q C R S g := by
  obtain ⟨K, k1, k2, f0, ⟨c, hc, hr⟩, k4⟩ := h.cap
  exact ⟨K, (hb.low s h1 k1.lt).trans k1, k2, f0, ⟨c, (hb.low q h2 (Array.getElem?_eq_some_iff.1 hc).1).trans hc, hr⟩, k4⟩
set_option maxHeartbeats 2000000 in
theorem living1_seq (n : Nat) (l b1 b2 : Nat) (Pr : Nat → Prop) (s q C R S : Nat) (g : Nat → Nat) (hz : Sz C R S) (y : Nat) (hy : y < R) (hs : Pr s) (hq : Pr q) (J Jx : List (Fin C) → World → Prop)
    (W : World)
    (hY : ∀ pre x W1 m, J pre W1 → (∃ k, k ≤ C ∧ (pre ++ [x]).map Fin.val = liv (fun x => g (y * C + x)) k) → YieldAt Fence.wide m Try.prog l #[.int .i64 (x.val : Int), .int .u8 (g (y * C + x.val) : Nat)] W1 fun e W' =>
      ((e = .returned (.bool true) ∧ J (pre ++ [x]) W') ∨ (e = .returned (.bool false) ∧ Jx (pre ++ [x]) W')) ∧ Kh W.heap.size Pr W1 W')
    (hJd : ∀ m, J [] (W.drewN m)) (h1 : W.cell? ⟨b1, 0, none⟩ = some (.pointer (some ⟨s, 0, none⟩))) (h2 : W.cell? ⟨b2, 0, none⟩ = some (.int .i64 (y : Nat))) (h : Sb W s q C R S g) :
    CallsIn Fence.wide n Try.prog 123 #[.func (.yield l) #[] #[], .pointer (some ⟨b1, 0, none⟩), .pointer (some ⟨b2, 0, none⟩)] W fun e W' => (∃ v, e = .returned v) ∧
      ((∃ ys, ys.map Fin.val = liv (fun x => g (y * C + x)) C ∧ J ys W') ∨ (∃ pre, (∃ k, k ≤ C ∧ pre.map Fin.val = liv (fun x => g (y * C + x)) k) ∧ Jx pre W')) := by
  refine (callsIn_wide (n := n)).2 ((callsIn_wide (n := 3)).1 ?_)
  refine callsIn_of_wp Try.func123 rfl trivial ?_ rfl
  simp only [Try.ntmps123, List.size_toArray, List.length_cons, List.length_nil, Nat.reduceAdd, Nat.reduceSub, Array.replicate_succ, Array.replicate_zero, List.push_toArray, List.append_toArray, List.nil_append, List.cons_append]
  gi_wp2_with (refine ⟨trivial, ?_⟩; gi_at_call 122; refine (callsIn_wide.2 (rowC s q C R S g hz y hy W h)).mono ?_; rintro e V ⟨cp, rfl, m, rfl⟩)
  gi_loopw [10] (fun i wr => ∃ (k : Nat) (pre : List (Fin C)), k ≤ C ∧ i = .int .i64 k ∧ pre.map Fin.val = liv (fun x => g (y * C + x)) k ∧ J pre wr ∧ Kl Pr W wr)
    (fun i _ => C - (intOf i).toNat)
  case atStart => exact ⟨0, [], Nat.zero_le _, rfl, rfl, hJd m, ⟨rfl, rfl, rfl, Nat.le_refl _, fun _ _ _ => rfl⟩⟩
  case round =>
    obtain ⟨k, pre, hk, rfl, hpre, hJs, hnx⟩ := hrel
    by_cases hlt : k < C
    · have hl := row_le (C := C) hy
      have ck := (h.kl hnx hs hq).sp (k := y * C + k) (by omega)
      have hi1 : (k : Int) < (C : Int) := by omega
      have hc1 := hz.c1
      by_cases hu0 : g (y * C + k) = 0
      · have hnext := liv_no (f := fun x => g (y * C + x)) hu0
        have hu : ((g (y * C + k) : Int) != 0) = false := by simp [hu0]
        gi_wp2
        refine ⟨fun _ h => (by cases h), ?_⟩
        gi_wp2
        go_roundw
        case rel => exact ⟨k + 1, pre, hlt, by go_num, by rw [hpre, hnext], hJs, hnx⟩
        case measure => simp [intOf]; omega
      · have hnext := liv_yes (f := fun x => g (y * C + x)) hu0
        have hu : ((g (y * C + k) : Int) != 0) = true := by simp [hu0]
        obtain ⟨fn, tmps, assign, body, hy1, hR⟩ := hY pre ⟨k, hlt⟩ wr (3 - 1) hJs ⟨k + 1, hlt, by rw [List.map_append, hpre, hnext]; rfl⟩
        dsimp only at hy1
        gi_wp2
        refine hR.mono ?_
        rintro e W3 ⟨(⟨rfl, hJ3⟩ | ⟨rfl, hJx3⟩), hK3⟩
        all_goals have hk3 := hK3.kl
        · gi_wp2
          go_roundw
          case rel => exact ⟨k + 1, pre ++ [⟨k, hlt⟩], hlt, by go_num, by rw [List.map_append, hpre, hnext]; rfl, hJ3, hnx.trans hk3⟩
          case measure => simp [intOf]; omega
        · gi_wp2
          refine bodyPost_ret (results_none rfl _ _ _) rfl ?_
          exact ⟨⟨_, rfl⟩, .inr ⟨_, ⟨k + 1, hlt, by rw [List.map_append, hpre, hnext]; rfl⟩, hJx3⟩⟩
    · obtain rfl : k = C := by omega
      gi_wp2
      go_end0
      exact ⟨⟨_, rfl⟩, .inl ⟨_, hpre, hJs⟩⟩
theorem living_seq (n b1 b2 : Nat) (Pr : Nat → Prop) (s q C R S : Nat) (g : Nat → Nat) (hz : Sz C R S) (y : Nat) (hy : y < R) (hs : Pr s) (hq : Pr q) (w : World) (h1 : Bo w b1 108 #[.pointer (some ⟨s, 0, none⟩)]) (h2 : Bo w b2 3 #[.int .i64 (y : Nat)]) (h : Sb w s q C R S g) :
    SeqI Try.prog n 123 #[.pointer (some ⟨b1, 0, none⟩), .pointer (some ⟨b2, 0, none⟩)] (fun x : Fin C => #[Value.int .i64 (x.val : Int), .int .u8 (g (y * C + x.val) : Nat)]) Pr (fun ys => ys.map Fin.val = liv (fun x => g (y * C + x)) C) (fun pre => ∃ k, k ≤ C ∧ pre.map Fin.val = liv (fun x => g (y * C + x)) k) w := fun l J Jx W hW gW hJ hJx hY h0 =>
  living1_seq n l b1 b2 Pr s q C R S g hz y hy hs hq J Jx W hY (fun m => hJ _ _ _ none h0 (gb_drewN (World.grownBy.refl _ _) m) (fun r e => by cases e)) ((h1.kept gW (by simp)).cell 0 rfl) ((h2.kept gW (by simp)).cell 0 rfl) (h.kept gW)

/-- The living cells of the first k rows, row by row. -/
def livc (g : Nat → Nat) (C : Nat) : Nat → List (Nat × Nat)
  | 0 => []
  | k + 1 => livc g C k ++ (liv (fun x => g (k * C + x)) C).map fun x => (x, k)
/-- A place of the grid. -/
abbrev Pl (C R : Nat) : Type := { p : Nat × Nat // p.1 < C ∧ p.2 < R }
def encP (g : Nat → Nat) {C R : Nat} (p : Pl C R) : Array Value := #[.agg #[.int .i64 (p.val.1 : Nat), .int .i64 (p.val.2 : Nat)], .int .u8 (g (p.val.2 * C + p.val.1) : Nat)]
theorem livc_len (g : Nat → Nat) (C : Nat) : ∀ k, (livc g C k).length ≤ k * C
  | 0 => Nat.zero_le _
  | k + 1 => by
    have h1 := livc_len g C k
    have h2 := liv_len (fun x => g (k * C + x)) C
    rw [livc, List.length_append, List.length_map, Nat.add_mul, Nat.one_mul]
    omega

/-- Deferred calls' marks, none of whose records holds a call. -/
def Marks (n0 B : Nat) : List Deferred → World → Prop
  | [], _ => True
  | d :: ds, W => (∃ E, d = { target := .collected E, args := #[] } ∧ n0 ≤ E ∧ E < B ∧ W.heap[E]? = some (.deferred (some [])) ∧ ∀ d' ∈ ds, d'.target ≠ .collected E) ∧ Marks n0 B ds W
theorem Marks.to {n0 B B' : Nat} {W W' : World} (h : ∀ E, n0 ≤ E → E < B → W.heap[E]? = some (.deferred (some [])) → W'.heap[E]? = some (.deferred (some []))) (hB : B ≤ B') : ∀ ds, Marks n0 B ds W → Marks n0 B' ds W'
  | [], _ => trivial
  | d :: ds, ⟨⟨E, h1, h2, h3, h4, h5⟩, hm⟩ => ⟨⟨E, h1, h2, Nat.lt_of_lt_of_le h3 hB, h E h2 h3 h4, h5⟩, Marks.to h hB ds hm⟩
theorem Marks.to' {n0 B B' : Nat} {W W' : World} : ∀ ds, (∀ E, n0 ≤ E → E < B → (∃ d ∈ ds, d.target = .collected E) → W.heap[E]? = some (.deferred (some [])) → W'.heap[E]? = some (.deferred (some []))) → B ≤ B' → Marks n0 B ds W → Marks n0 B' ds W'
  | [], _, _, _ => trivial
  | d :: ds, h, hB, ⟨⟨E, h1, h2, h3, h4, h5⟩, hm⟩ => ⟨⟨E, h1, h2, Nat.lt_of_lt_of_le h3 hB, h E h2 h3 ⟨d, List.mem_cons_self .., by rw [h1]⟩ h4, h5⟩, Marks.to' ds (fun E a b ⟨d', hd, e⟩ => h E a b ⟨d', List.mem_cons_of_mem _ hd, e⟩) hB hm⟩
theorem Marks.away {n0 B : Nat} {W : World} : ∀ ds, Marks n0 B ds W → ∀ d ∈ ds, ∀ E, d.target = .collected E → E < B
  | [], _, d, hd, _, _ => by cases hd
  | d0 :: ds, ⟨⟨E0, h1, h2, h3, h4, h5⟩, hm⟩, d, hd, E, he => by
    rcases List.mem_cons.1 hd with rfl | hd
    · rw [h1] at he; cases he; exact h3
    · exact Marks.away ds hm d hd E he
/-- What the end of a function does with the marks: a word X that a mark's block does not turn stays. -/
theorem leavesX {F : Fence} {n : Nat} {P : Program} {fn : Func} {tmps : Array Value} {R : Ending → World → Prop} {n0 B : Nat} (X : World → Prop) (hX : ∀ E A o, n0 ≤ E → X A → X (A.putObj E o)) : ∀ (ds : List Deferred) (W : World), Marks n0 B ds W → X W →
    (∀ W', X W' → LeavesIn F n P fn tmps R [] .returning W') → LeavesInM F n P fn tmps R ds .returning W
  | [], W, _, hx, h => h W hx
  | d :: ds, W, ⟨⟨E, h1, h2, h3, h4, h5⟩, hm⟩, hx, h => by
    refine ⟨by simp, .inl ⟨E, _, by rw [h1], run_takeDeferred h4, ?_⟩⟩
    refine leavesX X hX ds _ (Marks.to' ds (fun E' _ _ he hd => ?_) (Nat.le_refl _) hm) (hX E _ _ h2 hx) h
    obtain ⟨d', hd', e'⟩ := he
    have hne : E' ≠ E := fun e => h5 d' hd' (by rw [e', e])
    rw [World.putObj_heap_other hne]; exact hd
/-- What lies about between two rows. -/
structure St {β : Type} (W : World) (l : Nat) (Pr : Nat → Prop) (J : List β → World → Prop) (pre : List β) (ds : List Deferred) (wr : World) (B : Nat) : Prop where
  j : J pre wr
  yb : Bo wr W.heap.size 89 #[.func (.yield l) #[] #[]]
  bl : Kl Pr W wr
  blt : W.heap.size < B
  sz : B ≤ wr.heap.size
  mks : Marks W.heap.size B ds wr

theorem St.own {β : Type} {W : World} {l : Nat} {Pr : Nat → Prop} {J : List β → World → Prop} {pre : List β} {ds : List Deferred} {A A' : World} {B : Nat} {row : Option Nat} (h : St W l Pr J pre ds A B) (hJ : ∀ s A B r, J s A → A.grownBy B r → (∀ i, r = some i → W.heap.size ≤ i) → J s B) (hg : A.grownBy A' row) (hr : ∀ r, row = some r → B ≤ r) (hn : ∀ i, Pr i → i < W.heap.size) : St W l Pr J pre ds A' B := by
  have hb := h.blt
  have hs0 := h.sz
  refine ⟨hJ _ A A' row h.j hg (fun i e => by have := hr i e; omega), h.yb.kept hg (fun e => by have := hr _ e.symm; omega), h.bl.trans (Kl.of hg (fun i e hp => by have := hr i e; have := hn i hp; omega)), h.blt, Nat.le_trans h.sz hg.size, Marks.to (fun E _ h2 h3 => (hg.block E (Array.getElem?_eq_some_iff.1 h3).1 (fun e => by have := hr E e.symm; omega)).trans h3) (Nat.le_refl _) ds h.mks⟩
theorem St.grow {β : Type} {W : World} {l : Nat} {Pr : Nat → Prop} {J : List β → World → Prop} {pre : List β} {ds : List Deferred} {A A' : World} {B : Nat} (h : St W l Pr J pre ds A B) (hJ : ∀ s A B r, J s A → A.grownBy B r → (∀ i, r = some i → W.heap.size ≤ i) → J s B) (hg : A.grownBy A' none) : St W l Pr J pre ds A' A'.heap.size := by
  have hb := h.blt
  have hs := h.sz
  have hg1 := hg.size
  exact ⟨hJ _ A A' none h.j hg (fun i e => by cases e), h.yb.kept hg (by simp), h.bl.trans (Kl.of hg (fun i e => by cases e)), by omega, Nat.le_refl _, Marks.to (fun E _ h2 h3 => (hg.block E (Array.getElem?_eq_some_iff.1 h3).1 (by simp)).trans h3) (by omega) ds h.mks⟩
theorem Kh.bo {B : Nat} {Pr : Nat → Prop} {X Y : World} {g : Nat} {t : TypeId} {cs : Array Value} (h : Kh B Pr X Y) (hb : Bo X g t cs) (hg : B ≤ g) : Bo Y g t cs := (h.high g hg hb.lt).trans hb
theorem liv_pre (f : Nat → Nat) {k C : Nat} (h : k ≤ C) : ∃ r, liv f C = liv f k ++ r := by
  induction C with
  | zero => exact ⟨[], by rw [show k = 0 by omega]; simp⟩
  | succ C ih =>
    by_cases e : k = C + 1
    · exact ⟨[], by rw [e]; simp⟩
    · obtain ⟨r, hr⟩ := ih (by omega)
      by_cases h0 : f C = 0
      · exact ⟨r, by rw [liv_no h0, hr]⟩
      · exact ⟨r ++ [C], by rw [liv_yes h0, hr, List.append_assoc]⟩
theorem livc_pre (g : Nat → Nat) (C : Nat) {k R : Nat} (h : k ≤ R) : ∃ r, livc g C R = livc g C k ++ r := by
  induction R with
  | zero => exact ⟨[], by rw [show k = 0 by omega]; simp⟩
  | succ R ih =>
    by_cases e : k = R + 1
    · exact ⟨[], by rw [e]; simp⟩
    · obtain ⟨r, hr⟩ := ih (by omega)
      exact ⟨_, by rw [livc, hr, List.append_assoc]⟩
def toP {C R k : Nat} (hk : k < R) (x : Fin C) : Pl C R := ⟨(x.val, k), x.isLt, hk⟩

set_option maxHeartbeats 2000000 in
theorem cells2_in (s q C R S : Nat) (g : Nat → Nat) (hz : Sz C R S) (l bt n : Nat) (Pr : Nat → Prop) (hs : Pr s) (hq : Pr q) (hb : Pr bt) (J Jx : List (Pl C R) → World → Prop) (W : World) (hn₀ : ∀ i, Pr i → i < W.heap.size)
    (hJ : ∀ s A B r, J s A → A.grownBy B r → (∀ i, r = some i → W.heap.size ≤ i) → J s B) (hJx : ∀ s A B r, Jx s A → A.grownBy B r → (∀ i, r = some i → W.heap.size ≤ i) → Jx s B)
    (hY : ∀ pre x W1 m, J pre W1 → (∃ rest, livc g C R = (pre ++ [x]).map Subtype.val ++ rest) → YieldAt Fence.wide m Try.prog l (encP g x) W1 fun e W' => ((e = .returned (.bool true) ∧ J (pre ++ [x]) W') ∨ (e = .returned (.bool false) ∧ Jx (pre ++ [x]) W')) ∧ Kh W.heap.size Pr W1 W')
    (h0 : J [] W) (hbt : Bo W bt 50 #[.iface 108 (.pointer (some ⟨s, 0, none⟩))]) (h : Sb W s q C R S g) :
    CallsIn Fence.wide n Try.prog 48 #[.func (.yield l) #[] #[], .pointer (some ⟨bt, 0, none⟩)] W fun e W' => (∃ v, e = .returned v) ∧
      ((∃ xs, xs.map Subtype.val = livc g C R ∧ J xs W') ∨ (∃ pre, (∃ rest, livc g C R = pre.map Subtype.val ++ rest) ∧ Jx pre W')) := by
  obtain ⟨W1, hW1, sz1, g1, B1⟩ := boxn W #[.func (.yield l) #[] #[]] 89
  have hbt1 := hbt.kept g1 (by simp)
  have c0 := hbt1.cell 0 (v := .iface 108 (.pointer (some ⟨s, 0, none⟩))) rfl
  have h1 := h.kept g1
  have hm := m_measure h1
  have hfl := fun (C R S : Value) (w : World) => fld_R C R S w
  refine (callsIn_wide (n := n)).2 ((callsIn_wide (n := 3)).1 ?_)
  refine callsIn_of_wp_marks Try.func48 rfl trivial ?_ rfl
  simp only [Try.ntmps48, List.size_toArray, List.length_cons, List.length_nil, Nat.reduceAdd, Nat.reduceSub, Array.replicate_succ, Array.replicate_zero, List.push_toArray, List.append_toArray, List.nil_append, List.cons_append]
  gi_wp2_with (refine ⟨trivial, ?_⟩; gi_at_call 83; refine (callsIn_wide.2 (measureC C R S W1)).mono ?_; rintro e V ⟨rfl, gV⟩)
  have GV := gb_trans g1 gV
  have BV : Bo V W.heap.size 89 #[.func (.yield l) #[] #[]] := B1.kept gV (by simp)
  refine wpIn_loop (fun a wr => ∃ (k : Nat) (pre : List (Pl C R)) (ds : List Deferred) (u3 u4 u5 u10 u11 u12 u13 u14 u15 u16 u17 u18 u19 u20 u21 u22 u23 u24 : Value), a = { tmps := #[.func (.yield l) #[] #[], .pointer (some ⟨bt, 0, none⟩), .pointer (some ⟨W.heap.size, 0, none⟩), u3, u4, u5, .iface 108 (.pointer (some ⟨s, 0, none⟩)), .agg #[.int .i64 (C : Nat), .int .i64 (R : Nat), .int .i64 (S : Nat)], .int .i64 (R : Nat), .int .i64 (k : Nat), u10, u11, u12, u13, u14, u15, u16, u17, u18, u19, u20, u21, u22, u23, u24], defers := ds } ∧ k ≤ R ∧ pre.map Subtype.val = livc g C k ∧ St W l Pr J pre ds wr wr.heap.size) (fun a _ => R - (intOf (a.tmps.getD 9 undef)).toNat)
    ⟨0, [], [], _, _, _, _, _, _, _, _, _, _, _, _, _, _, _, _, _, _, rfl, Nat.zero_le _, rfl, ⟨hJ [] W V none h0 GV (fun i e => by cases e), BV, Kl.of GV (fun i e => by cases e), BV.lt, Nat.le_refl _, trivial⟩⟩ ?_
  rintro a0 wr ⟨k, pre, ds, u3, u4, u5, u10, u11, u12, u13, u14, u15, u16, u17, u18, u19, u20, u21, u22, u23, u24, rfl, hk, hpre, hst⟩
  have hr1 := hz.r1
  by_cases hlt : k < R
  · have hlt' : (k : Int) < (R : Int) := by omega
    have ct : wr.cell? ⟨bt, 0, none⟩ = some (.iface 108 (.pointer (some ⟨s, 0, none⟩))) := Bo.cell (w := wr) ((hst.bl.low bt hb hbt.lt).trans hbt) 0 rfl
    have hSb : Sb wr s q C R S g := h.kl hst.bl hs hq
    have hlv := fun w => m_living s w
    have hbr : Bo wr bt 50 #[.iface 108 (.pointer (some ⟨s, 0, none⟩))] := (hst.bl.low bt hb hbt.lt).trans hbt
    have ct2 := (hbr.more (.cells #[.int .i64 (k : Nat)] 3)).cell 0 (v := .iface 108 (.pointer (some ⟨s, 0, none⟩))) rfl
    obtain ⟨WI, hWI⟩ : ∃ WI, ((wr.alloc (.cells #[.int .i64 (k : Nat)] 3)).alloc (.cells #[.pointer (some ⟨s, 0, none⟩)] 108)).alloc (.cells #[.int .i64 (k : Nat)] 3) = WI := ⟨_, rfl⟩
    have GI : wr.grownBy WI none := hWI ▸ gb_alloc (gb_alloc (World.grownBy_alloc _ _ none) _) _
    have Y0 : Bo WI wr.heap.size 3 #[.int .i64 (k : Nat)] := hWI ▸ ((Bo.new wr _ _).more _).more _
    have Y1 : Bo WI (wr.heap.size + 1) 108 #[.pointer (some ⟨s, 0, none⟩)] := by
      have h := (Bo.new (wr.alloc (.cells #[.int .i64 (k : Nat)] 3)) 108 #[.pointer (some ⟨s, 0, none⟩)]).more (.cells #[.int .i64 (k : Nat)] 3)
      rw [hWI] at h
      simpa using h
    have Y2 : Bo WI (wr.heap.size + 1 + 1) 3 #[.int .i64 (k : Nat)] := by
      have h := Bo.new ((wr.alloc (.cells #[.int .i64 (k : Nat)] 3)).alloc (.cells #[.pointer (some ⟨s, 0, none⟩)] 108)) 3 #[.int .i64 (k : Nat)]
      rw [hWI] at h
      simpa using h
    have HW : Hid (((wr.alloc (.cells #[.int .i64 (k : Nat)] 3)).alloc (.cells #[.pointer (some ⟨s, 0, none⟩)] 108)).alloc (.cells #[.int .i64 (k : Nat)] 3) = WI) := hWI
    clear hWI
    have hSI := hSb.kept GI
    have hWr : W.heap.size < wr.heap.size := Nat.lt_of_lt_of_le hst.blt hst.sz
    have hWI1 : wr.heap.size + 1 + 1 < WI.heap.size := Y2.lt
    gi_wp2_with (refine ⟨trivial, ?_⟩; gi_at_call 115; refine (callsIn_wide.2 (livingC s q C R S g hz k _)).mono ?_; rintro e V5 ⟨rfl, hV5⟩; subst hV5)
    rw [HW.out]
    refine rangeI (gf := 123) (lb := #[.pointer (some ⟨wr.heap.size + 1, 0, none⟩), .pointer (some ⟨wr.heap.size + 1 + 1, 0, none⟩)]) rfl (enters_of Try.func123 (by kernel_rfl) rfl) (fun _ => rfl) Pr (fun i hi => by have := hn₀ i hi; omega)
      (living_seq 2 (wr.heap.size + 1) (wr.heap.size + 1 + 1) Pr s q C R S g hz k hlt hs hq WI Y1 Y2 hSI)
      (fun pr A => St W l Pr J (pre ++ pr.map (toP hlt)) ds A WI.heap.size ∧ Bo A wr.heap.size 3 #[.int .i64 (k : Nat)])
      (fun c pr A => c = .ret ∧ Jx (pre ++ pr.map (toP hlt)) A ∧ Marks W.heap.size WI.heap.size ds A)
      (fun pr A B row hs hg hr => ⟨hs.1.own hJ hg hr hn₀, hs.2.kept hg (fun e => by have := hr _ e.symm; omega)⟩)
      (fun c pr A B row hs hg hr => ⟨hs.1, hJx _ A B row hs.2.1 hg (fun r e => by have := hr r e; omega), Marks.to (fun E _ h2 h3 => (hg.block E (Array.getElem?_eq_some_iff.1 h3).1 (fun e => by have := hr E e.symm; omega)).trans h3) (Nat.le_refl _) ds hs.2.2⟩)
      ⟨by
        have := hst.grow hJ GI
        simpa using this, Y0⟩
      (fun x a' _ => a' = { tmps := #[.func (.yield l) #[] #[], .pointer (some ⟨bt, 0, none⟩), .pointer (some ⟨W.heap.size, 0, none⟩), .pointer (some ⟨wr.heap.size, 0, none⟩), .int .i64 (x.val : Int), .int .u8 (g (k * C + x.val) : Nat), .iface 108 (.pointer (some ⟨s, 0, none⟩)), .agg #[.int .i64 (C : Nat), .int .i64 (R : Nat), .int .i64 (S : Nat)], .int .i64 (R : Nat), .int .i64 (k : Nat), .bool true, .int .i64 (k : Nat), .iface 108 (.pointer (some ⟨s, 0, none⟩)), .int .i64 (k : Nat), .func (.func 123) #[] #[.pointer (some ⟨wr.heap.size + 1, 0, none⟩), .pointer (some ⟨wr.heap.size + 1 + 1, 0, none⟩)], .int .i64 (x.val : Int), .int .u8 (g (k * C + x.val) : Nat), u17, u18, u19, u20, u21, u22, u23, u24], defers := [] }) (fun _ _ _ _ h _ => h) ?assign ?body ?done ?stop
    case assign =>
      intro l2 pr x A K _ _ hK
      gi_wp2
      exact hK _ _ rfl (World.grownBy.refl _ _)
    case body =>
      rintro l2 pr x a' A ⟨hA, yA⟩ rfl ⟨k2, hk2, hpr⟩
      have hle : ∃ rest, livc g C R = ((pre ++ pr.map (toP hlt)) ++ [toP hlt x]).map Subtype.val ++ rest := by
        obtain ⟨r1, e1⟩ := liv_pre (fun x => g (k * C + x)) hk2
        obtain ⟨r2, e2⟩ := livc_pre g C (show k + 1 ≤ R from hlt)
        refine ⟨r1.map (fun x => (x, k)) ++ r2, ?_⟩
        rw [e2, livc, e1, ← hpr, ← hpre]
        simp [toP, Function.comp_def]
      obtain ⟨fn, tmps, assign, body, hy1, hR⟩ := hY (pre ++ pr.map (toP hlt)) (toP hlt x) A 2 hA.j hle
      dsimp only [encP, toP] at hy1
      have y0 := yA.cell 0 (v := .int .i64 (k : Nat)) rfl
      have y1 := hA.yb.cell 0 (v := .func (.yield l) #[] #[]) rfl
      gi_wp2
      refine (RoundIn.inRound l2 hR).mono ?_
      have hap : pre ++ (pr ++ [x]).map (toP hlt) = (pre ++ pr.map (toP hlt)) ++ [toP hlt x] := by simp
      rintro e W3 ⟨(⟨rfl, hJ3⟩ | ⟨rfl, hJx3⟩), hK⟩
      · gi_wp2
        refine ⟨hK.mono (by omega), ⟨?_, hK.bo yA (by omega)⟩⟩
        rw [hap]
        exact ⟨hJ3, hK.bo hA.yb (Nat.le_refl _), hA.bl.trans hK.kl, hA.blt, Nat.le_trans hA.sz hK.size, Marks.to (fun E h1 h2 h3 => (hK.high E h1 (Array.getElem?_eq_some_iff.1 h3).1).trans h3) (Nat.le_refl _) ds hA.mks⟩
      · gi_wp2
        refine ⟨hK.mono (by omega), rfl, ?_, Marks.to (fun E h1 h2 h3 => (hK.high E h1 (Array.getElem?_eq_some_iff.1 h3).1).trans h3) (Nat.le_refl _) ds hA.mks⟩
        rw [hap]
        exact hJx3
    case done =>
      rintro D ys A hD hS ⟨hA, yA⟩ hK
      have hKl := (Array.getElem?_eq_some_iff.1 hK).1
      gi_wp2
      have ek : ((k : Int) + 1) = ((k + 1 : Nat) : Int) := by omega
      rw [ek]
      have hsz := hA.sz
      have hbl := hA.blt
      refine ⟨⟨k + 1, pre ++ ys.map (toP hlt), _, _, _, _, _, _, _, _, _, _, _, _, _, _, _, _, _, _, _, rfl, hlt, ?_, ⟨hA.j, hA.yb, hA.bl, by omega, Nat.le_refl _, ⟨⟨D, rfl, by omega, hKl, hK, fun d' hd he => by have := Marks.away ds hA.mks d' hd D he; omega⟩, Marks.to (fun _ _ _ h => h) hA.sz ds hA.mks⟩⟩⟩, ?_⟩
      · rw [List.map_append, hpre, livc, ← hS]
        congr 1
        simp [toP, Function.comp_def]
      · simp [intOf]; omega
    case stop =>
      rintro D c pr A hD ⟨k2, hk2, hpr⟩ ⟨rfl, hx, hmk⟩ hK
      have hKl := (Array.getElem?_eq_some_iff.1 hK).1
      gi_wp2
      obtain ⟨r1, e1⟩ := liv_pre (fun x => g (k * C + x)) hk2
      obtain ⟨r2, e2⟩ := livc_pre g C (show k + 1 ≤ R from hlt)
      refine leavesX (n0 := W.heap.size) (B := A.heap.size) (Jx (pre ++ pr.map (toP hlt))) (fun E A o hE hx => hJx _ A _ _ hx (grownBy_putObj' A E o) (fun i e => by cases e; exact hE)) _ A ⟨⟨D, rfl, by omega, hKl, hK, fun d' hd he => by have := Marks.away ds hmk d' hd D he; omega⟩, Marks.to (fun _ _ _ h => h) (by omega) ds hmk⟩ hx (fun W' hx => ?_)
      refine ⟨_, results_none rfl _ _ _, ⟨_, rfl⟩, .inr ⟨_, ⟨r1.map (fun x => (x, k)) ++ r2, ?_⟩, hx⟩⟩
      rw [e2, livc, e1, ← hpr, List.map_append, List.map_append, hpre]
      simp [toP, Function.comp_def]
  · have hkn : ¬ ((k : Int) < (R : Int)) := by omega
    have hkc : k = R := by omega
    subst hkc
    gi_wp2
    refine leavesX (J pre) (fun E A o hE hx => hJ pre A _ _ hx (grownBy_putObj' A E o) (fun i e => by cases e; exact hE)) ds wr hst.mks hst.j (fun W' hx => ?_)
    exact ⟨_, results_none rfl _ _ _, ⟨_, rfl⟩, .inl ⟨pre, hpre, hx⟩⟩
theorem cells_seq (s q C R S : Nat) (g : Nat → Nat) (hz : Sz C R S) (bt n : Nat) (Pr : Nat → Prop) (hs : Pr s) (hq : Pr q) (hb : Pr bt) (w : World) (hn₀ : ∀ i, Pr i → i < w.heap.size) (hbt : Bo w bt 50 #[.iface 108 (.pointer (some ⟨s, 0, none⟩))]) (h : Sb w s q C R S g) :
    SeqI Try.prog n 48 #[.pointer (some ⟨bt, 0, none⟩)] (encP g (C := C) (R := R)) Pr (fun xs => xs.map Subtype.val = livc g C R) (fun pre => ∃ rest, livc g C R = pre.map Subtype.val ++ rest) w := fun l J Jx W hW gW hJ hJx hY h0 =>
  cells2_in s q C R S g hz l bt n Pr hs hq hb J Jx W (fun i hi => Nat.lt_of_lt_of_le (hn₀ i hi) hW) hJ hJx hY h0 (hbt.kept gW (by simp)) (h.kept gW)
end Go.Proofs.Ytbiilklihieomaa
