/- FieldClones. -/
import Derived.Test.YtbiilklihieomaaZ20
import Derived.Test.YtbiilklihieomaaZ22
import Derived.Test.YtbiilklihieomaaZ25
import Derived.OwnWalkIn
import Derived.Deep.RegionHeld2
import Derived.Deep.QuietTactic
import Derived.BigQuiet
namespace Go.Proofs.Ytbiilklihieomaa
open Go.RowKit Go.Shelf
set_option linter.unusedVariables false
set_option linter.unusedSimpArgs false
set_option maxRecDepth 100000
attribute [local go_sem] Oper.semAt_some

theorem with_tmps {c : Code} {F : Fence} {n : Nat} {P : Program} {Q : Exit → Act → World → Prop} {t : Array Value} {d : List Deferred} {w : World} (h : ∀ AR, AR = t → c.wpIn F n P Q { tmps := AR, defers := d } w) : c.wpIn F n P Q { tmps := t, defers := d } w := h t rfl
theorem gb_beyond {a b c : World} {q : Option Nat} (h : a.grownBy b none) (k : b.grownBy c q) (hq : ∀ i, q = some i → a.heap.size ≤ i) : a.grownBy c none := by
  cases q with
  | none => exact gb_trans h k
  | some i => exact gb_past h k (hq i rfl)
/-- What lets no panic out. -/
def noP (Q : Exit → Act → World → Prop) : Exit → Act → World → Prop
  | .panic _, _, _ => False
  | e, a, w => Q e a w
theorem noP_le {Q : Exit → Act → World → Prop} : ∀ e a w, noP Q e a w → Q e a w := fun e a w h => by
  cases e <;> first | exact h | exact h.elim
theorem noP_normal {Q : Exit → Act → World → Prop} {a : Act} {w : World} (h : Q .normal a w) : noP Q .normal a w := h
theorem app_byI {F : Fence} {nn : Nat} {ops : Array Oper} {rest : List Oper} {o : Oper} {a : Act} {Q : Exit → Act → World → Prop} (w : World) (hgd : o.guard = none) (s x : Operand)
    (ho : o.op = .call { callee := .builtin .append, args := #[s, x], argTypes := #[39, 39] }) (hs : a.eval s = .slice none 0 0) (sp : Option Addr) (m c : Nat) (f : Nat → Nat) (hx : a.eval x = .slice sp m c) (hin : By w sp m f) (hnil : sp = none → m = 0 ∧ c = 0) (hb : m ≤ 140737488351232)
    (h : ∀ v' w', w'.ownsRow w.heap.size 5 1 v' m (bysV f m) → w.grownBy w' none → wpListIn F nn Try.prog ops Q rest (a.put o.dst v') w') : wpListIn F nn Try.prog ops Q (o :: rest) a w := by
  obtain ⟨i0, h1, h2, h3, h4⟩ := info_parts info8
  cases sp with
  | none =>
    obtain ⟨rfl, rfl⟩ := hnil rfl
    refine wpListIn_plain hgd fun K hK' => ?_
    have hrun := run_append_owned_none (P := Try.prog) (w := w) w.heap.size 39 o.type 5 i0 1 under8S h1 _ 0 [] (World.ownsRow_nil w w.heap.size 5 1)
    unfold Oper.wpIn
    refine ⟨?_, ?_⟩
    · simp [Oper.about, ho, resolve, Target.leads, Sem.run_pure]
    · rw [Oper.semAt_plain F _ _ (by rw [ho]; intro c hc'; cases hc')]
      simp [execOp, ho, resolve, invoke, builtin, hs, hx, hrun, Result.andThen]
      exact hK' _ _ (h _ _ (World.ownsRow_nil _ _ _ _) (World.grownBy.refl _ _))
  | some ad =>
    refine wpListIn_append_own _ hgd s x 39 ho w.heap.size 5 i0 (.int .u8 0) 1 1 under8S h1 h2 h3 h4 rfl (by decide) _ 0 [] hs (World.ownsRow_nil _ _ _ _) ad m c (bysV f m) hx (by rw [bysV_len]; omega) (fun j u hu => ?_) (fun u hu => ?_) (by unfold maxLen; omega) (by omega) (Nat.le_refl _) ?_
    · have hj : j < m := by
        have := (List.getElem?_eq_some_iff.1 hu).1
        rwa [bysV_len] at this
      simp [bysV, hj] at hu
      rw [← hu]
      exact hin.at hj
    · simp only [bysV, List.mem_map] at hu
      obtain ⟨i, _, rfl⟩ := hu
      rfl
    · intro v' w' own' g' _
      refine h v' w' ?_ g'
      simpa using own'

theorem Fb.keptX {w w' : World} {b s q C R S : Nat} {g : Nat → Nat} {r : Option Nat} (h : Fb w b s q C R S g) (hg : w.grownBy w' r) (hr : ∀ i, r = some i → b ≠ i ∧ s ≠ i ∧ q ≠ i) : Fb w' b s q C R S g := by
  refine ⟨h.fld.kept hg (fun e => (hr _ e.symm).1 rfl), ?_⟩
  obtain ⟨K, k1, k2, f0, k3, k4⟩ := h.st.cap
  exact ⟨K, k1.kept hg (fun e => (hr _ e.symm).2.1 rfl), k2, f0, rowIs_kept k3 hg (fun e => (hr _ e.symm).2.2 rfl), k4⟩
theorem Sb.keptX {w w' : World} {s q C R S : Nat} {g : Nat → Nat} {r : Option Nat} (h : Sb w s q C R S g) (hg : w.grownBy w' r) (hr : ∀ i, r = some i → s ≠ i ∧ q ≠ i) : Sb w' s q C R S g := by
  obtain ⟨K, k1, k2, f0, k3, k4⟩ := h.cap
  exact ⟨K, k1.kept hg (fun e => (hr _ e.symm).1 rfl), k2, f0, rowIs_kept k3 hg (fun e => (hr _ e.symm).2 rfl), k4⟩
theorem gb_any {w w' : World} (h : w.grownBy w' none) (r : Option Nat) : w.grownBy w' r := ⟨h.os, h.tape, h.output, h.size, fun i hi _ => h.block i hi (by simp)⟩
theorem popN0 (C n : Nat) : popN (fun _ => 0) C n = 0 := by
  rw [← pop_livc, List.length_eq_zero_iff, List.eq_nil_iff_forall_not_mem]
  exact fun p hp => (livc_mem.1 hp).2.2 rfl
theorem place_one {C x y x' y' : Nat} (hx : x < C) (hx' : x' < C) (h : y' * C + x' = y * C + x) : x' = x ∧ y' = y := by
  rcases Nat.lt_trichotomy y y' with h1 | h1 | h1
  · have := Nat.mul_le_mul_right C h1
    rw [Nat.succ_mul] at this
    omega
  · subst h1; omega
  · have := Nat.mul_le_mul_right C h1
    rw [Nat.succ_mul] at this
    omega
theorem gset (C n : Nat) (hz : Sz C n 256) (g : Nat → Nat) (x y : Int) (st : Nat) (hst : st < 256) : ∃ (was : Nat) (E : Int) (g2 : Nat → Nat), (E = 0 ∨ E = 130) ∧
    (∀ b s q w, Fb w b s q C n 256 g → Calls Try.prog 16 #[.pointer (some ⟨b, 0, none⟩), .int .i64 x, .int .i64 y] w fun e w' => e = .returned (.tuple #[.int .u8 (was : Nat), .int .i64 E]) ∧ w.grownBy w' none) ∧
    (∀ b s q w, Fb w b s q C n 256 g → Calls Try.prog 19 #[.pointer (some ⟨b, 0, none⟩), .int .i64 x, .int .i64 y, .int .u8 (st : Nat)] w fun e w' => e = .returned (.int .i64 E) ∧ Fb w' b s q C n 256 g2 ∧ w.grownBy w' (some q)) ∧
    (E = 0 → ((was : Int) == (st : Int)) = decide (∀ k, k < C * n → g2 k = g k)) ∧
    (∀ x' y' : Nat, x' < C → y' < n → g2 (y' * C + x') = g (y' * C + x') ∨ ((x' : Int) = x ∧ (y' : Int) = y ∧ g2 (y' * C + x') = st)) := by
  by_cases hp : 0 ≤ x ∧ x < C ∧ 0 ≤ y ∧ y < n
  · obtain ⟨p1, p2, p3, p4⟩ := hp
    obtain ⟨x, rfl⟩ := Int.eq_ofNat_of_zero_le p1
    obtain ⟨y, rfl⟩ := Int.eq_ofNat_of_zero_le p3
    have hx : x < C := by omega
    have hy : y < n := by omega
    refine ⟨g (y * C + x), 0, fun k => if k = y * C + x then st else g k, .inl rfl, fun b s q w h => fGetY b s q C n 256 g hz x y hx hy w h, fun b s q w h => fSetY b s q C n 256 g hz x y st hx hy hst w h, fun _ => ?_, fun x' y' hx' hy' => ?_⟩
    · have hrow := row_le (C := C) hy
      by_cases e : g (y * C + x) = st
      · rw [e, decide_eq_true]
        · simp
        · intro k _
          show (if k = y * C + x then st else g k) = g k
          by_cases hk : k = y * C + x
          · rw [if_pos hk, hk, e]
          · rw [if_neg hk]
      · rw [decide_eq_false]
        · simp; omega
        · intro h
          have := h (y * C + x) (by omega)
          have this : (if y * C + x = y * C + x then st else g (y * C + x)) = g (y * C + x) := this
          rw [if_pos rfl] at this
          exact e this.symm
    · by_cases e : y' * C + x' = y * C + x
      · obtain ⟨rfl, rfl⟩ := place_one hx hx' e
        exact .inr ⟨rfl, rfl, if_pos rfl⟩
      · exact .inl (if_neg e)
  · refine ⟨0, 130, g, .inr rfl, fun b s q w h => fGetN b s q C n 256 g hz x y hp w h, fun b s q w h => (fSetN b s q C n 256 g hz x y st hp w h).mono ?_, fun h => absurd h (by decide), fun _ _ _ _ => .inl rfl⟩
    rintro e w' ⟨rfl, gw⟩
    exact ⟨rfl, h.kept gw, gb_any gw _⟩

set_option maxHeartbeats 40000000 in
theorem clones_yes (C n : Nat) (hz : Sz C n 256) (q o c : Nat) (t : Nat → LN) (x y : Int) (st : Nat) (hst : st < 256) (hk : ∀ j, j < n → (t j).kn ≤ 140737488351232) (hnil : ∀ j, j < n → (t j).kp = none → (t j).kn = 0 ∧ (t j).kc = 0) (h256 : ∀ j i, (t j).kf i < 256) (w : World) (hL : Ln w q o n t) :
    Calls Try.prog 8 #[.int .i64 (C : Nat), .slice (some ⟨q, o, none⟩) n c, .int .i64 x, .int .i64 y, .int .u8 (st : Nat)] w fun e w' => e = .returned (.bool true) ∧ w.grownBy w' none := by
  have hr1 := hz.r1
  have hc1 := hz.c1
  obtain ⟨W0, hW0⟩ : ∃ W0, ((((w.alloc (.cells #[.int .i64 x] 3)).alloc (.cells #[.int .i64 y] 3)).alloc (.cells #[.int .u8 (st : Nat)] 5)).alloc (.cells #[.bool false] 4)) = W0 := ⟨_, rfl⟩
  have G0 : w.grownBy W0 none := hW0 ▸ gb_alloc (gb_alloc (gb_alloc (World.grownBy_alloc _ _ none) _) _) _
  have X0 : Bo W0 (w.heap.size) 3 #[.int .i64 x] := by
    have h := (((Bo.new w 3 #[.int .i64 x]).more (.cells #[.int .i64 y] 3)).more (.cells #[.int .u8 (st : Nat)] 5)).more (.cells #[.bool false] 4)
    rw [hW0] at h
    simpa using h
  have X1 : Bo W0 (w.heap.size + 1) 3 #[.int .i64 y] := by
    have h := ((Bo.new (w.alloc (.cells #[.int .i64 x] 3)) 3 #[.int .i64 y]).more (.cells #[.int .u8 (st : Nat)] 5)).more (.cells #[.bool false] 4)
    rw [hW0] at h
    simpa using h
  have X2 : Bo W0 (w.heap.size + 1 + 1) 5 #[.int .u8 (st : Nat)] := by
    have h := (Bo.new ((w.alloc (.cells #[.int .i64 x] 3)).alloc (.cells #[.int .i64 y] 3)) 5 #[.int .u8 (st : Nat)]).more (.cells #[.bool false] 4)
    rw [hW0] at h
    simpa using h
  have X3 : Bo W0 (w.heap.size + 1 + 1 + 1) 4 #[.bool false] := by
    have h := Bo.new (((w.alloc (.cells #[.int .i64 x] 3)).alloc (.cells #[.int .i64 y] 3)).alloc (.cells #[.int .u8 (st : Nat)] 5)) 4 #[.bool false]
    rw [hW0] at h
    simpa using h
  have HW0 : Hid (((((w.alloc (.cells #[.int .i64 x] 3)).alloc (.cells #[.int .i64 y] 3)).alloc (.cells #[.int .u8 (st : Nat)] 5)).alloc (.cells #[.bool false] 4)) = W0) := hW0
  clear hW0
  have hal : Calls Try.prog 10 #[] ((((w.alloc (.cells #[.int .i64 x] 3)).alloc (.cells #[.int .i64 y] 3)).alloc (.cells #[.int .u8 (st : Nat)] 5)).alloc (.cells #[.bool false] 4)) fun e w' => e = .returned (.bool true) ∧ W0.grownBy w' none := HW0.out ▸ aliveC _
  have hnw := fun w => newY C n 256 hz w
  refine (callsIn_wide (n := 3)).1 ?_
  refine callsIn_of_wp_marks Try.func8 rfl trivial ?_ rfl
  simp only [Try.ntmps8, List.size_toArray, List.length_cons, List.length_nil, Nat.reduceAdd, Nat.reduceSub, Array.replicate_succ, Array.replicate_zero, List.push_toArray, List.append_toArray, List.nil_append, List.cons_append]
  gi_wp2_with (first | (refine ⟨trivial, ?_⟩; gi_at_call 10; refine (callsIn_wide.2 hal).mono ?_; rintro e V1 ⟨rfl, g1⟩) | (refine ⟨trivial, ?_⟩; gi_at_call 9; refine (callsIn_wide.2 (hnw V1)).mono ?_; rintro e V2 ⟨b, s, qf, rfl, hF, lb, ls, lq, g2⟩))
  have l0 := X3.lt
  have l1 := g1.size
  gi_loopw [14] (fun vy wr => ∃ k : Nat, k ≤ n ∧ vy = .int .i64 k ∧ Fb wr b s qf C n 256 (gL t C k) ∧ W0.grownBy wr none) (fun vy _ => n - (intOf vy).toNat)
  case atStart => exact ⟨0, Nat.zero_le _, rfl, hF.congr (fun i _ => by unfold gL; rw [if_neg (fun h => Nat.not_lt_zero _ h.1)]), gb_trans g1 g2⟩
  case round =>
    obtain ⟨k, hkn', rfl, hFk, Gk⟩ := hrel
    by_cases hlt : k < n
    · have hlt' : (k : Int) < (n : Int) := by omega
      obtain ⟨hc1k, hby⟩ := (hL.kept (gb_trans G0 Gk)) k hlt
      have hkk := hk k hlt
      have hnk := hnil k hlt
      have h2k := h256 k
      have hlay : (t k).kn = C → ∀ i, (if k * C ≤ i ∧ i < k * C + C then (t k).kf (i - k * C) else gL t C k i) = gL t C (k + 1) i := fun e i => gL_lay t hz.c0 e i
      have hnol : (t k).kn ≠ C → ∀ i, gL t C k i = gL t C (k + 1) i := fun e i => gL_no t e i
      obtain ⟨kn, hkn⟩ : ∃ kn, (t k).kn = kn := ⟨_, rfl⟩
      obtain ⟨kp, hkp⟩ : ∃ kp, (t k).kp = kp := ⟨_, rfl⟩
      obtain ⟨kc, hkc⟩ : ∃ kc, (t k).kc = kc := ⟨_, rfl⟩
      obtain ⟨kf, hkf⟩ : ∃ kf, (t k).kf = kf := ⟨_, rfl⟩
      rw [hkn, hkp, hkc] at hc1k
      rw [hkn, hkp, hkf] at hby
      rw [hkn] at hkk hlay hnol
      rw [hkp, hkn, hkc] at hnk
      rw [hkf] at h2k hlay
      clear hkn hkp hkc hkf
      have HY : Hid (kn = C → ∀ i, (if k * C ≤ i ∧ i < k * C + C then kf (i - k * C) else gL t C k i) = gL t C (k + 1) i) := hlay
      have HO : Hid (kn ≠ C → ∀ i, gL t C k i = gL t C (k + 1) i) := hnol
      clear hlay hnol
      by_cases hc : kn = C
      · obtain rfl : C = kn := hc.symm
        gi_wp2_with (first | (gi_at_builtin; refine app_byI wr rfl _ _ rfl rfl kp C kc kf rfl hby hnk hkk ?_; intro v1 w5 own5 gk5; obtain ⟨sq, cq, hv1⟩ := own_sl own5; subst hv1; have by5 : By w5 sq C kf := ow_by0 own5; have hF5 := hFk.kept gk5) | (refine ⟨trivial, ?_⟩; gi_at_call 20; refine (callsIn_wide.2 (fLayY b s qf C n 256 _ hz k hlt sq cq kf h2k (fun i _ => h2k i) w5 hF5 by5)).mono ?_; rintro e V6 ⟨rfl, hF6, g6⟩))
        all_goals exact ⟨⟨k + 1, hlt, by go_num, hF6.congr (fun i _ => HY.out (by first | trivial | rfl) i), gb_past (gb_trans Gk gk5) g6 (Nat.le_trans g1.size lq)⟩, by simp [intOf]; omega⟩
      · gi_wp2_with (first | (gi_at_builtin; refine app_byI wr rfl _ _ rfl rfl kp kn kc kf rfl hby hnk hkk ?_; intro v1 w5 own5 gk5; obtain ⟨sq, cq, hv1⟩ := own_sl own5; subst hv1; have by5 : By w5 sq kn kf := ow_by0 own5; have hF5 := hFk.kept gk5) | (refine ⟨trivial, ?_⟩; gi_at_call 20; refine (callsIn_wide.2 (fLayL b s qf C n 256 _ hz k hlt sq kn cq hc w5 hF5)).mono ?_; rintro e V6 ⟨rfl, g6⟩))
        all_goals exact ⟨⟨k + 1, hlt, by go_num, (hF5.kept g6).congr (fun i _ => HO.out hc i), gb_trans (gb_trans Gk gk5) g6⟩, by simp [intOf]; omega⟩
    · have hkn2 : ¬ ((k : Int) < (n : Int)) := by omega
      obtain rfl : n = k := by omega
      obtain ⟨g, hg⟩ : ∃ g, gL t C n = g := ⟨_, rfl⟩
      rw [hg] at hFk
      have hpop := fPop b s qf C n 256 g hz wr hFk
      clear hkn' hkn2 hg
      gi_wp2_with (first | (refine ⟨trivial, ?_⟩; gi_at_call 28; refine (callsIn_wide.2 hpop).mono ?_; rintro e V3 ⟨rfl, g3⟩; have hF3 := hFk.kept g3) | (refine ⟨trivial, ?_⟩; gi_at_call 29; refine (callsIn_wide.2 (fClone b s qf C n 256 g hz V3 hF3)).mono ?_; rintro e V4 ⟨b2, s2, q2, rfl, hG4, lb4, ls4, lq4, g4⟩; have hF4 := hF3.kept g4))
      obtain ⟨W5, hW5, sz5, g5, Y5⟩ := boxn V4 #[.pointer (some ⟨b2, 0, none⟩)] 22
      rw [hW5]
      have hF5 := hF4.kept g5
      have hG5 := hG4.kept g5
      have hnf : ∀ (bt : Nat) (w : World), (binOp .eql 44 (.func (.func 48) #[] #[.pointer (some ⟨bt, 0, none⟩)]) .nilFunc).run Try.prog w = .ok (.bool false) w := fun bt w => by first | rfl | go_simp | kernel_rfl | simp [binOp]
      have hsm : ∀ (b s q b2 s2 q2 : Nat) (w : World), Fb w b s q C n 256 g → Fb w b2 s2 q2 C n 256 g → Calls Try.prog 30 #[.pointer (some ⟨b, 0, none⟩), .pointer (some ⟨b2, 0, none⟩)] w fun e w' => e = .returned (.bool true) ∧ w.grownBy w' none := fun b s q b2 s2 q2 w h1 h2 => fSame b s q b2 s2 q2 C n 256 g g hz w h1 h2 true (by simp)
      gi_wp2_with (first | (refine ⟨trivial, ?_⟩; gi_at_call 14; refine (callsIn_wide.2 (cellsC b s qf C n 256 g hz W5 hF5)).mono ?_; rintro e V6 ⟨bt, s3, q3, rfl, hbt, hS6, lb6, ls6, lq6, g6⟩; have hF6 := hF5.kept g6; have hG6 := hG5.kept g6; have Y6 := Y5.kept g6 (by simp); have y6 := Y6.cell 0 (v := .pointer (some ⟨b2, 0, none⟩)) rfl) | (refine ⟨trivial, ?_⟩; gi_at_call 30; (fail_if_success (guard_hyp g7)); refine (callsIn_wide.2 (hsm b2 s2 q2 b s qf V6 hG6 hF6)).mono ?_; rintro e V7 ⟨rfl, g7⟩; have hF7 := hF6.kept g7; have hG7 := hG6.kept g7; have Y7 := Y6.kept g7 (by simp); have y7 := Y7.cell 0 (v := .pointer (some ⟨b2, 0, none⟩)) rfl) | (refine ⟨trivial, ?_⟩; gi_at_call 30; guard_hyp g7; refine (callsIn_wide.2 (hsm b s qf b2 s2 q2 V7 hF7 hG7)).mono ?_; rintro e V8 ⟨rfl, g8⟩; have hF8 := hF7.kept g8; have hG8 := hG7.kept g8; have Y8 := Y7.kept g8 (by simp); have y8 := Y8.cell 0 (v := .pointer (some ⟨b2, 0, none⟩)) rfl) | (refine ⟨trivial, ?_⟩; gi_at_call 27; refine (callsIn_wide.2 (fPacked b2 s2 q2 C n 256 g hz V8 hG8)).mono ?_; rintro e V ⟨rfl, hV⟩; subst V) | (refine ⟨trivial, ?_⟩; gi_at_call 24; refine (callsIn_wide.2 (fW b2 s2 q2 C n 256 g V8 hG8)).mono ?_; rintro e V9 ⟨rfl, g9⟩; have hF9 := hF8.kept g9; have hG9 := hG8.kept g9; have Y9 := Y8.kept g9 (by simp); have y9 := Y9.cell 0 (v := .pointer (some ⟨b2, 0, none⟩)) rfl) | (refine ⟨trivial, ?_⟩; gi_at_call 25; refine (callsIn_wide.2 (fH b2 s2 q2 C n 256 g V9 hG9)).mono ?_; rintro e V10 ⟨rfl, g10⟩; have hF10 := hF9.kept g10; have hG10 := hG9.kept g10; have Y10 := Y9.kept g10 (by simp); have y10 := Y10.cell 0 (v := .pointer (some ⟨b2, 0, none⟩)) rfl) | (refine ⟨trivial, ?_⟩; gi_at_call 26; refine (callsIn_wide.2 (fStates b2 s2 q2 C n 256 g V10 hG10)).mono ?_; rintro e V11 ⟨rfl, g11⟩; have hF11 := hF10.kept g11; have hG11 := hG10.kept g11; have Y11 := Y10.kept g11 (by simp); have y11 := Y11.cell 0 (v := .pointer (some ⟨b2, 0, none⟩)) rfl; have GG : W0.grownBy V11 none := gb_trans Gk (gb_trans g3 (gb_trans g4 (gb_trans g5 (gb_trans g6 (gb_trans g7 (gb_trans g8 (gb_trans g9 (gb_trans g10 g11)))))))); have x11 := (X0.kept GG (by simp)).cell 0 (v := .int .i64 x) rfl; have z11 := (X1.kept GG (by simp)).cell 0 (v := .int .i64 y) rfl))
      obtain ⟨was, E, g2', hE, hgetc, hsetc, hsame, hg2⟩ := gset C n hz g x y st hst
      have m1 := hF3.fld.lt
      have m2 := hF3.st.slt
      have m3 := hF3.st.qlt'
      have m4 := hG4.fld.lt
      have m5 := hG4.st.slt
      have m6 := hG4.st.qlt'
      have m7 := sz5.out
      have m8 := Gk.size
      have m9 := g3.size
      gi_wp2_with (first | (refine ⟨trivial, ?_⟩; gi_at_call 16; (fail_if_success (guard_hyp h1)); refine (callsIn_wide.2 (hgetc b2 s2 q2 V11 hG11)).mono ?_; rintro e A1 ⟨rfl, h1⟩; have F1 := hF11.kept h1; have D1 := hG11.kept h1; have y1 := (Y11.kept h1 (by simp)).cell 0 (v := .pointer (some ⟨b2, 0, none⟩)) rfl; have u1 := (X0.kept (gb_trans GG h1) (by simp)).cell 0 (v := .int .i64 x) rfl; have u2 := (X1.kept (gb_trans GG h1) (by simp)).cell 0 (v := .int .i64 y) rfl; have u3 := (X2.kept (gb_trans GG h1) (by simp)).cell 0 (v := .int .u8 (st : Nat)) rfl) | (refine ⟨trivial, ?_⟩; gi_at_call 19; refine (callsIn_wide.2 (hsetc b2 s2 q2 A1 D1)).mono ?_; rintro e A2 ⟨rfl, D2, h2⟩; have F2 := F1.keptX h2 (fun i e => by cases e; exact ⟨by omega, by omega, by omega⟩); have GA2 : W0.grownBy A2 none := gb_past (gb_trans GG h1) h2 (by omega); have u4 := (X0.kept GA2 (by simp)).cell 0 (v := .int .i64 x) rfl; have u5 := (X1.kept GA2 (by simp)).cell 0 (v := .int .i64 y) rfl; have Yb := (Y11.kept h1 (by simp)).kept h2 (by simp; omega)) | (refine ⟨trivial, ?_⟩; gi_at_call 16; guard_hyp h2; refine (callsIn_wide.2 (hgetc b s qf A2 F2)).mono ?_; rintro e A3 ⟨rfl, h3⟩; have F3 := F2.kept h3; have D3 := D2.kept h3; have Yc := Yb.kept h3 (by simp); have y3 := Yc.cell 0 (v := .pointer (some ⟨b2, 0, none⟩)) rfl; have u6 := (X2.kept (gb_trans GA2 h3) (by simp)).cell 0 (v := .int .u8 (st : Nat)) rfl))
      have F3d := F3.dr
      have D3d := D3.dr
      have Yd := Yc.dr
      have yd := Yd.cell 0 (v := .pointer (some ⟨b2, 0, none⟩)) rfl
      have Xd := (X2.kept (gb_trans GA2 h3) (by simp)).dr
      have xd := Xd.cell 0 (v := .int .u8 (st : Nat)) rfl
      have HSM : Hid (E = 0 → ((was : Int) == (st : Int)) = decide (∀ k, k < C * n → g2' k = g k)) := hsame
      have HG2 : Hid (∀ x' y' : Nat, x' < C → y' < n → g2' (y' * C + x') = g (y' * C + x') ∨ ((x' : Int) = x ∧ (y' : Int) = y ∧ g2' (y' * C + x') = st)) := hg2
      clear hsame hg2
      rcases hE with rfl | rfl
      · obtain ⟨r, hr⟩ : ∃ r, ((was : Int) == (st : Int)) = r := ⟨_, rfl⟩
        have hsame := HSM.out rfl
        rw [hr] at hsame
        have hs4 := fSame b2 s2 q2 b s qf C n 256 g2' g hz A3.drew D3d F3d r hsame
        clear hsame HSM
        have hrr : (r != r) = false := by simp
        refine wpIn_wide.2 (Code.wp_mono noP_le ?_)
        go_region_held2 (fun w' => w'.cell? ⟨V4.heap.size, 0, none⟩ = some (.pointer (some ⟨b2, 0, none⟩)) ∧ w'.cell? ⟨w.heap.size + 1 + 1, 0, none⟩ = some (.int .u8 (st : Nat))) (go_keep) (first | (go_at_call 30; refine hs4.mono ?_; rintro e A4 ⟨rfl, h4⟩; have x4 := (Xd.kept h4 (by simp)).cell 0 (v := .int .u8 (st : Nat)) rfl; have y4 := (Yd.kept h4 (by simp)).cell 0 (v := .pointer (some ⟨b2, 0, none⟩)) rfl))
        refine noP_normal ?_
        obtain ⟨A5, hA5, GA5⟩ : ∃ A5, A4 = A5 ∧ A3.grownBy A5 none := ⟨_, rfl, gb_trans (gb_drew (World.grownBy.refl _ _)) h4⟩
        subst hA5
        have F5 := F3.kept GA5
        have D5 := D3.kept GA5
        have Y5' := Yc.kept GA5 (by simp)
        have hpop0 := fun w h => fPop b s qf C n 256 (fun _ => 0) hz w h
        simp only [popN0] at hpop0
        have hclr := fClear b s qf C n 256 g hz A4 F5
        gi_wp2_with (first | (refine ⟨trivial, ?_⟩; gi_at_call 21; refine (callsIn_wide.2 hclr).mono ?_; rintro e A6 ⟨rfl, F6, k6⟩) | (refine ⟨trivial, ?_⟩; gi_at_call 28; refine (callsIn_wide.2 (hpop0 A6 F6)).mono ?_; rintro e A7 ⟨rfl, k7⟩))
        obtain ⟨A8, hA8, sz8, k8, N8⟩ := boxn A7 #[.int .i64 0] 3
        rw [hA8]
        have k78 := gb_trans k7 k8
        have D8 := (D5.keptX k6 (fun i e => by cases e; exact ⟨by omega, by omega, by omega⟩)).kept k78
        have Y8' := (Y5'.kept k6 (by simp; omega)).kept k78 (by simp)
        have GA8 : W0.grownBy A8 none := gb_trans (gb_past (gb_trans (gb_trans GA2 h3) GA5) k6 (by omega)) k78
        have K611 := gb_trans g7 (gb_trans g8 (gb_trans g9 (gb_trans g10 (gb_trans g11 h1))))
        have n1 : q2 < V4.heap.size := m6
        have bt8 := (((hbt.kept K611 (by simp)).kept h2 (by simp; omega)).kept (gb_trans h3 GA5) (by simp)).kept k6 (by simp; omega)
        have bt9 := bt8.kept k78 (by simp)
        have S8 := (((hS6.kept K611).keptX h2 (fun i e => by cases e; exact ⟨by omega, by omega⟩)).kept (gb_trans h3 GA5)).keptX k6 (fun i e => by cases e; exact ⟨by omega, by omega⟩)
        have S9 := S8.kept k78
        have x8 := X0.kept GA8 (by simp)
        have y8' := X1.kept GA8 (by simp)
        have t8 := X2.kept GA8 (by simp)
        have r8 := X3.kept GA8 (by simp)
        have o1 := D8.fld.lt
        have o2 := D8.st.slt
        have o3 := D8.st.qlt'
        have o4 := Y8'.lt
        have o5 := r8.lt
        have o6 := N8.lt
        have o7 := GA8.size
        have o8 := X3.lt
        have hPr : ∀ i, (i = bt ∨ i = s3 ∨ i = q3) → i < A8.heap.size := fun i hi => by
          rcases hi with rfl | rfl | rfl
          · exact bt9.lt
          · exact S9.slt
          · exact S9.qlt'
        have v0 := k7.size
        have v1 := bt8.lt
        have v2 := S8.slt
        have v3 := S8.qlt'
        have D6 := D5.keptX k6 (fun i e => by cases e; exact ⟨by omega, by omega, by omega⟩)
        have v4 := D6.fld.lt
        have v5 := D6.st.slt
        have v6 := D6.st.qlt'
        have v7 := (Y5'.kept k6 (by simp; omega)).lt
        have v8 := (gb_past (gb_trans (gb_trans GA2 h3) GA5) k6 (by omega)).size
        have w1 : bt ≠ A7.heap.size ∧ s3 ≠ A7.heap.size ∧ q3 ≠ A7.heap.size := ⟨by omega, by omega, by omega⟩
        have w2 : b2 ≠ A7.heap.size ∧ s2 ≠ A7.heap.size ∧ q2 ≠ A7.heap.size := ⟨by omega, by omega, by omega⟩
        have w3 : V4.heap.size ≠ A7.heap.size := by omega
        have w4 : w.heap.size + 3 < A7.heap.size := by omega
        have w5 : W0.heap.size ≤ A7.heap.size := by omega
        have w6 : A7.heap.size < A8.heap.size := by omega
        clear D6
        refine with_tmps ?_
        intro AR hAR
        refine rangeI (gf := 48) (lb := #[.pointer (some ⟨bt, 0, none⟩)]) (by subst hAR; rfl) (enters_of Try.func48 (by kernel_rfl) rfl) (fun _ => rfl) (fun i => i = bt ∨ i = s3 ∨ i = q3) hPr
          (cells_seq s3 q3 C n 256 g hz bt 2 _ (.inr (.inl rfl)) (.inr (.inr rfl)) (.inl rfl) A8 hPr bt9 S9)
          (fun pre X => (Bo X A7.heap.size 3 #[.int .i64 (pre.length : Nat)] ∧ Bo X V4.heap.size 22 #[.pointer (some ⟨b2, 0, none⟩)] ∧ Bo X w.heap.size 3 #[.int .i64 x] ∧ Bo X (w.heap.size + 1) 3 #[.int .i64 y] ∧ Bo X (w.heap.size + 1 + 1) 5 #[.int .u8 (st : Nat)] ∧ Bo X (w.heap.size + 1 + 1 + 1) 4 #[.bool false]) ∧ Fb X b2 s2 q2 C n 256 g2' ∧ W0.grownBy X none)
          (fun _ _ _ => False)
          (fun pre X Y r hs hg hr => ⟨⟨hs.1.1.kept hg (fun e => by have := hr _ e.symm; omega), hs.1.2.1.kept hg (fun e => by have := hr _ e.symm; omega), hs.1.2.2.1.kept hg (fun e => by have := hr _ e.symm; omega), hs.1.2.2.2.1.kept hg (fun e => by have := hr _ e.symm; omega), hs.1.2.2.2.2.1.kept hg (fun e => by have := hr _ e.symm; omega), hs.1.2.2.2.2.2.kept hg (fun e => by have := hr _ e.symm; omega)⟩, hs.2.1.keptX hg (fun i e => by have := hr i e; omega), gb_beyond hs.2.2 hg (fun i e => by have := hr i e; omega)⟩)
          (fun _ _ _ _ _ hs _ _ => hs)
          ⟨⟨N8, Y8', x8, y8', t8, r8⟩, D8, GA8⟩
          (fun z a' X => ∃ Bp, A8.heap.size + 1 < Bp ∧ Bo X Bp 72 #[.int .i64 (z.val.1 : Nat), .int .i64 (z.val.2 : Nat)] ∧ a' = { tmps := (((AR.setIfInBounds 159 (.agg #[.int .i64 (z.val.1 : Nat), .int .i64 (z.val.2 : Nat)])).setIfInBounds 160 (.int .u8 (g (z.val.2 * C + z.val.1) : Nat))).setIfInBounds 25 (.pointer (some ⟨Bp, 0, none⟩))).setIfInBounds 26 (.int .u8 (g (z.val.2 * C + z.val.1) : Nat)), defers := [] })
          (fun z a' X Y h hg => by
            obtain ⟨Bp, e1, e2, e3⟩ := h
            exact ⟨Bp, e1, e2.kept hg (by simp; omega), e3⟩)
          ?assign0 ?body0 ?done0 ?stop0
        case assign0 =>
          intro l pre z X K _ hX hK
          subst hAR
          simp only [encP]
          gi_wp2
          exact hK _ _ ⟨X.heap.size, by omega, Bo.new X _ _, rfl⟩ (World.grownBy_alloc _ _ none)
        case stop0 =>
          rintro D c pre X hD _ h _
          exact h.elim
        case done0 =>
          rintro D ys X hD hS ⟨⟨N9, _, _, _, _, R9⟩, D9, G9⟩ hK
          subst hAR
          have hlen : ys.length = popN g C n := by
            rw [← pop_livc, ← hS, List.length_map]
          rw [hlen] at N9
          have cn := N9.cell 0 (v := .int .i64 (popN g C n : Nat)) rfl
          have cr := R9.cell 0 (v := .bool false) rfl
          have fr := R9.frozen 0
          gi_wp2
          have lr := R9.lt
          have kD : (X.setCell ⟨w.heap.size + 1 + 1 + 1, 0, none⟩ (.bool true)).heap[D]? = some (.deferred (some [])) := ((gb1 X (w.heap.size + 1 + 1 + 1) 0 (.bool true)).block D (Array.getElem?_eq_some_iff.1 hK).1 (by simp; omega)).trans hK
          refine ⟨by simp, .inl ⟨_, _, rfl, run_takeDeferred kD, ?_⟩⟩
          refine ⟨_, res_c (p := 10) (t := 4) rfl (fun _ => by kernel_rfl) rfl (((R9.set 0 (.bool true)).kept (grownBy_putObj' _ D (.deferred none)) (by simp; omega)).cell 0 (v := .bool true) rfl), rfl, ?_⟩
          exact gb_past (gb_new (gb_trans G0 G9) (a := ⟨w.heap.size + 1 + 1 + 1, 0, none⟩) (by show w.heap.size ≤ w.heap.size + 1 + 1 + 1; omega) _) (grownBy_putObj' _ D _) (by omega)
        case body0 =>
          rintro l pre ⟨⟨p1, p2⟩, hp1, hp2⟩ a' X ⟨⟨jn, jy, jx, jyy, jt, jr⟩, DX, GX⟩ ⟨Bp, hBp, bP, rfl⟩ ⟨rest, hrest⟩
          subst hAR
          have hmem : (p1, p2) ∈ livc g C n := by rw [hrest]; simp
          have hg0 := (livc_mem.1 hmem).2.2
          have hlen : pre.length < 1048576 := by
            have e1 := livc_len g C n
            have e2 : (livc g C n).length = pre.length + 1 + rest.length := by rw [hrest]; simp; omega
            have e3 := hz.all
            rw [Nat.mul_comm] at e1
            omega
          have hget := fGetY b2 s2 q2 C n 256 g2' hz p1 p2 hp1 hp2 X DX
          have hcase := HG2.out p1 p2 hp1 hp2
          dsimp only at bP hg0 hcase ⊢
          obtain ⟨va, hva⟩ : ∃ va, g2' (p2 * C + p1) = va := ⟨_, rfl⟩
          obtain ⟨vg, hvg⟩ : ∃ vg, g (p2 * C + p1) = vg := ⟨_, rfl⟩
          rw [hva] at hget hcase
          rw [hvg] at hg0 hcase
          rw [hvg]
          clear hva hvg hrest hmem
          have HLN : Hid ((((pre ++ [(⟨(p1, p2), hp1, hp2⟩ : Pl C n)]).length : Nat) : Int) = (pre.length : Int) + 1) := by unfold Hid; simp
          obtain ⟨nn, hnn⟩ : ∃ nn, pre.length = nn := ⟨_, rfl⟩
          rw [hnn] at jn hlen HLN
          clear hnn
          have cB0 := bP.cell 0 (v := .int .i64 (p1 : Nat)) rfl
          have cB1 := bP.cell 1 (v := .int .i64 (p2 : Nat)) rfl
          have cY := jy.cell 0 (v := .pointer (some ⟨b2, 0, none⟩)) rfl
          have a0 : ((vg : Int) == 0) = false := by simp; omega
          by_cases e : va = vg
          · subst e
            clear hcase
            gi_wp2_with (refine ⟨trivial, ?_⟩; gi_at_call 16; refine (CallsIn.inRound l (callsIn_wide.2 hget)).mono ?_; rintro e X1 ⟨rfl, gX⟩; have jn1 := jn.kept gX (by simp); have c1 := jn1.cell 0 (v := .int .i64 (nn : Nat)) rfl; have f1 := jn1.frozen 0; have bP1 := bP.kept gX (by simp); have d0 := bP1.cell 0 (v := .int .i64 (p1 : Nat)) rfl; have d1 := bP1.cell 1 (v := .int .i64 (p2 : Nat)) rfl)
            have gS : X.grownBy (X1.setCell ⟨A7.heap.size, 0, none⟩ (.int .i64 ((nn : Int) + 1))) (some A7.heap.size) := gb_set (gb_any gX _) 0 _
            have HL : #[Value.int .i64 (nn : Nat)].setIfInBounds 0 (.int .i64 ((nn : Int) + 1)) = #[.int .i64 (((pre ++ [(⟨(p1, p2), hp1, hp2⟩ : Pl C n)]).length : Nat) : Int)] := by rw [HLN.out]; rfl
            have jS := jn1.set 0 (.int .i64 ((nn : Int) + 1))
            rw [HL] at jS
            exact ⟨Kh.of gS (fun i e => by cases e; exact ⟨by rintro (h | h | h) <;> omega, w6⟩), ⟨jS, jy.kept gS (by simp; omega), jx.kept gS (by simp; omega), jyy.kept gS (by simp; omega), jt.kept gS (by simp; omega), jr.kept gS (by simp; omega)⟩, DX.keptX gS (fun i e => by cases e; exact w2), gb_past GX gS w5⟩
          · obtain ⟨q1, q2', q3'⟩ := hcase.resolve_left e
            have t0 : binOp .neq 5 (.int .u8 (va : Nat)) (.int .u8 (vg : Nat)) = pure (.bool true) := by
              have : ((va : Int) == (vg : Int)) = false := by simp; omega
              simp [binOp, Op.intCmp, bne, this]
            have t1 : ((p1 : Int) != x) = false := by simp [q1]
            have t2 : ((p2 : Int) != y) = false := by simp [q2']
            have t3 : ((va : Int) != (st : Int)) = false := by simp [q3']
            clear q1 q2' q3' hcase
            gi_wp2_with ((fail_if_success (guard_hyp gX)); refine ⟨trivial, ?_⟩; gi_at_call 16; refine (CallsIn.inRound l (callsIn_wide.2 hget)).mono ?_; rintro e X1 ⟨rfl, gX⟩; have jn1 := jn.kept gX (by simp); have c1 := jn1.cell 0 (v := .int .i64 (nn : Nat)) rfl; have f1 := jn1.frozen 0; have bP1 := bP.kept gX (by simp); have d0 := bP1.cell 0 (v := .int .i64 (p1 : Nat)) rfl; have d1 := bP1.cell 1 (v := .int .i64 (p2 : Nat)) rfl; have cx := (jx.kept gX (by simp)).cell 0 (v := .int .i64 x) rfl; have cy := (jyy.kept gX (by simp)).cell 0 (v := .int .i64 y) rfl; have ct := (jt.kept gX (by simp)).cell 0 (v := .int .u8 (st : Nat)) rfl)
            have gS : X.grownBy (X1.setCell ⟨A7.heap.size, 0, none⟩ (.int .i64 ((nn : Int) + 1))) (some A7.heap.size) := gb_set (gb_any gX _) 0 _
            have HL : #[Value.int .i64 (nn : Nat)].setIfInBounds 0 (.int .i64 ((nn : Int) + 1)) = #[.int .i64 (((pre ++ [(⟨(p1, p2), hp1, hp2⟩ : Pl C n)]).length : Nat) : Int)] := by rw [HLN.out]; rfl
            have jS := jn1.set 0 (.int .i64 ((nn : Int) + 1))
            rw [HL] at jS
            exact ⟨Kh.of gS (fun i e => by cases e; exact ⟨by rintro (h | h | h) <;> omega, w6⟩), ⟨jS, jy.kept gS (by simp; omega), jx.kept gS (by simp; omega), jyy.kept gS (by simp; omega), jt.kept gS (by simp; omega), jr.kept gS (by simp; omega)⟩, DX.keptX gS (fun i e => by cases e; exact w2), gb_past GX gS w5⟩
      · refine wpIn_wide.2 (Code.wp_mono noP_le ?_)
        go_quiet (fail)
        refine noP_normal ?_
        obtain ⟨A4, hA4, GA5⟩ : ∃ A4, A3.drewN nq = A4 ∧ A3.grownBy A4 none := ⟨_, rfl, gb_drewN (World.grownBy.refl _ _) nq⟩
        rw [hA4]
        clear hA4
        have F5 := F3.kept GA5
        have D5 := D3.kept GA5
        have Y5' := Yc.kept GA5 (by simp)
        have hpop0 := fun w h => fPop b s qf C n 256 (fun _ => 0) hz w h
        simp only [popN0] at hpop0
        have hclr := fClear b s qf C n 256 g hz A4 F5
        gi_wp2_with (first | (refine ⟨trivial, ?_⟩; gi_at_call 21; refine (callsIn_wide.2 hclr).mono ?_; rintro e A6 ⟨rfl, F6, k6⟩) | (refine ⟨trivial, ?_⟩; gi_at_call 28; refine (callsIn_wide.2 (hpop0 A6 F6)).mono ?_; rintro e A7 ⟨rfl, k7⟩))
        obtain ⟨A8, hA8, sz8, k8, N8⟩ := boxn A7 #[.int .i64 0] 3
        rw [hA8]
        have k78 := gb_trans k7 k8
        have D8 := (D5.keptX k6 (fun i e => by cases e; exact ⟨by omega, by omega, by omega⟩)).kept k78
        have Y8' := (Y5'.kept k6 (by simp; omega)).kept k78 (by simp)
        have GA8 : W0.grownBy A8 none := gb_trans (gb_past (gb_trans (gb_trans GA2 h3) GA5) k6 (by omega)) k78
        have K611 := gb_trans g7 (gb_trans g8 (gb_trans g9 (gb_trans g10 (gb_trans g11 h1))))
        have n1 : q2 < V4.heap.size := m6
        have bt8 := (((hbt.kept K611 (by simp)).kept h2 (by simp; omega)).kept (gb_trans h3 GA5) (by simp)).kept k6 (by simp; omega)
        have bt9 := bt8.kept k78 (by simp)
        have S8 := (((hS6.kept K611).keptX h2 (fun i e => by cases e; exact ⟨by omega, by omega⟩)).kept (gb_trans h3 GA5)).keptX k6 (fun i e => by cases e; exact ⟨by omega, by omega⟩)
        have S9 := S8.kept k78
        have x8 := X0.kept GA8 (by simp)
        have y8' := X1.kept GA8 (by simp)
        have t8 := X2.kept GA8 (by simp)
        have r8 := X3.kept GA8 (by simp)
        have o1 := D8.fld.lt
        have o2 := D8.st.slt
        have o3 := D8.st.qlt'
        have o4 := Y8'.lt
        have o5 := r8.lt
        have o6 := N8.lt
        have o7 := GA8.size
        have o8 := X3.lt
        have hPr : ∀ i, (i = bt ∨ i = s3 ∨ i = q3) → i < A8.heap.size := fun i hi => by
          rcases hi with rfl | rfl | rfl
          · exact bt9.lt
          · exact S9.slt
          · exact S9.qlt'
        have v0 := k7.size
        have v1 := bt8.lt
        have v2 := S8.slt
        have v3 := S8.qlt'
        have D6 := D5.keptX k6 (fun i e => by cases e; exact ⟨by omega, by omega, by omega⟩)
        have v4 := D6.fld.lt
        have v5 := D6.st.slt
        have v6 := D6.st.qlt'
        have v7 := (Y5'.kept k6 (by simp; omega)).lt
        have v8 := (gb_past (gb_trans (gb_trans GA2 h3) GA5) k6 (by omega)).size
        have w1 : bt ≠ A7.heap.size ∧ s3 ≠ A7.heap.size ∧ q3 ≠ A7.heap.size := ⟨by omega, by omega, by omega⟩
        have w2 : b2 ≠ A7.heap.size ∧ s2 ≠ A7.heap.size ∧ q2 ≠ A7.heap.size := ⟨by omega, by omega, by omega⟩
        have w3 : V4.heap.size ≠ A7.heap.size := by omega
        have w4 : w.heap.size + 3 < A7.heap.size := by omega
        have w5 : W0.heap.size ≤ A7.heap.size := by omega
        have w6 : A7.heap.size < A8.heap.size := by omega
        clear D6
        refine with_tmps ?_
        intro AR hAR
        refine rangeI (gf := 48) (lb := #[.pointer (some ⟨bt, 0, none⟩)]) (by subst hAR; rfl) (enters_of Try.func48 (by kernel_rfl) rfl) (fun _ => rfl) (fun i => i = bt ∨ i = s3 ∨ i = q3) hPr
          (cells_seq s3 q3 C n 256 g hz bt 2 _ (.inr (.inl rfl)) (.inr (.inr rfl)) (.inl rfl) A8 hPr bt9 S9)
          (fun pre X => (Bo X A7.heap.size 3 #[.int .i64 (pre.length : Nat)] ∧ Bo X V4.heap.size 22 #[.pointer (some ⟨b2, 0, none⟩)] ∧ Bo X w.heap.size 3 #[.int .i64 x] ∧ Bo X (w.heap.size + 1) 3 #[.int .i64 y] ∧ Bo X (w.heap.size + 1 + 1) 5 #[.int .u8 (st : Nat)] ∧ Bo X (w.heap.size + 1 + 1 + 1) 4 #[.bool false]) ∧ Fb X b2 s2 q2 C n 256 g2' ∧ W0.grownBy X none)
          (fun _ _ _ => False)
          (fun pre X Y r hs hg hr => ⟨⟨hs.1.1.kept hg (fun e => by have := hr _ e.symm; omega), hs.1.2.1.kept hg (fun e => by have := hr _ e.symm; omega), hs.1.2.2.1.kept hg (fun e => by have := hr _ e.symm; omega), hs.1.2.2.2.1.kept hg (fun e => by have := hr _ e.symm; omega), hs.1.2.2.2.2.1.kept hg (fun e => by have := hr _ e.symm; omega), hs.1.2.2.2.2.2.kept hg (fun e => by have := hr _ e.symm; omega)⟩, hs.2.1.keptX hg (fun i e => by have := hr i e; omega), gb_beyond hs.2.2 hg (fun i e => by have := hr i e; omega)⟩)
          (fun _ _ _ _ _ hs _ _ => hs)
          ⟨⟨N8, Y8', x8, y8', t8, r8⟩, D8, GA8⟩
          (fun z a' X => ∃ Bp, A8.heap.size + 1 < Bp ∧ Bo X Bp 72 #[.int .i64 (z.val.1 : Nat), .int .i64 (z.val.2 : Nat)] ∧ a' = { tmps := (((AR.setIfInBounds 159 (.agg #[.int .i64 (z.val.1 : Nat), .int .i64 (z.val.2 : Nat)])).setIfInBounds 160 (.int .u8 (g (z.val.2 * C + z.val.1) : Nat))).setIfInBounds 25 (.pointer (some ⟨Bp, 0, none⟩))).setIfInBounds 26 (.int .u8 (g (z.val.2 * C + z.val.1) : Nat)), defers := [] })
          (fun z a' X Y h hg => by
            obtain ⟨Bp, e1, e2, e3⟩ := h
            exact ⟨Bp, e1, e2.kept hg (by simp; omega), e3⟩)
          ?assign130 ?body130 ?done130 ?stop130
        case assign130 =>
          intro l pre z X K _ hX hK
          subst hAR
          simp only [encP]
          gi_wp2
          exact hK _ _ ⟨X.heap.size, by omega, Bo.new X _ _, rfl⟩ (World.grownBy_alloc _ _ none)
        case stop130 =>
          rintro D c pre X hD _ h _
          exact h.elim
        case done130 =>
          rintro D ys X hD hS ⟨⟨N9, _, _, _, _, R9⟩, D9, G9⟩ hK
          subst hAR
          have hlen : ys.length = popN g C n := by
            rw [← pop_livc, ← hS, List.length_map]
          rw [hlen] at N9
          have cn := N9.cell 0 (v := .int .i64 (popN g C n : Nat)) rfl
          have cr := R9.cell 0 (v := .bool false) rfl
          have fr := R9.frozen 0
          gi_wp2
          have lr := R9.lt
          have kD : (X.setCell ⟨w.heap.size + 1 + 1 + 1, 0, none⟩ (.bool true)).heap[D]? = some (.deferred (some [])) := ((gb1 X (w.heap.size + 1 + 1 + 1) 0 (.bool true)).block D (Array.getElem?_eq_some_iff.1 hK).1 (by simp; omega)).trans hK
          refine ⟨by simp, .inl ⟨_, _, rfl, run_takeDeferred kD, ?_⟩⟩
          refine ⟨_, res_c (p := 10) (t := 4) rfl (fun _ => by kernel_rfl) rfl (((R9.set 0 (.bool true)).kept (grownBy_putObj' _ D (.deferred none)) (by simp; omega)).cell 0 (v := .bool true) rfl), rfl, ?_⟩
          exact gb_past (gb_new (gb_trans G0 G9) (a := ⟨w.heap.size + 1 + 1 + 1, 0, none⟩) (by show w.heap.size ≤ w.heap.size + 1 + 1 + 1; omega) _) (grownBy_putObj' _ D _) (by omega)
        case body130 =>
          rintro l pre ⟨⟨p1, p2⟩, hp1, hp2⟩ a' X ⟨⟨jn, jy, jx, jyy, jt, jr⟩, DX, GX⟩ ⟨Bp, hBp, bP, rfl⟩ ⟨rest, hrest⟩
          subst hAR
          have hmem : (p1, p2) ∈ livc g C n := by rw [hrest]; simp
          have hg0 := (livc_mem.1 hmem).2.2
          have hlen : pre.length < 1048576 := by
            have e1 := livc_len g C n
            have e2 : (livc g C n).length = pre.length + 1 + rest.length := by rw [hrest]; simp; omega
            have e3 := hz.all
            rw [Nat.mul_comm] at e1
            omega
          have hget := fGetY b2 s2 q2 C n 256 g2' hz p1 p2 hp1 hp2 X DX
          have hcase := HG2.out p1 p2 hp1 hp2
          dsimp only at bP hg0 hcase ⊢
          obtain ⟨va, hva⟩ : ∃ va, g2' (p2 * C + p1) = va := ⟨_, rfl⟩
          obtain ⟨vg, hvg⟩ : ∃ vg, g (p2 * C + p1) = vg := ⟨_, rfl⟩
          rw [hva] at hget hcase
          rw [hvg] at hg0 hcase
          rw [hvg]
          clear hva hvg hrest hmem
          have HLN : Hid ((((pre ++ [(⟨(p1, p2), hp1, hp2⟩ : Pl C n)]).length : Nat) : Int) = (pre.length : Int) + 1) := by unfold Hid; simp
          obtain ⟨nn, hnn⟩ : ∃ nn, pre.length = nn := ⟨_, rfl⟩
          rw [hnn] at jn hlen HLN
          clear hnn
          have cB0 := bP.cell 0 (v := .int .i64 (p1 : Nat)) rfl
          have cB1 := bP.cell 1 (v := .int .i64 (p2 : Nat)) rfl
          have cY := jy.cell 0 (v := .pointer (some ⟨b2, 0, none⟩)) rfl
          have a0 : ((vg : Int) == 0) = false := by simp; omega
          by_cases e : va = vg
          · subst e
            clear hcase
            gi_wp2_with (refine ⟨trivial, ?_⟩; gi_at_call 16; refine (CallsIn.inRound l (callsIn_wide.2 hget)).mono ?_; rintro e X1 ⟨rfl, gX⟩; have jn1 := jn.kept gX (by simp); have c1 := jn1.cell 0 (v := .int .i64 (nn : Nat)) rfl; have f1 := jn1.frozen 0; have bP1 := bP.kept gX (by simp); have d0 := bP1.cell 0 (v := .int .i64 (p1 : Nat)) rfl; have d1 := bP1.cell 1 (v := .int .i64 (p2 : Nat)) rfl)
            have gS : X.grownBy (X1.setCell ⟨A7.heap.size, 0, none⟩ (.int .i64 ((nn : Int) + 1))) (some A7.heap.size) := gb_set (gb_any gX _) 0 _
            have HL : #[Value.int .i64 (nn : Nat)].setIfInBounds 0 (.int .i64 ((nn : Int) + 1)) = #[.int .i64 (((pre ++ [(⟨(p1, p2), hp1, hp2⟩ : Pl C n)]).length : Nat) : Int)] := by rw [HLN.out]; rfl
            have jS := jn1.set 0 (.int .i64 ((nn : Int) + 1))
            rw [HL] at jS
            exact ⟨Kh.of gS (fun i e => by cases e; exact ⟨by rintro (h | h | h) <;> omega, w6⟩), ⟨jS, jy.kept gS (by simp; omega), jx.kept gS (by simp; omega), jyy.kept gS (by simp; omega), jt.kept gS (by simp; omega), jr.kept gS (by simp; omega)⟩, DX.keptX gS (fun i e => by cases e; exact w2), gb_past GX gS w5⟩
          · obtain ⟨q1, q2', q3'⟩ := hcase.resolve_left e
            have t0 : binOp .neq 5 (.int .u8 (va : Nat)) (.int .u8 (vg : Nat)) = pure (.bool true) := by
              have : ((va : Int) == (vg : Int)) = false := by simp; omega
              simp [binOp, Op.intCmp, bne, this]
            have t1 : ((p1 : Int) != x) = false := by simp [q1]
            have t2 : ((p2 : Int) != y) = false := by simp [q2']
            have t3 : ((va : Int) != (st : Int)) = false := by simp [q3']
            clear q1 q2' q3' hcase
            gi_wp2_with ((fail_if_success (guard_hyp gX)); refine ⟨trivial, ?_⟩; gi_at_call 16; refine (CallsIn.inRound l (callsIn_wide.2 hget)).mono ?_; rintro e X1 ⟨rfl, gX⟩; have jn1 := jn.kept gX (by simp); have c1 := jn1.cell 0 (v := .int .i64 (nn : Nat)) rfl; have f1 := jn1.frozen 0; have bP1 := bP.kept gX (by simp); have d0 := bP1.cell 0 (v := .int .i64 (p1 : Nat)) rfl; have d1 := bP1.cell 1 (v := .int .i64 (p2 : Nat)) rfl; have cx := (jx.kept gX (by simp)).cell 0 (v := .int .i64 x) rfl; have cy := (jyy.kept gX (by simp)).cell 0 (v := .int .i64 y) rfl; have ct := (jt.kept gX (by simp)).cell 0 (v := .int .u8 (st : Nat)) rfl)
            have gS : X.grownBy (X1.setCell ⟨A7.heap.size, 0, none⟩ (.int .i64 ((nn : Int) + 1))) (some A7.heap.size) := gb_set (gb_any gX _) 0 _
            have HL : #[Value.int .i64 (nn : Nat)].setIfInBounds 0 (.int .i64 ((nn : Int) + 1)) = #[.int .i64 (((pre ++ [(⟨(p1, p2), hp1, hp2⟩ : Pl C n)]).length : Nat) : Int)] := by rw [HLN.out]; rfl
            have jS := jn1.set 0 (.int .i64 ((nn : Int) + 1))
            rw [HL] at jS
            exact ⟨Kh.of gS (fun i e => by cases e; exact ⟨by rintro (h | h | h) <;> omega, w6⟩), ⟨jS, jy.kept gS (by simp; omega), jx.kept gS (by simp; omega), jyy.kept gS (by simp; omega), jt.kept gS (by simp; omega), jr.kept gS (by simp; omega)⟩, DX.keptX gS (fun i e => by cases e; exact w2), gb_past GX gS w5⟩
end Go.Proofs.Ytbiilklihieomaa
