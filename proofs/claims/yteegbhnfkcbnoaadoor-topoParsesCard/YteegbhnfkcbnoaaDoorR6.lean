/- What the document's form answers. -/
import Derived.Test.YteegbhnfkcbnoaaDoorR5
import Derived.Deep.AppendLies
import Derived.Laws.OwnMore
namespace Go.Proofs.YteegbhnfkcbnoaaDoor
open Go.RowKit
set_option linter.unusedVariables false
set_option linter.unusedSimpArgs false
set_option maxRecDepth 100000

theorem results_tmp4 {fn : Func} {t u v x : Tmp} (h : fn.results = #[.tmp t, .tmp u, .tmp v, .tmp x]) (tmps : Array Value) (P : Program) (w : World) :
    (results fn tmps).run P w = .ok (.tuple #[tmps.getD t undef, tmps.getD u undef, tmps.getD v undef, tmps.getD x undef]) w := by
  simp [results, h]
theorem info6z : (Tryd.prog.info? 60).map (fun i => (i.zero, i.size, i.bytes)) = some (some (.agg #[.int .i64 0, .int .i64 0, .int .i64 0, .int .i64 0, .int .i64 0, .int .i64 0]), 6, 48) := by kernel_rfl
theorem under6S : Tryd.prog.underlying 55 = some (.slice 60) := by kernel_rfl
theorem new6 (w : World) (a b c d e f : Value) (t : TypeId) : ∀ j u, [a, b, c, d, e, f][j]? = some u → (w.alloc (.cells #[a, b, c, d, e, f] t)).cell? ((⟨w.heap.size, 0, none⟩ : Addr).add j) = some u :=
  World.news_of_block (cs := #[a, b, c, d, e, f]) (heap_alloc_new w _)

theorem form_none0 (s : ByteArray) (hs : s.size = 0) (w : World) : Calls Tryd.prog 21 #[.string s] w fun e w' => e = .returned (.tuple #[.int .u8 0, .slice none 0 0, .int .i64 0, .int .i64 40]) ∧ w' = w := by
  have h0 : ((s.size : Int) == 0) = true := by simp [hs]
  go_enter Tryd.func21, Tryd.ntmps21
  go_wp2
  refine bodyPost_ret (results_tmp4 rfl _ _ _) rfl ?_
  exact ⟨rfl, rfl⟩

theorem form_kind0 (s : ByteArray) (K : Nat) (h0 : 0 < s.size) (hk : ∀ w, Calls Tryd.prog 45 #[.int .u8 (Sc.bt s 0 : Nat)] w fun e w' => e = .returned (.int .u8 (K : Nat)) ∧ w' = w) (hK : ((K : Int) == 0) = true) (w : World) : Calls Tryd.prog 21 #[.string s] w fun e w' => e = .returned (.tuple #[.int .u8 0, .slice none 0 0, .int .i64 0, .int .i64 40]) ∧ w' = w := by
  have hb := Sc.bt_at h0
  have h0' : ((s.size : Int) == 0) = false := beq_eq_false_iff_ne.2 (by omega)
  have h0i : (0 : Int) < (s.size : Int) := by omega
  go_enter Tryd.func21, Tryd.ntmps21
  go_wp2_with (first | (go_at_call 45; refine (hk _).mono ?_; rintro e w' ⟨rfl, hw'⟩; subst w'))
  refine bodyPost_ret (results_tmp4 rfl _ _ _) rfl ?_
  exact ⟨rfl, rfl⟩
theorem form_alone (s : ByteArray) (K : Nat) (h0 : 0 < s.size) (hk : ∀ w, Calls Tryd.prog 45 #[.int .u8 (Sc.bt s 0 : Nat)] w fun e w' => e = .returned (.int .u8 (K : Nat)) ∧ w' = w) (hK : ((K : Int) == 0) = false) (hK2 : (K : Int) ≤ 2) (h1 : ((s.size : Int) == 1) = true) (w : World) : Calls Tryd.prog 21 #[.string s] w fun e w' => e = .returned (.tuple #[.int .u8 (K : Nat), .slice none 0 0, .int .i64 0, .int .i64 0]) ∧ w' = w := by
  have hb := Sc.bt_at h0
  have h0' : ((s.size : Int) == 0) = false := beq_eq_false_iff_ne.2 (by omega)
  have h0i : (0 : Int) < (s.size : Int) := by omega
  go_enter Tryd.func21, Tryd.ntmps21
  go_wp2_with (first | (go_at_call 45; refine (hk _).mono ?_; rintro e w' ⟨rfl, hw'⟩; subst w'))
  refine bodyPost_ret (results_tmp4 rfl _ _ _) rfl ?_
  exact ⟨rfl, rfl⟩

theorem form_bad1 (s : ByteArray) (K : Nat) (h0 : 0 < s.size) (hk : ∀ w, Calls Tryd.prog 45 #[.int .u8 (Sc.bt s 0 : Nat)] w fun e w' => e = .returned (.int .u8 (K : Nat)) ∧ w' = w) (T : Tp.Tk) (star : Bool) (hstar : ((K : Int) != 5) = star) (hal : ((s.size : Int) == 1) = false ∨ (((s.size : Int) == 1) = true ∧ ¬ (K : Int) ≤ 2)) (ht : ∀ w, Calls Tryd.prog 46 #[.string s, .int .i64 1, .bool star] w fun e w' => e = .returned (.tuple #[.agg (dpv T.p), .int .i64 T.j, .int .i64 T.e]) ∧ w.grownBy w' none) (hK : ((K : Int) == 0) = false) (he : ((T.e : Int) != 0) = true) (w : World) : Calls Tryd.prog 21 #[.string s] w fun e w' => e = .returned (.tuple #[.int .u8 (K : Nat), .slice none 0 0, .int .i64 T.j, .int .i64 T.e]) ∧ w.grownBy w' none := by
  have hb := Sc.bt_at h0
  have h0' : ((s.size : Int) == 0) = false := beq_eq_false_iff_ne.2 (by omega)
  have h0i : (0 : Int) < (s.size : Int) := by omega
  rcases hal with h1 | ⟨h1, h2⟩
  all_goals
    go_enter Tryd.func21, Tryd.ntmps21
    go_wp2_with (first | (go_at_call 45; refine (hk _).mono ?_; rintro e w' ⟨rfl, hw'⟩; subst w') | (go_at_call 46; refine (ht _).mono ?_; rintro e w1 ⟨rfl, g1⟩; obtain ⟨W2, hW2, sz2, g2, B2⟩ := boxn w1 (dpv T.p) 60; have G2 := gb_trans g1 g2; have b0 := B2.cell 0 (v := .int .i64 T.p.at_) rfl; have b1 := B2.cell 1 (v := .int .i64 T.p.en) rfl; have b2 := B2.cell 2 (v := .int .i64 T.p.st) rfl; have b3 := B2.cell 3 (v := .int .i64 T.p.sg) rfl; have b4 := B2.cell 4 (v := .int .i64 T.p.fr) rfl; have b5 := B2.cell 5 (v := .int .i64 T.p.to) rfl))
    refine bodyPost_ret (results_tmp4 rfl _ _ _) rfl ?_
    exact ⟨rfl, G2⟩

/-- The cells of a part. -/
abbrev dpl (d : Tp.Dp) : List Value := [.int .i64 d.at_, .int .i64 d.en, .int .i64 d.st, .int .i64 d.sg, .int .i64 d.fr, .int .i64 d.to]
/-- Cells that can be read. -/
def Cs (w : World) (g : Nat) (l : List Value) : Prop := ∀ j u, l[j]? = some u → w.cell? ⟨g, j, none⟩ = some u
theorem Cs.kept {w w' : World} {g : Nat} {l : List Value} (h : Cs w g l) (hg : w.grownBy w' none) : Cs w' g l := fun j u hu => hg.cell (h j u hu) (by simp)
theorem Cs.of {w : World} {g : Nat} {t : TypeId} {cs : Array Value} (h : Bo w g t cs) : Cs w g cs.toList := fun j u hu => h.cell j (by simpa using hu)

set_option maxHeartbeats 2000000 in
theorem form_ok1s (s : ByteArray) (K : Nat) (h0 : 0 < s.size) (hk : ∀ w, Calls Tryd.prog 45 #[.int .u8 (Sc.bt s 0 : Nat)] w fun e w' => e = .returned (.int .u8 (K : Nat)) ∧ w' = w) (T : Tp.Tk) (star : Bool) (hstar : ((K : Int) != 5) = star) (hal : ((s.size : Int) == 1) = false ∨ (((s.size : Int) == 1) = true ∧ ¬ (K : Int) ≤ 2)) (ht : ∀ w, Calls Tryd.prog 46 #[.string s, .int .i64 1, .bool star] w fun e w' => e = .returned (.tuple #[.agg (dpv T.p), .int .i64 T.j, .int .i64 T.e]) ∧ w.grownBy w' none) (hK : ((K : Int) == 0) = false) (he : ((T.e : Int) != 0) = false) (h5 : star = false) (hj : ¬ (T.j : Int) < (s.size : Int)) (w : World) : Calls Tryd.prog 21 #[.string s] w fun e w' => (∃ g c, e = .returned (.tuple #[.int .u8 (K : Nat), .slice (some ⟨g, 0, none⟩) 1 c, .int .i64 0, .int .i64 0]) ∧ Cs w' g (dpl T.p)) ∧ w.grownBy w' none := by
  have hb := Sc.bt_at h0
  have h0' : ((s.size : Int) == 0) = false := beq_eq_false_iff_ne.2 (by omega)
  have h0i : (0 : Int) < (s.size : Int) := by omega
  subst h5
  rcases hal with h1 | ⟨h1, h2⟩
  all_goals
    go_enter Tryd.func21, Tryd.ntmps21
    go_wp2_with (first | (go_at_call 45; refine (hk _).mono ?_; rintro e w' ⟨rfl, hw'⟩; subst w') | (go_at_call 46; refine (ht _).mono ?_; rintro e w1 ⟨rfl, g1⟩; obtain ⟨W2, hW2, sz2, g2, B2⟩ := boxn w1 (dpv T.p) 60; have G2 := gb_trans g1 g2; have b0 := B2.cell 0 (v := .int .i64 T.p.at_) rfl; have b1 := B2.cell 1 (v := .int .i64 T.p.en) rfl; have b2 := B2.cell 2 (v := .int .i64 T.p.st) rfl; have b3 := B2.cell 3 (v := .int .i64 T.p.sg) rfl; have b4 := B2.cell 4 (v := .int .i64 T.p.fr) rfl; have b5 := B2.cell 5 (v := .int .i64 T.p.to) rfl; obtain ⟨W3, hW3, sz3, g3, B3⟩ := boxn W2 (dpv T.p) 60; have G3 := gb_trans G2 g3; have d0 := B3.cell 0 (v := .int .i64 T.p.at_) rfl; have d1 := B3.cell 1 (v := .int .i64 T.p.en) rfl; have d2 := B3.cell 2 (v := .int .i64 T.p.st) rfl; have d3 := B3.cell 3 (v := .int .i64 T.p.sg) rfl; have d4 := B3.cell 4 (v := .int .i64 T.p.fr) rfl; have d5 := B3.cell 5 (v := .int .i64 T.p.to) rfl))
    refine bodyPost_ret (results_tmp4 rfl _ _ _) rfl ?_
    exact ⟨⟨_, _, rfl, Cs.of B3⟩, G3⟩

set_option maxHeartbeats 2000000 in
theorem form_ok1n (s : ByteArray) (K : Nat) (h0 : 0 < s.size) (hk : ∀ w, Calls Tryd.prog 45 #[.int .u8 (Sc.bt s 0 : Nat)] w fun e w' => e = .returned (.int .u8 (K : Nat)) ∧ w' = w) (T : Tp.Tk) (star : Bool) (hstar : ((K : Int) != 5) = star) (hal : ((s.size : Int) == 1) = false ∨ (((s.size : Int) == 1) = true ∧ ¬ (K : Int) ≤ 2)) (ht : ∀ w, Calls Tryd.prog 46 #[.string s, .int .i64 1, .bool star] w fun e w' => e = .returned (.tuple #[.agg (dpv T.p), .int .i64 T.j, .int .i64 T.e]) ∧ w.grownBy w' none) (hK : ((K : Int) == 0) = false) (he : ((T.e : Int) != 0) = false) (h5 : star = true) (hj : ¬ (T.j : Int) < (s.size : Int)) (w : World) : Calls Tryd.prog 21 #[.string s] w fun e w' => (∃ g c, e = .returned (.tuple #[.int .u8 (K : Nat), .slice (some ⟨g, 0, none⟩) 1 c, .int .i64 0, .int .i64 0]) ∧ Cs w' g (dpl T.p)) ∧ w.grownBy w' none := by
  have hb := Sc.bt_at h0
  have h0' : ((s.size : Int) == 0) = false := beq_eq_false_iff_ne.2 (by omega)
  have h0i : (0 : Int) < (s.size : Int) := by omega
  subst h5
  rcases hal with h1 | ⟨h1, h2⟩
  all_goals
    go_enter Tryd.func21, Tryd.ntmps21
    go_wp2_with (first | (go_at_call 45; refine (hk _).mono ?_; rintro e w' ⟨rfl, hw'⟩; subst w') | (go_at_call 46; refine (ht _).mono ?_; rintro e w1 ⟨rfl, g1⟩; obtain ⟨W2, hW2, sz2, g2, B2⟩ := boxn w1 (dpv T.p) 60; have G2 := gb_trans g1 g2; have b0 := B2.cell 0 (v := .int .i64 T.p.at_) rfl; have b1 := B2.cell 1 (v := .int .i64 T.p.en) rfl; have b2 := B2.cell 2 (v := .int .i64 T.p.st) rfl; have b3 := B2.cell 3 (v := .int .i64 T.p.sg) rfl; have b4 := B2.cell 4 (v := .int .i64 T.p.fr) rfl; have b5 := B2.cell 5 (v := .int .i64 T.p.to) rfl; obtain ⟨W3, hW3, sz3, g3, B3⟩ := boxn W2 (dpv T.p) 60; have G3 := gb_trans G2 g3; have d0 := B3.cell 0 (v := .int .i64 T.p.at_) rfl; have d1 := B3.cell 1 (v := .int .i64 T.p.en) rfl; have d2 := B3.cell 2 (v := .int .i64 T.p.st) rfl; have d3 := B3.cell 3 (v := .int .i64 T.p.sg) rfl; have d4 := B3.cell 4 (v := .int .i64 T.p.fr) rfl; have d5 := B3.cell 5 (v := .int .i64 T.p.to) rfl))
    refine bodyPost_ret (results_tmp4 rfl _ _ _) rfl ?_
    exact ⟨⟨_, _, rfl, Cs.of B3⟩, G3⟩

set_option maxHeartbeats 2000000 in
theorem form_more1s (s : ByteArray) (K : Nat) (h0 : 0 < s.size) (hk : ∀ w, Calls Tryd.prog 45 #[.int .u8 (Sc.bt s 0 : Nat)] w fun e w' => e = .returned (.int .u8 (K : Nat)) ∧ w' = w) (T : Tp.Tk) (star : Bool) (hstar : ((K : Int) != 5) = star) (hal : ((s.size : Int) == 1) = false ∨ (((s.size : Int) == 1) = true ∧ ¬ (K : Int) ≤ 2)) (ht : ∀ w, Calls Tryd.prog 46 #[.string s, .int .i64 1, .bool star] w fun e w' => e = .returned (.tuple #[.agg (dpv T.p), .int .i64 T.j, .int .i64 T.e]) ∧ w.grownBy w' none) (hK : ((K : Int) == 0) = false) (he : ((T.e : Int) != 0) = false) (h5 : star = false) (hj : T.j < s.size) (w : World) : Calls Tryd.prog 21 #[.string s] w fun e w' => e = .returned (.tuple #[.int .u8 (K : Nat), .slice none 0 0, .int .i64 T.j, .int .i64 45]) ∧ w.grownBy w' none := by
  have hb := Sc.bt_at h0
  have h0' : ((s.size : Int) == 0) = false := beq_eq_false_iff_ne.2 (by omega)
  have h0i : (0 : Int) < (s.size : Int) := by omega
  subst h5
  have hj' : (T.j : Int) < (s.size : Int) := by omega
  have hbj := Sc.bt_at hj
  rcases hal with h1 | ⟨h1, h2⟩
  all_goals
    go_enter Tryd.func21, Tryd.ntmps21
    go_wp2_with (first | (go_at_call 45; refine (hk _).mono ?_; rintro e w' ⟨rfl, hw'⟩; subst w') | (go_at_call 46; refine (ht _).mono ?_; rintro e w1 ⟨rfl, g1⟩; obtain ⟨W2, hW2, sz2, g2, B2⟩ := boxn w1 (dpv T.p) 60; have G2 := gb_trans g1 g2; have b0 := B2.cell 0 (v := .int .i64 T.p.at_) rfl; have b1 := B2.cell 1 (v := .int .i64 T.p.en) rfl; have b2 := B2.cell 2 (v := .int .i64 T.p.st) rfl; have b3 := B2.cell 3 (v := .int .i64 T.p.sg) rfl; have b4 := B2.cell 4 (v := .int .i64 T.p.fr) rfl; have b5 := B2.cell 5 (v := .int .i64 T.p.to) rfl; obtain ⟨W3, hW3, sz3, g3, B3⟩ := boxn W2 (dpv T.p) 60; have G3 := gb_trans G2 g3; have d0 := B3.cell 0 (v := .int .i64 T.p.at_) rfl; have d1 := B3.cell 1 (v := .int .i64 T.p.en) rfl; have d2 := B3.cell 2 (v := .int .i64 T.p.st) rfl; have d3 := B3.cell 3 (v := .int .i64 T.p.sg) rfl; have d4 := B3.cell 4 (v := .int .i64 T.p.fr) rfl; have d5 := B3.cell 5 (v := .int .i64 T.p.to) rfl))
    refine bodyPost_ret (results_tmp4 rfl _ _ _) rfl ?_
    exact ⟨rfl, G3⟩

set_option maxHeartbeats 2000000 in
theorem form_more1n (s : ByteArray) (K : Nat) (h0 : 0 < s.size) (hk : ∀ w, Calls Tryd.prog 45 #[.int .u8 (Sc.bt s 0 : Nat)] w fun e w' => e = .returned (.int .u8 (K : Nat)) ∧ w' = w) (T : Tp.Tk) (star : Bool) (hstar : ((K : Int) != 5) = star) (hal : ((s.size : Int) == 1) = false ∨ (((s.size : Int) == 1) = true ∧ ¬ (K : Int) ≤ 2)) (ht : ∀ w, Calls Tryd.prog 46 #[.string s, .int .i64 1, .bool star] w fun e w' => e = .returned (.tuple #[.agg (dpv T.p), .int .i64 T.j, .int .i64 T.e]) ∧ w.grownBy w' none) (hK : ((K : Int) == 0) = false) (he : ((T.e : Int) != 0) = false) (h5 : star = true) (hj : T.j < s.size) (hc : ((Sc.bt s T.j : Int) == 44) = false) (w : World) : Calls Tryd.prog 21 #[.string s] w fun e w' => e = .returned (.tuple #[.int .u8 (K : Nat), .slice none 0 0, .int .i64 T.j, .int .i64 45]) ∧ w.grownBy w' none := by
  have hb := Sc.bt_at h0
  have h0' : ((s.size : Int) == 0) = false := beq_eq_false_iff_ne.2 (by omega)
  have h0i : (0 : Int) < (s.size : Int) := by omega
  subst h5
  have hj' : (T.j : Int) < (s.size : Int) := by omega
  have hbj := Sc.bt_at hj
  rcases hal with h1 | ⟨h1, h2⟩
  all_goals
    go_enter Tryd.func21, Tryd.ntmps21
    go_wp2_with (first | (go_at_call 45; refine (hk _).mono ?_; rintro e w' ⟨rfl, hw'⟩; subst w') | (go_at_call 46; refine (ht _).mono ?_; rintro e w1 ⟨rfl, g1⟩; obtain ⟨W2, hW2, sz2, g2, B2⟩ := boxn w1 (dpv T.p) 60; have G2 := gb_trans g1 g2; have b0 := B2.cell 0 (v := .int .i64 T.p.at_) rfl; have b1 := B2.cell 1 (v := .int .i64 T.p.en) rfl; have b2 := B2.cell 2 (v := .int .i64 T.p.st) rfl; have b3 := B2.cell 3 (v := .int .i64 T.p.sg) rfl; have b4 := B2.cell 4 (v := .int .i64 T.p.fr) rfl; have b5 := B2.cell 5 (v := .int .i64 T.p.to) rfl; obtain ⟨W3, hW3, sz3, g3, B3⟩ := boxn W2 (dpv T.p) 60; have G3 := gb_trans G2 g3; have d0 := B3.cell 0 (v := .int .i64 T.p.at_) rfl; have d1 := B3.cell 1 (v := .int .i64 T.p.en) rfl; have d2 := B3.cell 2 (v := .int .i64 T.p.st) rfl; have d3 := B3.cell 3 (v := .int .i64 T.p.sg) rfl; have d4 := B3.cell 4 (v := .int .i64 T.p.fr) rfl; have d5 := B3.cell 5 (v := .int .i64 T.p.to) rfl))
    refine bodyPost_ret (results_tmp4 rfl _ _ _) rfl ?_
    exact ⟨rfl, G3⟩
end Go.Proofs.YteegbhnfkcbnoaaDoor
