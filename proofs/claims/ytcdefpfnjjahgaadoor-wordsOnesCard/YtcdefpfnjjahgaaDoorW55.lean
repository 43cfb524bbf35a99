/- Ones, Bits of every row; the document's Places, Ones; same of two lists. -/
import Derived.Test.YtcdefpfnjjahgaaDoorW48
import Derived.Test.YtcdefpfnjjahgaaDoorW30
import Derived.Maps.AppendAt
import Derived.Laws.OwnMore
namespace Go.Proofs.YtcdefpfnjjahgaaDoor
open Go.RowKit Go.Shelf
set_option linter.unusedVariables false
set_option linter.unusedSimpArgs false

/-- The places of the ones of a row; none where it may not be. -/
def plA (N : Int) (n : Nat) (f : Nat → Nat) : List Nat := if validB N n f = true then come (Pk.bitAt f) N.toNat else []
def cl (l : List Nat) : List Value := l.map fun k => .int .i64 ((k : Nat) : Int)
theorem cl_len (l : List Nat) : (cl l).length = l.length := by unfold cl; simp
theorem come_yes {p : Nat → Bool} {s : Nat} (h : p s = true) : come p (s + 1) = come p s ++ [s] := by unfold come; rw [List.range_succ, List.filter_append]; simp [h]
theorem come_no {p : Nat → Bool} {s : Nat} (h : p s = false) : come p (s + 1) = come p s := by unfold come; rw [List.range_succ, List.filter_append]; simp [h]
theorem come_le (p : Nat → Bool) (s : Nat) : (come p s).length ≤ s := by
  have h := List.length_filter_le p (List.range s)
  rw [List.length_range] at h
  exact h
theorem cl_app (l : List Nat) (m : Nat) : cl (l ++ [m]) = cl l ++ [.int .i64 ((m : Nat) : Int)] := by unfold cl; simp
theorem come_bit {m n : Nat} {f : Nat → Nat} {p : Nat → Bool} (hp : ∀ k, k < n → f k = Pk.pack p k) (hm : m ≤ 64 * n) : come (Pk.bitAt f) m = come p m := by
  unfold come
  refine List.filter_congr fun x hx => ?_
  rw [bitAt_of hp (by have := List.mem_range.1 hx; omega)]
theorem infoIn : (Tryd.prog.info? 3).map (fun i => (i.zero, i.size, i.bytes)) = some (some (.int .i64 0), 1, 8) := by kernel_rfl
theorem underIn : Tryd.prog.underlying 40 = some (.slice 3) := by kernel_rfl
set_option maxRecDepth 100000 in
set_option maxHeartbeats 800000 in
theorem onesU (N : Int) (n cap : Nat) (sp : Option Addr) (f : Nat → Nat) (hf : ∀ k, k < n → f k < 18446744073709551616) (hn : n ≤ 9223372036854775807) (w : World) (hc : Wd w sp n f) :
    Calls Tryd.prog 12 #[.agg #[.int .i64 N, .slice sp n cap]] w fun e w' => e = .returned (.tuple #[.int .i64 (((plA N n f).length : Nat) : Int), .int .i64 (if validB N n f = true then 0 else 20)]) ∧ w.grownBy w' none := by
  cases hvb : validB N n f with
  | false =>
    obtain ⟨W0, hW0, c0, c1, sz0, g0, B0⟩ := box2 w (.int .i64 N) (.slice sp n cap) 24
    have hv := validC N n cap sp f hf hn W0 (hc.kept g0 (by simp))
    rw [hvb] at hv
    have e0 : (plA N n f).length = 0 := by unfold plA; rw [if_neg (by rw [hvb]; simp)]; rfl
    rw [e0, if_neg (by simp)]
    clear hvb e0
    go_enter Tryd.func12, Tryd.ntmps12
    go_wp2_with (go_at_call 28; refine hv.mono ?_; rintro e w2 ⟨rfl, g2⟩)
    go_ret2
    exact ⟨rfl, gb_trans g0 g2⟩
  | true =>
    obtain ⟨m, p, rfl, M, hp⟩ := may_of_validB hf hvb
    have e0 : (plA (m : Int) n f).length = cnt p m := by
      unfold plA
      rw [if_pos hvb, Int.toNat_natCast, come_bit hp (by have := M.words; omega), come_cnt]
    rw [e0, if_pos rfl]
    exact onesC m n cap sp p M w (hc.congr hp)
set_option maxRecDepth 100000 in
set_option maxHeartbeats 800000 in
theorem refPlacesU (N : Int) (n cap : Nat) (sp : Option Addr) (f : Nat → Nat) (hf : ∀ k, k < n → f k < 18446744073709551616) (hn : n ≤ 9223372036854775807) (w : World) (hc : Wd w sp n f) :
    Calls Tryd.prog 13 #[.agg #[.int .i64 N, .slice sp n cap]] w fun e w' => ∃ v, e = .returned v ∧ w'.ownsRow w.heap.size 3 1 v (plA N n f).length (cl (plA N n f)) ∧ w.grownBy w' none := by
  obtain ⟨W0, hW0, c0, c1, sz0, g0, B0⟩ := box2 w (.int .i64 N) (.slice sp n cap) 24
  have hv := refValidC N n cap sp f hf hn W0 (hc.kept g0 (by simp))
  cases hvb : validB N n f with
  | false =>
    rw [hvb] at hv
    have e0 : plA N n f = [] := by unfold plA; rw [if_neg (by rw [hvb]; simp)]
    rw [e0]
    clear hvb e0
    go_enter Tryd.func13, Tryd.ntmps13
    go_wp2_with (go_at_call 27; refine hv.mono ?_; rintro e w2 ⟨rfl, g2⟩)
    go_ret
    exact ⟨_, rfl, World.ownsRow_nil _ _ _ _, gb_trans g0 g2⟩
  | true =>
    rw [hvb] at hv
    obtain ⟨m, p, rfl, M, hp⟩ := may_of_validB hf hvb
    have e0 : plA (m : Int) n f = come (Pk.bitAt f) m := by unfold plA; rw [if_pos hvb, Int.toNat_natCast]
    rw [e0]
    have hml := M.le
    have hnl := M.len
    have HNW : Hid (n = (m + 63) / 64) := M.words
    have hbit := fun i (hi : i < m) W h => refBitC (m : Int) i n cap sp f hf (by have := HNW.out; omega) hnl W h
    obtain ⟨ib, hib⟩ := info_parts infoIn
    have HI : Hid (Tryd.prog.info? 3 = some ib ∧ ib.zero = some (.int .i64 0) ∧ ib.size = 1 ∧ ib.bytes = 8) := hib
    clear hib hvb e0 M hp
    go_enter Tryd.func13, Tryd.ntmps13
    go_wp2_with (go_at_call 27; refine hv.mono ?_; rintro e w2 ⟨rfl, g2⟩)
    have G2 := gb_trans g0 g2
    have B2 := B0.kept g2 (by simp)
    go_loopw [3, 4] (fun v x wr' => ∃ (k : Nat) (vc : Value) (c : Nat) (xs : List Value), k ≤ m ∧ vc = v ∧ x = .int .i64 k ∧ Hid (c = (come (Pk.bitAt f) k).length) ∧ Hid (xs = cl (come (Pk.bitAt f) k)) ∧ wr'.ownsRow w2.heap.size 3 1 vc c xs ∧ Bx wr' w.heap.size 24 (.int .i64 m) (.slice sp n cap) ∧ Below w2.heap.size w2 wr' ∧ w.grownBy wr' none) (fun _ x _ => m - (intOf x).toNat)
    case atStart => exact ⟨0, _, 0, [], Nat.zero_le _, rfl, rfl, rfl, rfl, World.ownsRow_nil _ _ _ _, B2, Below.refl _ _, G2⟩
    case round =>
      obtain ⟨k, vc, c, xs, hk, rfl, rfl, HC, HX, hown, Bk, hBl, hG⟩ := hrel
      have y0 := Bk.cell0
      have y1 := Bk.cell1
      by_cases hlt : k < m
      · have hlt' : (k : Int) < (m : Int) := by omega
        have hcl : c ≤ 65538 := by have := come_le (Pk.bitAt f) k; have := HC.out; omega
        have hb9 := hbit k hlt wr (hc.kept hG (by simp))
        cases hb : Pk.bitAt f k with
        | true =>
          rw [hb] at hb9
          have HC' : Hid (c + 1 = (come (Pk.bitAt f) (k + 1)).length) := by unfold Hid; rw [come_yes hb, List.length_append, ← HC.out]; rfl
          have HX' : Hid (xs ++ [.int .i64 ((k : Nat) : Int)] = cl (come (Pk.bitAt f) (k + 1))) := by unfold Hid; rw [come_yes hb, cl_app, HX.out]
          clear hb HC HX
          go_wp2_with (first | (go_at_call 30; refine hb9.mono ?_; rintro e w3 ⟨rfl, g3⟩; obtain ⟨V, hV⟩ : ∃ V, w3.alloc (.cells #[.int .i64 (k : Int)] 3) = V := ⟨_, rfl⟩; have gV : w3.grownBy V none := (by rw [← hV]; exact World.grownBy_alloc _ _ _); have E3 := gb_trans g3 gV; have ownV := hown.kept E3 (Classical.em _); have GV := gb_trans hG E3; have BkV := Bk.kept E3 (by simp); have sV := Nat.le_trans hBl.size E3.size; have v0 : ∀ l u, [Value.int .i64 (k : Int)][l]? = some u → V.cell? ((⟨w3.heap.size, 0, none⟩ : Addr).add l) = some u := (by rw [← hV]; exact World.news_of_block (cs := #[.int .i64 (k : Int)]) (heap_alloc_new w3 _))) | (at_builtin; refine wpList_append_own_at _ rfl _ _ 40 rfl w2.heap.size 3 ib (.int .i64 0) 1 8 underIn HI.out.1 HI.out.2.1 HI.out.2.2.1 HI.out.2.2.2 rfl (by decide) _ c _ rfl ownV ⟨w3.heap.size, 0, none⟩ 1 1 [.int .i64 (k : Int)] rfl rfl v0 (by intro u hu; simp at hu; subst hu; rfl) (by unfold maxLen; omega) (by omega) sV ?_; intro v' w' own' g' hnil' hblk'))
          have hge : ∀ q, vc.ownBlock = some q → w2.heap.size ≤ q := fun q e => (ownV.lt q e).1
          have lB := B2.lt
          have Bk' := BkV.kept g' (fun e => by have := hge _ e.symm; omega)
          have hBl' := (hBl.trans ((gb_below E3).mono hBl.size)).grown g' sV hge
          have hG' : w.grownBy w' none := gb_row GV g' (fun q e => Nat.le_trans G2.size (hge q e))
          first
            | (refine ⟨⟨k + 1, v', c + 1, _, by omega, rfl, by go_num, HC', HX', own', Bk', hBl', hG'⟩, ?_⟩; simp [intOf]; omega)
            | (go_roundw; (case rel => exact ⟨k + 1, v', c + 1, _, by omega, rfl, by go_num, HC', HX', own', Bk', hBl', hG'⟩); (case measure => (simp [intOf]; omega)))
        | false =>
          rw [hb] at hb9
          have HC' : Hid (c = (come (Pk.bitAt f) (k + 1)).length) := by unfold Hid; rw [come_no hb]; exact HC.out
          have HX' : Hid (xs = cl (come (Pk.bitAt f) (k + 1))) := by unfold Hid; rw [come_no hb]; exact HX.out
          clear hb HC HX
          go_wp2_with (go_at_call 30; refine hb9.mono ?_; rintro e w3 ⟨rfl, g3⟩)
          first
            | (refine ⟨⟨k + 1, vc, c, xs, by omega, rfl, by go_num, HC', HX', hown.kept g3 (Classical.em _), Bk.kept g3 (by simp), hBl.trans ((gb_below g3).mono hBl.size), gb_trans hG g3⟩, ?_⟩; simp [intOf]; omega)
            | (go_roundw; (case rel => exact ⟨k + 1, vc, c, xs, by omega, rfl, by go_num, HC', HX', hown.kept g3 (Classical.em _), Bk.kept g3 (by simp), hBl.trans ((gb_below g3).mono hBl.size), gb_trans hG g3⟩); (case measure => (simp [intOf]; omega)))
      · have hlt' : ¬ (k : Int) < (m : Int) := by omega
        obtain rfl : m = k := by omega
        have own8 : wr.ownsRow w.heap.size 3 1 vc (come (Pk.bitAt f) m).length (cl (come (Pk.bitAt f) m)) := by rw [← HC.out, ← HX.out]; exact row_mono hown G2.size
        clear HC HX hown
        go_wp2
        go_ret
        exact ⟨_, rfl, own8, hG⟩
set_option maxRecDepth 100000 in
set_option maxHeartbeats 800000 in
theorem refOnesU (N : Int) (n cap : Nat) (sp : Option Addr) (f : Nat → Nat) (hf : ∀ k, k < n → f k < 18446744073709551616) (hn : n ≤ 9223372036854775807) (w : World) (hc : Wd w sp n f) :
    Calls Tryd.prog 11 #[.agg #[.int .i64 N, .slice sp n cap]] w fun e w' => e = .returned (.tuple #[.int .i64 (((plA N n f).length : Nat) : Int), .int .i64 (if validB N n f = true then 0 else 20)]) ∧ w.grownBy w' none := by
  obtain ⟨W0, hW0, c0, c1, sz0, g0, B0⟩ := box2 w (.int .i64 N) (.slice sp n cap) 24
  have hv := refValidC N n cap sp f hf hn W0 (hc.kept g0 (by simp))
  have hp := fun w h => refPlacesU N n cap sp f hf hn w h
  cases hvb : validB N n f with
  | false =>
    rw [hvb] at hv
    have e0 : (plA N n f).length = 0 := by unfold plA; rw [if_neg (by rw [hvb]; simp)]; rfl
    rw [e0, if_neg (by simp)]
    clear hvb e0 hp
    go_enter Tryd.func11, Tryd.ntmps11
    go_wp2_with (go_at_call 27; refine hv.mono ?_; rintro e w2 ⟨rfl, g2⟩)
    go_ret2
    exact ⟨rfl, gb_trans g0 g2⟩
  | true =>
    rw [hvb] at hv
    rw [if_pos rfl]
    clear hvb
    generalize hL : plA N n f = L at *
    go_enter Tryd.func11, Tryd.ntmps11
    go_wp2_with (first | (go_at_call 27; refine hv.mono ?_; rintro e w2 ⟨rfl, g2⟩; have B2 := B0.kept g2 (by simp); have y0 := B2.cell0; have y1 := B2.cell1) | (go_at_call 13; refine (hp w2 (hc.kept (gb_trans g0 g2) (by simp))).mono ?_; rintro e w3 ⟨v, rfl, own, g3⟩; obtain ⟨sq, cq, hvq⟩ := own_slice own; subst hvq))
    go_ret2
    exact ⟨rfl, gb_trans g0 (gb_trans g2 g3)⟩
/-- Numbers that can be read. -/
def Ri (w : World) (sp : Option Addr) (l : List Nat) : Prop := ∀ j x, l[j]? = some x → ∃ a, sp = some a ∧ w.cell? (a.add j) = some (.int .i64 ((x : Nat) : Int))
theorem Ri.kept {w w' : World} {sp : Option Addr} {l : List Nat} {r : Option Nat} (h : Ri w sp l) (hg : w.grownBy w' r) (hne : ∀ a, sp = some a → some a.block ≠ r) : Ri w' sp l := fun j x hj => by
  obtain ⟨a, h1, h2⟩ := h j x hj
  refine ⟨a, h1, hg.cell h2 ?_⟩
  have e : (a.add j).block = a.block := by unfold Addr.add; split <;> rfl
  rw [e]
  exact hne a h1
set_option maxRecDepth 100000 in
set_option maxHeartbeats 800000 in
theorem sameC (l : List Nat) (hl : l.length ≤ 9223372036854775806) (sa sb : Option Addr) (ca cb : Nat) (w : World) (ha : Ri w sa l) (hb : Ri w sb l) :
    Calls Tryd.prog 15 #[.slice sa l.length ca, .slice sb l.length cb] w fun e w' => e = .returned (.bool true) ∧ w.grownBy w' none := by
  obtain ⟨n, hn⟩ : ∃ n, Hid (n = l.length) := ⟨_, rfl⟩
  rw [← hn.out] at hl ⊢
  go_enter Tryd.func15, Tryd.ntmps15
  go_wp2
  go_loopw [5] (fun x wr' => ∃ k : Nat, k ≤ n ∧ x = .int .i64 k ∧ w.grownBy wr' none) (fun x _ => n - (intOf x).toNat)
  case atStart => exact ⟨0, Nat.zero_le _, rfl, World.grownBy.refl _ _⟩
  case round =>
    obtain ⟨k, hk, rfl, hg⟩ := hrel
    by_cases hlt : k < n
    · have hlt' : (k : Int) < (n : Int) := by omega
      have hlk : k < l.length := by rw [← hn.out]; exact hlt
      obtain ⟨a, rfl, a0⟩ := (ha.kept hg (by simp)) k _ (List.getElem?_eq_getElem hlk)
      obtain ⟨b, rfl, b0⟩ := (hb.kept hg (by simp)) k _ (List.getElem?_eq_getElem hlk)
      generalize l[k] = X at *
      go_wp2
      go_quiet (fail)
      go_wp2
      first
        | (refine ⟨⟨k + 1, by omega, by go_num, gb_drewN hg _⟩, ?_⟩; simp [intOf]; omega)
        | (go_roundw; (case rel => exact ⟨k + 1, by omega, by go_num, gb_drewN hg _⟩); (case measure => (simp [intOf]; omega)))
    · have hlt' : ¬ (k : Int) < (n : Int) := by omega
      go_wp2
      go_ret
      exact ⟨rfl, hg⟩
end Go.Proofs.YtcdefpfnjjahgaaDoor
