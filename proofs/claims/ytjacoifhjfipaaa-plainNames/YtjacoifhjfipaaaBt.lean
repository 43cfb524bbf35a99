/- What is written of signs is read again. -/
import Derived.Test.YtjacoifhjfipaaaRp
import Derived.Test.YtjacoifhjfipaaaDp
namespace Go.Proofs.Ytjacoifhjfipaaa
open Go.RowKit
set_option linter.unusedVariables false
set_option linter.unusedSimpArgs false

theorem rb_fold : ∀ (l : List Int) (a b : ByteArray), l.foldl (fun r n => r ++ Utf8.encode n) (a ++ b) = a ++ l.foldl (fun r n => r ++ Utf8.encode n) b
  | [], a, b => rfl
  | x :: l, a, b => by
    simp only [List.foldl_cons]
    rw [ByteArray.append_assoc, rb_fold l]
theorem rb_nil : runesBytes [] = ByteArray.empty := rfl
theorem ba_empty (a : ByteArray) : a ++ ByteArray.empty = a := by
  apply ByteArray.ext; simp [ByteArray.data_append]
theorem empty_ba (a : ByteArray) : ByteArray.empty ++ a = a := by
  apply ByteArray.ext; simp [ByteArray.data_append]
theorem rb_app (l k : List Int) : runesBytes (l ++ k) = runesBytes l ++ runesBytes k := by
  unfold runesBytes
  rw [List.foldl_append]
  conv => lhs; rw [← ba_empty (List.foldl (fun r n => r ++ Utf8.encode n) ByteArray.empty l)]
  rw [rb_fold]
theorem rb_cons (x : Int) (l : List Int) : runesBytes (x :: l) = Utf8.encode x ++ runesBytes l := by
  have := rb_app [x] l
  rw [show [x] ++ l = x :: l from rfl] at this
  rw [this]
  have e : runesBytes [x] = Utf8.encode x := by unfold runesBytes; simp only [List.foldl_cons, List.foldl_nil]; rw [empty_ba]
  rw [e]
theorem rb_one (x : Int) : runesBytes [x] = Utf8.encode x := by rw [rb_cons, rb_nil, ba_empty]
/-- No byte is a line feed, a carriage return or the remark's sign. -/
def Gd (b : ByteArray) : Prop := ∀ k, k < b.size → Sc.bt b k ≠ 10 ∧ Sc.bt b k ≠ 13 ∧ Sc.bt b k ≠ 33
theorem Gd.app {a b : ByteArray} (ha : Gd a) (hb : Gd b) : Gd (a ++ b) := fun k hk => by
  rw [bt_app]
  rw [ByteArray.size_append] at hk
  by_cases h : k < a.size
  · rw [if_pos h]; exact ha k h
  · rw [if_neg h]; exact hb _ (by omega)
theorem Gd.nil : Gd ByteArray.empty := fun k hk => absurd hk (Nat.not_lt_zero _)
theorem gd_sgn {v : Nat} (h : v < 256) : Gd (Utf8.encode (sgn v)) := by
  by_cases h0 : v = 0
  · subst h0
    have e : Utf8.encode (sgn 0) = ⟨#[46]⟩ := by decide +kernel
    rw [e]
    intro k hk
    obtain rfl : k = 0 := by have : k < 1 := hk; omega
    decide
  by_cases h1 : v = 1
  · subst h1
    have e : Utf8.encode (sgn 1) = ⟨#[79]⟩ := by decide +kernel
    rw [e]
    intro k hk
    obtain rfl : k = 0 := by have : k < 1 := hk; omega
    decide
  have hs : sgn v = 10240 + (v : Int) := by unfold sgn; rw [if_neg h0, if_neg h1]
  rw [hs, enc3 (by omega)]
  have e : (10240 + (v : Int)).toNat = 10240 + v := by omega
  rw [e]
  have b0 : (UInt8.ofNat (0xE0 + (10240 + v) / 4096)).toNat = 0xE0 + (10240 + v) / 4096 := UInt8.toNat_ofNat_of_lt' (by show _ < 256; omega)
  have b1 : (UInt8.ofNat (0x80 + (10240 + v) / 64 % 64)).toNat = 0x80 + (10240 + v) / 64 % 64 := UInt8.toNat_ofNat_of_lt' (by show _ < 256; omega)
  have b2 : (UInt8.ofNat (0x80 + (10240 + v) % 64)).toNat = 0x80 + (10240 + v) % 64 := UInt8.toNat_ofNat_of_lt' (by show _ < 256; omega)
  intro k hk
  have hk3 : k < 3 := hk
  obtain rfl | rfl | rfl : k = 0 ∨ k = 1 ∨ k = 2 := by omega
  · show (UInt8.ofNat _).toNat ≠ 10 ∧ (UInt8.ofNat _).toNat ≠ 13 ∧ (UInt8.ofNat _).toNat ≠ 33
    rw [b0]; omega
  · show (UInt8.ofNat _).toNat ≠ 10 ∧ (UInt8.ofNat _).toNat ≠ 13 ∧ (UInt8.ofNat _).toNat ≠ 33
    rw [b1]; omega
  · show (UInt8.ofNat _).toNat ≠ 10 ∧ (UInt8.ofNat _).toNat ≠ 13 ∧ (UInt8.ofNat _).toNat ≠ 33
    rw [b2]; omega
theorem gd_rb : ∀ (l : List Nat), (∀ v ∈ l, v < 256) → Gd (runesBytes (l.map sgn))
  | [], _ => Gd.nil
  | v :: l, h => by
    rw [List.map_cons, rb_cons]
    exact (gd_sgn (h v (List.mem_cons_self ..))).app (gd_rb l (fun u hu => h u (List.mem_cons_of_mem _ hu)))
/-- The cells of a row of states. -/
def rcF : List Nat → Nat → Nat → List Cx
  | [], _, _ => []
  | v :: l, x, y => (if v = 0 then [] else [((x : Int), (y : Int), v)]) ++ rcF l (x + 1) y
theorem rowA_rb (y : Nat) : ∀ (l : List Nat) (a : ByteArray) (x : Nat) (acc : List Cx), (∀ v ∈ l, v < 256) → rowA (a ++ runesBytes (l.map sgn)) y a.size x acc = (acc ++ rcF l x y, none)
  | [], a, x, acc, _ => by
    rw [List.map_nil, rb_nil, ba_empty, rowA_end (Nat.lt_irrefl _)]
    simp [rcF]
  | v :: l, a, x, acc, h => by
    have hv := h v (List.mem_cons_self ..)
    have hr := rn_sgn hv
    have he := enc_pos hr
    have hd := dec_enc a (runesBytes (l.map sgn)) hr
    have hof := of_sgn hv
    have hcast : (((sgn v).toNat : Nat) : Int) = sgn v := by rcases hr with h | h <;> omega
    rw [List.map_cons, rb_cons]
    rw [ByteArray.append_assoc] at hd
    have hlt : a.size < (a ++ (Utf8.encode (sgn v) ++ runesBytes (l.map sgn))).size := by rw [ByteArray.size_append, ByteArray.size_append]; omega
    rw [rowA_go hlt (by rw [hd]; show ofB (((sgn v).toNat : Nat) : Int) = true; rw [hcast]; exact hof.1)]
    rw [hd]
    show rowA _ y (a.size + (Utf8.encode (sgn v)).size) (x + 1) (adC acc x y (ofN (((sgn v).toNat : Nat) : Int))) = _
    rw [hcast, hof.2, ← ByteArray.append_assoc]
    have := rowA_rb y l (a ++ Utf8.encode (sgn v)) (x + 1) (adC acc x y v) (fun u hu => h u (List.mem_cons_of_mem _ hu))
    rw [ByteArray.size_append] at this
    rw [this, rcF]
    unfold adC
    split
    · simp
    · rw [List.append_assoc]
theorem rowA_all (y : Nat) (l : List Nat) (acc : List Cx) (h : ∀ v ∈ l, v < 256) : rowA (runesBytes (l.map sgn)) y 0 0 acc = (acc ++ rcF l 0 y, none) := by
  have := rowA_rb y l ByteArray.empty 0 acc h
  rw [empty_ba] at this
  exact this
section
variable (n : Nat) (g : Nat → Nat → Nat) (hg : ∀ j i, g j i < 256)
/-- The states of a row. -/
def rowS (j : Nat) : List Nat := (List.range n).map (g j)
abbrev fS (g : Nat → Nat → Nat) : Nat → Nat → Int := fun j i => sgn (g j i)
def PT (j : Nat) : ByteArray := runesBytes (dwP n (fS g) j)
theorem PT_succ (j : Nat) : PT n g (j + 1) = PT n g j ++ (runesBytes ((rowS n g j).map sgn) ++ ⟨#[10]⟩) := by
  unfold PT
  rw [dwP_succ]
  unfold rwP
  rw [rb_app, rb_app, rb_one, ByteArray.append_assoc]
  have e : Utf8.encode 10 = ⟨#[10]⟩ := by decide +kernel
  rw [e]
  unfold rowS
  rw [List.map_map]
  rfl
include hg in
theorem rowS_lt (j : Nat) : ∀ v ∈ rowS n g j, v < 256 := fun v hv => by
  unfold rowS at hv
  obtain ⟨i, _, rfl⟩ := List.mem_map.1 hv
  exact hg j i
theorem PT_split (m j : Nat) (h : j ≤ m) : ∃ r, PT n g m = PT n g j ++ r := by
  induction m with
  | zero =>
    obtain rfl : j = 0 := by omega
    exact ⟨ByteArray.empty, (ba_empty _).symm⟩
  | succ m ih =>
    by_cases e : j = m + 1
    · subst e; exact ⟨ByteArray.empty, (ba_empty _).symm⟩
    · obtain ⟨r, hr⟩ := ih (by omega)
      rw [PT_succ, hr, ByteArray.append_assoc]
      exact ⟨_, rfl⟩
theorem PT_line (m j : Nat) (h : j < m) : ∃ r, PT n g m = PT n g j ++ (runesBytes ((rowS n g j).map sgn) ++ (⟨#[10]⟩ ++ r)) := by
  obtain ⟨r, hr⟩ := PT_split n g m (j + 1) h
  rw [hr, PT_succ, ByteArray.append_assoc, ByteArray.append_assoc]
  exact ⟨r, rfl⟩
theorem line_at (a u r : ByteArray) (hu : Gd u) : ln (a ++ (u ++ (⟨#[10]⟩ ++ r))) a.size = a.size + u.size ∧ le (a ++ (u ++ (⟨#[10]⟩ ++ r))) a.size = a.size + u.size ∧ lx (a ++ (u ++ (⟨#[10]⟩ ++ r))) a.size = a.size + u.size + 1 ∧ lin (a ++ (u ++ (⟨#[10]⟩ ++ r))) a.size = u := by
  obtain ⟨s, hs⟩ : ∃ s, a ++ (u ++ (⟨#[10]⟩ ++ r)) = s := ⟨_, rfl⟩
  have hsz : s.size = a.size + (u.size + (1 + r.size)) := by rw [← hs, ByteArray.size_append, ByteArray.size_append, ByteArray.size_append]; rfl
  have hb : ∀ k, k < u.size → Sc.bt s (a.size + k) = Sc.bt u k := fun k hk => by
    rw [← hs, bt_app, if_neg (by omega), Nat.add_sub_cancel_left, bt_app, if_pos hk]
  have h10 : Sc.bt s (a.size + u.size) = 10 := by
    rw [← hs, bt_app, if_neg (by omega), Nat.add_sub_cancel_left, bt_app, if_neg (by omega), Nat.sub_self, bt_app, if_pos (by show 0 < 1; omega)]
    rfl
  rw [hs]
  have e1 : ln s a.size = a.size + u.size := Sc.ov_of ⟨by omega, by omega, fun j h1 h2 => (noEnd_iff _).2 (by
    have := hb (j - a.size) (by omega)
    rw [show a.size + (j - a.size) = j by omega] at this
    rw [this]; exact (hu _ (by omega)).1), fun _ => (noEnd_no _).2 h10⟩
  have e2 : le s a.size = a.size + u.size := by
    unfold le
    rw [e1]
    by_cases h0 : u.size = 0
    · rw [if_neg (fun h => by omega)]
    · rw [if_neg (fun h => by
        have := hb (u.size - 1) (by omega)
        rw [show a.size + (u.size - 1) = a.size + u.size - 1 by omega] at this
        exact (hu (u.size - 1) (by omega)).2.1 (by rw [← this]; exact h.2))]
  refine ⟨e1, e2, ?_, ?_⟩
  · unfold lx; rw [e1, if_pos (by omega)]
  · unfold lin
    rw [e2]
    refine Sc.ext ?_ fun k hk => ?_
    · rw [Sc.size_ext s (by omega)]; omega
    · rw [Sc.size_ext s (by omega)] at hk
      rw [Sc.bt_ext s (by omega) (by omega)]
      exact hb k (by omega)
theorem gd_rem {u : ByteArray} (hu : Gd u) : remB u = false := by
  unfold remB
  rw [decide_eq_false]
  exact fun h => (hu 0 h.1).2.2 h.2
/-- The picture's cells. -/
def pic (n : Nat) (g : Nat → Nat → Nat) (m : Nat) : List Cx := (List.range m).flatMap fun j => rcF (rowS n g j) 0 j
theorem pic_succ (m : Nat) : pic n g (m + 1) = pic n g m ++ rcF (rowS n g m) 0 m := by
  unfold pic; rw [List.range_succ, List.flatMap_append]; simp
include hg in
theorem lnF_PT (m : Nat) : ∀ (k j : Nat), j + k = m → lnF ((PT n g m).size + 1) (PT n g m) (PT n g j).size = (List.range' j k).map fun i => (PT n g i).size
  | 0, j, h => by
    obtain rfl : j = m := by omega
    rw [lnF, if_neg (Nat.lt_irrefl _)]; rfl
  | k + 1, j, h => by
    obtain ⟨r, hr⟩ := PT_line n g m j (by omega)
    have hu := gd_rb _ (rowS_lt n g hg j)
    obtain ⟨e1, e2, e3, e4⟩ := line_at (PT n g j) _ r hu
    rw [← hr] at e1 e2 e3 e4
    have hlt : (PT n g j).size < (PT n g m).size := by rw [hr, ByteArray.size_append, ByteArray.size_append, ByteArray.size_append]; show _ < _ + (_ + (1 + _)); omega
    have e : lnF ((PT n g m).size + 1) (PT n g m) (PT n g j).size = (PT n g j).size :: lnF (PT n g m).size (PT n g m) (lx (PT n g m) (PT n g j).size) := by rw [lnF, if_pos hlt]
    have hb := lx_bd hlt
    rw [e, lnF_fuel _ (PT n g m).size ((PT n g m).size + 1) _ (by omega) (by omega), e3]
    have en : (PT n g j).size + (runesBytes ((rowS n g j).map sgn)).size + 1 = (PT n g (j + 1)).size := by
      rw [PT_succ, ByteArray.size_append, ByteArray.size_append]; show _ = _ + (_ + 1); omega
    rw [en, lnF_PT m k (j + 1) (by omega), List.range'_succ, List.map_cons]
include hg in
theorem rdF_PT (m : Nat) : ∀ j, j ≤ m → rdF (PT n g m) ((List.range j).map fun i => (PT n g i).size) = (j, pic n g j, none)
  | 0, _ => rfl
  | j + 1, h => by
    obtain ⟨r, hr⟩ := PT_line n g m j (by omega)
    have hu := gd_rb _ (rowS_lt n g hg j)
    obtain ⟨e1, e2, e3, e4⟩ := line_at (PT n g j) _ r hu
    rw [← hr] at e1 e2 e3 e4
    rw [List.range_succ, List.map_append, List.map_cons, List.map_nil, rdF_snoc, rdF_PT m j (by omega)]
    rw [stepR_row rfl (by rw [e4]; exact gd_rem hu) (c := pic n g j ++ rcF (rowS n g j) 0 j) (by rw [e4]; exact rowA_all j _ _ (rowS_lt n g hg j)), pic_succ]
include hg in
/-- **What is written of signs is read again.** -/
theorem rd_PT (m : Nat) : rd (PT n g m) = (pic n g m, none) := by
  have h1 := lnF_PT n g hg m m 0 (Nat.zero_add _)
  have h0 : (PT n g 0).size = 0 := by unfold PT dwP; rfl
  rw [h0] at h1
  unfold rd lns
  rw [h1, ← List.range_eq_range', rdF_PT n g hg m m (Nat.le_refl _)]
end
end Go.Proofs.Ytjacoifhjfipaaa
