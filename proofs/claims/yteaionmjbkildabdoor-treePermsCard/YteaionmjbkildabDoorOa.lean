/- Orders as permutations. -/
import Derived.Test.YteaionmjbkildabDoorQ22
import Derived.Test.YteaionmjbkildabDoorQ36
namespace Go.Proofs.YteaionmjbkildabDoor
set_option linter.unusedVariables false
set_option linter.unusedSimpArgs false
set_option maxRecDepth 100000

theorem Ord.to {p : Nat → Nat} {n : Nat} (h : Ord (fun i => (p i : Int)) n) : ∀ i, i < n → p i < n := fun i hi => by
  have := (h i hi).2.1
  have h2 : ((p i : Nat) : Int) < (n : Int) := this
  omega
/-- A list that is the numbers below n in some order. -/
theorem ord_perm {n : Nat} {l : List Nat} (h : l.Perm (List.range n)) : l.length = n ∧ Ord (fun i => ((l.getD i 0 : Nat) : Int)) n := by
  have hlen : l.length = n := by have := h.length_eq; simpa using this
  have hnd : l.Nodup := h.nodup_iff.2 List.nodup_range
  refine ⟨hlen, fun i hi => ⟨by simp, ?_, fun j hj => ?_⟩⟩
  · have hm : l.getD i 0 ∈ l := by
      rw [List.getD_eq_getElem?_getD, List.getElem?_eq_getElem (by omega)]
      exact List.getElem_mem _
    have := List.mem_range.1 (h.mem_iff.1 hm)
    show ((l.getD i 0 : Nat) : Int) < (n : Int)
    omega
  · show ((l.getD j 0 : Nat) : Int) ≠ ((l.getD i 0 : Nat) : Int)
    intro e
    have e2 : l.getD j 0 = l.getD i 0 := by omega
    rw [List.getD_eq_getElem?_getD, List.getD_eq_getElem?_getD, List.getElem?_eq_getElem (by omega), List.getElem?_eq_getElem (by omega)] at e2
    have := (List.getElem_inj hnd).1 e2
    omega
theorem ord_comp {p q : Nat → Nat} {n : Nat} (hp : Ord (fun i => (p i : Int)) n) (hq : Ord (fun i => (q i : Int)) n) : Ord (fun i => ((p (q i) : Nat) : Int)) n := by
  have inj : ∀ i j, i < n → j < n → p i = p j → i = j := fun i j hi hj e => by
    by_cases h1 : i < j
    · exact absurd (show ((p i : Nat) : Int) = (p j : Int) by omega) ((hp j hj).2.2 i h1)
    · by_cases h2 : j < i
      · exact absurd (show ((p j : Nat) : Int) = (p i : Int) by omega) ((hp i hi).2.2 j h2)
      · omega
  intro i hi
  have hqi := Ord.to hq i hi
  have h1 := Ord.to hp _ hqi
  refine ⟨by simp, by show ((p (q i) : Nat) : Int) < (n : Int); omega, fun j hj => ?_⟩
  have hqj := Ord.to hq j (by omega)
  intro e
  have e2 : p (q j) = p (q i) := by
    have : ((p (q j) : Nat) : Int) = (p (q i) : Int) := e
    omega
  have e3 := inj _ _ hqj hqi e2
  exact (hq i hi).2.2 j hj (show ((q j : Nat) : Int) = (q i : Int) by omega)
theorem perm_step {out left : List Nat} {k n : Nat} (hk : k < left.length) (h : (out ++ left).Perm (List.range n)) : ((out ++ [left.getD k 0]) ++ (left.take k ++ left.drop (k + 1))).Perm (List.range n) := by
  refine List.Perm.trans ?_ h
  rw [List.append_assoc]
  refine List.Perm.append_left out ?_
  have e : left = left.take k ++ (left.getD k 0 :: left.drop (k + 1)) := by
    rw [List.getD_eq_getElem?_getD, List.getElem?_eq_getElem hk, Option.getD_some, List.getElem_cons_drop, List.take_append_drop]
  conv => rhs; rw [e]
  simpa using (List.perm_middle (a := left.getD k 0) (l₁ := left.take k) (l₂ := left.drop (k + 1))).symm
end Go.Proofs.YteaionmjbkildabDoor
namespace Go.Proofs.YteaionmjbkildabDoor
open Go.RowKit
set_option linter.unusedVariables false
set_option linter.unusedSimpArgs false
set_option maxRecDepth 100000

/-- Numbers as cells. -/
def nv (l : List Nat) : List Value := l.map fun k => .int .i64 (k : Nat)
theorem nv_len (l : List Nat) : (nv l).length = l.length := by simp [nv]
theorem nv_app (a b : List Nat) : nv (a ++ b) = nv a ++ nv b := by simp [nv]
theorem nv_get {l : List Nat} {j : Nat} {u : Value} (h : (nv l)[j]? = some u) : j < l.length ∧ u = .int .i64 ((l.getD j 0 : Nat) : Int) := by
  have hj : j < l.length := by
    have := (List.getElem?_eq_some_iff.1 h).1
    rwa [nv_len] at this
  refine ⟨hj, ?_⟩
  simp [nv, hj] at h
  simp [List.getD_eq_getElem?_getD, hj, h]
theorem nv_at {l : List Nat} {j : Nat} (h : j < l.length) : (nv l)[j]? = some (.int .i64 ((l.getD j 0 : Nat) : Int)) := by
  simp [nv, List.getD_eq_getElem?_getD, h]
theorem nv_one (l : List Nat) : ∀ u ∈ nv l, u.oneCell' = true := by
  intro u hu
  simp only [nv, List.mem_map] at hu
  obtain ⟨i, _, rfl⟩ := hu
  rfl
theorem nv_take_get {l : List Nat} {k j : Nat} {u : Value} (h : (nv (l.take k))[j]? = some u) : (nv l)[j]? = some u := by
  obtain ⟨h1, rfl⟩ := nv_get h
  rw [List.length_take] at h1
  rw [nv_at (show j < l.length by omega)]
  simp [List.getD_eq_getElem?_getD, List.getElem?_take, show j < k by omega]
theorem nv_drop_get {l : List Nat} {k j : Nat} {u : Value} (h : (nv (l.drop k))[j]? = some u) : (nv l)[k + j]? = some u := by
  obtain ⟨h1, rfl⟩ := nv_get h
  rw [List.length_drop] at h1
  rw [nv_at (show k + j < l.length by omega)]
  simp [List.getD_eq_getElem?_getD]
/-- A list of one's own can be read. -/
theorem own_in {w : World} {B : Nat} {v : Value} {l : List Nat} (h : w.ownsRow B 3 1 v l.length (nv l)) : ∃ sp cp, v = .slice sp l.length cp ∧ In w sp l.length (fun i => ((l.getD i 0 : Nat) : Int)) := by
  rcases h.2 with ⟨rfl, h0⟩ | ⟨g, cap, cur, rfl, hb, hg, hc⟩
  · rw [h0]
    exact ⟨none, 0, rfl, fun k hk => absurd hk (Nat.not_lt_zero _)⟩
  · exact ⟨_, cap, rfl, fun k hk => ⟨_, rfl, h.cells (g := g) rfl k _ (nv_at hk)⟩⟩
theorem w64n {k : Nat} (h : k < 9223372036854775808) : wrap64 (k : Int) = (k : Int) := by unfold wrap64; omega
theorem i64n {k : Nat} (h : k < 9223372036854775808) : IntKind.i64.wrap (k : Int) = (k : Int) := by rw [IntKind.wrap_i64]; omega
theorem u64n {k : Nat} (h : k < 18446744073709551616) : IntKind.u64.wrap (k : Int) = (k : Int) := by rw [IntKind.wrap_u64]; omega
def slN : Value → Nat
  | .slice _ n _ => n
  | _ => 0
theorem ord_next {B : Nat} {out rest1 rest2 : List Nat} {x : Nat} {w wr V w1 w2 w3 : World} {vo vo' v1 v2 : Value} (hBr : B ≤ wr.heap.size) (gr : w.grownBy wr none) (hwB : w.heap.size = B) (gV : wr.grownBy V none) (g1 : V.grownBy w1 vo.ownBlock) (ownV : V.ownsRow B 3 1 vo out.length (nv out)) (own1 : w1.ownsRow B 3 1 vo' (out.length + 1) (nv out ++ [.int .i64 (x : Nat)])) (g2 : w1.grownBy w2 none) (own2 : w2.ownsRow w1.heap.size 3 1 v1 rest1.length (nv rest1)) (g3 : w2.grownBy w3 v1.ownBlock) (own3 : w3.ownsRow w1.heap.size 3 1 v2 (rest1.length + rest2.length) (nv rest1 ++ nv rest2)) :
    w3.ownsRow B 3 1 v2 (rest1 ++ rest2).length (nv (rest1 ++ rest2)) ∧ w3.ownsRow B 3 1 vo' (out ++ [x]).length (nv (out ++ [x])) ∧ (v2.ownBlock = none ∨ v2.ownBlock ≠ vo'.ownBlock) ∧ w.grownBy w3 none := by
  have h01 : B ≤ w1.heap.size := Nat.le_trans hBr (Nat.le_trans gV.size g1.size)
  refine ⟨?_, ?_, ?_, ?_⟩
  · rw [List.length_append, nv_app]
    exact Joins.ownsRow_le own3 h01
  · rw [List.length_append, nv_app]
    refine (own1.kept g2 (Classical.em _)).kept g3 ?_
    cases e : vo'.ownBlock with
    | none => exact .inl rfl
    | some b =>
      right
      intro e2
      have l1 := (own1.lt b e).2
      have l2 := (own2.lt b e2.symm).1
      omega
  · cases e : v2.ownBlock with
    | none => exact .inl rfl
    | some b =>
      right
      intro e2
      have l1 := (own1.lt b e2.symm).2
      have l2 := (own3.lt b e).1
      omega
  · have k1 : w.grownBy w1 none := (gb_trans gr gV).andThen g1 (fun b hb => .inl (by have := (ownV.lt b hb).1; omega))
    have k2 := gb_trans k1 g2
    exact k2.andThen g3 (fun b hb => .inl (by have := (own2.lt b hb).1; have := k1.size; omega))
/-- What ordered answers. -/
def OrdR (n num0 : Nat) (w : World) (e : Ending) (w' : World) : Prop := ∃ (sp : Option Addr) (cp : Nat) (p : Nat → Nat), e = .returned (.slice sp n cp) ∧ Ord (fun i => (p i : Int)) n ∧ In w' sp n (fun i => (p i : Int)) ∧ (num0 = 0 → ∀ i, i < n → p i = i) ∧ w.grownBy w' none
theorem OrdR.mk {n num0 : Nat} {w w' : World} {e : Ending} (sp : Option Addr) (cp : Nat) (p : Nat → Nat) (h1 : e = .returned (.slice sp n cp)) (h2 : Ord (fun i => (p i : Int)) n) (h3 : In w' sp n (fun i => (p i : Int))) (h4 : num0 = 0 → ∀ i, i < n → p i = i) (h5 : w.grownBy w' none) : OrdR n num0 w e w' := by
  unfold OrdR
  exact ⟨sp, cp, p, h1, h2, h3, h4, h5⟩
set_option maxHeartbeats 2000000 in
theorem orderedC (n num0 : Nat) (hn : n ≤ 5) (hnum : num0 < 18446744073709551616) (w : World) :
    Calls Tryd.prog 29 #[.int .i64 (n : Nat), .int .u64 (num0 : Nat)] w fun e w' => OrdR n num0 w e w' := by
  obtain ⟨i0, HI⟩ : ∃ i, Hid (Tryd.prog.info? 3 = some i ∧ i.zero = some (.int .i64 0) ∧ i.size = 1 ∧ i.bytes = 8) := by
    obtain ⟨i, h1, h2, h3, h4⟩ := info_parts infoI
    exact ⟨i, h1, h2, h3, h4⟩
  go_enter Tryd.func29, Tryd.ntmps29
  go_wp2
  go_loopw [5, 7] (fun v i wr => ∃ j : Nat, j ≤ n ∧ i = .int .i64 (j : Nat) ∧ Hid (wr.ownsRow w.heap.size 3 1 v j (nv (List.range j))) ∧ Hid (w.grownBy wr none)) (fun _ i _ => n - (intOf i).toNat)
  case atStart => exact ⟨0, Nat.zero_le _, rfl, World.ownsRow_nil _ _ _ _, World.grownBy.refl _ _⟩
  case round =>
    obtain ⟨j, hj, rfl, own, gj⟩ := hrel
    by_cases hlt : j < n
    · have hlt' : (j : Int) < (n : Int) := by omega
      obtain ⟨W3, hW3, sz3, g3, C3⟩ := boxn wr #[.int .i64 (j : Nat)] 3
      have own3 := own.out.kept g3 (Classical.em _)
      have nw : ∀ l u, [Value.int .i64 (j : Nat)][l]? = some u → W3.cell? ((⟨wr.heap.size, 0, none⟩ : Addr).add l) = some u := World.news_of_block (cs := #[.int .i64 (j : Nat)]) C3
      have szw : w.heap.size ≤ W3.heap.size := Nat.le_trans gj.out.size g3.size
      go_wp2_with (first | (at_builtin; refine wpList_append_own _ rfl _ _ 63 rfl w.heap.size 3 i0 (.int .i64 0) 1 8 underIS HI.out.1 HI.out.2.1 HI.out.2.2.1 HI.out.2.2.2 rfl (by decide) _ j _ rfl own3 ⟨wr.heap.size, 0, none⟩ 1 1 [.int .i64 (j : Nat)] rfl rfl nw (by intro u hu; simp at hu; subst hu; rfl) (by unfold maxLen; omega) (by omega) szw ?_; intro v4 w4 own4 gk4 at4; refine Hid.out ?_))
      refine Lib.hid ?_
      have O4 : Hid (w4.ownsRow w.heap.size 3 1 v4 (j + 1) (nv (List.range (j + 1)))) := by unfold Hid; rw [List.range_succ, nv_app]; exact own4
      have G4 : Hid (w.grownBy w4 none) := (gb_trans gj.out g3).andThen gk4 (fun b hb => .inl (own3.lt b hb).1)
      clear own4 gk4 own3 nw
      go_wp2
      go_roundw
      case rel => exact ⟨j + 1, hlt, by go_num, O4, G4⟩
      case measure => simp [intOf]; omega
    · obtain rfl : j = n := by omega
      have hlt' : ¬ (j : Int) < (j : Int) := by omega
      go_wp2
      go_loopw [5, 6, 1] (fun vl vo vn wr => ∃ (left out : List Nat) (num : Nat), vn = .int .u64 (num : Nat) ∧ num < 18446744073709551616 ∧ slN vl = left.length ∧ Hid (wr.ownsRow w.heap.size 3 1 vl left.length (nv left)) ∧ Hid (wr.ownsRow w.heap.size 3 1 vo out.length (nv out)) ∧ Hid (vl.ownBlock = none ∨ vl.ownBlock ≠ vo.ownBlock) ∧ Hid ((out ++ left).Perm (List.range j)) ∧ Hid (num0 = 0 → num = 0 ∧ out ++ left = List.range j) ∧ Hid (w.grownBy wr none)) (fun vl _ _ _ => slN vl)
      case atStart =>
        refine ⟨List.range j, [], num0, rfl, hnum, ?_, by rw [List.length_range]; exact own.out, World.ownsRow_nil _ _ _ _, ?_, List.Perm.refl _, fun e => ⟨e, rfl⟩, gj.out⟩
        · rcases own.out.2 with ⟨e, e0⟩ | ⟨g, cap, cur, e, _⟩
          · rw [e, List.length_range]; exact e0.symm
          · rw [e, List.length_range]; rfl
        · exact Classical.em (_ = none)
      case round =>
        obtain ⟨left, out, num, rfl, hnlt, hsl, ol, oo, hne, hperm, h00, gw⟩ := hrel
        by_cases hl : left = []
        · subst hl
          obtain ⟨sp, cp, rfl, hIn⟩ := own_in oo.out
          obtain ⟨sl, cl, rfl, _⟩ := own_in ol.out
          have hp := hperm.out
          rw [List.append_nil] at hp
          obtain ⟨q1, q2⟩ := ord_perm hp
          have h00' := h00.out
          simp only [List.append_nil] at h00'
          rw [q1] at hIn
          have hI2 : Hid (In wr sp j (fun i => ((out.getD i 0 : Nat) : Int))) := hIn
          have HQ2 : Hid (Ord (fun i => ((out.getD i 0 : Nat) : Int)) j) := q2
          have HQ0 : Hid (num0 = 0 → ∀ i, i < j → out.getD i 0 = i) := fun e i hi => by
            rw [(h00' e).2, List.getD_eq_getElem?_getD]; simp [hi]
          have HQ1 : Hid (out.length = j) := q1
          clear hIn q1 q2 hp h00' ol oo hperm h00 hne
          have ll : ¬ (0 : Int) < (([] : List Nat).length : Int) := by simp
          simp only [List.length_nil]
          go_wp2
          go_ret
          refine OrdR.mk sp cp (fun i => out.getD i 0) ?_ HQ2.out hI2.out HQ0.out gw.out
          rw [HQ1.out]
          rfl
        · obtain ⟨L, hL⟩ : ∃ L, left.length = L := ⟨_, rfl⟩
          have hLp : 0 < L := by
            rw [← hL]; exact List.length_pos_iff.2 hl
          have hLj : L ≤ j := by
            have := hperm.out.length_eq
            simp at this
            omega
          obtain ⟨gl, capl, hve, hbl, _⟩ := ol.out.form (by omega)
          rw [hL] at hve
          subst hve
          obtain ⟨k, hk⟩ : ∃ k, num % L = k := ⟨_, rfl⟩
          obtain ⟨q, hq⟩ : ∃ q, num / L = q := ⟨_, rfl⟩
          have hkL : k < L := by rw [← hk]; exact Nat.mod_lt _ hLp
          have hqn : q ≤ num := by rw [← hq]; exact Nat.div_le_self _ _
          have e1 : (num : Int) % (L : Int) = (k : Int) := by rw [← hk]; rfl
          have e2 : (num : Int) / (L : Int) = (q : Int) := by rw [← hq]; rfl
          have e1t : (num : Int).tmod (L : Int) = (k : Int) := by rw [← hk]; exact (Int.ofNat_tmod num L).symm
          have e2t : (num : Int).tdiv (L : Int) = (q : Int) := by rw [← hq]; exact (Int.ofNat_tdiv num L).symm
          have HK0 : Hid (num = 0 → k = 0 ∧ q = 0) := fun e => by rw [← hk, ← hq, e]; simp
          have hL5 : L ≤ 5 := Nat.le_trans hLj hn
          have hk5 : k < 9223372036854775808 := Nat.lt_of_lt_of_le hkL (Nat.le_trans hL5 (by decide))
          have hk6 : k + 1 < 9223372036854775808 := Nat.lt_of_le_of_lt (Nat.le_trans hkL hL5) (by decide)
          have hq5 : q < 18446744073709551616 := Nat.lt_of_le_of_lt hqn hnlt
          have wL : IntKind.u64.wrap (L : Int) = (L : Int) := u64n (Nat.lt_of_le_of_lt hL5 (by decide))
          have wk : IntKind.i64.wrap (k : Int) = (k : Int) := i64n hk5
          have wku : IntKind.u64.wrap (k : Int) = (k : Int) := u64n (Nat.lt_trans hk5 (by decide))
          have wqu : IntKind.u64.wrap (q : Int) = (q : Int) := u64n hq5
          have wk1 : IntKind.i64.wrap ((k : Int) + 1) = ((k + 1 : Nat) : Int) := i64n (k := k + 1) hk6
          have hL0 : ¬ L = 0 := by omega
          have hLpI : (0 : Int) < (L : Int) := by omega
          have hLe : ¬ ((L : Int) = 0) := by omega
          clear hk hq
          obtain ⟨x, hx⟩ : ∃ x, left.getD k 0 = x := ⟨_, rfl⟩
          have HX : Hid (left.getD k 0 = x) := hx
          have HL : Hid (left.length = L) := hL
          have olc := ol.out
          rw [hL] at olc
          have HOL : Hid (wr.ownsRow w.heap.size 3 1 (.slice (some ⟨gl, 0, none⟩) L capl) L (nv left)) := olc
          have hcapl : L ≤ capl := by
            rcases olc.2 with ⟨e, _⟩ | ⟨g', cap', cur', e, _, _, h9, _⟩
            · cases e
            · cases e; exact h9
          have lk : wr.cell? ((⟨gl, 0, none⟩ : Addr).add k) = some (.int .i64 (x : Nat)) := by rw [← hx]; exact olc.cells (g := gl) rfl k _ (nv_at (by omega))
          obtain ⟨V, hV, szV, gV, CV⟩ := boxn wr #[.int .i64 (x : Nat)] 3
          have ownV := oo.out.kept gV (Classical.em _)
          have nw : ∀ l u, [Value.int .i64 (x : Nat)][l]? = some u → V.cell? ((⟨wr.heap.size, 0, none⟩ : Addr).add l) = some u := World.news_of_block (cs := #[.int .i64 (x : Nat)]) CV
          have szw : w.heap.size ≤ V.heap.size := Nat.le_trans gw.out.size gV.size
          have hout : out.length ≤ 5 := by
            have := hperm.out.length_eq
            simp at this
            omega
          have tk : (nv (left.take k)).length = k * 1 := by rw [nv_len, List.length_take]; omega
          have dk : (nv (left.drop (k + 1))).length = (L - (k + 1)) * 1 := by rw [nv_len, List.length_drop]; omega
          have ik1 : (k : Int) ≤ (capl : Int) := by omega
          have ik2 : (k : Int) + 1 ≤ (L : Int) := by omega
          have ik3 : (k : Int) < (L : Int) := by omega
          have ik4 : ((k + 1 : Nat) : Int) ≤ (L : Int) := by omega
          have lk2 : wr.cell? ⟨gl, k, none⟩ = some (.int .i64 (x : Nat)) := by have := lk; rwa [add_mid, Nat.zero_add] at this
          clear hL hx olc lk CV
          have hm1 : out.length + 1 ≤ maxLen := Nat.le_trans (Nat.succ_le_succ hout) (by unfold maxLen; decide)
          have hb1 : (out.length + 1) * 8 ≤ 140737488355328 := Nat.le_trans (Nat.mul_le_mul_right 8 (Nat.succ_le_succ hout)) (by decide)
          have hm2 : 0 + k ≤ maxLen := by unfold maxLen; omega
          have hb2 : (0 + k) * 8 ≤ 140737488355328 := by omega
          have tkl : 0 + k = (left.take k).length := by rw [List.length_take, HL.out]; omega
          have dkl : L - (k + 1) = (left.drop (k + 1)).length := by rw [List.length_drop, HL.out]
          have hm3 : (left.take k).length + (L - (k + 1)) ≤ maxLen := by rw [← tkl]; unfold maxLen; omega
          have hb3 : ((left.take k).length + (L - (k + 1))) * 8 ≤ 140737488355328 := by rw [← tkl]; omega
          have hc0 : capl = k + 1 → L - (k + 1) = 0 := fun e => by omega
          have hB1 : w.heap.size ≤ wr.heap.size := gw.out.size
          have hkn5 : k < 5 := Nat.lt_of_lt_of_le hkL hL5
          have wk64 : ∀ y : Nat, y < 5 → wrap64 (y : Int) = (y : Int) := fun y h => w64n (Nat.lt_trans h (by decide))
          replace hm1 : Hid _ := hm1
          replace hb1 : Hid _ := hb1
          replace hm2 : Hid _ := hm2
          replace hb2 : Hid _ := hb2
          replace hm3 : Hid _ := hm3
          replace hb3 : Hid _ := hb3
          replace szw : Hid _ := szw
          replace tk : Hid _ := tk
          replace dk : Hid _ := dk
          replace tkl : Hid _ := tkl
          replace dkl : Hid _ := dkl
          replace nw : Hid _ := nw
          replace hL5 : Hid _ := hL5
          replace hk5 : Hid _ := hk5
          replace hk6 : Hid _ := hk6
          replace hqn : Hid _ := hqn
          replace hout : Hid _ := hout
          replace hLj : Hid _ := hLj
          replace hcapl : Hid _ := hcapl
          replace hkL : Hid _ := hkL
          replace hLp : Hid _ := hLp
          replace hl : Hid _ := hl
          replace hsl : Hid _ := hsl
          replace hc0 : Hid _ := hc0
          replace hbl : Hid _ := hbl
          replace hB1 : Hid _ := hB1
          by_cases hcap : capl = k + 1
          · have hz0 : Hid (L - (k + 1) = 0) := hc0.out hcap
            have d0 : Hid ((nv (left.drop (k + 1))).length = 0 * 1) := by unfold Hid; rw [dk.out, hz0.out]
            subst hcap
            go_wp2_with (first | (at_builtin; refine wpList_append_own _ rfl _ _ 63 rfl w.heap.size 3 i0 (.int .i64 0) 1 8 underIS HI.out.1 HI.out.2.1 HI.out.2.2.1 HI.out.2.2.2 rfl (by decide) _ out.length _ rfl ownV ⟨wr.heap.size, 0, none⟩ 1 1 [.int .i64 (x : Nat)] rfl rfl nw.out (by intro u hu; simp at hu; subst hu; rfl) hm1.out hb1.out szw.out ?_; intro vo' w1 own1 g1 at1; have ol1 := (HOL.out.kept gV (Classical.em _)).kept g1 hne.out; have hc2 : Hid (∀ y u, (nv (left.take k))[y]? = some u → w1.cell? ((⟨gl, 0, none⟩ : Addr).add y) = some u) := fun y u hu => ol1.cells (g := gl) rfl y u (nv_take_get hu)) | (at_builtin; refine wpList_append_own _ rfl _ _ 63 rfl w1.heap.size 3 i0 (.int .i64 0) 1 8 underIS HI.out.1 HI.out.2.1 HI.out.2.2.1 HI.out.2.2.2 rfl (by decide) _ 0 [] rfl (World.ownsRow_nil _ _ _ _) ⟨gl, 0, none⟩ k _ (nv (left.take k)) rfl tk.out hc2.out (nv_one _) hm2.out hb2.out (Nat.le_refl _) ?_; intro v1 w2 own2 g2 at2; rw [tkl.out, List.nil_append] at own2; have ol2 := ol1.kept g2 (Classical.em _); have hc3 : Hid (∀ y u, (nv (left.drop (k + 1)))[y]? = some u → w2.cell? ((⟨gl, k + 1, none⟩ : Addr).add y) = some u) := fun y u hu => (by have h9 := ol2.cells (g := gl) rfl (k + 1 + y) u (nv_drop_get hu); rw [add_mid, Nat.zero_add] at h9; rw [add_mid]; exact h9)) | (at_builtin; refine wpList_append_own _ rfl _ _ 63 rfl w1.heap.size 3 i0 (.int .i64 0) 1 8 underIS HI.out.1 HI.out.2.1 HI.out.2.2.1 HI.out.2.2.2 rfl (by decide) _ (left.take k).length _ rfl own2 ⟨gl, 0, none⟩ (L - (k + 1)) _ (nv (left.drop (k + 1))) rfl dk.out (fun y u hu => by have := (List.getElem?_eq_some_iff.1 hu).1; rw [d0.out] at this; exact absurd this (Nat.not_lt_zero _)) (nv_one _) hm3.out hb3.out g2.size ?_; intro v2 w3 own3 g3 at3; refine Hid.out ?_))
            refine Lib.hid ?_
            rw [dkl.out] at own3
            have own1' : w1.ownsRow w.heap.size 3 1 vo' (out.length + 1) (nv out ++ [.int .i64 (x : Nat)]) := own1
            obtain ⟨r1, r2, r3, r4⟩ := ord_next hB1.out gw.out rfl gV g1 ownV own1' g2 own2 g3 own3
            have HR1 : Hid (w3.ownsRow w.heap.size 3 1 v2 (left.take k ++ left.drop (k + 1)).length (nv (left.take k ++ left.drop (k + 1)))) := r1
            have HR2 : Hid (w3.ownsRow w.heap.size 3 1 vo' (out ++ [x]).length (nv (out ++ [x]))) := r2
            have HR3 : Hid (v2.ownBlock = none ∨ v2.ownBlock ≠ vo'.ownBlock) := r3
            have HR4 : Hid (w.grownBy w3 none) := r4
            have hlen2 : (left.take k ++ left.drop (k + 1)).length = L - 1 := by rw [List.length_append, ← tkl.out, ← dkl.out]; omega
            have hsl2 : slN v2 = L - 1 := by
              rcases r1.2 with ⟨e, e0⟩ | ⟨g, cap, cur, e, _⟩
              · rw [e, ← hlen2]; exact e0.symm
              · rw [e, ← hlen2]; rfl
            have HP2 : Hid (((out ++ [x]) ++ (left.take k ++ left.drop (k + 1))).Perm (List.range j)) := by
              have := perm_step (show k < left.length by rw [HL.out]; exact hkL.out) hperm.out
              rw [HX.out] at this
              exact this
            have HZ2 : Hid (num0 = 0 → q = 0 ∧ (out ++ [x]) ++ (left.take k ++ left.drop (k + 1)) = List.range j) := fun e => by
              obtain ⟨z1, z2⟩ := h00.out e
              obtain ⟨z3, z4⟩ := HK0.out z1
              refine ⟨z4, ?_⟩
              rw [← z2, z3, List.append_assoc]
              congr 1
              rw [← HX.out, z3]
              cases left with
              | nil => exact absurd rfl hl.out
              | cons a r => simp
            clear r1 r2 r3 r4 own1 own1' own2 own3 g1 g2 g3 ol1 ol2 hc2 hc3 nw ownV
            go_wp2
            go_roundw
            case rel => exact ⟨_, _, q, rfl, hq5, by rw [hsl2, hlen2], HR1, HR2, HR3, HP2, HZ2, HR4⟩
            case measure => have := hLp.out; show slN v2 < L; omega

          · have hcap2 : ¬ (k + 1 = capl) := fun e => hcap e.symm
            go_wp2_with (first | (at_builtin; refine wpList_append_own _ rfl _ _ 63 rfl w.heap.size 3 i0 (.int .i64 0) 1 8 underIS HI.out.1 HI.out.2.1 HI.out.2.2.1 HI.out.2.2.2 rfl (by decide) _ out.length _ rfl ownV ⟨wr.heap.size, 0, none⟩ 1 1 [.int .i64 (x : Nat)] rfl rfl nw.out (by intro u hu; simp at hu; subst hu; rfl) hm1.out hb1.out szw.out ?_; intro vo' w1 own1 g1 at1; have ol1 := (HOL.out.kept gV (Classical.em _)).kept g1 hne.out; have hc2 : Hid (∀ y u, (nv (left.take k))[y]? = some u → w1.cell? ((⟨gl, 0, none⟩ : Addr).add y) = some u) := fun y u hu => ol1.cells (g := gl) rfl y u (nv_take_get hu)) | (at_builtin; refine wpList_append_own _ rfl _ _ 63 rfl w1.heap.size 3 i0 (.int .i64 0) 1 8 underIS HI.out.1 HI.out.2.1 HI.out.2.2.1 HI.out.2.2.2 rfl (by decide) _ 0 [] rfl (World.ownsRow_nil _ _ _ _) ⟨gl, 0, none⟩ k _ (nv (left.take k)) rfl tk.out hc2.out (nv_one _) hm2.out hb2.out (Nat.le_refl _) ?_; intro v1 w2 own2 g2 at2; rw [tkl.out, List.nil_append] at own2; have ol2 := ol1.kept g2 (Classical.em _); have hc3 : Hid (∀ y u, (nv (left.drop (k + 1)))[y]? = some u → w2.cell? ((⟨gl, k + 1, none⟩ : Addr).add y) = some u) := fun y u hu => (by have h9 := ol2.cells (g := gl) rfl (k + 1 + y) u (nv_drop_get hu); rw [add_mid, Nat.zero_add] at h9; rw [add_mid]; exact h9)) | (at_builtin; refine wpList_append_own _ rfl _ _ 63 rfl w1.heap.size 3 i0 (.int .i64 0) 1 8 underIS HI.out.1 HI.out.2.1 HI.out.2.2.1 HI.out.2.2.2 rfl (by decide) _ (left.take k).length _ rfl own2 ⟨gl, k + 1, none⟩ (L - (k + 1)) _ (nv (left.drop (k + 1))) rfl dk.out hc3.out (nv_one _) hm3.out hb3.out g2.size ?_; intro v2 w3 own3 g3 at3; refine Hid.out ?_))
            refine Lib.hid ?_
            rw [dkl.out] at own3
            have own1' : w1.ownsRow w.heap.size 3 1 vo' (out.length + 1) (nv out ++ [.int .i64 (x : Nat)]) := own1
            obtain ⟨r1, r2, r3, r4⟩ := ord_next hB1.out gw.out rfl gV g1 ownV own1' g2 own2 g3 own3
            have HR1 : Hid (w3.ownsRow w.heap.size 3 1 v2 (left.take k ++ left.drop (k + 1)).length (nv (left.take k ++ left.drop (k + 1)))) := r1
            have HR2 : Hid (w3.ownsRow w.heap.size 3 1 vo' (out ++ [x]).length (nv (out ++ [x]))) := r2
            have HR3 : Hid (v2.ownBlock = none ∨ v2.ownBlock ≠ vo'.ownBlock) := r3
            have HR4 : Hid (w.grownBy w3 none) := r4
            have hlen2 : (left.take k ++ left.drop (k + 1)).length = L - 1 := by rw [List.length_append, ← tkl.out, ← dkl.out]; omega
            have hsl2 : slN v2 = L - 1 := by
              rcases r1.2 with ⟨e, e0⟩ | ⟨g, cap, cur, e, _⟩
              · rw [e, ← hlen2]; exact e0.symm
              · rw [e, ← hlen2]; rfl
            have HP2 : Hid (((out ++ [x]) ++ (left.take k ++ left.drop (k + 1))).Perm (List.range j)) := by
              have := perm_step (show k < left.length by rw [HL.out]; exact hkL.out) hperm.out
              rw [HX.out] at this
              exact this
            have HZ2 : Hid (num0 = 0 → q = 0 ∧ (out ++ [x]) ++ (left.take k ++ left.drop (k + 1)) = List.range j) := fun e => by
              obtain ⟨z1, z2⟩ := h00.out e
              obtain ⟨z3, z4⟩ := HK0.out z1
              refine ⟨z4, ?_⟩
              rw [← z2, z3, List.append_assoc]
              congr 1
              rw [← HX.out, z3]
              cases left with
              | nil => exact absurd rfl hl.out
              | cons a r => simp
            clear r1 r2 r3 r4 own1 own1' own2 own3 g1 g2 g3 ol1 ol2 hc2 hc3 nw ownV
            go_wp2
            go_roundw
            case rel => exact ⟨_, _, q, rfl, hq5, by rw [hsl2, hlen2], HR1, HR2, HR3, HP2, HZ2, HR4⟩
            case measure => have := hLp.out; show slN v2 < L; omega

end Go.Proofs.YteaionmjbkildabDoor
