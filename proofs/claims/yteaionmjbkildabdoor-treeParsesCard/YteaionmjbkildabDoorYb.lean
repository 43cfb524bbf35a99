/- Appends that stay in place or leave the old block; a list that is written full, grown, looked through. -/
import Derived.Test.YteaionmjbkildabDoorQ36
import Derived.ArgAppend
import Derived.Laws.OwnMore
import Derived.Lib.SmallJoins
import Derived.Test.YteaionmjbkildabDoorQ30
import Derived.Test.YteaionmjbkildabDoorQ3
import Derived.Deep.RegionHeldLaw
import Derived.Deep.RegionLaw
import Derived.Deep.AppendLies
import Derived.Test.YteaionmjbkildabDoorQrh
import Derived.Deep.RegionHeld2
import Derived.LoopN
namespace Go.Proofs.YteaionmjbkildabDoor
open Go.RowKit
set_option linter.unusedVariables false
set_option linter.unusedSimpArgs false
set_option maxRecDepth 100000
namespace Rr
theorem run_appS {P : Program} (w : World) (t ty : TypeId) (base : Nat) (e : TypeId) (i : TypeInfo) (z : Value) (size bytes : Nat) (ht : P.underlying t = some (.slice e)) (hi : P.info? e = some i) (hz : i.zero = some z)
    (hsize : i.size = size) (hby : i.bytes = bytes) (hzs : z.cells.size = size) (hsz : 0 < size)
    (v : Value) (n : Nat) (xs : List Value) (hown : w.ownsRow base e size v n xs)
    (ad : Addr) (c : Nat) (news : List Value) (hl : news.length = 1 * size) (hnews : ∀ j u, news[j]? = some u → w.cell? (ad.add j) = some u) (h1 : ∀ u ∈ news, u.oneCell' = true)
    (h63 : n + 1 ≤ maxLen) (hbytes : (n + 1) * bytes ≤ 140737488355328) (hbase : base ≤ w.heap.size) :
    ∃ g cap w', (Builtin.append_ #[t, t] ty #[v, .slice (some ad) 1 c]).run P w = .ok (.slice (some ⟨g, 0, none⟩) (n + 1) cap) w' ∧
      w'.ownsRow base e size (.slice (some ⟨g, 0, none⟩) (n + 1) cap) (n + 1) (xs ++ news) ∧ ((v.ownBlock = some g ∧ w.grownBy w' (some g)) ∨ (w.heap.size ≤ g ∧ w.grownBy w' none)) := by
  obtain ⟨g, cap, w', hr, h2, h3, h4, h5⟩ := run_append_lies (P := P) w t ty base e i z size bytes ht hi hz hsize hby hzs hsz v n xs hown ad 1 c news hl hnews h1 (by omega) h63 hbytes hbase _ rfl
  rcases hown.2 with ⟨rfl, hn⟩ | ⟨g0, cap0, cur, rfl, hb, hbk, hnc, hcm, hcs, htake⟩
  · refine ⟨g, cap, w', hr, h2, .inr ⟨?_, h3⟩⟩
    rcases h4 with h4 | h4
    · cases h4
    · omega
  · by_cases hroom : n + 1 ≤ cap0
    · have hz' : (n + 1) * size ≤ cap0 * size := Nat.mul_le_mul_right _ hroom
      rw [Nat.add_mul] at hz'
      have hrun := run_append_room_cells (P := P) w t ty e i ht hi g0 0 n cap0 ad 1 c news (by rw [hsize]; exact hl) hnews h1 hroom (fun j hj => by
        rw [hsize, Nat.zero_add, cell_of_row w g0 _ cur e (0, 0) hbk, Array.getElem?_eq_getElem (by rw [hcs]; omega)]
        rfl) (fun j hj => frozen_of_row w g0 _ cur e hbk)
      rw [hrun] at hr
      have hg : g0 = g := by
        injection hr with h6 h7
        injection h6 with h8 h9 h10
        injection h8 with h11
        injection h11
      subst hg
      exact ⟨g0, cap, w', by rw [hrun]; exact hr, h2, .inl ⟨rfl, h3⟩⟩
    · obtain ⟨v', w2, hr2, o2, g2⟩ := run_append_arg_grows (P := P) w t ty e i z size bytes ht hi hz hsize hby hzs hsz ⟨g0, 0, none⟩ n cap0 xs hown.1 (hown.cells rfl) ad 1 c news hl hnews (by omega) h63 hbytes
      obtain ⟨g3, cap3, rfl, hb3, hlt3⟩ := o2.form (by omega)
      exact ⟨g3, cap3, w2, hr2, Joins.ownsRow_le o2 hbase, .inr ⟨hb3, g2⟩⟩
theorem wpList_appS {P : Program} (w : World) {ops : Array Oper} {rest : List Oper} {o : Oper} {a : Act} {Q : Exit → Act → World → Prop} (hgd : o.guard = none) (s x : Operand) (t : TypeId)
    (ho : o.op = .call { callee := .builtin .append, args := #[s, x], argTypes := #[t, t] })
    (base : Nat) (e : TypeId) (i : TypeInfo) (z : Value) (size bytes : Nat) (ht : P.underlying t = some (.slice e)) (hi : P.info? e = some i) (hz : i.zero = some z)
    (hsize : i.size = size) (hby : i.bytes = bytes) (hzs : z.cells.size = size) (hsz : 0 < size)
    (v : Value) (n : Nat) (xs : List Value) (hs : a.eval s = v) (hown : w.ownsRow base e size v n xs)
    (ad : Addr) (c : Nat) (news : List Value) (hx : a.eval x = .slice (some ad) 1 c) (hl : news.length = 1 * size) (hnews : ∀ j u, news[j]? = some u → w.cell? (ad.add j) = some u) (h1 : ∀ u ∈ news, u.oneCell' = true)
    (h63 : n + 1 ≤ maxLen) (hbytes : (n + 1) * bytes ≤ 140737488355328) (hbase : base ≤ w.heap.size)
    (h : ∀ g cap w', w'.ownsRow base e size (.slice (some ⟨g, 0, none⟩) (n + 1) cap) (n + 1) (xs ++ news) → ((v.ownBlock = some g ∧ w.grownBy w' (some g)) ∨ (w.heap.size ≤ g ∧ w.grownBy w' none)) → wpList P ops Q rest (a.put o.dst (.slice (some ⟨g, 0, none⟩) (n + 1) cap)) w') : wpList P ops Q (o :: rest) a w :=
  wpList_plain hgd fun K hK => by
    obtain ⟨g, cap, w', hr, h2, h3⟩ := run_appS (P := P) w t o.type base e i z size bytes ht hi hz hsize hby hzs hsz v n xs hown ad c news hl hnews h1 h63 hbytes hbase
    unfold Oper.wp execOp
    simp only [ho, resolve, invoke, builtin, Sem.run_bind, Sem.run_pure, Result.andThen_ok, List.map_toArray, List.map_cons, List.map_nil, hs, hx, hr]
    exact hK _ _ (h g cap w' h2 h3)

/-- So many marks. -/
def mk (n : Nat) (m : Int) : List Value := List.replicate n (.int .i64 m)
theorem mk_len (n : Nat) (m : Int) : (mk n m).length = n := List.length_replicate
theorem mk_snoc (n : Nat) (m : Int) : mk (n + 1) m = mk n m ++ [.int .i64 m] := by unfold mk; rw [List.replicate_succ']
theorem mk_get {n k : Nat} (m : Int) (h : k < n) : (mk n m)[k]? = some (.int .i64 m) := by unfold mk; rw [List.getElem?_replicate, if_pos h]
theorem own_mk {w : World} {B n c : Nat} {sp : Option Addr} {m : Int} (h : w.ownsRow B 3 1 (.slice sp n c) n (mk n m)) : In w sp n (fun _ => m) := fun k hk => by
  rcases Joins.ownsRow_forms h with ⟨_, e⟩ | ⟨g, cap, e⟩
  · omega
  · cases e
    exact ⟨_, rfl, h.cells (g := g) rfl k _ (mk_get m hk)⟩
/-- Is a list marked all through? -/
theorem markedC (sp : Option Addr) (n c : Nat) (hn : n ≤ 17592186043904) (m : Int) (w : World) (h : In w sp n (fun _ => m)) :
    Calls Tryd.prog 44 #[.slice sp n c, .int .i64 m] w fun e w' => e = .returned (.bool true) ∧ w.grownBy w' none := by
  have HI : Hid (In w sp n (fun _ => m)) := h
  clear h
  go_enter Tryd.func44, Tryd.ntmps44
  go_wp2
  go_loopw [5] (fun v wr => ∃ j : Nat, j ≤ n ∧ v = .int .i64 (j : Nat) ∧ Hid (w.grownBy wr none)) (fun v _ => n - (intOf v).toNat)
  case atStart => exact ⟨0, Nat.zero_le _, rfl, World.grownBy.refl _ _⟩
  case round =>
    obtain ⟨j, hj, rfl, hg⟩ := hrel
    by_cases hlt : j < n
    · have hlt' : (j : Int) < (n : Int) := by omega
      obtain ⟨a, ha, hc⟩ := (HI.out.kept hg.out (by simp)) j hlt
      subst ha
      have hmm : (m != m) = false := by simp
      go_wp2
      go_roundw
      case rel => exact ⟨j + 1, hlt, by go_num, hg⟩
      case measure => simp [intOf]; omega
    · have hlt' : ¬ (j : Int) < (n : Int) := by omega
      go_wp2
      go_ret
      exact ⟨rfl, hg.out⟩
/-- A list is written full. -/
theorem fillC (B : Nat) (sp : Option Addr) (n c : Nat) (hn : n ≤ 17592186043904) (m : Int) (xs : List Value) (w : World) (h : w.ownsRow B 3 1 (.slice sp n c) n xs) :
    Calls Tryd.prog 42 #[.slice sp n c, .int .i64 m] w fun e w' => e = .returned (.tuple #[]) ∧ w'.ownsRow B 3 1 (.slice sp n c) n (mk n m) ∧ w.grownBy w' (Value.slice sp n c).ownBlock := by
  have HO : Hid (w.ownsRow B 3 1 (.slice sp n c) n xs) := h
  clear h
  go_enter Tryd.func42, Tryd.ntmps42
  go_wp2
  go_loopw [4] (fun v wr => ∃ (j : Nat) (ys : List Value), j ≤ n ∧ v = .int .i64 (j : Nat) ∧ Hid (wr.ownsRow B 3 1 (.slice sp n c) n (mk j m ++ ys)) ∧ Hid (w.grownBy wr (Value.slice sp n c).ownBlock)) (fun v _ => n - (intOf v).toNat)
  case atStart => exact ⟨0, xs, Nat.zero_le _, rfl, HO.out, World.grownBy.refl _ _⟩
  case round =>
    obtain ⟨j, ys, hj, rfl, ho, hg⟩ := hrel
    by_cases hlt : j < n
    · have hlt' : (j : Int) < (n : Int) := by omega
      have hl := ho.out.1
      rw [List.length_append, mk_len, Nat.mul_one] at hl
      obtain ⟨y, zs, rfl⟩ : ∃ y zs, ys = y :: zs := by
        cases ys with
        | nil => simp at hl; omega
        | cons y zs => exact ⟨y, zs, rfl⟩
      obtain ⟨g, cap, e⟩ : ∃ g cap, Value.slice sp n c = .slice (some ⟨g, 0, none⟩) n cap := Joins.ownsRow_form ho.out (by omega)
      cases e
      have c1 : wr.cell? ⟨g, j, none⟩ = some y := by
        rw [ho.out.cellAt j (by omega), List.getElem?_append_right (by rw [mk_len]; exact Nat.le_refl _), mk_len, Nat.sub_self]
        rfl
      have f1 := ho.out.frozenAt j
      have HO2 : Hid ((wr.setCell ⟨g, j, none⟩ (.int .i64 m)).ownsRow B 3 1 (.slice (some ⟨g, 0, none⟩) n c) n (mk (j + 1) m ++ zs)) := by
        have := (ho.out.stored j (.int .i64 m)).1
        have e : (mk j m ++ y :: zs).set j (.int .i64 m) = mk (j + 1) m ++ zs := by
          rw [List.set_append_right _ _ (by rw [mk_len]; exact Nat.le_refl _), mk_len, Nat.sub_self, mk_snoc]
          simp
        rw [e] at this
        exact this
      clear hl
      go_wp2
      go_roundw
      case rel => exact ⟨j + 1, zs, hlt, by go_num, HO2.out, gb_set hg.out _ _⟩
      case measure => simp [intOf]; omega
    · have hlt' : ¬ (j : Int) < (n : Int) := by omega
      have hjn : j = n := by omega
      have hys : ys = [] := by
        have hl := ho.out.1
        rw [List.length_append, mk_len, Nat.mul_one] at hl
        exact List.length_eq_zero_iff.1 (by omega)
      go_wp2
      (first | (refine bodyPost_ret (results_none rfl _ _ _) rfl ?_) | (refine bodyPost_end (results_none rfl _ _ _) rfl ?_))
      refine ⟨rfl, ?_, hg.out⟩
      have := ho.out
      rw [hys, List.append_nil, hjn] at this
      exact this
/-- A list is grown: in place, or it becomes a new one; the old one stays readable. -/
theorem grownC (B : Nat) (sp : Option Addr) (n c : Nat) (hn : n ≤ 4398046510976) (m : Int) (w : World) (hB : B ≤ w.heap.size) (h : w.ownsRow B 3 1 (.slice sp n c) n (mk n m)) :
    Calls Tryd.prog 43 #[.slice sp n c, .int .i64 m] w fun e w' => ∃ g q, e = .returned (.slice (some ⟨g, 0, none⟩) (n + 70) q) ∧ w'.ownsRow B 3 1 (.slice (some ⟨g, 0, none⟩) (n + 70) q) (n + 70) (mk (n + 70) m) ∧ In w' sp n (fun _ => m) ∧ w.grownBy w' (Value.slice sp n c).ownBlock ∧ ((Value.slice sp n c).ownBlock = some g ∨ w.heap.size ≤ g) := by
  obtain ⟨i0, HI⟩ : ∃ i, Hid (Tryd.prog.info? 3 = some i ∧ i.zero = some (.int .i64 0) ∧ i.size = 1 ∧ i.bytes = 8) := by
    obtain ⟨i, h1, h2, h3, h4⟩ := info_parts infoI
    exact ⟨i, h1, h2, h3, h4⟩
  have HO : Hid (w.ownsRow B 3 1 (.slice sp n c) n (mk n m)) := h
  have HBB : Hid (B ≤ w.heap.size) := hB
  clear h hB
  go_enter Tryd.func43, Tryd.ntmps43
  go_wp2
  go_loopw [0, 5] (fun u v wr => ∃ (j : Nat) (sj : Option Addr) (cj : Nat), j ≤ 70 ∧ u = .slice sj (n + j) cj ∧ v = .int .i64 (j : Nat) ∧ Hid (wr.ownsRow B 3 1 (.slice sj (n + j) cj) (n + j) (mk (n + j) m)) ∧ Hid (In wr sp n (fun _ => m)) ∧ Hid (w.grownBy wr (Value.slice sp n c).ownBlock) ∧ Hid (∀ b, (Value.slice sj (n + j) cj).ownBlock = some b → (Value.slice sp n c).ownBlock = some b ∨ w.heap.size ≤ b)) (fun _ v _ => 70 - (intOf v).toNat)
  case atStart => exact ⟨0, sp, c, by omega, rfl, rfl, HO.out, own_mk HO.out, World.grownBy.refl _ _, fun b hb => .inl hb⟩
  case round =>
    obtain ⟨j, sj, cj, hj, rfl, rfl, own, hin, hg, hbk⟩ := hrel
    by_cases hlt : j < 70
    · have hlt' : (j : Int) < 70 := by omega
      obtain ⟨W3, hW3, sz3', g3, B3⟩ := boxn wr #[.int .i64 m] 3
      have own3 := own.out.kept g3 (Classical.em _)
      have hin3 : In W3 sp n (fun _ => m) := hin.out.kept g3 (by simp)
      have nw : ∀ l u, [Value.int .i64 m][l]? = some u → W3.cell? ((⟨wr.heap.size, 0, none⟩ : Addr).add l) = some u := World.news_of_block (cs := #[.int .i64 m]) B3
      have szr : w.heap.size ≤ wr.heap.size := hg.out.size
      have sz3 : B ≤ W3.heap.size := Nat.le_trans HBB.out (Nat.le_trans szr g3.size)
      obtain ⟨b0, hb0⟩ : ∃ b0, B = b0 := ⟨_, rfl⟩
      rw [hb0] at sz3 own3
      have HB0 : Hid (B = b0) := hb0
      clear hb0
      go_wp2_with (first | (at_builtin; refine wpList_appS _ rfl _ _ 63 rfl b0 3 i0 (.int .i64 0) 1 8 underIS HI.out.1 HI.out.2.1 HI.out.2.2.1 HI.out.2.2.2 rfl (by decide) _ (n + j) _ rfl own3 ⟨wr.heap.size, 0, none⟩ 1 [.int .i64 m] rfl rfl nw (by intro u hu; simp at hu; rcases hu with rfl; rfl) (by unfold maxLen; omega) (by omega) sz3 ?_; intro g4 q4 w4 own4 hcase; refine Hid.out ?_))
      refine Lib.hid ?_
      rw [← HB0.out] at own4
      have e70 : n + j + 1 = n + (j + 1) := by omega
      have own5 : w4.ownsRow B 3 1 (.slice (some ⟨g4, 0, none⟩) (n + (j + 1)) q4) (n + (j + 1)) (mk (n + (j + 1)) m) := by
        rw [← e70, mk_snoc]
        exact own4
      have G3 := gb_none hg.out g3
      have hin5 : Hid (In w4 sp n (fun _ => m)) := by
        rcases hcase with ⟨h1, h2⟩ | ⟨h1, h2⟩
        · intro k hk
          rcases Joins.ownsRow_forms HO.out with ⟨_, e⟩ | ⟨g0, cap0, e⟩
          · omega
          · cases e
            obtain ⟨a, ha, hc⟩ := hin3 k hk
            cases ha
            by_cases e : g0 = g4
            · subst e
              exact ⟨_, rfl, own5.cells (g := g0) rfl k _ (mk_get m (by omega))⟩
            · exact ⟨_, rfl, h2.cell hc (fun q => e (by rw [Addr.add_lit] at q; simpa using q))⟩
        · exact hin3.kept h2 (by simp)
      have HG4 : Hid (w.grownBy w4 (Value.slice sp n c).ownBlock) := by
        rcases hcase with ⟨h1, h2⟩ | ⟨h1, h2⟩
        · exact G3.andThen h2 (fun b hb => by
            cases hb
            rcases hbk.out g4 h1 with q | q
            · exact .inr q
            · exact .inl q)
        · exact gb_none G3 h2
      have HB4 : Hid (∀ b, (Value.slice (some ⟨g4, 0, none⟩) (n + (j + 1)) q4).ownBlock = some b → (Value.slice sp n c).ownBlock = some b ∨ w.heap.size ≤ b) := fun b hb => by
        cases hb
        rcases hcase with ⟨h1, h2⟩ | ⟨h1, h2⟩
        · exact hbk.out g4 h1
        · exact .inr (Nat.le_trans szr (Nat.le_trans g3.size h1))
      have HO5 : Hid (w4.ownsRow B 3 1 (.slice (some ⟨g4, 0, none⟩) (n + (j + 1)) q4) (n + (j + 1)) (mk (n + (j + 1)) m)) := own5
      clear own4 own5 hcase G3 own3 nw sz3 hin3 B3 g3
      go_wp2
      go_roundw
      case rel => exact ⟨j + 1, some ⟨g4, 0, none⟩, q4, hlt, by rw [e70], by go_num, HO5.out, hin5.out, HG4.out, HB4.out⟩
      case measure => simp [intOf]; omega
    · have hlt' : ¬ (j : Int) < 70 := by omega
      obtain rfl : j = 70 := by omega
      obtain ⟨g, cap, e⟩ : ∃ g cap, Value.slice sj (n + 70) cj = .slice (some ⟨g, 0, none⟩) (n + 70) cap := Joins.ownsRow_form own.out (by omega)
      cases e
      go_wp2
      go_ret
      exact ⟨g, cj, rfl, own.out, hin.out, hg.out, hbk.out g rfl⟩
end Rr
end Go.Proofs.YteaionmjbkildabDoor
namespace Go.Proofs.YteaionmjbkildabDoor
open Go.RowKit
set_option linter.unusedVariables false
set_option linter.unusedSimpArgs false
set_option maxRecDepth 100000

theorem intsY (sa sb : Option Addr) (n ca cb : Nat) (hn : n ≤ 17592186043904) (f : Nat → Int) (w : World) (ha : In w sa n f) (hb : In w sb n f) : Calls Tryd.prog 61 #[.slice sa n ca, .slice sb n cb] w fun e w' => e = .returned (.bool true) ∧ ∃ m, w' = w.drewN m := by
  have hee : ((n : Int) != (n : Int)) = false := by simp
  go_enter Tryd.func61, Tryd.ntmps61
  go_wp2
  go_loopw [5] (fun i wr => ∃ k : Nat, k ≤ n ∧ i = .int .i64 k ∧ ∃ m, wr = w.drewN m) (fun i _ => n - (intOf i).toNat)
  case atStart => exact ⟨0, Nat.zero_le _, rfl, 0, rfl⟩
  case round =>
    obtain ⟨k, hk, rfl, hm⟩ := hrel
    have HM : Hid (∃ m, wr = w.drewN m) := hm
    have ha' : In wr sa n f := by obtain ⟨m, rfl⟩ := hm; exact ha
    have hb' : In wr sb n f := by obtain ⟨m, rfl⟩ := hm; exact hb
    clear hm
    by_cases hlt : k < n
    · have hlt' : (k : Int) < (n : Int) := by omega
      obtain ⟨a, rfl⟩ := ha.some (by omega)
      obtain ⟨b, rfl⟩ := hb.some (by omega)
      have ak := ha'.at hlt
      have bk := hb'.at hlt
      obtain ⟨z, hz⟩ : ∃ z, f k = z := ⟨_, rfl⟩
      rw [hz] at ak bk
      have ya : (z != z) = false := by simp
      clear hz
      go_wp2
      go_quiet (fail)
      go_wp2
      go_roundw
      case rel => exact ⟨k + 1, hlt, by go_num, by obtain ⟨m, rfl⟩ := HM.out; exact ⟨m + nq, by rw [World.drewN_drewN]⟩⟩
      case measure => simp [intOf]; omega
    · have hkn : ¬ ((k : Int) < (n : Int)) := by omega
      go_wp2
      go_ret
      exact ⟨rfl, HM.out⟩

set_option maxHeartbeats 2000000 in
theorem alikeY (S I R : Int) (n ca cb qa oa qb ob : Nat) (sa sb : Option Addr) (hsa : 0 < n → sa = some ⟨qa, oa, none⟩) (hsb : 0 < n → sb = some ⟨qb, ob, none⟩) (ta tb : Nat → TN) (hn : n ≤ 4398046510976) (hkn : ∀ j, j < n → (ta j).kn ≤ 17592186043904) (heq : ∀ j, j < n → (ta j).st = (tb j).st ∧ (ta j).kn = (tb j).kn ∧ ∀ i, i < (ta j).kn → (ta j).kf i = (tb j).kf i) (w : World) (hA : Tn w qa oa n ta) (hB : Tn w qb ob n tb) :
    Calls Tryd.prog 37 #[.agg #[.int .i64 S, .int .i64 I, .slice sa n ca, .int .i64 R], .agg #[.int .i64 S, .int .i64 I, .slice sb n cb, .int .i64 R]] w fun e w' => e = .returned (.bool true) ∧ w.grownBy w' none := by
  obtain ⟨W1, hW1, sz1, g1, B1⟩ := boxn w #[.int .i64 S, .int .i64 I, .slice sa n ca, .int .i64 R] 24
  obtain ⟨W2, hW2, sz2, g2, B2⟩ := boxn W1 #[.int .i64 S, .int .i64 I, .slice sb n cb, .int .i64 R] 24
  have B12 := B1.kept g2 (by simp)
  have a0 := B12.cell 0 (v := .int .i64 S) rfl
  have a1 := B12.cell 1 (v := .int .i64 I) rfl
  have a2 := B12.cell 2 (v := .slice sa n ca) rfl
  have a3 := B12.cell 3 (v := .int .i64 R) rfl
  have b0 := B2.cell 0 (v := .int .i64 S) rfl
  have b1 := B2.cell 1 (v := .int .i64 I) rfl
  have b2 := B2.cell 2 (v := .slice sb n cb) rfl
  have b3 := B2.cell 3 (v := .int .i64 R) rfl
  have e1 : (S != S) = false := by simp
  have e2 : (I != I) = false := by simp
  have e3 : (R != R) = false := by simp
  have e4 : ((n : Int) != (n : Int)) = false := by simp
  go_enter Tryd.func37, Tryd.ntmps37
  go_wp2
  clear a0 a1 a2 a3 b0 b1 b2 b3
  go_loopw [5] (fun i wr => ∃ j : Nat, j ≤ n ∧ i = .int .i64 j ∧ w.grownBy wr none ∧ Bo wr w.heap.size 24 #[.int .i64 S, .int .i64 I, .slice sa n ca, .int .i64 R] ∧ Bo wr W1.heap.size 24 #[.int .i64 S, .int .i64 I, .slice sb n cb, .int .i64 R]) (fun i _ => n - (intOf i).toNat)
  case atStart => exact ⟨0, Nat.zero_le _, rfl, gb_trans g1 g2, B12, B2⟩
  case round =>
    obtain ⟨j, hj, rfl, Gj, Aj, Bj⟩ := hrel
    have a2 := Aj.cell 2 (v := .slice sa n ca) rfl
    have b2 := Bj.cell 2 (v := .slice sb n cb) rfl
    by_cases hlt : j < n
    · have hlt' : (j : Int) < (n : Int) := by omega
      obtain rfl := hsa (by omega)
      obtain rfl := hsb (by omega)
      obtain ⟨x0, x1, x2⟩ := (hA.kept Gj) j hlt
      obtain ⟨y0, y1, y2⟩ := (hB.kept Gj) j hlt
      obtain ⟨q1, q2, q3⟩ := heq j hlt
      have hk := hkn j hlt
      have hints := fun m => intsY (ta j).kp (tb j).kp (ta j).kn (ta j).kc (tb j).kc hk (ta j).kf (wr.drewN m) x2 (fun k hk => by rw [q3 k hk]; exact y2 k (q2 ▸ hk))
      rw [← q1] at y0
      rw [← q2] at y1
      have e5 : (((ta j).st : Int) != ((ta j).st : Int)) = false := by simp
      clear q1 q2 q3 heq hkn
      go_wp2
      go_quiet (exact Calls.quiet_of (hints _))
      go_wp2
      go_roundw
      case rel => exact ⟨j + 1, hlt, by go_num, gb_drewN Gj _, Aj.drew, Bj.drew⟩
      case measure => simp [intOf]; omega
    · have hjn' : ¬ ((j : Int) < (n : Int)) := by omega
      go_wp2
      go_ret
      exact ⟨rfl, Gj⟩
end Go.Proofs.YteaionmjbkildabDoor
namespace Go.Proofs.YteaionmjbkildabDoor
open Go.RowKit
set_option linter.unusedVariables false
set_option linter.unusedSimpArgs false
set_option maxRecDepth 100000
namespace Rr
theorem infoTF : (Tryd.prog.info? 24).map (fun i => (i.zero, i.size, i.bytes)) = some (some (.agg #[.int .i64 0, .int .i64 0, .slice none 0 0, .int .i64 0]), 4, 48) := by kernel_rfl
theorem underTS : Tryd.prog.underlying 37 = some (.slice 24) := by kernel_rfl
/-- The book: two rows of trees. -/
structure Bk (w : World) (B b j : Nat) (gp wp : Option Addr) (gc wc : Nat) (GS WS : List Value) : Prop where
  lt : b < B
  box : Bo w b 39 #[.slice gp j gc, .slice wp j wc, .bool false]
  got : w.ownsRow B 24 4 (.slice gp j gc) j GS
  want : w.ownsRow B 24 4 (.slice wp j wc) j WS
  ap : (Value.slice wp j wc).ownBlock = none ∨ (Value.slice wp j wc).ownBlock ≠ (Value.slice gp j gc).ownBlock
/-- All but the book's box and rows of trees from B on stays. -/
structure Gq (B b : Nat) (w w' : World) : Prop where
  os : w'.os = w.os
  tape : w'.tape = w.tape
  output : w'.output = w.output
  size : w.heap.size ≤ w'.heap.size
  kept : ∀ k o, w.heap[k]? = some o → k ≠ b → (k < B ∨ ∀ c fz, o ≠ .cells c 24 fz) → w'.heap[k]? = some o
theorem Gq.trans {B b : Nat} {w w1 w2 : World} (h : Gq B b w w1) (k : Gq B b w1 w2) : Gq B b w w2 := ⟨k.os.trans h.os, k.tape.trans h.tape, k.output.trans h.output, Nat.le_trans h.size k.size, fun i o hi hb hc => k.kept i o (h.kept i o hi hb hc) hb hc⟩
theorem blk_lt {w : World} {k : Nat} {o : Obj} (h : w.heap[k]? = some o) : k < w.heap.size := (Array.getElem?_eq_some_iff.1 h).1
theorem Gq.nil0 {B b : Nat} {w w1 : World} (h : w.grownBy w1 none) : Gq B b w w1 := ⟨h.os, h.tape, h.output, h.size, fun i o hi _ _ => (h.block i (blk_lt hi) (by simp)).trans hi⟩
theorem Gq.own {B b : Nat} {w w1 : World} {v : Value} {n : Nat} {xs : List Value} (ho : w.ownsRow B 24 4 v n xs) (h : w.grownBy w1 v.ownBlock) : Gq B b w w1 := ⟨h.os, h.tape, h.output, h.size, fun i o hi _ hc => (h.block i (blk_lt hi) (fun e => by
  rcases ho.2 with ⟨rfl, _⟩ | ⟨g, cap, cur, rfl, hb, hg, _⟩
  · simp [Value.ownBlock] at e
  · have e : i = g := by simpa [Value.ownBlock] using e
    subst e
    rw [hi] at hg
    rcases hc with h1 | h1
    · omega
    · exact h1 _ _ (Option.some.inj hg))).trans hi⟩
theorem Gq.set {B b : Nat} {w : World} (i : Nat) (v : Value) : Gq B b w (w.setCell ⟨b, i, none⟩ v) := by
  have h := gb_set (World.grownBy.refl w (some b)) i v
  exact ⟨h.os, h.tape, h.output, h.size, fun k o hk hb _ => (h.block k (blk_lt hk) (by simpa using hb)).trans hk⟩
/-- What adds asks and leaves. -/
def GrA (k n : Nat) (sp : Option Addr) (c : Nat) (S I R : Int) : List Value := [.int .i64 S, .int .i64 I, .slice sp n c, .int .i64 R]
set_option maxHeartbeats 8000000 in
theorem addsC (B b j : Nat) (hj : j ≤ 1000) (gp wp : Option Addr) (gc wc : Nat) (GS WS : List Value) (E : Int) (S0 I0 R0 : Int) (n0 c0 c1 : Nat) (sp0 sp1 : Option Addr) (w : World) (hB : B ≤ w.heap.size) (h : Bk w B b j gp wp gc wc GS WS)
    (hal : ∀ V, w.grownBy V none → Calls Tryd.prog 37 #[.agg #[.int .i64 S0, .int .i64 I0, .slice sp0 n0 c0, .int .i64 R0], .agg #[.int .i64 S0, .int .i64 I0, .slice sp1 n0 c1, .int .i64 R0]] V fun e w' => e = .returned (.bool true) ∧ V.grownBy w' none) :
    Calls Tryd.prog 16 #[.pointer (some ⟨b, 0, none⟩), .agg #[.int .i64 S0, .int .i64 I0, .slice sp0 n0 c0, .int .i64 R0], .int .i64 E, .agg #[.int .i64 S0, .int .i64 I0, .slice sp1 n0 c1, .int .i64 R0], .int .i64 E] w fun e w' => ∃ gp' gc' wp' wc', e = .returned (.tuple #[]) ∧ Bk w' B b (j + 1) gp' wp' gc' wc' (GS ++ [.int .i64 S0, .int .i64 I0, .slice sp0 n0 c0, .int .i64 R0]) (WS ++ [.int .i64 S0, .int .i64 I0, .slice sp1 n0 c1, .int .i64 R0]) ∧ Gq B b w w' := by
  obtain ⟨it, HI⟩ : ∃ i, Hid (Tryd.prog.info? 24 = some i ∧ i.zero = some (.agg #[.int .i64 0, .int .i64 0, .slice none 0 0, .int .i64 0]) ∧ i.size = 4 ∧ i.bytes = 48) := by
    obtain ⟨i, h1, h2, h3, h4⟩ := info_parts infoTF
    exact ⟨i, h1, h2, h3, h4⟩
  obtain ⟨W1, hW1, sz1, g1, B1⟩ := boxn w #[.int .i64 S0, .int .i64 I0, .slice sp0 n0 c0, .int .i64 R0] 24
  obtain ⟨W2, hW2, sz2, g2, B2⟩ := boxn W1 #[.int .i64 S0, .int .i64 I0, .slice sp1 n0 c1, .int .i64 R0] 24
  have G2 := gb_trans g1 g2
  have P2 := B1.kept g2 (by simp)
  have a0 := P2.cell 0 (v := .int .i64 S0) rfl
  have a1 := P2.cell 1 (v := .int .i64 I0) rfl
  have a2 := P2.cell 2 (v := .slice sp0 n0 c0) rfl
  have a3 := P2.cell 3 (v := .int .i64 R0) rfl
  have d0 := B2.cell 0 (v := .int .i64 S0) rfl
  have d1 := B2.cell 1 (v := .int .i64 I0) rfl
  have d2 := B2.cell 2 (v := .slice sp1 n0 c1) rfl
  have d3 := B2.cell 3 (v := .int .i64 R0) rfl
  have kal := hal W2 G2
  have HK : Hid (Bk w B b j gp wp gc wc GS WS) := h
  have HP : Hid (Bo W2 w.heap.size 24 #[.int .i64 S0, .int .i64 I0, .slice sp0 n0 c0, .int .i64 R0]) := P2
  have HQ : Hid (Bo W2 W1.heap.size 24 #[.int .i64 S0, .int .i64 I0, .slice sp1 n0 c1, .int .i64 R0]) := B2
  have HG2 : Hid (w.grownBy W2 none) := G2
  have HBB : Hid (B ≤ w.heap.size) := hB
  have HSZ : Hid (W1.heap.size = w.heap.size + 1 ∧ W2.heap.size = W1.heap.size + 1) := ⟨sz1.out, sz2.out⟩
  have hEE : (E != E) = false := by simp
  clear hal h P2 B1 B2 g1 g2 G2 hB sz1 sz2
  go_enter Tryd.func16, Tryd.ntmps16
  go_wp2_with (first | (go_at_call 37; refine kal.mono ?_; rintro e w3 ⟨rfl, g3⟩; refine Hid.out ?_))
  refine Lib.hid ?_
  clear kal a0 a1 a2 a3 d0 d1 d2 d3
  have G3 := gb_trans HG2.out g3
  have K3 : Hid (Bk w3 B b j gp wp gc wc GS WS) := ⟨HK.out.lt, HK.out.box.kept G3 (by simp), HK.out.got.kept G3 (Classical.em _), HK.out.want.kept G3 (Classical.em _), HK.out.ap⟩
  have P3 := HP.out.kept g3 (by simp)
  have Q3 := HQ.out.kept g3 (by simp)
  obtain ⟨W4, hW4, sz4, g4, B4⟩ := boxn w3 #[.int .i64 S0, .int .i64 I0, .slice sp0 n0 c0, .int .i64 R0] 24
  have x0 := K3.out.box.cell 0 (v := .slice gp j gc) rfl
  have f0 := K3.out.box.frozen 0
  have a0 := P3.cell 0 (v := .int .i64 S0) rfl
  have a1 := P3.cell 1 (v := .int .i64 I0) rfl
  have a2 := P3.cell 2 (v := .slice sp0 n0 c0) rfl
  have a3 := P3.cell 3 (v := .int .i64 R0) rfl
  have own4 : W4.drew.ownsRow B 24 4 (.slice gp j gc) j GS := K3.out.got.kept (gb_drew g4) (Classical.em _)
  have nw4 : ∀ l u, [Value.int .i64 S0, .int .i64 I0, .slice sp0 n0 c0, .int .i64 R0][l]? = some u → W4.drew.cell? ((⟨w3.heap.size, 0, none⟩ : Addr).add l) = some u := World.news_of_block (w := W4.drew) (cs := #[.int .i64 S0, .int .i64 I0, .slice sp0 n0 c0, .int .i64 R0]) B4
  have hb4 : B ≤ W4.drew.heap.size := Nat.le_trans HBB.out (Nat.le_trans G3.size g4.size)
  have xb4 := (K3.out.box.kept g4 (by simp)).cell 0 (v := .slice gp j gc) rfl
  have fb4 := (K3.out.box.kept g4 (by simp)).frozen 0
  have hbx5 : ∀ X : World, W4.drew.grownBy X (Value.slice gp j gc).ownBlock → Bo X b 39 #[.slice gp j gc, .slice wp j wc, .bool false] := fun X hX => (K3.out.box.kept (gb_drew g4) (by simp)).kept hX (fun e => by have := (own4.lt b e.symm).1; have := HK.out.lt; omega)
  go_wp2
  go_region_law (first | (refine step_append_lies _ rfl (.tmp 28) (.tmp 30) 37 rfl B 24 it (.agg #[.int .i64 0, .int .i64 0, .slice none 0 0, .int .i64 0]) 4 48 underTS HI.out.1 HI.out.2.1 HI.out.2.2.1 HI.out.2.2.2 rfl (by decide) _ j _ rfl own4 ⟨w3.heap.size, 0, none⟩ 1 1 [.int .i64 S0, .int .i64 I0, .slice sp0 n0 c0, .int .i64 R0] rfl rfl nw4 (by intro u hu; simp at hu; rcases hu with rfl | rfl | rfl | rfl <;> rfl) (by decide) (by unfold maxLen; omega) (by omega) hb4 _ rfl ?_; intro g5 q5 w5 own5 gr5 at5 lt5; have bx5 := hbx5 w5 gr5; have xx5 := bx5.cell 0 (v := .slice gp j gc) rfl; have fx5 := bx5.frozen 0))
  all_goals
    have hob : ∀ q, (Value.slice gp j gc).ownBlock = some q → B ≤ q := fun q hq => (own4.lt q hq).1
    have gr5 : W4.drew.grownBy w5 (Value.slice gp j gc).ownBlock := gr5
    have at5 : (Value.slice gp j gc).ownBlock = some g5 ∨ g5 = W4.drew.heap.size := at5
    have gd4 : w3.grownBy W4.drew none := gb_drew g4
    have Gq5 : Gq B b w w5 := ((Gq.nil0 G3).trans (Gq.nil0 gd4)).trans (Gq.own own4 gr5)
    have want5 : w5.ownsRow B 24 4 (.slice wp j wc) j WS := (K3.out.want.kept gd4 (Classical.em _)).kept gr5 K3.out.ap
    have hgl : ∀ q, (Value.slice gp j gc).ownBlock = some q → q < w.heap.size := fun q hq => (HK.out.got.lt q hq).2
    have hwl : ∀ q, (Value.slice wp j wc).ownBlock = some q → B ≤ q ∧ q < w.heap.size := fun q hq => HK.out.want.lt q hq
    have hs3 : w.heap.size ≤ W4.drew.heap.size := Nat.le_trans G3.size gd4.size
    have hnw : ∀ q, (Value.slice wp j wc).ownBlock = some q → q ≠ g5 := fun q hq e => by
      subst e
      rcases at5 with h1 | h1
      · rcases K3.out.ap with h2 | h2
        · rw [hq] at h2; cases h2
        · exact h2 (by rw [hq, h1])
      · have := (hwl _ hq).2; omega
    have hg5 : B ≤ g5 := (own5.lt g5 rfl).1
    have Q5 : Bo w5 W1.heap.size 24 #[.int .i64 S0, .int .i64 I0, .slice sp1 n0 c1, .int .i64 R0] := (Q3.kept gd4 (by simp)).kept gr5 (fun e => by have := hgl _ e.symm; have := HSZ.out; omega)
    obtain ⟨V6, hV6⟩ : ∃ V, w5.setCell ⟨b, 0, none⟩ (.slice (some ⟨g5, 0, none⟩) (j + 1) q5) = V := ⟨_, rfl⟩
    have gb6 : w5.grownBy V6 (some b) := hV6 ▸ gb_set (World.grownBy.refl w5 _) _ _
    have hbl := HK.out.lt
    have box6 : Bo V6 b 39 #[.slice (some ⟨g5, 0, none⟩) (j + 1) q5, .slice wp j wc, .bool false] := hV6 ▸ (hbx5 w5 gr5).set 0 _
    have got6 : V6.ownsRow B 24 4 (.slice (some ⟨g5, 0, none⟩) (j + 1) q5) (j + 1) (GS ++ [.int .i64 S0, .int .i64 I0, .slice sp0 n0 c0, .int .i64 R0]) := own5.kept gb6 (.inr fun e => by have := (own5.lt _ e).1; omega)
    have want6 : V6.ownsRow B 24 4 (.slice wp j wc) j WS := want5.kept gb6 (.inr fun e => by have := (want5.lt _ e).1; omega)
    have Q6 : Bo V6 W1.heap.size 24 #[.int .i64 S0, .int .i64 I0, .slice sp1 n0 c1, .int .i64 R0] := hV6 ▸ Q5.set2 (by have := HBB.out; have := HSZ.out; omega)
    have Gq6 : Gq B b w V6 := Gq5.trans (hV6 ▸ Gq.set 0 _)
    have hs6 : w.heap.size ≤ V6.heap.size := Gq6.size
    obtain ⟨W7, hW7, sz7, g7, B7⟩ := boxn V6 #[.int .i64 S0, .int .i64 I0, .slice sp1 n0 c1, .int .i64 R0] 24
    have gd7 : V6.grownBy W7.drew none := gb_drew g7
    have own7 : W7.drew.ownsRow B 24 4 (.slice wp j wc) j WS := want6.kept gd7 (Classical.em _)
    have nw7 : ∀ l u, [.int .i64 S0, .int .i64 I0, .slice sp1 n0 c1, .int .i64 R0][l]? = some u → W7.drew.cell? ((⟨V6.heap.size, 0, none⟩ : Addr).add l) = some u := World.news_of_block (w := W7.drew) (cs := #[.int .i64 S0, .int .i64 I0, .slice sp1 n0 c1, .int .i64 R0]) B7
    have hb7 : B ≤ W7.drew.heap.size := Nat.le_trans HBB.out (Nat.le_trans hs6 gd7.size)
    have hbx8 : ∀ X : World, W7.drew.grownBy X (Value.slice wp j wc).ownBlock → Bo X b 39 #[.slice (some ⟨g5, 0, none⟩) (j + 1) q5, .slice wp j wc, .bool false] := fun X hX => (box6.kept gd7 (by simp)).kept hX (fun e => by have := (hwl b e.symm).1; omega)
    have y1 := box6.cell 1 (v := .slice wp j wc) rfl
    have y4 := (box6.kept g7 (by simp)).cell 1 (v := .slice wp j wc) rfl
    have d0 := Q6.cell 0 (v := .int .i64 S0) rfl
    have d1 := Q6.cell 1 (v := .int .i64 I0) rfl
    have d2 := Q6.cell 2 (v := .slice sp1 n0 c1) rfl
    have d3 := Q6.cell 3 (v := .int .i64 R0) rfl
    clear x0 f0 xb4 fb4 xx5 fx5 bx5 own4 own5 nw4 hb4 gr5 want5 Q5 gb6 a0 a1 a2 a3 B4 B7 Gq5
    go_wp2
    try rw [hV6]
    go_region_law (first | (refine step_append_lies _ rfl (.tmp 38) (.tmp 40) 37 rfl B 24 it (.agg #[.int .i64 0, .int .i64 0, .slice none 0 0, .int .i64 0]) 4 48 underTS HI.out.1 HI.out.2.1 HI.out.2.2.1 HI.out.2.2.2 rfl (by decide) _ j _ rfl own7 ⟨V6.heap.size, 0, none⟩ 1 1 [.int .i64 S0, .int .i64 I0, .slice sp1 n0 c1, .int .i64 R0] rfl rfl nw7 (by intro u hu; simp at hu; rcases hu with rfl | rfl | rfl | rfl <;> rfl) (by decide) (by unfold maxLen; omega) (by omega) hb7 _ rfl ?_; intro g8 q8 w8 own8 gr8 at8 lt8; have bx8 := hbx8 w8 gr8; have xx8 := bx8.cell 1 (v := .slice wp j wc) rfl; have fx8 := bx8.frozen 1))
    all_goals
      have gr8 : W7.drew.grownBy w8 (Value.slice wp j wc).ownBlock := gr8
      have at8 : (Value.slice wp j wc).ownBlock = some g8 ∨ g8 = W7.drew.heap.size := at8
      have got8 : w8.ownsRow B 24 4 (.slice (some ⟨g5, 0, none⟩) (j + 1) q5) (j + 1) (GS ++ [.int .i64 S0, .int .i64 I0, .slice sp0 n0 c0, .int .i64 R0]) := (got6.kept gd7 (Classical.em _)).kept gr8 (.inr fun e => hnw g5 e.symm rfl)
      have hg6 := (got6.lt g5 rfl).2
      have hs7 := gd7.size
      have hne : g8 ≠ g5 := fun e => by
        subst e
        rcases at8 with h1 | h1
        · exact hnw _ h1 rfl
        · omega
      have gb9 : w8.grownBy (w8.setCell ⟨b, 1, none⟩ (.slice (some ⟨g8, 0, none⟩) (j + 1) q8)) (some b) := gb_set (World.grownBy.refl w8 _) _ _
      go_wp2
      (first | (refine bodyPost_ret (results_none rfl _ _ _) rfl ?_) | (refine bodyPost_end (results_none rfl _ _ _) rfl ?_))
      refine ⟨some ⟨g5, 0, none⟩, q5, some ⟨g8, 0, none⟩, q8, rfl, ⟨hbl, (hbx8 w8 gr8).set 1 _, got8.kept gb9 (.inr fun e => by have := (got8.lt _ e).1; omega), own8.kept gb9 (.inr fun e => by have := (own8.lt _ e).1; omega), .inr (by simp [Value.ownBlock, hne])⟩, ((Gq6.trans (Gq.nil0 gd7)).trans (Gq.own own7 gr8)).trans (Gq.set 1 _)⟩
end Rr
end Go.Proofs.YteaionmjbkildabDoor
namespace Go.Proofs.YteaionmjbkildabDoor
open Go.RowKit
set_option linter.unusedVariables false
set_option linter.unusedSimpArgs false
set_option maxRecDepth 100000
namespace Rr
/-- All but rows of the type e from B on stays. -/
structure Gt (e B : Nat) (w w' : World) : Prop where
  os : w'.os = w.os
  tape : w'.tape = w.tape
  output : w'.output = w.output
  size : w.heap.size ≤ w'.heap.size
  kept : ∀ k o, w.heap[k]? = some o → (k < B ∨ ∀ c fz, o ≠ .cells c e fz) → w'.heap[k]? = some o
theorem Gt.refl (e B : Nat) (w : World) : Gt e B w w := ⟨rfl, rfl, rfl, Nat.le_refl _, fun _ _ h _ => h⟩
theorem Gt.trans {e B : Nat} {w w1 w2 : World} (h : Gt e B w w1) (k : Gt e B w1 w2) : Gt e B w w2 := ⟨k.os.trans h.os, k.tape.trans h.tape, k.output.trans h.output, Nat.le_trans h.size k.size, fun i o hi hc => k.kept i o (h.kept i o hi hc) hc⟩
theorem Gt.nil0 {e B : Nat} {w w1 : World} (h : w.grownBy w1 none) : Gt e B w w1 := ⟨h.os, h.tape, h.output, h.size, fun i o hi _ => (h.block i (blk_lt hi) (by simp)).trans hi⟩
theorem Gt.own {e B : Nat} {w w1 : World} {v : Value} {s n : Nat} {xs : List Value} (ho : w.ownsRow B e s v n xs) (h : w.grownBy w1 v.ownBlock) : Gt e B w w1 := ⟨h.os, h.tape, h.output, h.size, fun i o hi hc => (h.block i (blk_lt hi) (fun q => by
  rcases ho.2 with ⟨rfl, _⟩ | ⟨g, cap, cur, rfl, hb, hg, _⟩
  · simp [Value.ownBlock] at q
  · have q : i = g := by simpa [Value.ownBlock] using q
    subst q
    rw [hi] at hg
    rcases hc with h1 | h1
    · omega
    · exact h1 _ _ (Option.some.inj hg))).trans hi⟩
theorem Gt.new {e B : Nat} {w w1 w2 : World} {r : Option Nat} (h : Gt e B w w1) (k : w1.grownBy w2 r) (hr : ∀ p, r = some p → w.heap.size ≤ p) : Gt e B w w2 := ⟨k.os.trans h.os, k.tape.trans h.tape, k.output.trans h.output, Nat.le_trans h.size k.size, fun i o hi hc => by
  have h1 := h.kept i o hi hc
  refine (k.block i (blk_lt h1) (fun q => ?_)).trans h1
  have := hr i q.symm
  have := blk_lt hi
  omega⟩
theorem Gt.bo {e B : Nat} {w w1 : World} (h : Gt e B w w1) {g : Nat} {t : TypeId} {cs : Array Value} (b : Bo w g t cs) (ht : t ≠ e) : Bo w1 g t cs := h.kept g _ b (.inr fun c fz q => by injection q with _ q2; exact ht q2)
theorem Gt.row {e B : Nat} {w w1 : World} (h : Gt e B w w1) {B' e' s n : Nat} {v : Value} {xs : List Value} (ho : w.ownsRow B' e' s v n xs) (ht : e' ≠ e) : w1.ownsRow B' e' s v n xs := by
  refine ⟨ho.1, ?_⟩
  rcases ho.2 with q | ⟨g, cap, cur, q1, q2, q3, q4⟩
  · exact .inl q
  · exact .inr ⟨g, cap, cur, q1, q2, h.kept g _ q3 (.inr fun c fz q => by injection q with _ q5; exact ht q5), q4⟩
/-- A row of kids' lists and a row of kids are not one. -/
theorem own_two2 {w : World} {B B' m m' : Nat} {v u : Value} {xs ys : List Value} (h : w.ownsRow B 63 1 v m xs) (k : w.ownsRow B' 3 1 u m' ys) : u.ownBlock = none ∨ u.ownBlock ≠ v.ownBlock := by
  rcases k.2 with ⟨rfl, _⟩ | ⟨g2, cap2, cur2, rfl, _, h2, _⟩
  · exact .inl rfl
  · refine .inr ?_
    rcases h.2 with ⟨rfl, _⟩ | ⟨g1, cap, cur, rfl, _, h1, _⟩
    · simp [Value.ownBlock]
    · intro e
      simp only [Value.ownBlock, Option.some.injEq] at e
      subst e
      rw [h1] at h2
      simp at h2
/-- The kids' lists as cells. -/
def kl (u : Nat → TN) (m : Nat) : List Value := (List.range m).map fun i => .slice (u i).kp (u i).kn (u i).kc
theorem kl_snoc (u : Nat → TN) (m : Nat) : kl u (m + 1) = kl u m ++ [.slice (u m).kp (u m).kn (u m).kc] := by unfold kl; rw [List.range_succ, List.map_append]; rfl
theorem kl_len (u : Nat → TN) (m : Nat) : (kl u m).length = m := by simp [kl]
theorem kl_get (u : Nat → TN) {m i : Nat} (h : i < m) : (kl u m)[i]? = some (.slice (u i).kp (u i).kn (u i).kc) := by simp [kl, h]
theorem Gt.below {e B : Nat} {w w1 : World} (h : Gt e B w w1) (hB : B ≤ w.heap.size) : Below B w w1 := ⟨h.os, h.tape, h.output, h.size, fun k hk => by
  obtain ⟨o, ho⟩ : ∃ o, w.heap[k]? = some o := ⟨_, Array.getElem?_eq_getElem (by omega)⟩
  rw [h.kept k o ho (.inl hk), ho]⟩
/-- Rows of two types are not one. -/
theorem own_dt {w : World} {B B' s s' m m' : Nat} {e e' : TypeId} {v u : Value} {xs ys : List Value} (hne : e' ≠ e) (h : w.ownsRow B e s v m xs) (k : w.ownsRow B' e' s' u m' ys) : u.ownBlock = none ∨ u.ownBlock ≠ v.ownBlock := by
  rcases k.2 with ⟨rfl, _⟩ | ⟨g2, cap2, cur2, rfl, _, h2, _⟩
  · exact .inl rfl
  · refine .inr ?_
    rcases h.2 with ⟨rfl, _⟩ | ⟨g1, cap, cur, rfl, _, h1, _⟩
    · simp [Value.ownBlock]
    · intro q
      simp only [Value.ownBlock, Option.some.injEq] at q
      subst q
      rw [h1] at h2
      simp at h2
      exact hne h2.2.symm
/-- So many marked nodes. -/
def mn : Nat → Int → List Value
  | 0, _ => []
  | k + 1, v => mn k v ++ [.int .u8 v, .slice none 0 0]
theorem mn_len : ∀ (k : Nat) (v : Int), (mn k v).length = k * 2
  | 0, _ => rfl
  | k + 1, v => by rw [mn, List.length_append, mn_len k v]; simp; omega
theorem mn_get (v : Int) {j : Nat} : ∀ {n : Nat}, j < n → (mn n v)[j * 2]? = some (.int .u8 v)
  | 0, h => absurd h (Nat.not_lt_zero _)
  | n + 1, h => by
    have hl := mn_len n v
    by_cases e : j = n
    · subst e
      rw [mn, List.getElem?_append_right (by omega), hl]; simp
    · rw [mn, List.getElem?_append_left (by omega)]
      exact mn_get v (by omega)
/-- Marked nodes that can be read. -/
def Mr (w : World) (sp : Option Addr) (n : Nat) (v : Int) : Prop := ∀ k, k < n → ∃ g, sp = some ⟨g, 0, none⟩ ∧ w.cell? ⟨g, k * 2, none⟩ = some (.int .u8 v)
theorem mr_own {w : World} {B n c : Nat} {sp : Option Addr} {v : Int} (h : w.ownsRow B 69 2 (.slice sp n c) n (mn n v)) : Mr w sp n v := fun k hk => by
  rcases Joins.ownsRow_forms h with ⟨_, e⟩ | ⟨g, cap, e⟩
  · omega
  · cases e
    exact ⟨g, rfl, by rw [h.cellAt (k * 2) (by omega)]; exact mn_get v hk⟩
theorem Mr.kept {w w' : World} {sp : Option Addr} {n : Nat} {v : Int} {r : Option Nat} (h : Mr w sp n v) (hg : w.grownBy w' r) (hr : ∀ g, sp = some ⟨g, 0, none⟩ → some g ≠ r) : Mr w' sp n v := fun k hk => by
  obtain ⟨g, h1, h2⟩ := h k hk
  exact ⟨g, h1, hg.cell h2 (hr g h1)⟩
theorem infoBLF : (Tryd.prog.info? 22).map (fun i => (i.zero, i.size, i.bytes)) = some (some (.slice none 0 0), 1, 24) := by kernel_rfl
theorem underLLS : Tryd.prog.underlying 90 = some (.slice 22) := by kernel_rfl
/-- Two trees' nodes, one behind the other. -/
def u2 (t0 t1 : Nat → TN) (n : Nat) (i : Nat) : TN := if i < n then t0 i else t1 (i - n)
theorem infoLF : (Tryd.prog.info? 63).map (fun i => (i.zero, i.size, i.bytes)) = some (some (.slice none 0 0), 1, 24) := by kernel_rfl
theorem underLS : Tryd.prog.underlying 86 = some (.slice 63) := by kernel_rfl

set_option maxHeartbeats 16000000 in
theorem standsC (B1 B b n : Nat) (hn : n ≤ 65536) (S I R : Int) (sp0 sp1 spw : Option Addr) (c0 c1 cw gg gw gc wc : Nat) (t0 t1 : Nat → TN) (hkn : ∀ i, i < n → (t0 i).kn ≤ 1048576 ∧ (t1 i).kn ≤ 1048576) (w : World) (hB1 : B1 ≤ w.heap.size)
    (hBk : Bk w B b 2 (some ⟨gg, 0, none⟩) (some ⟨gw, 0, none⟩) gc wc [.int .i64 S, .int .i64 I, .slice sp0 n c0, .int .i64 R, .int .i64 S, .int .i64 I, .slice sp1 n c1, .int .i64 R] [.int .i64 S, .int .i64 I, .slice spw n cw, .int .i64 R, .int .i64 S, .int .i64 I, .slice spw n cw, .int .i64 R])
    (hN0 : w.ownsRow B1 69 2 (.slice sp0 n c0) n (ndW t0 n)) (hN1 : w.ownsRow B1 69 2 (.slice sp1 n c1) n (ndW t1 n)) (hKU : Ks w B1 (u2 t0 t1 n) (n + n)) (hIU : Inc (u2 t0 t1 n) (n + n)) (hap : (Value.slice sp1 n c1).ownBlock = none ∨ (Value.slice sp1 n c1).ownBlock ≠ (Value.slice sp0 n c0).ownBlock)
    (hal0 : ∀ V, w.grownBy V none → Calls Tryd.prog 37 #[.agg #[.int .i64 S, .int .i64 I, .slice sp0 n c0, .int .i64 R], .agg #[.int .i64 S, .int .i64 I, .slice spw n cw, .int .i64 R]] V fun e w' => e = .returned (.bool true) ∧ V.grownBy w' none)
    (hal1 : ∀ V, w.grownBy V none → Calls Tryd.prog 37 #[.agg #[.int .i64 S, .int .i64 I, .slice sp1 n c1, .int .i64 R], .agg #[.int .i64 S, .int .i64 I, .slice spw n cw, .int .i64 R]] V fun e w' => e = .returned (.bool true) ∧ V.grownBy w' none) :
    Calls Tryd.prog 17 #[.pointer (some ⟨b, 0, none⟩)] w fun e w' => e = .returned (.bool true) ∧ Below B1 w w' := by
  obtain ⟨il, HIL⟩ : ∃ i, Hid (Tryd.prog.info? 63 = some i ∧ i.zero = some (.slice none 0 0) ∧ i.size = 1 ∧ i.bytes = 24) := by
    obtain ⟨i, h1, h2, h3, h4⟩ := info_parts infoLF
    exact ⟨i, h1, h2, h3, h4⟩
  have HAL : Hid ((∀ V, w.grownBy V none → Calls Tryd.prog 37 #[.agg #[.int .i64 S, .int .i64 I, .slice sp0 n c0, .int .i64 R], .agg #[.int .i64 S, .int .i64 I, .slice spw n cw, .int .i64 R]] V fun e w' => e = .returned (.bool true) ∧ V.grownBy w' none) ∧ (∀ V, w.grownBy V none → Calls Tryd.prog 37 #[.agg #[.int .i64 S, .int .i64 I, .slice sp1 n c1, .int .i64 R], .agg #[.int .i64 S, .int .i64 I, .slice spw n cw, .int .i64 R]] V fun e w' => e = .returned (.bool true) ∧ V.grownBy w' none)) := ⟨hal0, hal1⟩
  have HB : Hid (Bk w B b 2 (some ⟨gg, 0, none⟩) (some ⟨gw, 0, none⟩) gc wc [.int .i64 S, .int .i64 I, .slice sp0 n c0, .int .i64 R, .int .i64 S, .int .i64 I, .slice sp1 n c1, .int .i64 R] [.int .i64 S, .int .i64 I, .slice spw n cw, .int .i64 R, .int .i64 S, .int .i64 I, .slice spw n cw, .int .i64 R]) := hBk
  have HN0 : Hid (w.ownsRow B1 69 2 (.slice sp0 n c0) n (ndW t0 n)) := hN0
  have HN1 : Hid (w.ownsRow B1 69 2 (.slice sp1 n c1) n (ndW t1 n)) := hN1
  have HKU : Hid (Ks w B1 (u2 t0 t1 n) (n + n) ∧ Inc (u2 t0 t1 n) (n + n)) := ⟨hKU, hIU⟩
  have HAP : Hid ((Value.slice sp1 n c1).ownBlock = none ∨ (Value.slice sp1 n c1).ownBlock ≠ (Value.slice sp0 n c0).ownBlock) := hap
  have HNN : Hid (n ≤ 65536) := hn
  have HKN : Hid (∀ i, i < n → (t0 i).kn ≤ 1048576 ∧ (t1 i).kn ≤ 1048576) := hkn
  have HBB : Hid (B1 ≤ w.heap.size) := hB1
  have bb2 := hBk.box.cell 2 (v := .bool false) rfl
  clear hal0 hal1 hBk hN0 hN1 hKU hIU hap hn hkn hB1
  go_enter Tryd.func17, Tryd.ntmps17
  go_wp2
  clear bb2
  refine wp_loop_rounds 3 ?_
  obtain ⟨VA0, hVA0⟩ : ∃ V, w = V := ⟨_, rfl⟩
  have HV0 : w.grownBy VA0 none := hVA0 ▸ World.grownBy.refl _ _
  rw [hVA0]
  -- round 0 of the first loop
  rw [rounds_succ]
  have GV0 : Hid (w.grownBy VA0 none) := HV0
  have KV0 : Hid (Bk VA0 B b 2 (some ⟨gg, 0, none⟩) (some ⟨gw, 0, none⟩) gc wc [.int .i64 S, .int .i64 I, .slice sp0 n c0, .int .i64 R, .int .i64 S, .int .i64 I, .slice sp1 n c1, .int .i64 R] [.int .i64 S, .int .i64 I, .slice spw n cw, .int .i64 R, .int .i64 S, .int .i64 I, .slice spw n cw, .int .i64 R]) := ⟨HB.out.lt, HB.out.box.kept HV0 (by simp), HB.out.got.kept HV0 (Classical.em _), HB.out.want.kept HV0 (Classical.em _), HB.out.ap⟩
  have xg0 : VA0.cell? ⟨gg, 0, none⟩ = some (.int .i64 S) := (KV0.out.got.cellAt 0 (by omega)).trans rfl
  have xg1 : VA0.cell? ⟨gg, 1, none⟩ = some (.int .i64 I) := (KV0.out.got.cellAt 1 (by omega)).trans rfl
  have xg2 : VA0.cell? ⟨gg, 2, none⟩ = some (.slice sp0 n c0) := (KV0.out.got.cellAt 2 (by omega)).trans rfl
  have xg3 : VA0.cell? ⟨gg, 3, none⟩ = some (.int .i64 R) := (KV0.out.got.cellAt 3 (by omega)).trans rfl
  have xw0 : VA0.cell? ⟨gw, 0, none⟩ = some (.int .i64 S) := (KV0.out.want.cellAt 0 (by omega)).trans rfl
  have xw1 : VA0.cell? ⟨gw, 1, none⟩ = some (.int .i64 I) := (KV0.out.want.cellAt 1 (by omega)).trans rfl
  have xw2 : VA0.cell? ⟨gw, 2, none⟩ = some (.slice spw n cw) := (KV0.out.want.cellAt 2 (by omega)).trans rfl
  have xw3 : VA0.cell? ⟨gw, 3, none⟩ = some (.int .i64 R) := (KV0.out.want.cellAt 3 (by omega)).trans rfl
  have xb0 := KV0.out.box.cell 0 (v := .slice (some ⟨gg, 0, none⟩) 2 gc) rfl
  have xb1 := KV0.out.box.cell 1 (v := .slice (some ⟨gw, 0, none⟩) 2 wc) rfl
  have gdr0 : w.grownBy VA0.drew none := gb_drew HV0
  have kal0 := HAL.out.1 VA0.drew gdr0
  clear HV0
  go_wp2
  go_region_held2 (fun w' => w'.cell? ⟨gg, 0, none⟩ = some (.int .i64 S) ∧ w'.cell? ⟨gg, 1, none⟩ = some (.int .i64 I) ∧ w'.cell? ⟨gg, 2, none⟩ = some (.slice sp0 n c0) ∧ w'.cell? ⟨gg, 3, none⟩ = some (.int .i64 R) ∧ w'.cell? ⟨gw, 0, none⟩ = some (.int .i64 S) ∧ w'.cell? ⟨gw, 1, none⟩ = some (.int .i64 I) ∧ w'.cell? ⟨gw, 2, none⟩ = some (.slice spw n cw) ∧ w'.cell? ⟨gw, 3, none⟩ = some (.int .i64 R) ∧ w'.cell? ⟨b, 0, none⟩ = some (.slice (some ⟨gg, 0, none⟩) 2 gc) ∧ w'.cell? ⟨b, 1, none⟩ = some (.slice (some ⟨gw, 0, none⟩) 2 wc)) (go_keep) (first | (go_at_call 37; refine kal0.mono ?_; rintro e X0 ⟨rfl, gX0⟩; have gk0 := gb_trans gdr0 gX0; have og0 := HB.out.got.kept gk0 (Classical.em _); have ow0 := HB.out.want.kept gk0 (Classical.em _); have ob0 := HB.out.box.kept gk0 (by simp); have zg0 : X0.cell? ⟨gg, 0, none⟩ = some (.int .i64 S) := (og0.cellAt 0 (by omega)).trans rfl; have zg1 : X0.cell? ⟨gg, 1, none⟩ = some (.int .i64 I) := (og0.cellAt 1 (by omega)).trans rfl; have zg2 : X0.cell? ⟨gg, 2, none⟩ = some (.slice sp0 n c0) := (og0.cellAt 2 (by omega)).trans rfl; have zg3 : X0.cell? ⟨gg, 3, none⟩ = some (.int .i64 R) := (og0.cellAt 3 (by omega)).trans rfl; have zw0 : X0.cell? ⟨gw, 0, none⟩ = some (.int .i64 S) := (ow0.cellAt 0 (by omega)).trans rfl; have zw1 : X0.cell? ⟨gw, 1, none⟩ = some (.int .i64 I) := (ow0.cellAt 1 (by omega)).trans rfl; have zw2 : X0.cell? ⟨gw, 2, none⟩ = some (.slice spw n cw) := (ow0.cellAt 2 (by omega)).trans rfl; have zw3 : X0.cell? ⟨gw, 3, none⟩ = some (.int .i64 R) := (ow0.cellAt 3 (by omega)).trans rfl; have zb0 := ob0.cell 0 (v := .slice (some ⟨gg, 0, none⟩) 2 gc) rfl; have zb1 := ob0.cell 1 (v := .slice (some ⟨gw, 0, none⟩) 2 wc) rfl))
  have GX0 : Hid (w.grownBy X0 none) := gb_trans gdr0 gX0
  have HX0 : VA0.grownBy X0 none := gb_trans (gb_drew (World.grownBy.refl VA0 none)) gX0
  clear kal0 gdr0 gX0 gk0 og0 ow0 ob0 xg0 xw0 zg0 zw0 xg1 xw1 zg1 zw1 xg2 xw2 zg2 zw2 xg3 xw3 zg3 zw3 xb0 xb1 zb0 zb1
  go_wp2
  go_loopw [3, 6] (fun v3 v6 wr => ∃ (k : Nat) (kp : Option Addr) (kc : Nat), k ≤ n ∧ v3 = .slice kp k kc ∧ v6 = .int .i64 (k : Nat) ∧ Hid (wr.ownsRow w.heap.size 63 1 (.slice kp k kc) k (kl (u2 t0 t1 n) k)) ∧ Hid (w.grownBy wr none)) (fun _ v6 _ => n - (intOf v6).toNat)
  case atStart => exact ⟨0, none, 0, Nat.zero_le _, rfl, rfl, World.ownsRow_nil _ _ _ _, GX0.out⟩
  case round =>
    obtain ⟨k, kp, kc, hk, rfl, rfl, own, hg⟩ := hrel
    have KW : Hid (Bk wr B b 2 (some ⟨gg, 0, none⟩) (some ⟨gw, 0, none⟩) gc wc [.int .i64 S, .int .i64 I, .slice sp0 n c0, .int .i64 R, .int .i64 S, .int .i64 I, .slice sp1 n c1, .int .i64 R] [.int .i64 S, .int .i64 I, .slice spw n cw, .int .i64 R, .int .i64 S, .int .i64 I, .slice spw n cw, .int .i64 R]) := ⟨HB.out.lt, HB.out.box.kept hg.out (by simp), HB.out.got.kept hg.out (Classical.em _), HB.out.want.kept hg.out (Classical.em _), HB.out.ap⟩
    have yg0 : wr.cell? ⟨gg, 0, none⟩ = some (.int .i64 S) := (KW.out.got.cellAt 0 (by omega)).trans rfl
    have yg1 : wr.cell? ⟨gg, 1, none⟩ = some (.int .i64 I) := (KW.out.got.cellAt 1 (by omega)).trans rfl
    have yg2 : wr.cell? ⟨gg, 2, none⟩ = some (.slice sp0 n c0) := (KW.out.got.cellAt 2 (by omega)).trans rfl
    have yg3 : wr.cell? ⟨gg, 3, none⟩ = some (.int .i64 R) := (KW.out.got.cellAt 3 (by omega)).trans rfl
    have yw0 : wr.cell? ⟨gw, 0, none⟩ = some (.int .i64 S) := (KW.out.want.cellAt 0 (by omega)).trans rfl
    have yw1 : wr.cell? ⟨gw, 1, none⟩ = some (.int .i64 I) := (KW.out.want.cellAt 1 (by omega)).trans rfl
    have yw2 : wr.cell? ⟨gw, 2, none⟩ = some (.slice spw n cw) := (KW.out.want.cellAt 2 (by omega)).trans rfl
    have yw3 : wr.cell? ⟨gw, 3, none⟩ = some (.int .i64 R) := (KW.out.want.cellAt 3 (by omega)).trans rfl
    have yb0 := KW.out.box.cell 0 (v := .slice (some ⟨gg, 0, none⟩) 2 gc) rfl
    have yb1 := KW.out.box.cell 1 (v := .slice (some ⟨gw, 0, none⟩) 2 wc) rfl
    by_cases hlt : k < n
    · have hlt' : (k : Int) < (n : Int) := by omega
      have Nw := HN0.out.kept hg.out (Classical.em _)
      obtain ⟨gi, ci, hi⟩ : ∃ g c, Value.slice sp0 n c0 = .slice (some ⟨g, 0, none⟩) n c := Joins.ownsRow_form Nw (by omega)
      have hi2 : sp0 = some ⟨gi, 0, none⟩ := by cases hi; rfl
      obtain ⟨tk, htk⟩ : ∃ tk, t0 k = tk := ⟨_, rfl⟩
      have hcell : wr.cell? ⟨gi, k * 2 + 1, none⟩ = some (.slice tk.kp tk.kn tk.kc) := by
        rw [hi2] at Nw
        rw [Nw.cellAt (k * 2 + 1) (by omega), (ndW_get t0 hlt).2, htk]
      have HTK : Hid (u2 t0 t1 n k = tk) := by unfold u2 Hid; rw [if_pos hlt]; exact htk
      obtain ⟨Wm, hWm, szm', gm, Bm⟩ := boxn wr #[.slice tk.kp tk.kn tk.kc] 63
      have ownm := own.out.kept gm (Classical.em _)
      have nw : ∀ l u, [Value.slice tk.kp tk.kn tk.kc][l]? = some u → Wm.cell? ((⟨wr.heap.size, 0, none⟩ : Addr).add l) = some u := World.news_of_block (cs := #[.slice tk.kp tk.kn tk.kc]) Bm
      have szm : w.heap.size ≤ Wm.heap.size := Nat.le_trans hg.out.size gm.size
      have hn6 := HNN.out
      rw [hi2] at yg2
      clear Nw htk hi2 hi
      go_wp2_with (first | (at_builtin; refine wpList_append_lies _ rfl _ _ 86 rfl w.heap.size 63 il (.slice none 0 0) 1 24 underLS HIL.out.1 HIL.out.2.1 HIL.out.2.2.1 HIL.out.2.2.2 rfl (by decide) _ k _ rfl ownm ⟨wr.heap.size, 0, none⟩ 1 1 [.slice (tk.kp) tk.kn tk.kc] rfl rfl nw (by intro u hu; simp at hu; rcases hu with rfl; rfl) (by decide) (by unfold maxLen; omega) (by omega) szm _ rfl ?_; intro ga qa wa owna gka ata lta; refine Hid.out ?_))
      refine Lib.hid ?_
      have G5 : Hid (w.grownBy wa none) := (gb_trans hg.out gm).andThen gka (fun b hb => .inl (ownm.lt b hb).1)
      have HO5 : Hid (wa.ownsRow w.heap.size 63 1 (.slice (some ⟨ga, 0, none⟩) (k + 1) qa) (k + 1) (kl (u2 t0 t1 n) (k + 1))) := by
        unfold Hid
        rw [kl_snoc, HTK.out]
        exact owna
      clear ownm nw szm gm Bm gka ata lta owna
      go_wp2
      go_roundw
      case rel => exact ⟨k + 1, some ⟨ga, 0, none⟩, qa, hlt, rfl, by go_num, HO5.out, G5.out⟩
      case measure => simp [intOf]; omega
    · have hlt' : ¬ (k : Int) < (n : Int) := by omega
      obtain rfl : n = k := by omega
      go_wp2
      have HV1 := hg.out
      obtain ⟨VA1, hVA⟩ : ∃ V, wr = V := ⟨_, rfl⟩
      rw [hVA] at HV1 own
      rw [hVA]
      clear hVA yg0 yg1 yg2 yg3 yw0 yw1 yw2 yw3 yb0 yb1 KW hg hlt hlt' hk
      obtain ⟨kpA0, hkp⟩ : ∃ q, kp = q := ⟨_, rfl⟩
      obtain ⟨kcA0, hkc⟩ : ∃ q, kc = q := ⟨_, rfl⟩
      rw [hkp, hkc] at own ⊢
      have ownA0 := own
      clear own hkp hkc
      -- round 1 of the first loop
      rw [rounds_succ]
      have GV1 : Hid (w.grownBy VA1 none) := HV1
      have KV1 : Hid (Bk VA1 B b 2 (some ⟨gg, 0, none⟩) (some ⟨gw, 0, none⟩) gc wc [.int .i64 S, .int .i64 I, .slice sp0 n c0, .int .i64 R, .int .i64 S, .int .i64 I, .slice sp1 n c1, .int .i64 R] [.int .i64 S, .int .i64 I, .slice spw n cw, .int .i64 R, .int .i64 S, .int .i64 I, .slice spw n cw, .int .i64 R]) := ⟨HB.out.lt, HB.out.box.kept HV1 (by simp), HB.out.got.kept HV1 (Classical.em _), HB.out.want.kept HV1 (Classical.em _), HB.out.ap⟩
      have xg0 : VA1.cell? ⟨gg, 4, none⟩ = some (.int .i64 S) := (KV1.out.got.cellAt 4 (by omega)).trans rfl
      have xg1 : VA1.cell? ⟨gg, 5, none⟩ = some (.int .i64 I) := (KV1.out.got.cellAt 5 (by omega)).trans rfl
      have xg2 : VA1.cell? ⟨gg, 6, none⟩ = some (.slice sp1 n c1) := (KV1.out.got.cellAt 6 (by omega)).trans rfl
      have xg3 : VA1.cell? ⟨gg, 7, none⟩ = some (.int .i64 R) := (KV1.out.got.cellAt 7 (by omega)).trans rfl
      have xw0 : VA1.cell? ⟨gw, 4, none⟩ = some (.int .i64 S) := (KV1.out.want.cellAt 4 (by omega)).trans rfl
      have xw1 : VA1.cell? ⟨gw, 5, none⟩ = some (.int .i64 I) := (KV1.out.want.cellAt 5 (by omega)).trans rfl
      have xw2 : VA1.cell? ⟨gw, 6, none⟩ = some (.slice spw n cw) := (KV1.out.want.cellAt 6 (by omega)).trans rfl
      have xw3 : VA1.cell? ⟨gw, 7, none⟩ = some (.int .i64 R) := (KV1.out.want.cellAt 7 (by omega)).trans rfl
      have xb0 := KV1.out.box.cell 0 (v := .slice (some ⟨gg, 0, none⟩) 2 gc) rfl
      have xb1 := KV1.out.box.cell 1 (v := .slice (some ⟨gw, 0, none⟩) 2 wc) rfl
      have gdr1 : w.grownBy VA1.drew none := gb_drew HV1
      have kal1 := HAL.out.2 VA1.drew gdr1
      clear HV1
      go_wp2
      go_region_held2 (fun w' => w'.cell? ⟨gg, 4, none⟩ = some (.int .i64 S) ∧ w'.cell? ⟨gg, 5, none⟩ = some (.int .i64 I) ∧ w'.cell? ⟨gg, 6, none⟩ = some (.slice sp1 n c1) ∧ w'.cell? ⟨gg, 7, none⟩ = some (.int .i64 R) ∧ w'.cell? ⟨gw, 4, none⟩ = some (.int .i64 S) ∧ w'.cell? ⟨gw, 5, none⟩ = some (.int .i64 I) ∧ w'.cell? ⟨gw, 6, none⟩ = some (.slice spw n cw) ∧ w'.cell? ⟨gw, 7, none⟩ = some (.int .i64 R) ∧ w'.cell? ⟨b, 0, none⟩ = some (.slice (some ⟨gg, 0, none⟩) 2 gc) ∧ w'.cell? ⟨b, 1, none⟩ = some (.slice (some ⟨gw, 0, none⟩) 2 wc)) (go_keep) (first | (go_at_call 37; refine kal1.mono ?_; rintro e X1 ⟨rfl, gX1⟩; have gk1 := gb_trans gdr1 gX1; have og1 := HB.out.got.kept gk1 (Classical.em _); have ow1 := HB.out.want.kept gk1 (Classical.em _); have ob1 := HB.out.box.kept gk1 (by simp); have zg0 : X1.cell? ⟨gg, 4, none⟩ = some (.int .i64 S) := (og1.cellAt 4 (by omega)).trans rfl; have zg1 : X1.cell? ⟨gg, 5, none⟩ = some (.int .i64 I) := (og1.cellAt 5 (by omega)).trans rfl; have zg2 : X1.cell? ⟨gg, 6, none⟩ = some (.slice sp1 n c1) := (og1.cellAt 6 (by omega)).trans rfl; have zg3 : X1.cell? ⟨gg, 7, none⟩ = some (.int .i64 R) := (og1.cellAt 7 (by omega)).trans rfl; have zw0 : X1.cell? ⟨gw, 4, none⟩ = some (.int .i64 S) := (ow1.cellAt 4 (by omega)).trans rfl; have zw1 : X1.cell? ⟨gw, 5, none⟩ = some (.int .i64 I) := (ow1.cellAt 5 (by omega)).trans rfl; have zw2 : X1.cell? ⟨gw, 6, none⟩ = some (.slice spw n cw) := (ow1.cellAt 6 (by omega)).trans rfl; have zw3 : X1.cell? ⟨gw, 7, none⟩ = some (.int .i64 R) := (ow1.cellAt 7 (by omega)).trans rfl; have zb0 := ob1.cell 0 (v := .slice (some ⟨gg, 0, none⟩) 2 gc) rfl; have zb1 := ob1.cell 1 (v := .slice (some ⟨gw, 0, none⟩) 2 wc) rfl))
      have GX1 : Hid (w.grownBy X1 none) := gb_trans gdr1 gX1
      have HX1 : VA1.grownBy X1 none := gb_trans (gb_drew (World.grownBy.refl VA1 none)) gX1
      clear kal1 gdr1 gX1 gk1 og1 ow1 ob1 xg0 xw0 zg0 zw0 xg1 xw1 zg1 zw1 xg2 xw2 zg2 zw2 xg3 xw3 zg3 zw3 xb0 xb1 zb0 zb1
      go_wp2
      go_loopw [3, 6] (fun v3 v6 wr => ∃ (k : Nat) (kp : Option Addr) (kc : Nat), k ≤ n ∧ v3 = .slice kp (n + k) kc ∧ v6 = .int .i64 (k : Nat) ∧ Hid (wr.ownsRow w.heap.size 63 1 (.slice kp (n + k) kc) (n + k) (kl (u2 t0 t1 n) (n + k))) ∧ Hid (w.grownBy wr none)) (fun _ v6 _ => n - (intOf v6).toNat)
      case atStart => exact ⟨0, kpA0, kcA0, Nat.zero_le _, rfl, rfl, ownA0.out.kept HX1 (Classical.em _), GX1.out⟩
      case round =>
        obtain ⟨k, kp, kc, hk, rfl, rfl, own, hg⟩ := hrel
        have KW : Hid (Bk wr B b 2 (some ⟨gg, 0, none⟩) (some ⟨gw, 0, none⟩) gc wc [.int .i64 S, .int .i64 I, .slice sp0 n c0, .int .i64 R, .int .i64 S, .int .i64 I, .slice sp1 n c1, .int .i64 R] [.int .i64 S, .int .i64 I, .slice spw n cw, .int .i64 R, .int .i64 S, .int .i64 I, .slice spw n cw, .int .i64 R]) := ⟨HB.out.lt, HB.out.box.kept hg.out (by simp), HB.out.got.kept hg.out (Classical.em _), HB.out.want.kept hg.out (Classical.em _), HB.out.ap⟩
        have yg0 : wr.cell? ⟨gg, 4, none⟩ = some (.int .i64 S) := (KW.out.got.cellAt 4 (by omega)).trans rfl
        have yg1 : wr.cell? ⟨gg, 5, none⟩ = some (.int .i64 I) := (KW.out.got.cellAt 5 (by omega)).trans rfl
        have yg2 : wr.cell? ⟨gg, 6, none⟩ = some (.slice sp1 n c1) := (KW.out.got.cellAt 6 (by omega)).trans rfl
        have yg3 : wr.cell? ⟨gg, 7, none⟩ = some (.int .i64 R) := (KW.out.got.cellAt 7 (by omega)).trans rfl
        have yw0 : wr.cell? ⟨gw, 4, none⟩ = some (.int .i64 S) := (KW.out.want.cellAt 4 (by omega)).trans rfl
        have yw1 : wr.cell? ⟨gw, 5, none⟩ = some (.int .i64 I) := (KW.out.want.cellAt 5 (by omega)).trans rfl
        have yw2 : wr.cell? ⟨gw, 6, none⟩ = some (.slice spw n cw) := (KW.out.want.cellAt 6 (by omega)).trans rfl
        have yw3 : wr.cell? ⟨gw, 7, none⟩ = some (.int .i64 R) := (KW.out.want.cellAt 7 (by omega)).trans rfl
        have yb0 := KW.out.box.cell 0 (v := .slice (some ⟨gg, 0, none⟩) 2 gc) rfl
        have yb1 := KW.out.box.cell 1 (v := .slice (some ⟨gw, 0, none⟩) 2 wc) rfl
        by_cases hlt : k < n
        · have hlt' : (k : Int) < (n : Int) := by omega
          have Nw := HN1.out.kept hg.out (Classical.em _)
          obtain ⟨gi, ci, hi⟩ : ∃ g c, Value.slice sp1 n c1 = .slice (some ⟨g, 0, none⟩) n c := Joins.ownsRow_form Nw (by omega)
          have hi2 : sp1 = some ⟨gi, 0, none⟩ := by cases hi; rfl
          obtain ⟨tk, htk⟩ : ∃ tk, t1 k = tk := ⟨_, rfl⟩
          have hcell : wr.cell? ⟨gi, k * 2 + 1, none⟩ = some (.slice tk.kp tk.kn tk.kc) := by
            rw [hi2] at Nw
            rw [Nw.cellAt (k * 2 + 1) (by omega), (ndW_get t1 hlt).2, htk]
          have HTK : Hid (u2 t0 t1 n (n + k) = tk) := by unfold u2 Hid; rw [if_neg (by omega), Nat.add_sub_cancel_left]; exact htk
          obtain ⟨Wm, hWm, szm', gm, Bm⟩ := boxn wr #[.slice tk.kp tk.kn tk.kc] 63
          have ownm := own.out.kept gm (Classical.em _)
          have nw : ∀ l u, [Value.slice tk.kp tk.kn tk.kc][l]? = some u → Wm.cell? ((⟨wr.heap.size, 0, none⟩ : Addr).add l) = some u := World.news_of_block (cs := #[.slice tk.kp tk.kn tk.kc]) Bm
          have szm : w.heap.size ≤ Wm.heap.size := Nat.le_trans hg.out.size gm.size
          have hn6 := HNN.out
          rw [hi2] at yg2
          clear Nw htk hi2 hi
          go_wp2_with (first | (at_builtin; refine wpList_append_lies _ rfl _ _ 86 rfl w.heap.size 63 il (.slice none 0 0) 1 24 underLS HIL.out.1 HIL.out.2.1 HIL.out.2.2.1 HIL.out.2.2.2 rfl (by decide) _ (n + k) _ rfl ownm ⟨wr.heap.size, 0, none⟩ 1 1 [.slice (tk.kp) tk.kn tk.kc] rfl rfl nw (by intro u hu; simp at hu; rcases hu with rfl; rfl) (by decide) (by unfold maxLen; omega) (by omega) szm _ rfl ?_; intro ga qa wa owna gka ata lta; refine Hid.out ?_))
          refine Lib.hid ?_
          have G5 : Hid (w.grownBy wa none) := (gb_trans hg.out gm).andThen gka (fun b hb => .inl (ownm.lt b hb).1)
          have HO5 : Hid (wa.ownsRow w.heap.size 63 1 (.slice (some ⟨ga, 0, none⟩) ((n + k) + 1) qa) ((n + k) + 1) (kl (u2 t0 t1 n) ((n + k) + 1))) := by
            unfold Hid
            rw [kl_snoc, HTK.out]
            exact owna
          clear ownm nw szm gm Bm gka ata lta owna
          go_wp2
          go_roundw
          case rel => exact ⟨k + 1, some ⟨ga, 0, none⟩, qa, hlt, rfl, by go_num, HO5.out, G5.out⟩
          case measure => simp [intOf]; omega
        · have hlt' : ¬ (k : Int) < (n : Int) := by omega
          obtain rfl : n = k := by omega
          go_wp2
          have HV2 := hg.out
          obtain ⟨VA2, hVA⟩ : ∃ V, wr = V := ⟨_, rfl⟩
          rw [hVA] at HV2 own
          rw [hVA]
          clear hVA yg0 yg1 yg2 yg3 yw0 yw1 yw2 yw3 yb0 yb1 KW hg hlt hlt' hk
          obtain ⟨kpA1, hkp⟩ : ∃ q, kp = q := ⟨_, rfl⟩
          obtain ⟨kcA1, hkc⟩ : ∃ q, kc = q := ⟨_, rfl⟩
          rw [hkp, hkc] at own ⊢
          have ownA1 := own
          clear own hkp hkc
          rw [rounds_succ]
          have HVA2 : Hid (w.grownBy VA2 none) := HV2
          have OWK0 : Hid (VA2.ownsRow w.heap.size 63 1 (.slice kpA1 (n + n) kcA1) (n + n) (kl (u2 t0 t1 n) (n + n))) := ownA1.out
          have KS0 : Hid (Ks VA2 B1 (u2 t0 t1 n) (n + n)) := HKU.out.1.kept HV2 (by simp)
          have IN0 : Hid (Inc (u2 t0 t1 n) (n + n)) := HKU.out.2
          have KNL0 : Hid (∀ i, i < n + n → (u2 t0 t1 n i).kn ≤ 1048576) := fun i hi => by
            unfold u2
            split
            · exact (HKN.out i (by assumption)).1
            · exact (HKN.out (i - n) (by omega)).2
          obtain ⟨K, hK⟩ : ∃ K, n + n = K := ⟨_, rfl⟩
          obtain ⟨u, hu⟩ : ∃ u, u2 t0 t1 n = u := ⟨_, rfl⟩
          have HUU : Hid (u2 t0 t1 n = u ∧ n + n = K) := ⟨hu, hK⟩
          rw [hK] at OWK0 KS0 IN0 KNL0 ⊢
          rw [hu] at OWK0 KS0 IN0 KNL0
          have HKL : Hid (K ≤ 131072) := by have := HNN.out; unfold Hid; omega
          have bx0 := (HB.out.box.kept HV2 (by simp)).cell 0 (v := .slice (some ⟨gg, 0, none⟩) 2 gc) rfl
          clear HV2 ownA1 ownA0 HX1 hK hu GX0 GX1 HX0 GV0 GV1 KV0 KV1
          go_wp2
          clear bx0
          have INE : Hid (∀ i j, i < K → j < K → i ≠ j → (Value.slice (u j).kp (u j).kn (u j).kc).ownBlock = none ∨ (Value.slice (u j).kp (u j).kn (u j).kc).ownBlock ≠ (Value.slice (u i).kp (u i).kn (u i).kc).ownBlock) := fun i j hi hj hne => by
            cases e1 : (Value.slice (u j).kp (u j).kn (u j).kc).ownBlock with
            | none => exact .inl rfl
            | some p =>
              refine .inr fun e2 => ?_
              rcases Nat.lt_or_ge i j with q | q
              · have := IN0.out i j q hj p p e2.symm e1; omega
              · have := IN0.out j i (by omega) hi p p e1 e2.symm; omega
          go_loopw [7] (fun v wr => ∃ i : Nat, i ≤ K ∧ v = .int .i64 (i : Nat) ∧ Hid (∀ j, j < i → wr.ownsRow B1 3 1 (.slice (u j).kp (u j).kn (u j).kc) (u j).kn (mk (u j).kn ((1000 + j : Nat) : Int))) ∧ Hid (∀ j, i ≤ j → j < K → wr.ownsRow B1 3 1 (.slice (u j).kp (u j).kn (u j).kc) (u j).kn (kidsV (u j).kf (u j).kn)) ∧ Hid (Gt 3 B1 VA2 wr)) (fun v _ => K - (intOf v).toNat)
          case atStart => exact ⟨0, Nat.zero_le _, rfl, fun j hj => absurd hj (Nat.not_lt_zero _), fun j _ hj => KS0.out j hj, Gt.refl _ _ _⟩
          case round =>
            obtain ⟨i, hi, rfl, hfl, hre, hgt⟩ := hrel
            by_cases hlt : i < K
            · have hlt' : (i : Int) < (K : Int) := by omega
              have OW := hgt.out.row OWK0.out (by decide)
              obtain ⟨gk, ck, hk⟩ : ∃ g c, Value.slice kpA1 K kcA1 = .slice (some ⟨g, 0, none⟩) K c := Joins.ownsRow_form OW (by omega)
              have hk2 : kpA1 = some ⟨gk, 0, none⟩ := by cases hk; rfl
              have hcell : wr.cell? ⟨gk, i, none⟩ = some (.slice (u i).kp (u i).kn (u i).kc) := by
                rw [hk2] at OW
                rw [OW.cellAt i (by omega), kl_get u hlt]
              have hkl := HKL.out
              have hw1 : IntKind.i64.wrap (1000 + (i : Int)) = ((1000 + i : Nat) : Int) := by rw [IntKind.wrap_i64]; omega
              have hkn := KNL0.out i hlt
              have kfl := fillC B1 (u i).kp (u i).kn (u i).kc (by omega) ((1000 + i : Nat) : Int) _ wr (hre.out i (Nat.le_refl _) hlt)
              obtain ⟨kpi, hkp⟩ : ∃ x, (u i).kp = x := ⟨_, rfl⟩
              obtain ⟨kni, hkni⟩ : ∃ x, (u i).kn = x := ⟨_, rfl⟩
              obtain ⟨kci, hkc⟩ : ∃ x, (u i).kc = x := ⟨_, rfl⟩
              have HUI : Hid ((u i).kp = kpi ∧ (u i).kn = kni ∧ (u i).kc = kci) := ⟨hkp, hkni, hkc⟩
              have hown : Hid (wr.ownsRow B1 3 1 (.slice (u i).kp (u i).kn (u i).kc) (u i).kn (kidsV (u i).kf (u i).kn)) := hre.out i (Nat.le_refl _) hlt
              rw [hkp, hkni, hkc] at hcell kfl
              rw [hk2]
              clear hkp hkni hkc hkn OW hk hk2
              go_wp2_with (first | (go_at_call 42; refine kfl.mono ?_; rintro e w2 ⟨rfl, ho, hg⟩))
              have ho2 : w2.ownsRow B1 3 1 (.slice (u i).kp (u i).kn (u i).kc) (u i).kn (mk (u i).kn ((1000 + i : Nat) : Int)) := by rw [HUI.out.1, HUI.out.2.1, HUI.out.2.2]; exact ho
              have hg2 : wr.grownBy w2 (Value.slice (u i).kp (u i).kn (u i).kc).ownBlock := by rw [HUI.out.1, HUI.out.2.1, HUI.out.2.2]; exact hg
              go_roundw
              case rel =>
                refine ⟨i + 1, hlt, by go_num, fun j hj => ?_, fun j hj hjk => (hre.out j (by omega) hjk).kept hg2 (INE.out i j hlt hjk (by omega)), hgt.out.trans (Gt.own hown.out hg2)⟩
                by_cases e : j = i
                · subst e; exact ho2
                · exact (hfl.out j (by omega)).kept hg2 (INE.out i j hlt (by omega) (Ne.symm e))
              case measure => simp [intOf]; omega
            · have hlt' : ¬ (i : Int) < (K : Int) := by omega
              obtain rfl : K = i := by omega
              obtain ⟨VC, hVC⟩ : ∃ V, wr = V := ⟨_, rfl⟩
              have HGC : Hid (Gt 3 B1 VA2 VC) := by rw [← hVC]; exact hgt
              have HFC : Hid (∀ j, j < K → VC.ownsRow B1 3 1 (.slice (u j).kp (u j).kn (u j).kc) (u j).kn (mk (u j).kn ((1000 + j : Nat) : Int))) := by rw [← hVC]; exact hfl
              rw [hVC]
              clear hVC hfl hre hgt hlt hlt' hi
              have HVL : Hid (∀ j, j < K → ∀ p, (Value.slice (u j).kp (u j).kn (u j).kc).ownBlock = some p → p < VC.heap.size) := fun j hj p hp => ((HFC.out j hj).lt p hp).2
              have HBC : Hid (B1 ≤ VC.heap.size) := Nat.le_trans HBB.out (Nat.le_trans HVA2.out.size HGC.out.size)
              go_wp2
              go_loopw [8, 9] (fun v8 v9 wr => ∃ (i : Nat) (lp : Option Addr) (lc : Nat) (gu qu : Nat → Nat), i ≤ K ∧ v8 = .slice lp i lc ∧ v9 = .int .i64 (i : Nat) ∧ Hid (wr.ownsRow VC.heap.size 63 1 (.slice lp i lc) i ((List.range i).map fun j => (.slice (some ⟨gu j, 0, none⟩) ((u j).kn + 70) (qu j)))) ∧ Hid (∀ j, j < i → wr.ownsRow B1 3 1 (.slice (some ⟨gu j, 0, none⟩) ((u j).kn + 70) (qu j)) ((u j).kn + 70) (mk ((u j).kn + 70) ((1000 + j : Nat) : Int)) ∧ In wr (u j).kp (u j).kn (fun _ => ((1000 + j : Nat) : Int)) ∧ ((Value.slice (u j).kp (u j).kn (u j).kc).ownBlock = some (gu j) ∨ VC.heap.size ≤ gu j)) ∧ Hid (∀ j, i ≤ j → j < K → wr.ownsRow B1 3 1 (.slice (u j).kp (u j).kn (u j).kc) (u j).kn (mk (u j).kn ((1000 + j : Nat) : Int))) ∧ Hid (Gt 3 B1 VC wr)) (fun _ v9 _ => K - (intOf v9).toNat)
              case atStart => exact ⟨0, none, 0, fun _ => 0, fun _ => 0, Nat.zero_le _, rfl, rfl, World.ownsRow_nil _ _ _ _, fun j hj => absurd hj (Nat.not_lt_zero _), fun j _ hj => HFC.out j hj, Gt.refl _ _ _⟩
              case round =>
                obtain ⟨i, lp, lc, gu, qu, hi, rfl, rfl, hlo, hdn, hre, hgt⟩ := hrel
                by_cases hlt : i < K
                · have hlt' : (i : Int) < (K : Int) := by omega
                  have OW := (HGC.out.trans hgt.out).row OWK0.out (by decide)
                  obtain ⟨gk, ck, hk⟩ : ∃ g c, Value.slice kpA1 K kcA1 = .slice (some ⟨g, 0, none⟩) K c := Joins.ownsRow_form OW (by omega)
                  have hk2 : kpA1 = some ⟨gk, 0, none⟩ := by cases hk; rfl
                  have hcell : wr.cell? ⟨gk, i, none⟩ = some (.slice (u i).kp (u i).kn (u i).kc) := by
                    rw [hk2] at OW
                    rw [OW.cellAt i (by omega), kl_get u hlt]
                  have hkl := HKL.out
                  have hw1 : IntKind.i64.wrap (1000 + (i : Int)) = ((1000 + i : Nat) : Int) := by rw [IntKind.wrap_i64]; omega
                  have hkn := KNL0.out i hlt
                  have hown : Hid (wr.ownsRow B1 3 1 (.slice (u i).kp (u i).kn (u i).kc) (u i).kn (mk (u i).kn ((1000 + i : Nat) : Int))) := hre.out i (Nat.le_refl _) hlt
                  have kgr := grownC B1 (u i).kp (u i).kn (u i).kc (by omega) ((1000 + i : Nat) : Int) wr (Nat.le_trans HBC.out hgt.out.size) hown.out
                  obtain ⟨kpi, hkp⟩ : ∃ x, (u i).kp = x := ⟨_, rfl⟩
                  obtain ⟨kni, hkni⟩ : ∃ x, (u i).kn = x := ⟨_, rfl⟩
                  obtain ⟨kci, hkc⟩ : ∃ x, (u i).kc = x := ⟨_, rfl⟩
                  have HUI : Hid ((u i).kp = kpi ∧ (u i).kn = kni ∧ (u i).kc = kci) := ⟨hkp, hkni, hkc⟩
                  rw [hkp, hkni, hkc] at hcell kgr
                  rw [hk2]
                  clear hkp hkni hkc hkn OW hk hk2
                  go_wp2_with (first | (go_at_call 43; refine kgr.mono ?_; rintro e w3 ⟨gz, qz, rfl, ho, hin, hg, hcase⟩; refine Hid.out ?_))
                  refine Lib.hid ?_
                  clear kgr hcell
                  rw [← HUI.out.1, ← HUI.out.2.1, ← HUI.out.2.2] at hg hcase
                  rw [← HUI.out.1, ← HUI.out.2.1] at hin
                  rw [← HUI.out.2.1] at ho
                  rw [← HUI.out.2.1]
                  have hlo3 := (Gt.own (e := 3) (B := B1) hown.out hg).row hlo.out (by decide)
                  obtain ⟨Wm, hWm, szm', gm, Bm⟩ := boxn w3 #[.slice (some ⟨gz, 0, none⟩) ((u i).kn + 70) qz] 63
                  have ownm := hlo3.kept gm (Classical.em _)
                  have nw : ∀ l u', [Value.slice (some ⟨gz, 0, none⟩) ((u i).kn + 70) qz][l]? = some u' → Wm.cell? ((⟨w3.heap.size, 0, none⟩ : Addr).add l) = some u' := World.news_of_block (cs := #[.slice (some ⟨gz, 0, none⟩) ((u i).kn + 70) qz]) Bm
                  have szm : VC.heap.size ≤ Wm.heap.size := Nat.le_trans hgt.out.size (Nat.le_trans hg.size gm.size)
                  go_wp2_with (first | (at_builtin; refine wpList_append_lies _ rfl _ _ 86 rfl VC.heap.size 63 il (.slice none 0 0) 1 24 underLS HIL.out.1 HIL.out.2.1 HIL.out.2.2.1 HIL.out.2.2.2 rfl (by decide) _ i _ rfl ownm ⟨w3.heap.size, 0, none⟩ 1 1 [.slice (some ⟨gz, 0, none⟩) ((u i).kn + 70) qz] rfl rfl nw (by intro u hu; simp at hu; rcases hu with rfl; rfl) (by decide) (by unfold maxLen; omega) (by omega) szm _ rfl ?_; intro ga qa wa owna gka ata lta; refine Hid.out ?_))
                  refine Lib.hid ?_
                  have gka : Wm.grownBy wa (Value.slice lp i lc).ownBlock := gka
                  have hlb : ∀ p, (Value.slice lp i lc).ownBlock = some p → VC.heap.size ≤ p := fun p hp => (ownm.lt p hp).1
                  have st3 : ∀ {B' n' : Nat} {v : Value} {xs : List Value}, w3.ownsRow B' 3 1 v n' xs → wa.ownsRow B' 3 1 v n' xs := fun {B' n' v xs} ho' => (ho'.kept gm (Classical.em _)).kept gka (own_two2 ownm (ho'.kept gm (Classical.em _)))
                  have inm : ∀ {sp : Option Addr} {m' : Nat} {f : Nat → Int}, In w3 sp m' f → (∀ a, sp = some a → 0 < m' → a.block < VC.heap.size) → In wa sp m' f := fun {sp m' f} h1 h2 k hk => by
                    obtain ⟨a, ha, hc⟩ := h1 k hk
                    refine ⟨a, ha, gka.cell (gm.cell hc (by simp)) (fun q => ?_)⟩
                    have := hlb _ q.symm
                    have h3 := h2 a ha (by omega)
                    have : (a.add k).block = a.block := by unfold Addr.add; split <;> rfl
                    omega
                  have GA : Gt 3 B1 VC wa := ((hgt.out.trans (Gt.own hown.out hg)).new gm (by simp)).new gka hlb
                  clear nw szm Bm ata lta
                  go_wp2
                  go_roundw
                  case rel =>
                    let gu' : Nat → Nat := fun k => if k = i then gz else gu k
                    let qu' : Nat → Nat := fun k => if k = i then qz else qu k
                    have e1 : ∀ k, k < i → gu' k = gu k ∧ qu' k = qu k := fun k hk => by simp [gu', qu', show k ≠ i by omega]
                    have e2 : gu' i = gz ∧ qu' i = qz := by simp [gu', qu']
                    refine ⟨i + 1, some ⟨ga, 0, none⟩, qa, gu', qu', hlt, rfl, by go_num, ?_, fun j hj => ?_, fun j hj hjk => st3 ((hre.out j (by omega) hjk).kept hg (INE.out i j hlt hjk (by omega))), GA⟩
                    · show World.ownsRow _ _ _ _ _ _ _
                      rw [List.range_succ, List.map_append]
                      have e3 : (List.range i).map (fun j => Value.slice (some ⟨gu' j, 0, none⟩) ((u j).kn + 70) (qu' j)) = (List.range i).map fun j => (.slice (some ⟨gu j, 0, none⟩) ((u j).kn + 70) (qu j)) := List.map_congr_left fun j hj => by rw [(e1 j (List.mem_range.1 hj)).1, (e1 j (List.mem_range.1 hj)).2]
                      rw [e3]
                      show World.ownsRow _ _ _ _ _ _ (_ ++ [Value.slice (some ⟨gu' i, 0, none⟩) ((u i).kn + 70) (qu' i)])
                      rw [e2.1, e2.2]
                      exact owna
                    · have hsp : ∀ j, j < K → ∀ a, (u j).kp = some a → 0 < (u j).kn → a.block < VC.heap.size := fun j hjk a ha h0 => HVL.out j hjk a.block (by rw [ha]; rfl)
                      by_cases e : j = i
                      · subst e
                        rw [e2.1, e2.2]
                        refine ⟨st3 ho, inm hin (hsp j hlt), ?_⟩
                        rcases hcase with q | q
                        · exact .inl q
                        · exact .inr (Nat.le_trans hgt.out.size q)
                      · have hj2 : j < i := by omega
                        obtain ⟨d1, d2, d3⟩ := hdn.out j hj2
                        rw [(e1 j hj2).1, (e1 j hj2).2]
                        have ne1 := INE.out i j hlt (by omega) (Ne.symm e)
                        have d1' : w3.ownsRow B1 3 1 (.slice (some ⟨gu j, 0, none⟩) ((u j).kn + 70) (qu j)) ((u j).kn + 70) (mk ((u j).kn + 70) ((1000 + j : Nat) : Int)) := d1.kept hg (.inr fun q => by
                          have q2 : (Value.slice (u i).kp (u i).kn (u i).kc).ownBlock = some (gu j) := q.symm
                          rcases d3 with r1 | r1
                          · rcases ne1 with r2 | r2
                            · rw [r1] at r2; cases r2
                            · exact r2 (by rw [r1, q2])
                          · have := HVL.out i hlt _ q2; omega)
                        have d2' : In w3 (u j).kp (u j).kn (fun _ => ((1000 + j : Nat) : Int)) := fun k hk => by
                          obtain ⟨a, ha, hc⟩ := d2 k hk
                          refine ⟨a, ha, hg.cell hc (fun q => ?_)⟩
                          have hbk : (a.add k).block = a.block := by unfold Addr.add; split <;> rfl
                          rcases ne1 with r2 | r2
                          · rw [ha] at r2; cases r2
                          · exact r2 (by rw [← q, hbk, ha]; rfl)
                        exact ⟨st3 d1', inm d2' (hsp j (by omega)), d3⟩
                  case measure => simp [intOf]; omega
                · have hlt' : ¬ (i : Int) < (K : Int) := by omega
                  obtain rfl : K = i := by omega
                  obtain ⟨VD, hVD⟩ : ∃ V, wr = V := ⟨_, rfl⟩
                  have HGD : Hid (Gt 3 B1 VA2 VD) := by rw [← hVD]; exact HGC.out.trans hgt.out
                  have HLD : Hid (VD.ownsRow VC.heap.size 63 1 (.slice lp K lc) K ((List.range K).map fun j => (.slice (some ⟨gu j, 0, none⟩) ((u j).kn + 70) (qu j)))) := by rw [← hVD]; exact hlo
                  have HDD : Hid (∀ j, j < K → VD.ownsRow B1 3 1 (.slice (some ⟨gu j, 0, none⟩) ((u j).kn + 70) (qu j)) ((u j).kn + 70) (mk ((u j).kn + 70) ((1000 + j : Nat) : Int)) ∧ In VD (u j).kp (u j).kn (fun _ => ((1000 + j : Nat) : Int))) := by rw [← hVD]; exact fun j hj => ⟨(hdn.out j hj).1, (hdn.out j hj).2.1⟩
                  rw [hVD]
                  clear hVD hlo hdn hre hgt hlt hlt' hi
                  go_wp2
                  go_loopw [11] (fun v wr => ∃ i : Nat, i ≤ K ∧ v = .int .i64 (i : Nat) ∧ Hid (VD.grownBy wr none)) (fun v _ => K - (intOf v).toNat)
                  case atStart => exact ⟨0, Nat.zero_le _, rfl, World.grownBy.refl _ _⟩
                  case round =>
                    obtain ⟨i, hi, rfl, hg⟩ := hrel
                    by_cases hlt : i < K
                    · have hlt' : (i : Int) < (K : Int) := by omega
                      have OW := (HGD.out.trans (Gt.nil0 hg.out)).row OWK0.out (by decide)
                      obtain ⟨gk, ck, hk⟩ : ∃ g c, Value.slice kpA1 K kcA1 = .slice (some ⟨g, 0, none⟩) K c := Joins.ownsRow_form OW (by omega)
                      have hk2 : kpA1 = some ⟨gk, 0, none⟩ := by cases hk; rfl
                      have hcell : wr.cell? ⟨gk, i, none⟩ = some (.slice (u i).kp (u i).kn (u i).kc) := by
                        rw [hk2] at OW
                        rw [OW.cellAt i (by omega), kl_get u hlt]
                      have OL := HLD.out.kept hg.out (Classical.em _)
                      obtain ⟨gl, cl, hl⟩ : ∃ g c, Value.slice lp K lc = .slice (some ⟨g, 0, none⟩) K c := Joins.ownsRow_form OL (by omega)
                      have hl2 : lp = some ⟨gl, 0, none⟩ := by cases hl; rfl
                      have hUc : ∀ V, VD.grownBy V none → V.cell? ⟨gl, i, none⟩ = some (.slice (some ⟨gu i, 0, none⟩) ((u i).kn + 70) (qu i)) := fun V hV => by
                        have OL2 := HLD.out.kept hV (Classical.em _)
                        rw [hl2] at OL2
                        rw [OL2.cellAt i (by omega)]
                        simp [hlt]
                      have hkl := HKL.out
                      have hw1 : IntKind.i64.wrap (1000 + (i : Int)) = ((1000 + i : Nat) : Int) := by rw [IntKind.wrap_i64]; omega
                      have hkn := KNL0.out i hlt
                      have km1 := markedC (u i).kp (u i).kn (u i).kc (by omega) ((1000 + i : Nat) : Int) wr ((HDD.out i hlt).2.kept hg.out (by simp))
                      have km2 : ∀ V, VD.grownBy V none → _ := fun V hV => markedC (some ⟨gu i, 0, none⟩) ((u i).kn + 70) (qu i) (by omega) ((1000 + i : Nat) : Int) V (own_mk ((HDD.out i hlt).1.kept hV (Classical.em _)))
                      obtain ⟨kpi, hkp⟩ : ∃ x, (u i).kp = x := ⟨_, rfl⟩
                      obtain ⟨kni, hkni⟩ : ∃ x, (u i).kn = x := ⟨_, rfl⟩
                      obtain ⟨kci, hkc⟩ : ∃ x, (u i).kc = x := ⟨_, rfl⟩
                      rw [hkp, hkni, hkc] at hcell km1
                      have hUc2 : Hid (∀ V, VD.grownBy V none → V.cell? ⟨gl, i, none⟩ = some (.slice (some ⟨gu i, 0, none⟩) (kni + 70) (qu i))) := by rw [← hkni]; exact hUc
                      rw [hkni] at km2
                      rw [hk2, hl2]
                      clear hkp hkni hkc hkn OW hk hk2 OL hl hl2 hUc
                      go_wp2_with (first | (go_at_call 44; (fail_if_success (guard_hyp gm1)); refine km1.mono ?_; rintro e w2 ⟨rfl, gm1⟩; have gD2 := gb_trans hg.out gm1; have km2' := km2 w2 gD2; have lc2 := hUc2.out w2 gD2; clear km1 km2) | (go_at_call 44; guard_hyp gm1; refine km2'.mono ?_; rintro e w3 ⟨rfl, gm2⟩))
                      go_roundw
                      case rel => exact ⟨i + 1, hlt, by go_num, gb_trans gD2 gm2⟩
                      case measure => simp [intOf]; omega
                    · have hlt' : ¬ (i : Int) < (K : Int) := by omega
                      obtain rfl : K = i := by omega
                      obtain ⟨VE0, hVE⟩ : ∃ V, wr = V := ⟨_, rfl⟩
                      have HGG : Hid (Gt 3 B1 VA2 VE0) := by rw [← hVE]; exact HGD.out.trans (Gt.nil0 hg.out)
                      rw [hVE]
                      clear hVE hg hlt hlt' hi HLD HDD HGD
                      have HM0 : Hid (VE0.ownsRow B1 69 2 (.slice sp0 n c0) n (ndW t0 n)) := HGG.out.row (HN0.out.kept HVA2.out (Classical.em _)) (by decide)
                      have HM01 : Hid (VE0.ownsRow B1 69 2 (.slice sp1 n c1) n (ndW t1 n)) := HGG.out.row (HN1.out.kept HVA2.out (Classical.em _)) (by decide)
                      have HBE0 : Hid (Bk VE0 B b 2 (some ⟨gg, 0, none⟩) (some ⟨gw, 0, none⟩) gc wc [.int .i64 S, .int .i64 I, .slice sp0 n c0, .int .i64 R, .int .i64 S, .int .i64 I, .slice sp1 n c1, .int .i64 R] [.int .i64 S, .int .i64 I, .slice spw n cw, .int .i64 R, .int .i64 S, .int .i64 I, .slice spw n cw, .int .i64 R]) := ⟨HB.out.lt, HGG.out.bo (HB.out.box.kept HVA2.out (by simp)) (by decide), HGG.out.row (HB.out.got.kept HVA2.out (Classical.em _)) (by decide), HGG.out.row (HB.out.want.kept HVA2.out (Classical.em _)) (by decide), HB.out.ap⟩
                      have HAP2 : Hid ((Value.slice sp0 n c0).ownBlock = none ∨ (Value.slice sp0 n c0).ownBlock ≠ (Value.slice sp1 n c1).ownBlock) := by
                        rcases HAP.out with q | q
                        · cases e : (Value.slice sp0 n c0).ownBlock with
                          | none => exact .inl rfl
                          | some p => exact .inr (by rw [q]; simp)
                        · exact .inr (Ne.symm q)
                      clear OWK0 KS0 IN0 INE
                      go_wp2
                      refine wp_loop_rounds 3 ?_
                      -- round 0 of the nodes' loop
                      rw [rounds_succ]
                      have eb0 := HBE0.out.box.cell 0 (v := .slice (some ⟨gg, 0, none⟩) 2 gc) rfl
                      have eg0 : VE0.cell? ⟨gg, 2, none⟩ = some (.slice sp0 n c0) := (HBE0.out.got.cellAt 2 (by omega)).trans rfl
                      go_wp2
                      clear eb0 eg0
                      go_loopw [16] (fun v wr => ∃ (k : Nat) (ys : List Value), k ≤ n ∧ v = .int .i64 (k : Nat) ∧ Hid (ys.length = (n - k) * 2) ∧ Hid (wr.ownsRow B1 69 2 (.slice sp0 n c0) n (mn k 1 ++ ys)) ∧ Hid (VE0.grownBy wr (Value.slice sp0 n c0).ownBlock)) (fun v _ => n - (intOf v).toNat)
                      case atStart => exact ⟨0, ndW t0 n, Nat.zero_le _, rfl, by unfold Hid; rw [ndW_len]; omega, HM0.out, World.grownBy.refl _ _⟩
                      case round =>
                        obtain ⟨k, ys, hk, rfl, hyl, ho, hg⟩ := hrel
                        by_cases hlt : k < n
                        · have hlt' : (k : Int) < (n : Int) := by omega
                          obtain ⟨y0, y1, zs, rfl⟩ : ∃ y0 y1 zs, ys = y0 :: y1 :: zs := by
                            have h := hyl.out
                            match ys, h with
                            | [], h => simp at h; omega
                            | [a], h => simp at h; omega
                            | a :: b :: zs, _ => exact ⟨a, b, zs, rfl⟩
                          obtain ⟨gi, ci, hi⟩ : ∃ g c, Value.slice sp0 n c0 = .slice (some ⟨g, 0, none⟩) n c := Joins.ownsRow_form ho.out (by omega)
                          have hi2 : sp0 = some ⟨gi, 0, none⟩ := by cases hi; rfl
                          have hml := mn_len k 1
                          have ho1 : wr.ownsRow B1 69 2 (.slice (some ⟨gi, 0, none⟩) n c0) n (mn k 1 ++ y0 :: y1 :: zs) := by rw [← hi2]; exact ho.out
                          have q0 : wr.cell? ⟨gi, k * 2, none⟩ = some y0 := by
                            rw [ho1.cellAt (k * 2) (by omega), List.getElem?_append_right (by omega), hml, Nat.sub_self]; rfl
                          have q1 : wr.cell? ⟨gi, k * 2 + 1, none⟩ = some y1 := by
                            rw [ho1.cellAt (k * 2 + 1) (by omega), List.getElem?_append_right (by omega), hml, Nat.add_sub_cancel_left]; rfl
                          have qf0 := ho1.frozenAt (k * 2)
                          have qf1 := ho1.frozenAt (k * 2 + 1)
                          have HO2 : Hid (((wr.setCell ⟨gi, k * 2, none⟩ (.int .u8 1)).setCell ⟨gi, k * 2 + 1, none⟩ (.slice none 0 0)).ownsRow B1 69 2 (.slice (some ⟨gi, 0, none⟩) n c0) n (mn (k + 1) 1 ++ zs)) := by
                            have a1 := (ho1.stored (k * 2) (.int .u8 1)).1
                            have a2 := (a1.stored (k * 2 + 1) (.slice none 0 0)).1
                            have e : ((mn k 1 ++ y0 :: y1 :: zs).set (k * 2) (.int .u8 1)).set (k * 2 + 1) (.slice none 0 0) = mn (k + 1) 1 ++ zs := by
                              rw [List.set_append_right _ _ (by omega), hml, Nat.sub_self, List.set_append_right _ _ (by omega), hml, Nat.add_sub_cancel_left]
                              simp [mn]
                            rw [e] at a2
                            exact a2
                          have HG2 : Hid (VE0.grownBy ((wr.setCell ⟨gi, k * 2, none⟩ (.int .u8 1)).setCell ⟨gi, k * 2 + 1, none⟩ (.slice none 0 0)) (Value.slice (some ⟨gi, 0, none⟩) n c0).ownBlock) := by
                            have h := hg.out
                            rw [hi2] at h
                            exact gb_set (gb_set h _ _) _ _
                          have HYL : Hid (zs.length = (n - (k + 1)) * 2) := by have := hyl.out; simp at this; unfold Hid; omega
                          rw [hi2]
                          have hn6 := HNN.out
                          clear ho1 hi hi2 hml
                          go_wp2
                          go_roundw
                          case rel => exact ⟨k + 1, zs, hlt, by go_num, HYL.out, HO2.out, HG2.out⟩
                          case measure => simp [intOf]; omega
                        · have hlt' : ¬ (k : Int) < (n : Int) := by omega
                          obtain rfl : n = k := by omega
                          have hy0 : ys = [] := List.length_eq_zero_iff.1 (by have := hyl.out; rw [Nat.sub_self, Nat.zero_mul] at this; exact this)
                          subst hy0
                          have ho2 := ho.out
                          rw [List.append_nil] at ho2
                          obtain ⟨VE1, hVE⟩ : ∃ V, wr = V := ⟨_, rfl⟩
                          have HO0 : Hid (VE1.ownsRow B1 69 2 (.slice sp0 n c0) n (mn n 1)) := by rw [← hVE]; exact ho2
                          have HGE0 : Hid (VE0.grownBy VE1 (Value.slice sp0 n c0).ownBlock) := by rw [← hVE]; exact hg.out
                          have HGT0 : Hid (Gt 69 B1 VE0 VE1) := Gt.own HM0.out HGE0.out
                          have HBE1 : Hid (Bk VE1 B b 2 (some ⟨gg, 0, none⟩) (some ⟨gw, 0, none⟩) gc wc [.int .i64 S, .int .i64 I, .slice sp0 n c0, .int .i64 R, .int .i64 S, .int .i64 I, .slice sp1 n c1, .int .i64 R] [.int .i64 S, .int .i64 I, .slice spw n cw, .int .i64 R, .int .i64 S, .int .i64 I, .slice spw n cw, .int .i64 R]) := ⟨HB.out.lt, HGT0.out.bo HBE0.out.box (by decide), HGT0.out.row HBE0.out.got (by decide), HGT0.out.row HBE0.out.want (by decide), HB.out.ap⟩
                          rw [hVE]
                          clear hVE ho ho2 hg hyl hlt hlt' hk
                          have HM1 : Hid (VE1.ownsRow B1 69 2 (.slice sp1 n c1) n (ndW t1 n)) := HM01.out.kept HGE0.out HAP.out
                          go_wp2
                          -- round 1 of the nodes' loop
                          rw [rounds_succ]
                          have eb1 := HBE1.out.box.cell 0 (v := .slice (some ⟨gg, 0, none⟩) 2 gc) rfl
                          have eg1 : VE1.cell? ⟨gg, 6, none⟩ = some (.slice sp1 n c1) := (HBE1.out.got.cellAt 6 (by omega)).trans rfl
                          go_wp2
                          clear eb1 eg1
                          go_loopw [16] (fun v wr => ∃ (k : Nat) (ys : List Value), k ≤ n ∧ v = .int .i64 (k : Nat) ∧ Hid (ys.length = (n - k) * 2) ∧ Hid (wr.ownsRow B1 69 2 (.slice sp1 n c1) n (mn k 2 ++ ys)) ∧ Hid (VE1.grownBy wr (Value.slice sp1 n c1).ownBlock)) (fun v _ => n - (intOf v).toNat)
                          case atStart => exact ⟨0, ndW t1 n, Nat.zero_le _, rfl, by unfold Hid; rw [ndW_len]; omega, HM1.out, World.grownBy.refl _ _⟩
                          case round =>
                            obtain ⟨k, ys, hk, rfl, hyl, ho, hg⟩ := hrel
                            by_cases hlt : k < n
                            · have hlt' : (k : Int) < (n : Int) := by omega
                              obtain ⟨y0, y1, zs, rfl⟩ : ∃ y0 y1 zs, ys = y0 :: y1 :: zs := by
                                have h := hyl.out
                                match ys, h with
                                | [], h => simp at h; omega
                                | [a], h => simp at h; omega
                                | a :: b :: zs, _ => exact ⟨a, b, zs, rfl⟩
                              obtain ⟨gi, ci, hi⟩ : ∃ g c, Value.slice sp1 n c1 = .slice (some ⟨g, 0, none⟩) n c := Joins.ownsRow_form ho.out (by omega)
                              have hi2 : sp1 = some ⟨gi, 0, none⟩ := by cases hi; rfl
                              have hml := mn_len k 2
                              have ho1 : wr.ownsRow B1 69 2 (.slice (some ⟨gi, 0, none⟩) n c1) n (mn k 2 ++ y0 :: y1 :: zs) := by rw [← hi2]; exact ho.out
                              have q0 : wr.cell? ⟨gi, k * 2, none⟩ = some y0 := by
                                rw [ho1.cellAt (k * 2) (by omega), List.getElem?_append_right (by omega), hml, Nat.sub_self]; rfl
                              have q1 : wr.cell? ⟨gi, k * 2 + 1, none⟩ = some y1 := by
                                rw [ho1.cellAt (k * 2 + 1) (by omega), List.getElem?_append_right (by omega), hml, Nat.add_sub_cancel_left]; rfl
                              have qf0 := ho1.frozenAt (k * 2)
                              have qf1 := ho1.frozenAt (k * 2 + 1)
                              have HO2 : Hid (((wr.setCell ⟨gi, k * 2, none⟩ (.int .u8 2)).setCell ⟨gi, k * 2 + 1, none⟩ (.slice none 0 0)).ownsRow B1 69 2 (.slice (some ⟨gi, 0, none⟩) n c1) n (mn (k + 1) 2 ++ zs)) := by
                                have a1 := (ho1.stored (k * 2) (.int .u8 2)).1
                                have a2 := (a1.stored (k * 2 + 1) (.slice none 0 0)).1
                                have e : ((mn k 2 ++ y0 :: y1 :: zs).set (k * 2) (.int .u8 2)).set (k * 2 + 1) (.slice none 0 0) = mn (k + 1) 2 ++ zs := by
                                  rw [List.set_append_right _ _ (by omega), hml, Nat.sub_self, List.set_append_right _ _ (by omega), hml, Nat.add_sub_cancel_left]
                                  simp [mn]
                                rw [e] at a2
                                exact a2
                              have HG2 : Hid (VE1.grownBy ((wr.setCell ⟨gi, k * 2, none⟩ (.int .u8 2)).setCell ⟨gi, k * 2 + 1, none⟩ (.slice none 0 0)) (Value.slice (some ⟨gi, 0, none⟩) n c1).ownBlock) := by
                                have h := hg.out
                                rw [hi2] at h
                                exact gb_set (gb_set h _ _) _ _
                              have HYL : Hid (zs.length = (n - (k + 1)) * 2) := by have := hyl.out; simp at this; unfold Hid; omega
                              rw [hi2]
                              have hn6 := HNN.out
                              clear ho1 hi hi2 hml
                              go_wp2
                              go_roundw
                              case rel => exact ⟨k + 1, zs, hlt, by go_num, HYL.out, HO2.out, HG2.out⟩
                              case measure => simp [intOf]; omega
                            · have hlt' : ¬ (k : Int) < (n : Int) := by omega
                              obtain rfl : n = k := by omega
                              have hy0 : ys = [] := List.length_eq_zero_iff.1 (by have := hyl.out; rw [Nat.sub_self, Nat.zero_mul] at this; exact this)
                              subst hy0
                              have ho2 := ho.out
                              rw [List.append_nil] at ho2
                              obtain ⟨VE2, hVE⟩ : ∃ V, wr = V := ⟨_, rfl⟩
                              have HO1 : Hid (VE2.ownsRow B1 69 2 (.slice sp1 n c1) n (mn n 2)) := by rw [← hVE]; exact ho2
                              have HGE1 : Hid (VE1.grownBy VE2 (Value.slice sp1 n c1).ownBlock) := by rw [← hVE]; exact hg.out
                              have HGT1 : Hid (Gt 69 B1 VE1 VE2) := Gt.own HM1.out HGE1.out
                              have HBE2 : Hid (Bk VE2 B b 2 (some ⟨gg, 0, none⟩) (some ⟨gw, 0, none⟩) gc wc [.int .i64 S, .int .i64 I, .slice sp0 n c0, .int .i64 R, .int .i64 S, .int .i64 I, .slice sp1 n c1, .int .i64 R] [.int .i64 S, .int .i64 I, .slice spw n cw, .int .i64 R, .int .i64 S, .int .i64 I, .slice spw n cw, .int .i64 R]) := ⟨HB.out.lt, HGT1.out.bo HBE1.out.box (by decide), HGT1.out.row HBE1.out.got (by decide), HGT1.out.row HBE1.out.want (by decide), HB.out.ap⟩
                              rw [hVE]
                              clear hVE ho ho2 hg hyl hlt hlt' hk
                              have HO0b : Hid (VE2.ownsRow B1 69 2 (.slice sp0 n c0) n (mn n 1)) := HO0.out.kept HGE1.out HAP2.out
                              go_wp2
                              rw [rounds_succ]
                              have eb2 := HBE2.out.box.cell 0 (v := .slice (some ⟨gg, 0, none⟩) 2 gc) rfl
                              have HBF0 : Hid (Bk VE2 B b 2 (some ⟨gg, 0, none⟩) (some ⟨gw, 0, none⟩) gc wc [.int .i64 S, .int .i64 I, .slice sp0 n c0, .int .i64 R, .int .i64 S, .int .i64 I, .slice sp1 n c1, .int .i64 R] [.int .i64 S, .int .i64 I, .slice spw n cw, .int .i64 R, .int .i64 S, .int .i64 I, .slice spw n cw, .int .i64 R]) := HBE2.out
                              have HN0F : Hid (VE2.ownsRow B1 69 2 (.slice sp0 n c0) n (mn n 1)) := HO0b
                              have HN1F0 : Hid (VE2.ownsRow B1 69 2 (.slice sp1 n c1) n (mn n 2)) := HO1.out
                              have HBF : Hid (B1 ≤ VE2.heap.size) := Nat.le_trans HBB.out (Nat.le_trans HVA2.out.size (Nat.le_trans HGG.out.size (Nat.le_trans HGT0.out.size HGT1.out.size)))
                              have HALL : Hid (Below B1 w VE2) := (Gt.below (Gt.nil0 (e := 69) HVA2.out) HBB.out).trans ((Gt.below HGG.out (Nat.le_trans HBB.out HVA2.out.size)).trans ((Gt.below HGT0.out (Nat.le_trans HBB.out (Nat.le_trans HVA2.out.size HGG.out.size))).trans (Gt.below HGT1.out (Nat.le_trans HBB.out (Nat.le_trans HVA2.out.size (Nat.le_trans HGG.out.size HGT0.out.size))))))
                              obtain ⟨VF0, hVF⟩ : ∃ V, VE2 = V := ⟨_, rfl⟩
                              rw [hVF] at HBF0 HN0F HN1F0 HBF HALL eb2 ⊢
                              clear hVF HO0b HO0 HO1 HM0 HM01 HM1 HBE0 HBE1 HBE2 HGE0 HGE1 HGT0 HGT1
                              obtain ⟨ill, HILL⟩ : ∃ i, Hid (Tryd.prog.info? 22 = some i ∧ i.zero = some (.slice none 0 0) ∧ i.size = 1 ∧ i.bytes = 24) := by
                                obtain ⟨i, h1, h2, h3, h4⟩ := info_parts infoBLF
                                exact ⟨i, h1, h2, h3, h4⟩
                              obtain ⟨ib, HIB⟩ : ∃ i, Hid (Tryd.prog.info? 69 = some i ∧ i.zero = some (.agg #[.int .u8 0, .slice none 0 0]) ∧ i.size = 2 ∧ i.bytes = 32) := by
                                obtain ⟨i, h1, h2, h3, h4⟩ := info_parts infoB
                                exact ⟨i, h1, h2, h3, h4⟩
                              go_wp2
                              clear eb2
                              refine wp_loop_rounds 3 ?_
                              -- round 0 of the longer rows' loop
                              rw [rounds_succ]
                              have eb0 := HBF0.out.box.cell 0 (v := .slice (some ⟨gg, 0, none⟩) 2 gc) rfl
                              have eg0 : VF0.cell? ⟨gg, 2, none⟩ = some (.slice sp0 n c0) := (HBF0.out.got.cellAt 2 (by omega)).trans rfl
                              go_wp2
                              clear eb0 eg0
                              go_loopw [19, 20] (fun v19 v20 wr => ∃ (j : Nat) (sj : Option Addr) (cj : Nat), j ≤ 70 ∧ v19 = .slice sj (n + j) cj ∧ v20 = .int .i64 (j : Nat) ∧ Hid (wr.ownsRow B1 69 2 (.slice sj (n + j) cj) (n + j) (mn (n + j) 1)) ∧ Hid (Mr wr sp0 n 1) ∧ Hid (VF0.grownBy wr (Value.slice sp0 n c0).ownBlock) ∧ Hid (∀ p, (Value.slice sj (n + j) cj).ownBlock = some p → (Value.slice sp0 n c0).ownBlock = some p ∨ VF0.heap.size ≤ p)) (fun _ v20 _ => 70 - (intOf v20).toNat)
                              case atStart => exact ⟨0, sp0, c0, by omega, rfl, rfl, HN0F.out, mr_own HN0F.out, World.grownBy.refl _ _, fun p hp => .inl hp⟩
                              case round =>
                                obtain ⟨j, sj, cj, hj, rfl, rfl, own, hmr, hg, hbk⟩ := hrel
                                have hn6 := HNN.out
                                by_cases hlt : j < 70
                                · have hlt' : (j : Int) < 70 := by omega
                                  obtain ⟨W3x, hW3, sz3', g3, B3⟩ := boxn wr #[.int .u8 1, .slice none 0 0] 69
                                  have own3 := own.out.kept g3 (Classical.em _)
                                  have hmr3 : Mr W3x sp0 n 1 := fun k hk => by
                                    obtain ⟨g, h1, h2⟩ := hmr.out k hk
                                    exact ⟨g, h1, g3.cell h2 (by simp)⟩
                                  have nw : ∀ l u, [Value.int .u8 1, .slice none 0 0][l]? = some u → W3x.cell? ((⟨wr.heap.size, 0, none⟩ : Addr).add l) = some u := World.news_of_block (cs := #[.int .u8 1, .slice none 0 0]) B3
                                  have szr : VF0.heap.size ≤ wr.heap.size := hg.out.size
                                  have sz3 : B1 ≤ W3x.heap.size := Nat.le_trans HBF.out (Nat.le_trans (Nat.le_refl _) (Nat.le_trans szr g3.size))
                                  obtain ⟨b0, hb0⟩ : ∃ b0, B1 = b0 := ⟨_, rfl⟩
                                  rw [hb0] at sz3 own3
                                  have HB0 : Hid (B1 = b0) := hb0
                                  clear hb0
                                  go_wp2_with (first | (at_builtin; refine wpList_appS _ rfl _ _ 22 rfl b0 69 ib (.agg #[.int .u8 0, .slice none 0 0]) 2 32 underBS HIB.out.1 HIB.out.2.1 HIB.out.2.2.1 HIB.out.2.2.2 rfl (by decide) _ (n + j) _ rfl own3 ⟨wr.heap.size, 0, none⟩ 1 [.int .u8 1, .slice none 0 0] rfl rfl nw (by intro u hu; simp at hu; rcases hu with rfl | rfl <;> rfl) (by unfold maxLen; omega) (by omega) sz3 ?_; intro g4 q4 w4 own4 hcase; refine Hid.out ?_))
                                  refine Lib.hid ?_
                                  rw [← HB0.out] at own4
                                  have e70 : n + j + 1 = n + (j + 1) := by omega
                                  have HO5 : Hid (w4.ownsRow B1 69 2 (.slice (some ⟨g4, 0, none⟩) (n + (j + 1)) q4) (n + (j + 1)) (mn (n + (j + 1)) 1)) := by
                                    unfold Hid
                                    rw [← e70, mn]
                                    exact own4
                                  have G3 := gb_none hg.out g3
                                  have hmr5 : Hid (Mr w4 sp0 n 1) := fun k hk => by
                                    obtain ⟨g, h1, h2⟩ := hmr3 k hk
                                    refine ⟨g, h1, ?_⟩
                                    rcases hcase with ⟨k1, k2⟩ | ⟨k1, k2⟩
                                    · by_cases e : g = g4
                                      · subst e
                                        rw [HO5.out.cellAt (k * 2) (by omega)]
                                        exact mn_get _ (by omega)
                                      · exact k2.cell h2 (by simpa using e)
                                    · exact k2.cell h2 (by simp)
                                  have HG4 : Hid (VF0.grownBy w4 (Value.slice sp0 n c0).ownBlock) := by
                                    rcases hcase with ⟨k1, k2⟩ | ⟨k1, k2⟩
                                    · exact G3.andThen k2 (fun p hp => by
                                        cases hp
                                        rcases hbk.out g4 k1 with q | q
                                        · exact .inr q
                                        · exact .inl q)
                                    · exact gb_none G3 k2
                                  have HB4 : Hid (∀ p, (Value.slice (some ⟨g4, 0, none⟩) (n + (j + 1)) q4).ownBlock = some p → (Value.slice sp0 n c0).ownBlock = some p ∨ VF0.heap.size ≤ p) := fun p hp => by
                                    cases hp
                                    rcases hcase with ⟨k1, k2⟩ | ⟨k1, k2⟩
                                    · exact hbk.out g4 k1
                                    · exact .inr (Nat.le_trans szr (Nat.le_trans g3.size k1))
                                  clear own4 hcase G3 own3 nw sz3 hmr3 B3 g3
                                  go_wp2
                                  go_roundw
                                  case rel => exact ⟨j + 1, some ⟨g4, 0, none⟩, q4, hlt, by rw [e70], by go_num, HO5.out, hmr5.out, HG4.out, HB4.out⟩
                                  case measure => simp [intOf]; omega
                                · have hlt' : ¬ (j : Int) < 70 := by omega
                                  obtain rfl : j = 70 := by omega
                                  obtain ⟨gz, cap, e⟩ : ∃ g cap, Value.slice sj (n + 70) cj = .slice (some ⟨g, 0, none⟩) (n + 70) cap := Joins.ownsRow_form own.out (by omega)
                                  cases e
                                  obtain ⟨Wm, hWm, szm', gm, Bm⟩ := boxn wr #[.slice (some ⟨gz, 0, none⟩) (n + 70) cj] 22
                                  have ownm : Wm.ownsRow VF0.heap.size 22 1 (.slice none 0 0) 0 [] := World.ownsRow_nil _ _ _ _
                                  have nw : ∀ l u', [Value.slice (some ⟨gz, 0, none⟩) (n + 70) cj][l]? = some u' → Wm.cell? ((⟨wr.heap.size, 0, none⟩ : Addr).add l) = some u' := World.news_of_block (cs := #[.slice (some ⟨gz, 0, none⟩) (n + 70) cj]) Bm
                                  have szm : VF0.heap.size ≤ Wm.heap.size := Nat.le_trans (Nat.le_refl _) (Nat.le_trans hg.out.size gm.size)
                                  go_wp2_with (first | (at_builtin; refine wpList_append_lies _ rfl _ _ 90 rfl VF0.heap.size 22 ill (.slice none 0 0) 1 24 underLLS HILL.out.1 HILL.out.2.1 HILL.out.2.2.1 HILL.out.2.2.2 rfl (by decide) _ 0 _ rfl ownm ⟨wr.heap.size, 0, none⟩ 1 1 [.slice (some ⟨gz, 0, none⟩) (n + 70) cj] rfl rfl nw (by intro u hu; simp at hu; rcases hu with rfl; rfl) (by decide) (by unfold maxLen; omega) (by omega) szm _ rfl ?_; intro ga qa wa owna gka ata lta; refine Hid.out ?_))
                                  refine Lib.hid ?_
                                  have gka : Wm.grownBy wa (Value.slice none 0 0).ownBlock := gka
                                  have hgm : wr.grownBy wa none := gb_trans gm gka
                                  have hoz : ∀ p, (Value.slice sp0 n c0).ownBlock = some p → p < VF0.heap.size := fun p hp => (HN0F.out.lt p hp).2
                                  have HGF0 : Hid (Gt 69 B1 VF0 wa) := (Gt.own HN0F.out hg.out).trans (Gt.nil0 hgm)
                                  have HLL0' : Hid (wa.ownsRow VF0.heap.size 22 1 (.slice (some ⟨ga, 0, none⟩) 1 qa) 1 [.slice (some ⟨gz, 0, none⟩) (n + 70) cj]) := owna
                                  have HU0' : Hid (wa.ownsRow B1 69 2 (.slice (some ⟨gz, 0, none⟩) (n + 70) cj) (n + 70) (mn (n + 70) 1)) := own.out.kept hgm (Classical.em _)
                                  have HMR0' : Hid (Mr wa sp0 n 1) := hmr.out.kept hgm (fun _ _ => by simp)
                                  have HUB0' : Hid ((Value.slice sp0 n c0).ownBlock = some gz ∨ VF0.heap.size ≤ gz) := hbk.out gz rfl
                                  have HN1F' : Hid (wa.ownsRow B1 69 2 (.slice sp1 n c1) n (mn n 2)) := (HN1F0.out.kept hg.out HAP.out).kept hgm (Classical.em _)
                                  have HSF1' : Hid (VF0.heap.size ≤ wa.heap.size) := Nat.le_trans hg.out.size hgm.size
                                  obtain ⟨VF1, hVF1⟩ : ∃ V, wa = V := ⟨_, rfl⟩
                                  obtain ⟨gU0, hgU⟩ : ∃ g, gz = g := ⟨_, rfl⟩
                                  obtain ⟨qU0, hqU⟩ : ∃ g, cj = g := ⟨_, rfl⟩
                                  obtain ⟨gL0, hgL⟩ : ∃ g, ga = g := ⟨_, rfl⟩
                                  obtain ⟨qL0, hqL⟩ : ∃ g, qa = g := ⟨_, rfl⟩
                                  rw [hVF1] at HGF0 HLL0' HU0' HMR0' HN1F' HSF1'
                                  rw [hgU] at HLL0' HU0' HUB0'
                                  rw [hqU] at HLL0' HU0'
                                  rw [hgL, hqL] at HLL0'
                                  rw [hVF1, hgU, hqU, hgL, hqL]
                                  have HLL0 := HLL0'
                                  have HU0 := HU0'
                                  have HMR0 := HMR0'
                                  have HUB0 := HUB0'
                                  have HN1F := HN1F'
                                  have HSF1 := HSF1'
                                  have HSZ0 : Hid (∀ p, (Value.slice sp0 n c0).ownBlock = some p → p < VF0.heap.size) := hoz
                                  have HSZ1 : Hid (∀ p, (Value.slice sp1 n c1).ownBlock = some p → p < VF0.heap.size) := fun p hp => (HN1F0.out.lt p hp).2
                                  have HBF1 : Hid (Bk VF1 B b 2 (some ⟨gg, 0, none⟩) (some ⟨gw, 0, none⟩) gc wc [.int .i64 S, .int .i64 I, .slice sp0 n c0, .int .i64 R, .int .i64 S, .int .i64 I, .slice sp1 n c1, .int .i64 R] [.int .i64 S, .int .i64 I, .slice spw n cw, .int .i64 R, .int .i64 S, .int .i64 I, .slice spw n cw, .int .i64 R]) := ⟨HB.out.lt, HGF0.out.bo HBF0.out.box (by decide), HGF0.out.row HBF0.out.got (by decide), HGF0.out.row HBF0.out.want (by decide), HB.out.ap⟩
                                  clear HLL0' HU0' HMR0' HUB0' HN1F' HSF1' hVF1 hgU hqU hgL hqL hgm hoz own hmr hg hbk owna gka gm nw szm Bm ownm ata lta hlt hlt' hj szm' hn6
                                  go_wp2
                                  
                                  -- round 1 of the longer rows' loop
                                  rw [rounds_succ]
                                  have eb1 := HBF1.out.box.cell 0 (v := .slice (some ⟨gg, 0, none⟩) 2 gc) rfl
                                  have eg1 : VF1.cell? ⟨gg, 6, none⟩ = some (.slice sp1 n c1) := (HBF1.out.got.cellAt 6 (by omega)).trans rfl
                                  go_wp2
                                  clear eb1 eg1
                                  go_loopw [19, 20] (fun v19 v20 wr => ∃ (j : Nat) (sj : Option Addr) (cj : Nat), j ≤ 70 ∧ v19 = .slice sj (n + j) cj ∧ v20 = .int .i64 (j : Nat) ∧ Hid (wr.ownsRow B1 69 2 (.slice sj (n + j) cj) (n + j) (mn (n + j) 2)) ∧ Hid (Mr wr sp1 n 2) ∧ Hid (VF1.grownBy wr (Value.slice sp1 n c1).ownBlock) ∧ Hid (∀ p, (Value.slice sj (n + j) cj).ownBlock = some p → (Value.slice sp1 n c1).ownBlock = some p ∨ VF1.heap.size ≤ p)) (fun _ v20 _ => 70 - (intOf v20).toNat)
                                  case atStart => exact ⟨0, sp1, c1, by omega, rfl, rfl, HN1F.out, mr_own HN1F.out, World.grownBy.refl _ _, fun p hp => .inl hp⟩
                                  case round =>
                                    obtain ⟨j, sj, cj, hj, rfl, rfl, own, hmr, hg, hbk⟩ := hrel
                                    have hn6 := HNN.out
                                    by_cases hlt : j < 70
                                    · have hlt' : (j : Int) < 70 := by omega
                                      obtain ⟨W3x, hW3, sz3', g3, B3⟩ := boxn wr #[.int .u8 2, .slice none 0 0] 69
                                      have own3 := own.out.kept g3 (Classical.em _)
                                      have hmr3 : Mr W3x sp1 n 2 := fun k hk => by
                                        obtain ⟨g, h1, h2⟩ := hmr.out k hk
                                        exact ⟨g, h1, g3.cell h2 (by simp)⟩
                                      have nw : ∀ l u, [Value.int .u8 2, .slice none 0 0][l]? = some u → W3x.cell? ((⟨wr.heap.size, 0, none⟩ : Addr).add l) = some u := World.news_of_block (cs := #[.int .u8 2, .slice none 0 0]) B3
                                      have szr : VF1.heap.size ≤ wr.heap.size := hg.out.size
                                      have sz3 : B1 ≤ W3x.heap.size := Nat.le_trans HBF.out (Nat.le_trans HSF1.out (Nat.le_trans szr g3.size))
                                      obtain ⟨b0, hb0⟩ : ∃ b0, B1 = b0 := ⟨_, rfl⟩
                                      rw [hb0] at sz3 own3
                                      have HB0 : Hid (B1 = b0) := hb0
                                      clear hb0
                                      go_wp2_with (first | (at_builtin; refine wpList_appS _ rfl _ _ 22 rfl b0 69 ib (.agg #[.int .u8 0, .slice none 0 0]) 2 32 underBS HIB.out.1 HIB.out.2.1 HIB.out.2.2.1 HIB.out.2.2.2 rfl (by decide) _ (n + j) _ rfl own3 ⟨wr.heap.size, 0, none⟩ 1 [.int .u8 2, .slice none 0 0] rfl rfl nw (by intro u hu; simp at hu; rcases hu with rfl | rfl <;> rfl) (by unfold maxLen; omega) (by omega) sz3 ?_; intro g4 q4 w4 own4 hcase; refine Hid.out ?_))
                                      refine Lib.hid ?_
                                      rw [← HB0.out] at own4
                                      have e70 : n + j + 1 = n + (j + 1) := by omega
                                      have HO5 : Hid (w4.ownsRow B1 69 2 (.slice (some ⟨g4, 0, none⟩) (n + (j + 1)) q4) (n + (j + 1)) (mn (n + (j + 1)) 2)) := by
                                        unfold Hid
                                        rw [← e70, mn]
                                        exact own4
                                      have G3 := gb_none hg.out g3
                                      have hmr5 : Hid (Mr w4 sp1 n 2) := fun k hk => by
                                        obtain ⟨g, h1, h2⟩ := hmr3 k hk
                                        refine ⟨g, h1, ?_⟩
                                        rcases hcase with ⟨k1, k2⟩ | ⟨k1, k2⟩
                                        · by_cases e : g = g4
                                          · subst e
                                            rw [HO5.out.cellAt (k * 2) (by omega)]
                                            exact mn_get _ (by omega)
                                          · exact k2.cell h2 (by simpa using e)
                                        · exact k2.cell h2 (by simp)
                                      have HG4 : Hid (VF1.grownBy w4 (Value.slice sp1 n c1).ownBlock) := by
                                        rcases hcase with ⟨k1, k2⟩ | ⟨k1, k2⟩
                                        · exact G3.andThen k2 (fun p hp => by
                                            cases hp
                                            rcases hbk.out g4 k1 with q | q
                                            · exact .inr q
                                            · exact .inl q)
                                        · exact gb_none G3 k2
                                      have HB4 : Hid (∀ p, (Value.slice (some ⟨g4, 0, none⟩) (n + (j + 1)) q4).ownBlock = some p → (Value.slice sp1 n c1).ownBlock = some p ∨ VF1.heap.size ≤ p) := fun p hp => by
                                        cases hp
                                        rcases hcase with ⟨k1, k2⟩ | ⟨k1, k2⟩
                                        · exact hbk.out g4 k1
                                        · exact .inr (Nat.le_trans szr (Nat.le_trans g3.size k1))
                                      clear own4 hcase G3 own3 nw sz3 hmr3 B3 g3
                                      go_wp2
                                      go_roundw
                                      case rel => exact ⟨j + 1, some ⟨g4, 0, none⟩, q4, hlt, by rw [e70], by go_num, HO5.out, hmr5.out, HG4.out, HB4.out⟩
                                      case measure => simp [intOf]; omega
                                    · have hlt' : ¬ (j : Int) < 70 := by omega
                                      obtain rfl : j = 70 := by omega
                                      obtain ⟨gz, cap, e⟩ : ∃ g cap, Value.slice sj (n + 70) cj = .slice (some ⟨g, 0, none⟩) (n + 70) cap := Joins.ownsRow_form own.out (by omega)
                                      cases e
                                      obtain ⟨Wm, hWm, szm', gm, Bm⟩ := boxn wr #[.slice (some ⟨gz, 0, none⟩) (n + 70) cj] 22
                                      have ownm : Wm.ownsRow VF0.heap.size 22 1 (.slice (some ⟨gL0, 0, none⟩) 1 qL0) 1 [.slice (some ⟨gU0, 0, none⟩) (n + 70) qU0] := ((HLL0.out.kept hg.out (own_dt (by decide) HN1F.out HLL0.out)).kept gm (Classical.em _))
                                      have nw : ∀ l u', [Value.slice (some ⟨gz, 0, none⟩) (n + 70) cj][l]? = some u' → Wm.cell? ((⟨wr.heap.size, 0, none⟩ : Addr).add l) = some u' := World.news_of_block (cs := #[.slice (some ⟨gz, 0, none⟩) (n + 70) cj]) Bm
                                      have szm : VF0.heap.size ≤ Wm.heap.size := Nat.le_trans HSF1.out (Nat.le_trans hg.out.size gm.size)
                                      go_wp2_with (first | (at_builtin; refine wpList_append_lies _ rfl _ _ 90 rfl VF0.heap.size 22 ill (.slice none 0 0) 1 24 underLLS HILL.out.1 HILL.out.2.1 HILL.out.2.2.1 HILL.out.2.2.2 rfl (by decide) _ 1 _ rfl ownm ⟨wr.heap.size, 0, none⟩ 1 1 [.slice (some ⟨gz, 0, none⟩) (n + 70) cj] rfl rfl nw (by intro u hu; simp at hu; rcases hu with rfl; rfl) (by decide) (by unfold maxLen; omega) (by omega) szm _ rfl ?_; intro ga qa wa owna gka ata lta; refine Hid.out ?_))
                                      refine Lib.hid ?_
                                      have gka : Wm.grownBy wa (Value.slice (some ⟨gL0, 0, none⟩) 1 qL0).ownBlock := gka
                                      have hlb := fun p hp => (HLL0.out.lt p hp).1
                                      have hal : ∀ (sp : Option Addr) (c : Nat), (∀ p, (Value.slice sp n c).ownBlock = some p → p < VF0.heap.size) → ∀ g, sp = some ⟨g, 0, none⟩ → some g ≠ (Value.slice (some ⟨gL0, 0, none⟩) 1 qL0).ownBlock := fun sp c h g hs q => by
                                        have h1 := h g (by rw [hs]; rfl)
                                        have h2 := hlb g q.symm
                                        omega
                                      have HRR : Hid (wa.ownsRow VF0.heap.size 22 1 (.slice (some ⟨ga, 0, none⟩) 2 qa) 2 [.slice (some ⟨gU0, 0, none⟩) (n + 70) qU0, .slice (some ⟨gz, 0, none⟩) (n + 70) cj]) := owna
                                      have u0 : wr.ownsRow B1 69 2 (.slice (some ⟨gU0, 0, none⟩) (n + 70) qU0) (n + 70) (mn (n + 70) 1) := HU0.out.kept hg.out (.inr fun q => by
                                        have q2 : (Value.slice sp1 n c1).ownBlock = some gU0 := q.symm
                                        rcases HUB0.out with r1 | r1
                                        · rcases HAP2.out with r2 | r2
                                          · rw [r1] at r2; cases r2
                                          · exact r2 (by rw [r1, q2])
                                        · have := HSZ1.out gU0 q2; omega)
                                      have u0m := u0.kept gm (Classical.em _)
                                      have u1m := own.out.kept gm (Classical.em _)
                                      have HV0 : Hid (wa.ownsRow B1 69 2 (.slice (some ⟨gU0, 0, none⟩) (n + 70) qU0) (n + 70) (mn (n + 70) 1)) := u0m.kept gka (own_dt (by decide) ownm u0m)
                                      have HV1x : Hid (wa.ownsRow B1 69 2 (.slice (some ⟨gz, 0, none⟩) (n + 70) cj) (n + 70) (mn (n + 70) 2)) := u1m.kept gka (own_dt (by decide) ownm u1m)
                                      have HMA : Hid (Mr wa sp0 n 1) := ((HMR0.out.kept hg.out (fun g hs q => by
                                        have e1 : (Value.slice sp0 n c0).ownBlock = some g := by rw [hs]; rfl
                                        rcases HAP2.out with r2 | r2
                                        · rw [e1] at r2; cases r2
                                        · exact r2 (by rw [e1, q]))).kept gm (fun _ _ => by simp)).kept gka (hal sp0 c0 HSZ0.out)
                                      have HMB : Hid (Mr wa sp1 n 2) := (hmr.out.kept gm (fun _ _ => by simp)).kept gka (hal sp1 c1 HSZ1.out)
                                      have HGW : Hid (Gt 69 B1 VF0 wa) := ((HGF0.out.trans (Gt.own HN1F.out hg.out)).new gm (by simp)).new gka hlb
                                      have HBW : Hid (Bk wa B b 2 (some ⟨gg, 0, none⟩) (some ⟨gw, 0, none⟩) gc wc [.int .i64 S, .int .i64 I, .slice sp0 n c0, .int .i64 R, .int .i64 S, .int .i64 I, .slice sp1 n c1, .int .i64 R] [.int .i64 S, .int .i64 I, .slice spw n cw, .int .i64 R, .int .i64 S, .int .i64 I, .slice spw n cw, .int .i64 R]) := ⟨HB.out.lt, HGW.out.bo HBF0.out.box (by decide), HGW.out.row HBF0.out.got (by decide), HGW.out.row HBF0.out.want (by decide), HB.out.ap⟩
                                      clear u0 u0m u1m hal hlb own hmr hg hbk owna gka gm nw szm Bm ownm ata lta hlt hlt' hj szm' hn6 HLL0 HU0 HMR0 HN1F HBF1 HN0F HN1F0 HGF0
                                      go_wp2
                                      
                                      have HFIN : Hid (Below B1 w wa) := HALL.out.trans (Gt.below HGW.out HBF.out)
                                      rw [rounds_succ]
                                      have eb3 := HBW.out.box.cell 0 (v := .slice (some ⟨gg, 0, none⟩) 2 gc) rfl
                                      go_wp2
                                      clear eb3
                                      obtain ⟨VG, hVG⟩ : ∃ V, wa = V := ⟨_, rfl⟩
                                      obtain ⟨m, hm⟩ : ∃ m, n + 70 = m := ⟨_, rfl⟩
                                      have HBG : Hid (Bk VG B b 2 (some ⟨gg, 0, none⟩) (some ⟨gw, 0, none⟩) gc wc [.int .i64 S, .int .i64 I, .slice sp0 n c0, .int .i64 R, .int .i64 S, .int .i64 I, .slice sp1 n c1, .int .i64 R] [.int .i64 S, .int .i64 I, .slice spw n cw, .int .i64 R, .int .i64 S, .int .i64 I, .slice spw n cw, .int .i64 R]) := by rw [← hVG]; exact HBW.out
                                      have HML : Hid (n ≤ 65536 ∧ n + 70 = m) := ⟨HNN.out, hm⟩
                                      rw [hm, hVG] at HRR HV0 HV1x
                                      rw [hVG] at HMA HMB HFIN
                                      rw [hVG]
                                      try rw [hm]
                                      clear hVG hm HBW HGW
                                      refine wp_loop_rounds 3 ?_
                                      -- round 0 of the last loop
                                      rw [rounds_succ]
                                      have er0 : VG.cell? ⟨ga, 0, none⟩ = some (.slice (some ⟨gU0, 0, none⟩) m qU0) := (HRR.out.cellAt 0 (by omega)).trans rfl
                                      go_wp2
                                      go_loopw [22] (fun v wr => ∃ k : Nat, k ≤ m ∧ v = .int .i64 (k : Nat) ∧ wr = VG) (fun v _ => m - (intOf v).toNat)
                                      case atStart => exact ⟨0, Nat.zero_le _, rfl, rfl⟩
                                      case round =>
                                        obtain ⟨k, hk, rfl, hw⟩ := hrel
                                        rw [hw]
                                        clear hw
                                        by_cases hlt : k < m
                                        · have hlt' : (k : Int) < (m : Int) := by omega
                                          have hml := HML.out
                                          have q0 : VG.cell? ⟨gU0, k * 2, none⟩ = some (.int .u8 1) := by
                                            rw [HV0.out.cellAt (k * 2) (by omega)]
                                            exact mn_get _ hlt
                                          have eb : VG.cell? ⟨b, 0, none⟩ = some (.slice (some ⟨gg, 0, none⟩) 2 gc) := HBG.out.box.cell 0 rfl
                                          have eg : VG.cell? ⟨gg, 2, none⟩ = some (.slice sp0 n c0) := (HBG.out.got.cellAt 2 (by omega)).trans rfl
                                          by_cases hkn : k < n
                                          · have hkn' : (k : Int) < (n : Int) := by omega
                                            obtain ⟨gs, hs, hc⟩ := HMA.out k hkn
                                            rw [hs] at eg
                                            clear hs
                                            go_wp2
                                            go_roundw
                                            case rel => exact ⟨k + 1, hlt, by go_num, trivial⟩
                                            case measure => simp [intOf]; omega
                                          · have hkn' : ¬ (k : Int) < (n : Int) := by omega
                                            go_wp2
                                            go_roundw
                                            case rel => exact ⟨k + 1, hlt, by go_num, trivial⟩
                                            case measure => simp [intOf]; omega
                                        · have hlt' : ¬ (k : Int) < (m : Int) := by omega
                                          go_wp2
                                          clear hlt hlt' hk
                                          -- round 1 of the last loop
                                          rw [rounds_succ]
                                          have er1 : VG.cell? ⟨ga, 1, none⟩ = some (.slice (some ⟨gz, 0, none⟩) m cj) := (HRR.out.cellAt 1 (by omega)).trans rfl
                                          go_wp2
                                          go_loopw [22] (fun v wr => ∃ k : Nat, k ≤ m ∧ v = .int .i64 (k : Nat) ∧ wr = VG) (fun v _ => m - (intOf v).toNat)
                                          case atStart => exact ⟨0, Nat.zero_le _, rfl, rfl⟩
                                          case round =>
                                            obtain ⟨k, hk, rfl, hw⟩ := hrel
                                            rw [hw]
                                            clear hw
                                            by_cases hlt : k < m
                                            · have hlt' : (k : Int) < (m : Int) := by omega
                                              have hml := HML.out
                                              have q0 : VG.cell? ⟨gz, k * 2, none⟩ = some (.int .u8 2) := by
                                                rw [HV1x.out.cellAt (k * 2) (by omega)]
                                                exact mn_get _ hlt
                                              have eb : VG.cell? ⟨b, 0, none⟩ = some (.slice (some ⟨gg, 0, none⟩) 2 gc) := HBG.out.box.cell 0 rfl
                                              have eg : VG.cell? ⟨gg, 6, none⟩ = some (.slice sp1 n c1) := (HBG.out.got.cellAt 6 (by omega)).trans rfl
                                              by_cases hkn : k < n
                                              · have hkn' : (k : Int) < (n : Int) := by omega
                                                obtain ⟨gs, hs, hc⟩ := HMB.out k hkn
                                                rw [hs] at eg
                                                clear hs
                                                go_wp2
                                                go_roundw
                                                case rel => exact ⟨k + 1, hlt, by go_num, trivial⟩
                                                case measure => simp [intOf]; omega
                                              · have hkn' : ¬ (k : Int) < (n : Int) := by omega
                                                go_wp2
                                                go_roundw
                                                case rel => exact ⟨k + 1, hlt, by go_num, trivial⟩
                                                case measure => simp [intOf]; omega
                                            · have hlt' : ¬ (k : Int) < (m : Int) := by omega
                                              go_wp2
                                              clear hlt hlt' hk
                                              rw [rounds_succ]
                                              go_wp2
                                              go_ret
                                              exact ⟨rfl, HFIN.out⟩

end Rr
end Go.Proofs.YteaionmjbkildabDoor
