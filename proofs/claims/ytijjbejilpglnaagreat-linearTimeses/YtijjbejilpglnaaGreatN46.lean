/- append of one element onto an owned row: in place, or into a new block and the old one stays. -/
import Derived.Test.YtijjbejilpglnaaGreatN45
import Derived.ArgAppend
import Derived.Laws.OwnMore
namespace Go.Proofs.YtijjbejilpglnaaGreat
open Go.RowKit
set_option linter.unusedVariables false
set_option linter.unusedSimpArgs false
set_option maxRecDepth 100000

namespace Ln
theorem run_appS {P : Program} (w : World) (t ty : TypeId) (base : Nat) (e : TypeId) (i : TypeInfo) (z : Value) (size bytes : Nat) (ht : P.underlying t = some (.slice e)) (hi : P.info? e = some i) (hz : i.zero = some z)
    (hsize : i.size = size) (hby : i.bytes = bytes) (hzs : z.cells.size = size) (hsz : 0 < size)
    (v : Value) (n : Nat) (xs : List Value) (hown : w.ownsRow base e size v n xs)
    (ad : Addr) (c : Nat) (news : List Value) (hl : news.length = 1 * size) (hnews : ∀ j u, news[j]? = some u → w.cell? (ad.add j) = some u) (h1 : ∀ u ∈ news, u.oneCell' = true)
    (h63 : n + 1 ≤ maxLen) (hbytes : (n + 1) * bytes ≤ 140737488355328) (hbase : base ≤ w.heap.size) :
    ∃ g cap w', (Builtin.append_ #[t, t] ty #[v, .slice (some ad) 1 c]).run P w = .ok (.slice (some ⟨g, 0, none⟩) (n + 1) cap) w' ∧
      w'.ownsRow base e size (.slice (some ⟨g, 0, none⟩) (n + 1) cap) (n + 1) (xs ++ news) ∧ ((v.ownBlock = some g ∧ w.grownBy w' (some g)) ∨ (w.heap.size ≤ g ∧ w.grownBy w' none)) := by
  obtain ⟨g, cap, w', hr, h2, h3, h4, h5⟩ := run_append_lies (P := P) w t ty base e i z size bytes ht hi hz hsize hby hzs hsz v n xs hown ad 1 c news hl hnews h1 (by omega) h63 hbytes hbase _ rfl
  rcases hown.2 with ⟨rfl, hn⟩ | ⟨g0, cap0, cur, rfl, hb, hbk, hnc, hcm, hcs, htake⟩
  · refine ⟨g, cap, w', hr, h2, .inr ⟨?_, h3⟩⟩
    rcases h4 with h4 | h4
    · cases h4
    · omega
  · by_cases hroom : n + 1 ≤ cap0
    · have hz' : (n + 1) * size ≤ cap0 * size := Nat.mul_le_mul_right _ hroom
      rw [Nat.add_mul] at hz'
      have hrun := run_append_room_cells (P := P) w t ty e i ht hi g0 0 n cap0 ad 1 c news (by rw [hsize]; exact hl) hnews h1 hroom (fun j hj => by
        rw [hsize, Nat.zero_add, cell_of_row w g0 _ cur e (0, 0) hbk, Array.getElem?_eq_getElem (by rw [hcs]; omega)]
        rfl) (fun j hj => frozen_of_row w g0 _ cur e hbk)
      rw [hrun] at hr
      have hg : g0 = g := by
        injection hr with h6 h7
        injection h6 with h8 h9 h10
        injection h8 with h11
        injection h11
      subst hg
      exact ⟨g0, cap, w', by rw [hrun]; exact hr, h2, .inl ⟨rfl, h3⟩⟩
    · obtain ⟨v', w2, hr2, o2, g2⟩ := run_append_arg_grows (P := P) w t ty e i z size bytes ht hi hz hsize hby hzs hsz ⟨g0, 0, none⟩ n cap0 xs hown.1 (hown.cells rfl) ad 1 c news hl hnews (by omega) h63 hbytes
      obtain ⟨g3, cap3, rfl, hb3, hlt3⟩ := o2.form (by omega)
      exact ⟨g3, cap3, w2, hr2, own_less o2 hbase, .inr ⟨hb3, g2⟩⟩
theorem wpList_appS {P : Program} (w : World) {ops : Array Oper} {rest : List Oper} {o : Oper} {a : Act} {Q : Exit → Act → World → Prop} (hgd : o.guard = none) (s x : Operand) (t : TypeId)
    (ho : o.op = .call { callee := .builtin .append, args := #[s, x], argTypes := #[t, t] })
    (base : Nat) (e : TypeId) (i : TypeInfo) (z : Value) (size bytes : Nat) (ht : P.underlying t = some (.slice e)) (hi : P.info? e = some i) (hz : i.zero = some z)
    (hsize : i.size = size) (hby : i.bytes = bytes) (hzs : z.cells.size = size) (hsz : 0 < size)
    (v : Value) (n : Nat) (xs : List Value) (hs : a.eval s = v) (hown : w.ownsRow base e size v n xs)
    (ad : Addr) (c : Nat) (news : List Value) (hx : a.eval x = .slice (some ad) 1 c) (hl : news.length = 1 * size) (hnews : ∀ j u, news[j]? = some u → w.cell? (ad.add j) = some u) (h1 : ∀ u ∈ news, u.oneCell' = true)
    (h63 : n + 1 ≤ maxLen) (hbytes : (n + 1) * bytes ≤ 140737488355328) (hbase : base ≤ w.heap.size)
    (h : ∀ g cap w', w'.ownsRow base e size (.slice (some ⟨g, 0, none⟩) (n + 1) cap) (n + 1) (xs ++ news) → ((v.ownBlock = some g ∧ w.grownBy w' (some g)) ∨ (w.heap.size ≤ g ∧ w.grownBy w' none)) → wpList P ops Q rest (a.put o.dst (.slice (some ⟨g, 0, none⟩) (n + 1) cap)) w') : wpList P ops Q (o :: rest) a w :=
  wpList_plain hgd fun K hK => by
    obtain ⟨g, cap, w', hr, h2, h3⟩ := run_appS (P := P) w t o.type base e i z size bytes ht hi hz hsize hby hzs hsz v n xs hown ad c news hl hnews h1 h63 hbytes hbase
    unfold Oper.wp execOp
    simp only [ho, resolve, invoke, builtin, Sem.run_bind, Sem.run_pure, Result.andThen_ok, List.map_toArray, List.map_cons, List.map_nil, hs, hx, hr]
    exact hK _ _ (h g cap w' h2 h3)
/-- So many marks. -/
def mks (j n : Nat) : List Pt := List.replicate n (500 + (j : Int), 0)
theorem mks_len (j n : Nat) : (mks j n).length = n := List.length_replicate
theorem mks_get (j n t : Nat) (h : t < n) : (mks j n).getD t (0, 0) = (500 + (j : Int), 0) := by
  unfold mks
  rw [List.getD_eq_getElem?_getD, List.getElem?_replicate, if_pos h]
  rfl
theorem mks_snoc (j n : Nat) : mks j (n + 1) = mks j n ++ [(500 + (j : Int), 0)] := by unfold mks; rw [List.replicate_succ']
theorem mks_of {Q : List Pt} {j n : Nat} (hl : Q.length = n) (h : ∀ t, t < n → Q.getD t (0, 0) = (500 + (j : Int), 0)) : Q = mks j n := by
  apply List.ext_getElem?
  intro t
  by_cases ht : t < n
  · have := h t ht
    rw [List.getD_eq_getElem?_getD, List.getElem?_eq_getElem (by rw [hl]; exact ht)] at this
    rw [List.getElem?_eq_getElem (by rw [hl]; exact ht), List.getElem?_eq_getElem (by rw [mks_len]; exact ht)]
    have h2 := mks_get j n t ht
    rw [List.getD_eq_getElem?_getD, List.getElem?_eq_getElem (by rw [mks_len]; exact ht)] at h2
    congr 1
    exact this.trans h2.symm
  · rw [List.getElem?_eq_none (by omega), List.getElem?_eq_none (by rw [mks_len]; omega)]
theorem fl_set : ∀ (ps : List Pt) (k : Nat) (a b : Int), ((fl ps).set (k * 2) (.int .i64 a)).set (k * 2 + 1) (.int .i64 b) = fl (ps.set k (a, b))
  | [], k, a, b => by simp [fl]
  | p :: ps, 0, a, b => rfl
  | p :: ps, k + 1, a, b => by
    rw [show (k + 1) * 2 = k * 2 + 1 + 1 by omega, show k * 2 + 1 + 1 + 1 = (k * 2 + 1) + 1 + 1 by omega]
    show .int .i64 p.1 :: .int .i64 p.2 :: (((fl ps).set (k * 2) (.int .i64 a)).set (k * 2 + 1) (.int .i64 b)) = .int .i64 p.1 :: .int .i64 p.2 :: fl (ps.set k (a, b))
    rw [fl_set ps k a b]
end Ln
end Go.Proofs.YtijjbejilpglnaaGreat
