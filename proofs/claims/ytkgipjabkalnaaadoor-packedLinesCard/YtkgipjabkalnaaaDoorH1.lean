/- The table of the neighbourhoods; what find answers. -/
import Derived.Test.YtkgipjabkalnaaaDoorMem
import Derived.Test.YtkgipjabkalnaaaDoorW1
import Derived.Test.YtkgipjabkalnaaaDoorBo
import Derived.Deep.MidRow
namespace Go.Proofs.YtkgipjabkalnaaaDoor
open Go.RowKit
set_option linter.unusedVariables false
set_option linter.unusedSimpArgs false
set_option maxRecDepth 100000

def tbl : Nat → List (Int × Int)
  | 1 => [(0, -1), (1, -1), (1, 0), (1, 1), (0, 1), (-1, 1), (-1, 0), (-1, -1)]
  | 2 => [(0, -1), (1, 0), (0, 1), (-1, 0)]
  | 3 => [(0, -1), (1, 0), (1, 1), (0, 1), (-1, 0), (-1, -1)]
  | _ => []
def px (h i : Nat) : Int := ((tbl h).getD i (0, 0)).1
def py (h i : Nat) : Int := ((tbl h).getD i (0, 0)).2
def sn (h : Nat) : Nat := (tbl h).length
theorem sn_le (h : Nat) (h1 : 1 ≤ h) (h3 : h ≤ 3) : sn h ≤ 8 := by match h, h1, h3 with | 1, _, _ => decide | 2, _, _ => decide | 3, _, _ => decide
/-- A neighbourhood's offsets and their number, cell by cell. -/
def ho (h : Nat) : Array Value := #[.int .i64 (px h 0), .int .i64 (py h 0), .int .i64 (px h 1), .int .i64 (py h 1), .int .i64 (px h 2), .int .i64 (py h 2), .int .i64 (px h 3), .int .i64 (py h 3), .int .i64 (px h 4), .int .i64 (py h 4), .int .i64 (px h 5), .int .i64 (py h 5), .int .i64 (px h 6), .int .i64 (py h 6), .int .i64 (px h 7), .int .i64 (py h 7), .int .i64 ((sn h : Nat) : Int)]
def hvC : Array Value := #[.int .i64 (px 0 0), .int .i64 (py 0 0), .int .i64 (px 0 1), .int .i64 (py 0 1), .int .i64 (px 0 2), .int .i64 (py 0 2), .int .i64 (px 0 3), .int .i64 (py 0 3), .int .i64 (px 0 4), .int .i64 (py 0 4), .int .i64 (px 0 5), .int .i64 (py 0 5), .int .i64 (px 0 6), .int .i64 (py 0 6), .int .i64 (px 0 7), .int .i64 (py 0 7), .int .i64 ((sn 0 : Nat) : Int), .int .i64 (px 1 0), .int .i64 (py 1 0), .int .i64 (px 1 1), .int .i64 (py 1 1), .int .i64 (px 1 2), .int .i64 (py 1 2), .int .i64 (px 1 3), .int .i64 (py 1 3), .int .i64 (px 1 4), .int .i64 (py 1 4), .int .i64 (px 1 5), .int .i64 (py 1 5), .int .i64 (px 1 6), .int .i64 (py 1 6), .int .i64 (px 1 7), .int .i64 (py 1 7), .int .i64 ((sn 1 : Nat) : Int), .int .i64 (px 2 0), .int .i64 (py 2 0), .int .i64 (px 2 1), .int .i64 (py 2 1), .int .i64 (px 2 2), .int .i64 (py 2 2), .int .i64 (px 2 3), .int .i64 (py 2 3), .int .i64 (px 2 4), .int .i64 (py 2 4), .int .i64 (px 2 5), .int .i64 (py 2 5), .int .i64 (px 2 6), .int .i64 (py 2 6), .int .i64 (px 2 7), .int .i64 (py 2 7), .int .i64 ((sn 2 : Nat) : Int), .int .i64 (px 3 0), .int .i64 (py 3 0), .int .i64 (px 3 1), .int .i64 (py 3 1), .int .i64 (px 3 2), .int .i64 (py 3 2), .int .i64 (px 3 3), .int .i64 (py 3 3), .int .i64 (px 3 4), .int .i64 (py 3 4), .int .i64 (px 3 5), .int .i64 (py 3 5), .int .i64 (px 3 6), .int .i64 (py 3 6), .int .i64 (px 3 7), .int .i64 (py 3 7), .int .i64 ((sn 3 : Nat) : Int)]
/-- The program's table stands as it is laid. -/
def Hv (w : World) : Prop := ∃ t fr, w.heap[0]? = some (.cells hvC t fr)
theorem Hv.kept {w w' : World} (h : Hv w) (hg : w.grownBy w' none) : Hv w' := by
  obtain ⟨t, fr, h⟩ := h
  exact ⟨t, fr, (hg.block 0 (Array.getElem?_eq_some_iff.1 h).1 (by simp)).trans h⟩
theorem hvK {w w' : World} (h : Hid (Hv w)) (hg : w.grownBy w' none) : Hid (Hv w') := h.out.kept hg
theorem underO : ∃ fs, Tryd.prog.underlying 73 = some (.struct fs) := by
  exact ⟨_, Tryd.underlying73⟩
theorem infoO : (Tryd.prog.info? 73).map (·.size) = some 17 := by kernel_rfl

theorem all1 (h : Nat) : (ho h).all (·.oneCell') = true := by simp [ho, Value.oneCell']
theorem ho_size (h : Nat) : (ho h).size = 17 := rfl
theorem infoH (h : Nat) : (Tryd.prog.info? 73).map (·.size) = some (ho h).size := infoO
theorem infoL (h : Nat) : (Tryd.prog.info? 73).map (·.size) = some (ho h).toList.length := infoO
theorem ho_row {w : World} (hv : Hv w) (h : Nat) (h4 : h < 4) : w.rangeAt 0 (17 * h) (ho h).toList := by
  obtain ⟨t, fr, hb⟩ := hv
  have hq := World.rangeAt_of_block hb (17 * h) 17
  match h, h4 with
  | 0, _ => exact hq
  | 1, _ => exact hq
  | 2, _ => exact hq
  | 3, _ => exact hq
theorem Bo.row {w : World} {g : Nat} {t : TypeId} {old cs : Array Value} (h : Bo w g t old) : Bo (w.setRow g cs) g t cs := by
  unfold Bo at h ⊢
  simp [World.setRow, Array.getElem?_modify, h]
theorem Bo.row2 {w : World} {g : Nat} {t : TypeId} {cs : Array Value} (h : Bo w g t cs) {b : Nat} {cs' : Array Value} (hb : b ≠ g) : Bo (w.setRow b cs') g t cs := by
  unfold Bo at h ⊢
  simp [World.setRow, Array.getElem?_modify, h, hb]
theorem gb_rowset {w w' : World} (h : w.grownBy w' none) {b : Nat} (hb : w.heap.size ≤ b) {cs : Array Value} : w.grownBy (w'.setRow b cs) none :=
  ⟨h.os, h.tape, h.output, by simpa using h.size, fun k hk hne => (setRow_other _ _ _ _ (by omega)).trans (h.block k hk hne)⟩
/-- A whole box is written at once. -/
theorem wpList_st {P : Program} {ops : Array Oper} {rest : List Oper} {op : Oper} {a : Act} {w : World} {Q : Exit → Act → World → Prop} (hgd : op.guard = none) (ty : TypeId) (x y : Operand) (ho : op.op = .store ty x y)
    (g : Nat) (cells : Array Value) (hx : a.eval x = .pointer (some ⟨g, 0, none⟩)) (hy : a.eval y = .agg cells) {t : TypeId} {old : Array Value} (hg : Bo w g t old) (hi : (P.info? ty).map (·.size) = some cells.size) (hs : old.size = cells.size) (h1 : cells.all (·.oneCell') = true)
    (h : ∀ W', w.setRow g cells = W' → Bo W' g t cells → wpList P ops Q rest (a.put op.dst undef) W') : wpList P ops Q (op :: rest) a w :=
  wpList_plain hgd fun _ hK => wp_store_row ty x y ho g cells hx hy t old hg hi hs h1 (hK _ _ (h _ rfl hg.row))

set_option maxHeartbeats 1000000 in
theorem find1 (w : World) (hv : Hid (Hv w)) : Calls Tryd.prog 35 #[.int .u8 1] w fun e w' => e = .returned (.tuple #[.agg (ho 1), .int .i64 0]) ∧ w.grownBy w' none := by
  obtain ⟨fs, hfs'⟩ := underO
  have hfs : Hid (Tryd.prog.underlying 73 = some (.struct fs)) := hfs'
  clear hfs'
  obtain ⟨W1, hW1, sz1, g1, B1⟩ := boxn w #[.int .i64 0, .int .i64 0, .int .i64 0, .int .i64 0, .int .i64 0, .int .i64 0, .int .i64 0, .int .i64 0, .int .i64 0, .int .i64 0, .int .i64 0, .int .i64 0, .int .i64 0, .int .i64 0, .int .i64 0, .int .i64 0, .int .i64 0] 73
  have hv1 := hvK hv g1
  go_enter Tryd.func35, Tryd.ntmps35
  go_wp2_with (first | (refine wpList_load_mid (op := ⟨_, .load 73 _, _, _, _, _⟩) rfl 73 _ rfl 0 17 rfl (ho 1).toList _ (ho_row hv1.out 1 (by decide)) hfs.out rfl (infoL 1) ?_) | (refine wpList_st (op := ⟨_, .store 73 _ _, _, _, _, _⟩) rfl 73 _ _ rfl w.heap.size (ho 1) rfl rfl B1 (infoH 1) rfl (all1 1) ?_; intro W2 hW2 B2))
  refine ret_c2 (g := w.heap.size) (cs := ho 1) rfl hfs.out (infoH 1) rfl B2 rfl ⟨rfl, hW2 ▸ gb_rowset g1 (Nat.le_refl _)⟩

set_option maxHeartbeats 1000000 in
theorem find2 (w : World) (hv : Hid (Hv w)) : Calls Tryd.prog 35 #[.int .u8 2] w fun e w' => e = .returned (.tuple #[.agg (ho 2), .int .i64 0]) ∧ w.grownBy w' none := by
  obtain ⟨fs, hfs'⟩ := underO
  have hfs : Hid (Tryd.prog.underlying 73 = some (.struct fs)) := hfs'
  clear hfs'
  obtain ⟨W1, hW1, sz1, g1, B1⟩ := boxn w #[.int .i64 0, .int .i64 0, .int .i64 0, .int .i64 0, .int .i64 0, .int .i64 0, .int .i64 0, .int .i64 0, .int .i64 0, .int .i64 0, .int .i64 0, .int .i64 0, .int .i64 0, .int .i64 0, .int .i64 0, .int .i64 0, .int .i64 0] 73
  have hv1 := hvK hv g1
  go_enter Tryd.func35, Tryd.ntmps35
  go_wp2_with (first | (refine wpList_load_mid (op := ⟨_, .load 73 _, _, _, _, _⟩) rfl 73 _ rfl 0 34 rfl (ho 2).toList _ (ho_row hv1.out 2 (by decide)) hfs.out rfl (infoL 2) ?_) | (refine wpList_st (op := ⟨_, .store 73 _ _, _, _, _, _⟩) rfl 73 _ _ rfl w.heap.size (ho 2) rfl rfl B1 (infoH 2) rfl (all1 2) ?_; intro W2 hW2 B2))
  refine ret_c2 (g := w.heap.size) (cs := ho 2) rfl hfs.out (infoH 2) rfl B2 rfl ⟨rfl, hW2 ▸ gb_rowset g1 (Nat.le_refl _)⟩

set_option maxHeartbeats 1000000 in
theorem find3 (w : World) (hv : Hid (Hv w)) : Calls Tryd.prog 35 #[.int .u8 3] w fun e w' => e = .returned (.tuple #[.agg (ho 3), .int .i64 0]) ∧ w.grownBy w' none := by
  obtain ⟨fs, hfs'⟩ := underO
  have hfs : Hid (Tryd.prog.underlying 73 = some (.struct fs)) := hfs'
  clear hfs'
  obtain ⟨W1, hW1, sz1, g1, B1⟩ := boxn w #[.int .i64 0, .int .i64 0, .int .i64 0, .int .i64 0, .int .i64 0, .int .i64 0, .int .i64 0, .int .i64 0, .int .i64 0, .int .i64 0, .int .i64 0, .int .i64 0, .int .i64 0, .int .i64 0, .int .i64 0, .int .i64 0, .int .i64 0] 73
  have hv1 := hvK hv g1
  go_enter Tryd.func35, Tryd.ntmps35
  go_wp2_with (first | (refine wpList_load_mid (op := ⟨_, .load 73 _, _, _, _, _⟩) rfl 73 _ rfl 0 51 rfl (ho 3).toList _ (ho_row hv1.out 3 (by decide)) hfs.out rfl (infoL 3) ?_) | (refine wpList_st (op := ⟨_, .store 73 _ _, _, _, _, _⟩) rfl 73 _ _ rfl w.heap.size (ho 3) rfl rfl B1 (infoH 3) rfl (all1 3) ?_; intro W2 hW2 B2))
  refine ret_c2 (g := w.heap.size) (cs := ho 3) rfl hfs.out (infoH 3) rfl B2 rfl ⟨rfl, hW2 ▸ gb_rowset g1 (Nat.le_refl _)⟩

theorem findYes (h : Nat) (h1 : 1 ≤ h) (h3 : h ≤ 3) (w : World) (hv : Hid (Hv w)) : Calls Tryd.prog 35 #[.int .u8 h] w fun e w' => e = .returned (.tuple #[.agg (ho h), .int .i64 0]) ∧ w.grownBy w' none := by
  match h, h1, h3 with
  | 1, _, _ => exact find1 w hv
  | 2, _, _ => exact find2 w hv
  | 3, _, _ => exact find3 w hv
set_option maxHeartbeats 1000000 in
theorem findNo (h : Int) (h0 : 0 ≤ h) (h1 : h ≤ 255) (hn : h < 1 ∨ 3 < h) (w : World) : Calls Tryd.prog 35 #[.int .u8 h] w fun e w' => e = .returned (.tuple #[.agg #[.int .i64 0, .int .i64 0, .int .i64 0, .int .i64 0, .int .i64 0, .int .i64 0, .int .i64 0, .int .i64 0, .int .i64 0, .int .i64 0, .int .i64 0, .int .i64 0, .int .i64 0, .int .i64 0, .int .i64 0, .int .i64 0, .int .i64 0], .int .i64 70]) ∧ w.grownBy w' none := by
  obtain ⟨fs, hfs'⟩ := underO
  have hfs : Hid (Tryd.prog.underlying 73 = some (.struct fs)) := hfs'
  clear hfs'
  obtain ⟨W1, hW1, sz1, g1, B1⟩ := boxn w #[.int .i64 0, .int .i64 0, .int .i64 0, .int .i64 0, .int .i64 0, .int .i64 0, .int .i64 0, .int .i64 0, .int .i64 0, .int .i64 0, .int .i64 0, .int .i64 0, .int .i64 0, .int .i64 0, .int .i64 0, .int .i64 0, .int .i64 0] 73
  have HN : Hid (h < 1 ∨ 3 < h) := hn
  clear hn
  cases hc : decide (h < 1) with
  | true =>
    have k1 : h < 1 := of_decide_eq_true hc
    clear hc
    go_enter Tryd.func35, Tryd.ntmps35
    go_wp2_with (first | (refine wpList_st (op := ⟨_, .store 73 _ _, _, _, _, _⟩) rfl 73 _ _ rfl w.heap.size #[.int .i64 0, .int .i64 0, .int .i64 0, .int .i64 0, .int .i64 0, .int .i64 0, .int .i64 0, .int .i64 0, .int .i64 0, .int .i64 0, .int .i64 0, .int .i64 0, .int .i64 0, .int .i64 0, .int .i64 0, .int .i64 0, .int .i64 0] rfl rfl B1 infoO rfl (by simp [Value.oneCell']) ?_; intro W2 hW2 B2))
    refine ret_c2 (g := w.heap.size) (cs := #[.int .i64 0, .int .i64 0, .int .i64 0, .int .i64 0, .int .i64 0, .int .i64 0, .int .i64 0, .int .i64 0, .int .i64 0, .int .i64 0, .int .i64 0, .int .i64 0, .int .i64 0, .int .i64 0, .int .i64 0, .int .i64 0, .int .i64 0]) rfl hfs.out infoO rfl B2 rfl ⟨rfl, hW2 ▸ gb_rowset g1 (Nat.le_refl _)⟩
  | false =>
    have k1 : ¬ h < 1 := of_decide_eq_false hc
    have k2 : 4 ≤ h := by have := HN.out; omega
    clear hc
    go_enter Tryd.func35, Tryd.ntmps35
    go_wp2_with (first | (refine wpList_st (op := ⟨_, .store 73 _ _, _, _, _, _⟩) rfl 73 _ _ rfl w.heap.size #[.int .i64 0, .int .i64 0, .int .i64 0, .int .i64 0, .int .i64 0, .int .i64 0, .int .i64 0, .int .i64 0, .int .i64 0, .int .i64 0, .int .i64 0, .int .i64 0, .int .i64 0, .int .i64 0, .int .i64 0, .int .i64 0, .int .i64 0] rfl rfl B1 infoO rfl (by simp [Value.oneCell']) ?_; intro W2 hW2 B2))
    refine ret_c2 (g := w.heap.size) (cs := #[.int .i64 0, .int .i64 0, .int .i64 0, .int .i64 0, .int .i64 0, .int .i64 0, .int .i64 0, .int .i64 0, .int .i64 0, .int .i64 0, .int .i64 0, .int .i64 0, .int .i64 0, .int .i64 0, .int .i64 0, .int .i64 0, .int .i64 0]) rfl hfs.out infoO rfl B2 rfl ⟨rfl, hW2 ▸ gb_rowset g1 (Nat.le_refl _)⟩

set_option maxHeartbeats 1000000 in
theorem sizeYes (h : Nat) (h1 : 1 ≤ h) (h3 : h ≤ 3) (w : World) (hv : Hid (Hv w)) : Calls Tryd.prog 28 #[.int .u8 h] w fun e w' => e = .returned (.tuple #[.int .i64 ((sn h : Nat) : Int), .int .i64 0]) ∧ w.grownBy w' none := by
  have hf := fun w hv => findYes h h1 h3 w hv
  go_enter Tryd.func28, Tryd.ntmps28
  go_wp2_with (first | (go_at_call 35; refine (hf _ hv).mono ?_; rintro e w2 ⟨rfl, g2⟩; obtain ⟨W3, hW3, sz3, g3, B3⟩ := boxn w2 #[.int .i64 0, .int .i64 0, .int .i64 0, .int .i64 0, .int .i64 0, .int .i64 0, .int .i64 0, .int .i64 0, .int .i64 0, .int .i64 0, .int .i64 0, .int .i64 0, .int .i64 0, .int .i64 0, .int .i64 0, .int .i64 0, .int .i64 0] 73) | (refine wpList_st (op := ⟨_, .store 73 _ _, _, _, _, _⟩) rfl 73 _ _ rfl w2.heap.size (ho h) rfl rfl B3 (infoH h) rfl (all1 h) ?_; intro W4 hW4 B4; have c16 := B4.cell 16 (v := .int .i64 ((sn h : Nat) : Int)) rfl; have G4 : w.grownBy W4 none := hW4 ▸ gb_rowset (gb_trans g2 g3) g2.size))
  go_ret2
  exact ⟨rfl, G4⟩
set_option maxHeartbeats 1000000 in
theorem sizeNo (h : Int) (h0 : 0 ≤ h) (h1 : h ≤ 255) (hn : h < 1 ∨ 3 < h) (w : World) : Calls Tryd.prog 28 #[.int .u8 h] w fun e w' => e = .returned (.tuple #[.int .i64 0, .int .i64 70]) ∧ w.grownBy w' none := by
  have hf := findNo h h0 h1 hn
  clear hn
  go_enter Tryd.func28, Tryd.ntmps28
  go_wp2_with (first | (go_at_call 35; refine (hf _).mono ?_; rintro e w2 ⟨rfl, g2⟩; obtain ⟨W3, hW3, sz3, g3, B3⟩ := boxn w2 #[.int .i64 0, .int .i64 0, .int .i64 0, .int .i64 0, .int .i64 0, .int .i64 0, .int .i64 0, .int .i64 0, .int .i64 0, .int .i64 0, .int .i64 0, .int .i64 0, .int .i64 0, .int .i64 0, .int .i64 0, .int .i64 0, .int .i64 0] 73) | (refine wpList_st (op := ⟨_, .store 73 _ _, _, _, _, _⟩) rfl 73 _ _ rfl w2.heap.size #[.int .i64 0, .int .i64 0, .int .i64 0, .int .i64 0, .int .i64 0, .int .i64 0, .int .i64 0, .int .i64 0, .int .i64 0, .int .i64 0, .int .i64 0, .int .i64 0, .int .i64 0, .int .i64 0, .int .i64 0, .int .i64 0, .int .i64 0] rfl rfl B3 infoO rfl (by simp [Value.oneCell']) ?_; intro W4 hW4 B4; have c16 := B4.cell 16 (v := .int .i64 0) rfl; have G4 : w.grownBy W4 none := hW4 ▸ gb_rowset (gb_trans g2 g3) g2.size))
  go_ret2
  exact ⟨rfl, G4⟩
end Go.Proofs.YtkgipjabkalnaaaDoor
