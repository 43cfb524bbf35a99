/- The table of the neighbourhoods; what find answers. -/
import Derived.Test.YthjiiljglgmkpaaGreatDoorMem
import Derived.Test.YthjiiljglgmkpaaGreatDoorWa
import Derived.Test.YthjiiljglgmkpaaGreatDoorBo
import Derived.Deep.MidRow
import Derived.Test.YthjiiljglgmkpaaGreatDoorLa
import Derived.Handy
namespace Go.Proofs.YthjiiljglgmkpaaGreatDoor
open Go.RowKit
set_option linter.unusedVariables false
set_option linter.unusedSimpArgs false
set_option maxRecDepth 100000

def tbl : Nat → List (Int × Int)
  | 1 => [(0, -1), (1, -1), (1, 0), (1, 1), (0, 1), (-1, 1), (-1, 0), (-1, -1)]
  | 2 => [(0, -1), (1, 0), (0, 1), (-1, 0)]
  | 3 => [(0, -1), (1, 0), (1, 1), (0, 1), (-1, 0), (-1, -1)]
  | _ => []
def px (h i : Nat) : Int := ((tbl h).getD i (0, 0)).1
def py (h i : Nat) : Int := ((tbl h).getD i (0, 0)).2
def sn (h : Nat) : Nat := (tbl h).length
theorem sn_le (h : Nat) (h1 : 1 ≤ h) (h3 : h ≤ 3) : sn h ≤ 8 := by match h, h1, h3 with | 1, _, _ => decide | 2, _, _ => decide | 3, _, _ => decide
/-- A neighbourhood's offsets and their number, cell by cell. -/
def ho (h : Nat) : Array Value := #[.int .i64 (px h 0), .int .i64 (py h 0), .int .i64 (px h 1), .int .i64 (py h 1), .int .i64 (px h 2), .int .i64 (py h 2), .int .i64 (px h 3), .int .i64 (py h 3), .int .i64 (px h 4), .int .i64 (py h 4), .int .i64 (px h 5), .int .i64 (py h 5), .int .i64 (px h 6), .int .i64 (py h 6), .int .i64 (px h 7), .int .i64 (py h 7), .int .i64 ((sn h : Nat) : Int)]
def hvC : Array Value := #[.int .i64 (px 0 0), .int .i64 (py 0 0), .int .i64 (px 0 1), .int .i64 (py 0 1), .int .i64 (px 0 2), .int .i64 (py 0 2), .int .i64 (px 0 3), .int .i64 (py 0 3), .int .i64 (px 0 4), .int .i64 (py 0 4), .int .i64 (px 0 5), .int .i64 (py 0 5), .int .i64 (px 0 6), .int .i64 (py 0 6), .int .i64 (px 0 7), .int .i64 (py 0 7), .int .i64 ((sn 0 : Nat) : Int), .int .i64 (px 1 0), .int .i64 (py 1 0), .int .i64 (px 1 1), .int .i64 (py 1 1), .int .i64 (px 1 2), .int .i64 (py 1 2), .int .i64 (px 1 3), .int .i64 (py 1 3), .int .i64 (px 1 4), .int .i64 (py 1 4), .int .i64 (px 1 5), .int .i64 (py 1 5), .int .i64 (px 1 6), .int .i64 (py 1 6), .int .i64 (px 1 7), .int .i64 (py 1 7), .int .i64 ((sn 1 : Nat) : Int), .int .i64 (px 2 0), .int .i64 (py 2 0), .int .i64 (px 2 1), .int .i64 (py 2 1), .int .i64 (px 2 2), .int .i64 (py 2 2), .int .i64 (px 2 3), .int .i64 (py 2 3), .int .i64 (px 2 4), .int .i64 (py 2 4), .int .i64 (px 2 5), .int .i64 (py 2 5), .int .i64 (px 2 6), .int .i64 (py 2 6), .int .i64 (px 2 7), .int .i64 (py 2 7), .int .i64 ((sn 2 : Nat) : Int), .int .i64 (px 3 0), .int .i64 (py 3 0), .int .i64 (px 3 1), .int .i64 (py 3 1), .int .i64 (px 3 2), .int .i64 (py 3 2), .int .i64 (px 3 3), .int .i64 (py 3 3), .int .i64 (px 3 4), .int .i64 (py 3 4), .int .i64 (px 3 5), .int .i64 (py 3 5), .int .i64 (px 3 6), .int .i64 (py 3 6), .int .i64 (px 3 7), .int .i64 (py 3 7), .int .i64 ((sn 3 : Nat) : Int)]
/-- The program's table stands as it is laid. -/
def Hv (w : World) : Prop := ∃ t fr, w.heap[0]? = some (.cells hvC t fr)
theorem Hv.kept {w w' : World} (h : Hv w) (hg : w.grownBy w' none) : Hv w' := by
  obtain ⟨t, fr, h⟩ := h
  exact ⟨t, fr, (hg.block 0 (Array.getElem?_eq_some_iff.1 h).1 (by simp)).trans h⟩
theorem hvK {w w' : World} (h : Hid (Hv w)) (hg : w.grownBy w' none) : Hid (Hv w') := h.out.kept hg
theorem underO : ∃ fs, Tryz.prog.underlying 178 = some (.struct fs) := by
  exact ⟨_, Tryz.underlying178⟩
theorem infoO : (Tryz.prog.info? 178).map (·.size) = some 17 := by kernel_rfl

theorem all1 (h : Nat) : (ho h).all (·.oneCell') = true := by simp [ho, Value.oneCell']
theorem ho_size (h : Nat) : (ho h).size = 17 := rfl
theorem infoH (h : Nat) : (Tryz.prog.info? 178).map (·.size) = some (ho h).size := infoO
theorem infoL (h : Nat) : (Tryz.prog.info? 178).map (·.size) = some (ho h).toList.length := infoO
theorem ho_row {w : World} (hv : Hv w) (h : Nat) (h4 : h < 4) : w.rangeAt 0 (17 * h) (ho h).toList := by
  obtain ⟨t, fr, hb⟩ := hv
  have hq := World.rangeAt_of_block hb (17 * h) 17
  match h, h4 with
  | 0, _ => exact hq
  | 1, _ => exact hq
  | 2, _ => exact hq
  | 3, _ => exact hq
theorem Bo.row {w : World} {g : Nat} {t : TypeId} {old cs : Array Value} (h : Bo w g t old) : Bo (w.setRow g cs) g t cs := by
  unfold Bo at h ⊢
  simp [World.setRow, Array.getElem?_modify, h]
theorem Bo.row2 {w : World} {g : Nat} {t : TypeId} {cs : Array Value} (h : Bo w g t cs) {b : Nat} {cs' : Array Value} (hb : b ≠ g) : Bo (w.setRow b cs') g t cs := by
  unfold Bo at h ⊢
  simp [World.setRow, Array.getElem?_modify, h, hb]
theorem gb_rowset {w w' : World} (h : w.grownBy w' none) {b : Nat} (hb : w.heap.size ≤ b) {cs : Array Value} : w.grownBy (w'.setRow b cs) none :=
  ⟨h.os, h.tape, h.output, by simpa using h.size, fun k hk hne => (setRow_other _ _ _ _ (by omega)).trans (h.block k hk hne)⟩
/-- A whole box is written at once. -/
theorem wpList_st {P : Program} {ops : Array Oper} {rest : List Oper} {op : Oper} {a : Act} {w : World} {Q : Exit → Act → World → Prop} (hgd : op.guard = none) (ty : TypeId) (x y : Operand) (ho : op.op = .store ty x y)
    (g : Nat) (cells : Array Value) (hx : a.eval x = .pointer (some ⟨g, 0, none⟩)) (hy : a.eval y = .agg cells) {t : TypeId} {old : Array Value} (hg : Bo w g t old) (hi : (P.info? ty).map (·.size) = some cells.size) (hs : old.size = cells.size) (h1 : cells.all (·.oneCell') = true)
    (h : ∀ W', w.setRow g cells = W' → Bo W' g t cells → wpList P ops Q rest (a.put op.dst undef) W') : wpList P ops Q (op :: rest) a w :=
  wpList_plain hgd fun _ hK => wp_store_row ty x y ho g cells hx hy t old hg hi hs h1 (hK _ _ (h _ rfl hg.row))

set_option maxHeartbeats 1000000 in
theorem find1 (w : World) (hv : Hid (Hv w)) : Calls Tryz.prog 108 #[.int .u8 1] w fun e w' => e = .returned (.tuple #[.agg (ho 1), .int .i64 0]) ∧ w.grownBy w' none := by
  obtain ⟨fs, hfs'⟩ := underO
  have hfs : Hid (Tryz.prog.underlying 178 = some (.struct fs)) := hfs'
  clear hfs'
  obtain ⟨W1, hW1, sz1, g1, B1⟩ := boxn w #[.int .i64 0, .int .i64 0, .int .i64 0, .int .i64 0, .int .i64 0, .int .i64 0, .int .i64 0, .int .i64 0, .int .i64 0, .int .i64 0, .int .i64 0, .int .i64 0, .int .i64 0, .int .i64 0, .int .i64 0, .int .i64 0, .int .i64 0] 178
  have hv1 := hvK hv g1
  go_enter Tryz.func108, Tryz.ntmps108
  go_wp2_with (first | (refine wpList_load_mid (op := ⟨_, .load 178 _, _, _, _, _⟩) rfl 178 _ rfl 0 17 rfl (ho 1).toList _ (ho_row hv1.out 1 (by decide)) hfs.out rfl (infoL 1) ?_) | (refine wpList_st (op := ⟨_, .store 178 _ _, _, _, _, _⟩) rfl 178 _ _ rfl w.heap.size (ho 1) rfl rfl B1 (infoH 1) rfl (all1 1) ?_; intro W2 hW2 B2))
  refine ret_c2 (g := w.heap.size) (cs := ho 1) rfl hfs.out (infoH 1) rfl B2 rfl ⟨rfl, hW2 ▸ gb_rowset g1 (Nat.le_refl _)⟩

set_option maxHeartbeats 1000000 in
theorem find2 (w : World) (hv : Hid (Hv w)) : Calls Tryz.prog 108 #[.int .u8 2] w fun e w' => e = .returned (.tuple #[.agg (ho 2), .int .i64 0]) ∧ w.grownBy w' none := by
  obtain ⟨fs, hfs'⟩ := underO
  have hfs : Hid (Tryz.prog.underlying 178 = some (.struct fs)) := hfs'
  clear hfs'
  obtain ⟨W1, hW1, sz1, g1, B1⟩ := boxn w #[.int .i64 0, .int .i64 0, .int .i64 0, .int .i64 0, .int .i64 0, .int .i64 0, .int .i64 0, .int .i64 0, .int .i64 0, .int .i64 0, .int .i64 0, .int .i64 0, .int .i64 0, .int .i64 0, .int .i64 0, .int .i64 0, .int .i64 0] 178
  have hv1 := hvK hv g1
  go_enter Tryz.func108, Tryz.ntmps108
  go_wp2_with (first | (refine wpList_load_mid (op := ⟨_, .load 178 _, _, _, _, _⟩) rfl 178 _ rfl 0 34 rfl (ho 2).toList _ (ho_row hv1.out 2 (by decide)) hfs.out rfl (infoL 2) ?_) | (refine wpList_st (op := ⟨_, .store 178 _ _, _, _, _, _⟩) rfl 178 _ _ rfl w.heap.size (ho 2) rfl rfl B1 (infoH 2) rfl (all1 2) ?_; intro W2 hW2 B2))
  refine ret_c2 (g := w.heap.size) (cs := ho 2) rfl hfs.out (infoH 2) rfl B2 rfl ⟨rfl, hW2 ▸ gb_rowset g1 (Nat.le_refl _)⟩

set_option maxHeartbeats 1000000 in
theorem find3 (w : World) (hv : Hid (Hv w)) : Calls Tryz.prog 108 #[.int .u8 3] w fun e w' => e = .returned (.tuple #[.agg (ho 3), .int .i64 0]) ∧ w.grownBy w' none := by
  obtain ⟨fs, hfs'⟩ := underO
  have hfs : Hid (Tryz.prog.underlying 178 = some (.struct fs)) := hfs'
  clear hfs'
  obtain ⟨W1, hW1, sz1, g1, B1⟩ := boxn w #[.int .i64 0, .int .i64 0, .int .i64 0, .int .i64 0, .int .i64 0, .int .i64 0, .int .i64 0, .int .i64 0, .int .i64 0, .int .i64 0, .int .i64 0, .int .i64 0, .int .i64 0, .int .i64 0, .int .i64 0, .int .i64 0, .int .i64 0] 178
  have hv1 := hvK hv g1
  go_enter Tryz.func108, Tryz.ntmps108
  go_wp2_with (first | (refine wpList_load_mid (op := ⟨_, .load 178 _, _, _, _, _⟩) rfl 178 _ rfl 0 51 rfl (ho 3).toList _ (ho_row hv1.out 3 (by decide)) hfs.out rfl (infoL 3) ?_) | (refine wpList_st (op := ⟨_, .store 178 _ _, _, _, _, _⟩) rfl 178 _ _ rfl w.heap.size (ho 3) rfl rfl B1 (infoH 3) rfl (all1 3) ?_; intro W2 hW2 B2))
  refine ret_c2 (g := w.heap.size) (cs := ho 3) rfl hfs.out (infoH 3) rfl B2 rfl ⟨rfl, hW2 ▸ gb_rowset g1 (Nat.le_refl _)⟩

theorem findYes (h : Nat) (h1 : 1 ≤ h) (h3 : h ≤ 3) (w : World) (hv : Hid (Hv w)) : Calls Tryz.prog 108 #[.int .u8 h] w fun e w' => e = .returned (.tuple #[.agg (ho h), .int .i64 0]) ∧ w.grownBy w' none := by
  match h, h1, h3 with
  | 1, _, _ => exact find1 w hv
  | 2, _, _ => exact find2 w hv
  | 3, _, _ => exact find3 w hv
set_option maxHeartbeats 1000000 in
theorem findNo (h : Int) (h0 : 0 ≤ h) (h1 : h ≤ 255) (hn : h < 1 ∨ 3 < h) (w : World) : Calls Tryz.prog 108 #[.int .u8 h] w fun e w' => e = .returned (.tuple #[.agg #[.int .i64 0, .int .i64 0, .int .i64 0, .int .i64 0, .int .i64 0, .int .i64 0, .int .i64 0, .int .i64 0, .int .i64 0, .int .i64 0, .int .i64 0, .int .i64 0, .int .i64 0, .int .i64 0, .int .i64 0, .int .i64 0, .int .i64 0], .int .i64 70]) ∧ w.grownBy w' none := by
  obtain ⟨fs, hfs'⟩ := underO
  have hfs : Hid (Tryz.prog.underlying 178 = some (.struct fs)) := hfs'
  clear hfs'
  obtain ⟨W1, hW1, sz1, g1, B1⟩ := boxn w #[.int .i64 0, .int .i64 0, .int .i64 0, .int .i64 0, .int .i64 0, .int .i64 0, .int .i64 0, .int .i64 0, .int .i64 0, .int .i64 0, .int .i64 0, .int .i64 0, .int .i64 0, .int .i64 0, .int .i64 0, .int .i64 0, .int .i64 0] 178
  have HN : Hid (h < 1 ∨ 3 < h) := hn
  clear hn
  cases hc : decide (h < 1) with
  | true =>
    have k1 : h < 1 := of_decide_eq_true hc
    clear hc
    go_enter Tryz.func108, Tryz.ntmps108
    go_wp2_with (first | (refine wpList_st (op := ⟨_, .store 178 _ _, _, _, _, _⟩) rfl 178 _ _ rfl w.heap.size #[.int .i64 0, .int .i64 0, .int .i64 0, .int .i64 0, .int .i64 0, .int .i64 0, .int .i64 0, .int .i64 0, .int .i64 0, .int .i64 0, .int .i64 0, .int .i64 0, .int .i64 0, .int .i64 0, .int .i64 0, .int .i64 0, .int .i64 0] rfl rfl B1 infoO rfl (by simp [Value.oneCell']) ?_; intro W2 hW2 B2))
    refine ret_c2 (g := w.heap.size) (cs := #[.int .i64 0, .int .i64 0, .int .i64 0, .int .i64 0, .int .i64 0, .int .i64 0, .int .i64 0, .int .i64 0, .int .i64 0, .int .i64 0, .int .i64 0, .int .i64 0, .int .i64 0, .int .i64 0, .int .i64 0, .int .i64 0, .int .i64 0]) rfl hfs.out infoO rfl B2 rfl ⟨rfl, hW2 ▸ gb_rowset g1 (Nat.le_refl _)⟩
  | false =>
    have k1 : ¬ h < 1 := of_decide_eq_false hc
    have k2 : 4 ≤ h := by have := HN.out; omega
    clear hc
    go_enter Tryz.func108, Tryz.ntmps108
    go_wp2_with (first | (refine wpList_st (op := ⟨_, .store 178 _ _, _, _, _, _⟩) rfl 178 _ _ rfl w.heap.size #[.int .i64 0, .int .i64 0, .int .i64 0, .int .i64 0, .int .i64 0, .int .i64 0, .int .i64 0, .int .i64 0, .int .i64 0, .int .i64 0, .int .i64 0, .int .i64 0, .int .i64 0, .int .i64 0, .int .i64 0, .int .i64 0, .int .i64 0] rfl rfl B1 infoO rfl (by simp [Value.oneCell']) ?_; intro W2 hW2 B2))
    refine ret_c2 (g := w.heap.size) (cs := #[.int .i64 0, .int .i64 0, .int .i64 0, .int .i64 0, .int .i64 0, .int .i64 0, .int .i64 0, .int .i64 0, .int .i64 0, .int .i64 0, .int .i64 0, .int .i64 0, .int .i64 0, .int .i64 0, .int .i64 0, .int .i64 0, .int .i64 0]) rfl hfs.out infoO rfl B2 rfl ⟨rfl, hW2 ▸ gb_rowset g1 (Nat.le_refl _)⟩

set_option maxHeartbeats 1000000 in
theorem sizeYes (h : Nat) (h1 : 1 ≤ h) (h3 : h ≤ 3) (w : World) (hv : Hid (Hv w)) : Calls Tryz.prog 76 #[.int .u8 h] w fun e w' => e = .returned (.tuple #[.int .i64 ((sn h : Nat) : Int), .int .i64 0]) ∧ w.grownBy w' none := by
  have hf := fun w hv => findYes h h1 h3 w hv
  go_enter Tryz.func76, Tryz.ntmps76
  go_wp2_with (first | (go_at_call 108; refine (hf _ hv).mono ?_; rintro e w2 ⟨rfl, g2⟩; obtain ⟨W3, hW3, sz3, g3, B3⟩ := boxn w2 #[.int .i64 0, .int .i64 0, .int .i64 0, .int .i64 0, .int .i64 0, .int .i64 0, .int .i64 0, .int .i64 0, .int .i64 0, .int .i64 0, .int .i64 0, .int .i64 0, .int .i64 0, .int .i64 0, .int .i64 0, .int .i64 0, .int .i64 0] 178) | (refine wpList_st (op := ⟨_, .store 178 _ _, _, _, _, _⟩) rfl 178 _ _ rfl w2.heap.size (ho h) rfl rfl B3 (infoH h) rfl (all1 h) ?_; intro W4 hW4 B4; have c16 := B4.cell 16 (v := .int .i64 ((sn h : Nat) : Int)) rfl; have G4 : w.grownBy W4 none := hW4 ▸ gb_rowset (gb_trans g2 g3) g2.size))
  go_ret2
  exact ⟨rfl, G4⟩
set_option maxHeartbeats 1000000 in
theorem sizeNo (h : Int) (h0 : 0 ≤ h) (h1 : h ≤ 255) (hn : h < 1 ∨ 3 < h) (w : World) : Calls Tryz.prog 76 #[.int .u8 h] w fun e w' => e = .returned (.tuple #[.int .i64 0, .int .i64 70]) ∧ w.grownBy w' none := by
  have hf := findNo h h0 h1 hn
  clear hn
  go_enter Tryz.func76, Tryz.ntmps76
  go_wp2_with (first | (go_at_call 108; refine (hf _).mono ?_; rintro e w2 ⟨rfl, g2⟩; obtain ⟨W3, hW3, sz3, g3, B3⟩ := boxn w2 #[.int .i64 0, .int .i64 0, .int .i64 0, .int .i64 0, .int .i64 0, .int .i64 0, .int .i64 0, .int .i64 0, .int .i64 0, .int .i64 0, .int .i64 0, .int .i64 0, .int .i64 0, .int .i64 0, .int .i64 0, .int .i64 0, .int .i64 0] 178) | (refine wpList_st (op := ⟨_, .store 178 _ _, _, _, _, _⟩) rfl 178 _ _ rfl w2.heap.size #[.int .i64 0, .int .i64 0, .int .i64 0, .int .i64 0, .int .i64 0, .int .i64 0, .int .i64 0, .int .i64 0, .int .i64 0, .int .i64 0, .int .i64 0, .int .i64 0, .int .i64 0, .int .i64 0, .int .i64 0, .int .i64 0, .int .i64 0] rfl rfl B3 infoO rfl (by simp [Value.oneCell']) ?_; intro W4 hW4 B4; have c16 := B4.cell 16 (v := .int .i64 0) rfl; have G4 : w.grownBy W4 none := hW4 ▸ gb_rowset (gb_trans g2 g3) g2.size))
  go_ret2
  exact ⟨rfl, G4⟩
end Go.Proofs.YthjiiljglgmkpaaGreatDoor
namespace Go.Proofs.YthjiiljglgmkpaaGreatDoor
open Go.RowKit
set_option linter.unusedVariables false
set_option linter.unusedSimpArgs false
set_option maxRecDepth 100000

theorem bitC (n : Nat) (hn : n < 16) (w : World) : Calls Tryz.prog 79 #[.int .i64 n] w fun e w' => e = .returned (.int .u16 ((2 ^ n : Nat) : Int)) ∧ w' = w := by
  have hp : Hid (IntKind.u16.wrap (2 ^ n) = ((2 ^ n : Nat) : Int)) := by
    have h := Lf.p16 hn
    unfold Hid
    rw [IntKind.wrap_u16]
    have e : (2 : Int) ^ n = ((2 ^ n : Nat) : Int) := by simp
    rw [e]
    generalize 2 ^ n = q at h
    omega
  go_enter Tryz.func79, Tryz.ntmps79
  go_wp2
  go_ret
  exact ⟨congrArg (fun x => Ending.returned (Value.int .u16 x)) hp.out, rfl⟩
theorem hasC (c n : Nat) (hc : c < 65536) (hn : n < 16) (w : World) : Calls Tryz.prog 78 #[.int .u16 c, .int .i64 n] w fun e w' => e = .returned (.bool (c.testBit n)) ∧ w' = w := by
  have ha := and16 c (2 ^ n) hc (Lf.p16 hn)
  have hb := bitC n hn
  have HB : Hid (decide (((c &&& 2 ^ n : Nat) : Int) = 0) = !c.testBit n) := by
    unfold Hid
    have := @Lf.and_one c n
    cases h : c.testBit n with
    | false => rw [h] at this; simp [this.2 rfl]
    | true =>
      have h2 : c &&& 2 ^ n ≠ 0 := fun e => by have := this.1 e; rw [h] at this; cases this
      simp; omega
  generalize 2 ^ n = q at ha hb HB
  go_enter Tryz.func78, Tryz.ntmps78
  go_wp2_with (first | (go_at_call 79; refine (hb _).mono ?_; rintro e w' ⟨rfl, rfl⟩))
  go_ret
  refine ⟨congrArg (fun x => Ending.returned (Value.bool x)) ?_, rfl⟩
  have := HB.out
  revert this
  cases c.testBit n <;> intro this <;> simp at this <;> simp [this]
theorem upToC (n : Nat) (hn : n < 15) (w : World) : Calls Tryz.prog 77 #[.int .i64 n] w fun e w' => e = .returned (.int .u16 ((2 ^ (n + 1) - 1 : Nat) : Int)) ∧ w' = w := by
  have hb : ∀ w, Calls Tryz.prog 79 #[.int .i64 ((n : Int) + 1)] w fun e w' => e = .returned (.int .u16 ((2 ^ (n + 1) : Nat) : Int)) ∧ w' = w := bitC (n + 1) (by omega)
  have h2 := Lf.p16 (k := n + 1) (by omega)
  have h3 : 0 < 2 ^ (n + 1) := Nat.two_pow_pos _
  have hw : IntKind.u16.wrap (((2 ^ (n + 1) : Nat) : Int) - 1) = ((2 ^ (n + 1) - 1 : Nat) : Int) := by rw [IntKind.wrap_u16]; omega
  generalize 2 ^ (n + 1) = q at hb h2 h3 hw ⊢
  go_enter Tryz.func77, Tryz.ntmps77
  go_wp2_with (first | (go_at_call 79; refine (hb _).mono ?_; rintro e w' ⟨rfl, rfl⟩))
  go_ret
  exact ⟨rfl, rfl⟩
end Go.Proofs.YthjiiljglgmkpaaGreatDoor
namespace Go.Proofs.YthjiiljglgmkpaaGreatDoor
open Go.RowKit
set_option linter.unusedVariables false
set_option linter.unusedSimpArgs false
set_option maxRecDepth 100000

namespace Lf
/-- The count that a byte tells, -1: none. -/
def dn (c : Nat) : Int := if isD c then ((c - 48 : Nat) : Int) else -1
theorem dn_all : ((List.range 256).all fun c => Lib.indexByte (ByteArray.mk #[48, 49, 50, 51, 52, 53, 54, 55, 56, 57]).data.toList c.toUInt8 == dn c) = true := by decide +kernel
theorem dn_is {c : Nat} (h : c < 256) : Lib.indexByte (ByteArray.mk #[48, 49, 50, 51, 52, 53, 54, 55, 56, 57]).data.toList c.toUInt8 = dn c := by
  have := List.all_eq_true.1 dn_all c (List.mem_range.2 h)
  simpa using this
theorem dn_dec (c : Nat) : decide (0 ≤ dn c) = isD c := by
  unfold dn
  split
  · rename_i h; rw [h]; simp
  · rename_i h; simp at h; rw [h]; rfl
theorem dn_yes {c : Nat} (h : isD c = true) : dn c = ((c - 48 : Nat) : Int) := by unfold dn; rw [if_pos h]
theorem dn_no {c : Nat} (h : isD c = false) : dn c = -1 := by unfold dn; rw [h]; rfl
end Lf

theorem of_below {w w' : World} (h : Below w.heap.size w w') : w.grownBy w' none := ⟨h.os, h.tape, h.output, h.size, fun k hk _ => h.block k hk⟩
theorem size1 (w : World) (hv : Hid (Hv w)) : Calls Tryz.prog 76 #[.int .u8 1] w fun e w' => e = .returned (.tuple #[.int .i64 8, .int .i64 0]) ∧ w.grownBy w' none := sizeYes 1 (by decide) (by decide) w hv
theorem ascii1 : ∀ (j : Nat) b, (ByteArray.mk #[57]).data.toList[j]? = some b → b.toNat < 128 := by
  intro j b hb
  have hm : b ∈ (ByteArray.mk #[57]).data.toList := List.mem_of_getElem? hb
  simp at hm
  rcases hm with rfl <;> decide
theorem size2 (w : World) (hv : Hid (Hv w)) : Calls Tryz.prog 76 #[.int .u8 2] w fun e w' => e = .returned (.tuple #[.int .i64 4, .int .i64 0]) ∧ w.grownBy w' none := sizeYes 2 (by decide) (by decide) w hv
theorem ascii2 : ∀ (j : Nat) b, (ByteArray.mk #[53, 54, 55, 56, 57]).data.toList[j]? = some b → b.toNat < 128 := by
  intro j b hb
  have hm : b ∈ (ByteArray.mk #[53, 54, 55, 56, 57]).data.toList := List.mem_of_getElem? hb
  simp at hm
  rcases hm with rfl | rfl | rfl | rfl | rfl <;> decide
theorem size3 (w : World) (hv : Hid (Hv w)) : Calls Tryz.prog 76 #[.int .u8 3] w fun e w' => e = .returned (.tuple #[.int .i64 6, .int .i64 0]) ∧ w.grownBy w' none := sizeYes 3 (by decide) (by decide) w hv
theorem ascii3 : ∀ (j : Nat) b, (ByteArray.mk #[55, 56, 57]).data.toList[j]? = some b → b.toNat < 128 := by
  intro j b hb
  have hm : b ∈ (ByteArray.mk #[55, 56, 57]).data.toList := List.mem_of_getElem? hb
  simp at hm
  rcases hm with rfl | rfl | rfl <;> decide
namespace Lf
/-- May a rule be? -/
def ck (ho bo st : Nat) : Nat := if 1 ≤ ho ∧ ho ≤ 3 then (if bo < 2 ^ (mo ho + 1) ∧ st < 2 ^ (mo ho + 1) then 0 else 82) else 70
theorem ck_or {h bo st : Nat} (hb : bo < 65536) (hs : st < 65536) (h1 : 1 ≤ h) (h3 : h ≤ 3) : (adn (bo ||| st) (2 ^ (mo h + 1) - 1) = 0) ↔ ck h bo st = 0 := by
  have ho : bo ||| st < 65536 := Nat.or_lt_two_pow (n := 16) hb hs
  rw [adn_up ho, or_up]
  unfold ck
  rw [if_pos ⟨h1, h3⟩]
  split <;> simp_all
theorem ck_hood {h bo st : Nat} (hn : ¬ (1 ≤ h ∧ h ≤ 3)) : ck h bo st = 70 := if_neg hn
theorem ck_count {h bo st : Nat} (h1 : 1 ≤ h) (h3 : h ≤ 3) (hn : ck h bo st ≠ 0) : ck h bo st = 82 := by
  unfold ck at hn ⊢
  rw [if_pos ⟨h1, h3⟩] at hn ⊢
  split at hn
  · exact absurd rfl hn
  · rename_i h; rw [if_neg h]
/-- The greatest count of a rule that may be, else 0. -/
def gm (ho bo st : Nat) : Nat := if ck ho bo st = 0 then mo ho else 0
end Lf

set_option maxHeartbeats 1000000 in
theorem greatest1 (bo st : Nat) (hb : bo < 65536) (hs : st < 65536) (w : World) (hv : Hid (Hv w)) : Calls Tryz.prog 48 #[.agg #[.int .u8 1, .int .u16 bo, .int .u16 st]] w fun e w' => e = .returned (.tuple #[.int .i64 (Lf.gm 1 bo st : Nat), .int .i64 (Lf.ck 1 bo st : Nat)]) ∧ w.grownBy w' none := by
  have hor := or16 bo st hb hs
  have ho : bo ||| st < 65536 := Nat.or_lt_two_pow (n := 16) hb hs
  have han := adn16 (bo ||| st) (2 ^ (8 + 1) - 1) ho (by decide)
  have hck : Hid ((Lf.adn (bo ||| st) (2 ^ (8 + 1) - 1) = 0) ↔ Lf.ck 1 bo st = 0) := Lf.ck_or (h := 1) hb hs (by decide) (by decide)
  have hut : ∀ w, Calls Tryz.prog 77 #[.int .i64 8] w fun e w' => e = .returned (.int .u16 ((2 ^ (8 + 1) - 1 : Nat) : Int)) ∧ w' = w := upToC 8 (by decide)
  obtain ⟨W1, hW1, sz1, g1, B1⟩ := boxn w #[.int .u8 1, .int .u16 bo, .int .u16 st] 28
  have hv1 := hvK hv g1
  have c0 := B1.cell 0 (v := .int .u8 1) rfl
  have c1 := B1.cell 1 (v := .int .u16 bo) rfl
  have c2 := B1.cell 2 (v := .int .u16 st) rfl
  generalize bo ||| st = x at hor ho han hck
  generalize 2 ^ (8 + 1) - 1 = y at han hck hut
  generalize Lf.adn x y = z at han hck
  by_cases hz : z = 0
  · have e1 := hck.out.1 hz
    unfold Lf.gm
    rw [e1]
    simp only [if_true]
    subst hz
    clear hck e1 ho hb hs
    go_enter Tryz.func48, Tryz.ntmps48
    go_wp2_with (first | (go_at_call 76; refine (size1 _ hv1).mono ?_; rintro e w2 ⟨rfl, g2⟩; have k1 := (B1.kept g2 (by simp)).cell 1 (v := .int .u16 bo) rfl; have k2 := (B1.kept g2 (by simp)).cell 2 (v := .int .u16 st) rfl) | (go_at_call 77; refine (hut _).mono ?_; rintro e w3 ⟨rfl, rfl⟩))
    go_ret2
    exact ⟨rfl, gb_trans g1 g2⟩
  · have e1 : ¬ Lf.ck 1 bo st = 0 := fun e => hz (hck.out.2 e)
    have e2 := Lf.ck_count (by decide) (by decide) e1
    unfold Lf.gm
    rw [if_neg e1, e2]
    have hz' : ((z : Int) == 0) = false := by simp; exact hz
    have hz'' : ¬ (z : Int) = 0 := by omega
    clear hck e1 e2 ho hb hs
    go_enter Tryz.func48, Tryz.ntmps48
    go_wp2_with (first | (go_at_call 76; refine (size1 _ hv1).mono ?_; rintro e w2 ⟨rfl, g2⟩; have k1 := (B1.kept g2 (by simp)).cell 1 (v := .int .u16 bo) rfl; have k2 := (B1.kept g2 (by simp)).cell 2 (v := .int .u16 st) rfl) | (go_at_call 77; refine (hut _).mono ?_; rintro e w3 ⟨rfl, rfl⟩))
    go_ret2
    exact ⟨rfl, gb_trans g1 g2⟩

set_option maxHeartbeats 1000000 in
theorem greatest2 (bo st : Nat) (hb : bo < 65536) (hs : st < 65536) (w : World) (hv : Hid (Hv w)) : Calls Tryz.prog 48 #[.agg #[.int .u8 2, .int .u16 bo, .int .u16 st]] w fun e w' => e = .returned (.tuple #[.int .i64 (Lf.gm 2 bo st : Nat), .int .i64 (Lf.ck 2 bo st : Nat)]) ∧ w.grownBy w' none := by
  have hor := or16 bo st hb hs
  have ho : bo ||| st < 65536 := Nat.or_lt_two_pow (n := 16) hb hs
  have han := adn16 (bo ||| st) (2 ^ (4 + 1) - 1) ho (by decide)
  have hck : Hid ((Lf.adn (bo ||| st) (2 ^ (4 + 1) - 1) = 0) ↔ Lf.ck 2 bo st = 0) := Lf.ck_or (h := 2) hb hs (by decide) (by decide)
  have hut : ∀ w, Calls Tryz.prog 77 #[.int .i64 4] w fun e w' => e = .returned (.int .u16 ((2 ^ (4 + 1) - 1 : Nat) : Int)) ∧ w' = w := upToC 4 (by decide)
  obtain ⟨W1, hW1, sz1, g1, B1⟩ := boxn w #[.int .u8 2, .int .u16 bo, .int .u16 st] 28
  have hv1 := hvK hv g1
  have c0 := B1.cell 0 (v := .int .u8 2) rfl
  have c1 := B1.cell 1 (v := .int .u16 bo) rfl
  have c2 := B1.cell 2 (v := .int .u16 st) rfl
  generalize bo ||| st = x at hor ho han hck
  generalize 2 ^ (4 + 1) - 1 = y at han hck hut
  generalize Lf.adn x y = z at han hck
  by_cases hz : z = 0
  · have e1 := hck.out.1 hz
    unfold Lf.gm
    rw [e1]
    simp only [if_true]
    subst hz
    clear hck e1 ho hb hs
    go_enter Tryz.func48, Tryz.ntmps48
    go_wp2_with (first | (go_at_call 76; refine (size2 _ hv1).mono ?_; rintro e w2 ⟨rfl, g2⟩; have k1 := (B1.kept g2 (by simp)).cell 1 (v := .int .u16 bo) rfl; have k2 := (B1.kept g2 (by simp)).cell 2 (v := .int .u16 st) rfl) | (go_at_call 77; refine (hut _).mono ?_; rintro e w3 ⟨rfl, rfl⟩))
    go_ret2
    exact ⟨rfl, gb_trans g1 g2⟩
  · have e1 : ¬ Lf.ck 2 bo st = 0 := fun e => hz (hck.out.2 e)
    have e2 := Lf.ck_count (by decide) (by decide) e1
    unfold Lf.gm
    rw [if_neg e1, e2]
    have hz' : ((z : Int) == 0) = false := by simp; exact hz
    have hz'' : ¬ (z : Int) = 0 := by omega
    clear hck e1 e2 ho hb hs
    go_enter Tryz.func48, Tryz.ntmps48
    go_wp2_with (first | (go_at_call 76; refine (size2 _ hv1).mono ?_; rintro e w2 ⟨rfl, g2⟩; have k1 := (B1.kept g2 (by simp)).cell 1 (v := .int .u16 bo) rfl; have k2 := (B1.kept g2 (by simp)).cell 2 (v := .int .u16 st) rfl) | (go_at_call 77; refine (hut _).mono ?_; rintro e w3 ⟨rfl, rfl⟩))
    go_ret2
    exact ⟨rfl, gb_trans g1 g2⟩

set_option maxHeartbeats 1000000 in
theorem greatest3 (bo st : Nat) (hb : bo < 65536) (hs : st < 65536) (w : World) (hv : Hid (Hv w)) : Calls Tryz.prog 48 #[.agg #[.int .u8 3, .int .u16 bo, .int .u16 st]] w fun e w' => e = .returned (.tuple #[.int .i64 (Lf.gm 3 bo st : Nat), .int .i64 (Lf.ck 3 bo st : Nat)]) ∧ w.grownBy w' none := by
  have hor := or16 bo st hb hs
  have ho : bo ||| st < 65536 := Nat.or_lt_two_pow (n := 16) hb hs
  have han := adn16 (bo ||| st) (2 ^ (6 + 1) - 1) ho (by decide)
  have hck : Hid ((Lf.adn (bo ||| st) (2 ^ (6 + 1) - 1) = 0) ↔ Lf.ck 3 bo st = 0) := Lf.ck_or (h := 3) hb hs (by decide) (by decide)
  have hut : ∀ w, Calls Tryz.prog 77 #[.int .i64 6] w fun e w' => e = .returned (.int .u16 ((2 ^ (6 + 1) - 1 : Nat) : Int)) ∧ w' = w := upToC 6 (by decide)
  obtain ⟨W1, hW1, sz1, g1, B1⟩ := boxn w #[.int .u8 3, .int .u16 bo, .int .u16 st] 28
  have hv1 := hvK hv g1
  have c0 := B1.cell 0 (v := .int .u8 3) rfl
  have c1 := B1.cell 1 (v := .int .u16 bo) rfl
  have c2 := B1.cell 2 (v := .int .u16 st) rfl
  generalize bo ||| st = x at hor ho han hck
  generalize 2 ^ (6 + 1) - 1 = y at han hck hut
  generalize Lf.adn x y = z at han hck
  by_cases hz : z = 0
  · have e1 := hck.out.1 hz
    unfold Lf.gm
    rw [e1]
    simp only [if_true]
    subst hz
    clear hck e1 ho hb hs
    go_enter Tryz.func48, Tryz.ntmps48
    go_wp2_with (first | (go_at_call 76; refine (size3 _ hv1).mono ?_; rintro e w2 ⟨rfl, g2⟩; have k1 := (B1.kept g2 (by simp)).cell 1 (v := .int .u16 bo) rfl; have k2 := (B1.kept g2 (by simp)).cell 2 (v := .int .u16 st) rfl) | (go_at_call 77; refine (hut _).mono ?_; rintro e w3 ⟨rfl, rfl⟩))
    go_ret2
    exact ⟨rfl, gb_trans g1 g2⟩
  · have e1 : ¬ Lf.ck 3 bo st = 0 := fun e => hz (hck.out.2 e)
    have e2 := Lf.ck_count (by decide) (by decide) e1
    unfold Lf.gm
    rw [if_neg e1, e2]
    have hz' : ((z : Int) == 0) = false := by simp; exact hz
    have hz'' : ¬ (z : Int) = 0 := by omega
    clear hck e1 e2 ho hb hs
    go_enter Tryz.func48, Tryz.ntmps48
    go_wp2_with (first | (go_at_call 76; refine (size3 _ hv1).mono ?_; rintro e w2 ⟨rfl, g2⟩; have k1 := (B1.kept g2 (by simp)).cell 1 (v := .int .u16 bo) rfl; have k2 := (B1.kept g2 (by simp)).cell 2 (v := .int .u16 st) rfl) | (go_at_call 77; refine (hut _).mono ?_; rintro e w3 ⟨rfl, rfl⟩))
    go_ret2
    exact ⟨rfl, gb_trans g1 g2⟩

theorem greatestC (ho bo st : Nat) (hh : ho < 256) (hb : bo < 65536) (hs : st < 65536) (w : World) (hv : Hid (Hv w)) : Calls Tryz.prog 48 #[.agg #[.int .u8 ho, .int .u16 bo, .int .u16 st]] w fun e w' => e = .returned (.tuple #[.int .i64 (Lf.gm ho bo st : Nat), .int .i64 (Lf.ck ho bo st : Nat)]) ∧ w.grownBy w' none := by
  by_cases h13 : 1 ≤ ho ∧ ho ≤ 3
  · obtain ⟨h1, h3⟩ := h13
    match ho, h1, h3 with
    | 1, _, _ => exact greatest1 bo st hb hs w hv
    | 2, _, _ => exact greatest2 bo st hb hs w hv
    | 3, _, _ => exact greatest3 bo st hb hs w hv
  · have e2 := Lf.ck_hood (bo := bo) (st := st) h13
    unfold Lf.gm
    rw [e2]
    simp only [show ¬ (70 : Nat) = 0 by decide, if_false]
    obtain ⟨W1, hW1, sz1, g1, B1⟩ := boxn w #[.int .u8 ho, .int .u16 bo, .int .u16 st] 28
    have c0 := B1.cell 0 (v := .int .u8 ho) rfl
    have hz := fun w => sizeNo (ho : Int) (by omega) (by omega) (by omega) w
    clear e2 h13
    go_enter Tryz.func48, Tryz.ntmps48
    go_wp2_with (first | (go_at_call 76; refine (hz _).mono ?_; rintro e w2 ⟨rfl, g2⟩))
    go_ret2
    exact ⟨rfl, gb_trans g1 g2⟩
end Go.Proofs.YthjiiljglgmkpaaGreatDoor
namespace Go.Proofs.YthjiiljglgmkpaaGreatDoor
open Go.RowKit
set_option linter.unusedVariables false
set_option linter.unusedSimpArgs false
set_option maxRecDepth 100000

namespace Lf
/-- The digits of the counts below k, rising. -/
def tdl (v : Nat) : Nat → List UInt8
  | 0 => []
  | k + 1 => tdl v k ++ (if v.testBit k then [UInt8.ofNat (k + 48)] else [])
theorem tdl_len (v : Nat) : ∀ k, (tdl v k).length ≤ k
  | 0 => Nat.le_refl _
  | k + 1 => by
    have := tdl_len v k
    unfold tdl
    split <;> simp <;> omega
def td (v : Nat) : ByteArray := ⟨(tdl v 10).toArray⟩
end Lf
theorem bc_app (l : List UInt8) (k : Nat) (h : k < 10) : Lib.byteCells l ++ [.int .u8 ((k + 48 : Nat) : Int)] = Lib.byteCells (l ++ [UInt8.ofNat (k + 48)]) := by
  unfold Lib.byteCells
  rw [List.map_append]
  congr 1
  match k, h with
  | 0, _ => rfl
  | 1, _ => rfl
  | 2, _ => rfl
  | 3, _ => rfl
  | 4, _ => rfl
  | 5, _ => rfl
  | 6, _ => rfl
  | 7, _ => rfl
  | 8, _ => rfl
  | 9, _ => rfl
namespace Lf
def lt (h : Nat) : ByteArray := if h = 2 then ⟨#[86]⟩ else if h = 3 then ⟨#[72]⟩ else ⟨#[]⟩
end Lf
set_option maxHeartbeats 1000000 in
theorem lifeCk (ho bo st : Nat) (hh : ho < 256) (hb : bo < 65536) (hs : st < 65536) (w : World) (hv : Hid (Hv w)) : Calls Tryz.prog 30 #[.agg #[.int .u8 ho, .int .u16 bo, .int .u16 st]] w fun e w' => e = .returned (.int .i64 (Lf.ck ho bo st : Nat)) ∧ w.grownBy w' none := by
  have hg := fun w hv => greatestC ho bo st hh hb hs w hv
  generalize Lf.ck ho bo st = q at hg ⊢
  generalize Lf.gm ho bo st = g at hg
  obtain ⟨W1, hW1, sz1, g1, B1⟩ := boxn w #[.int .u8 ho, .int .u16 bo, .int .u16 st] 28
  have hv1 := hvK hv g1
  have c0 := B1.cell 0 (v := .int .u8 ho) rfl
  have c1 := B1.cell 1 (v := .int .u16 bo) rfl
  have c2 := B1.cell 2 (v := .int .u16 st) rfl
  go_enter Tryz.func30, Tryz.ntmps30
  go_wp2_with (first | (go_at_call 48; refine (hg _ hv1).mono ?_; rintro e w2 ⟨rfl, g2⟩))
  go_ret
  exact ⟨rfl, gb_trans g1 g2⟩

namespace Lf
def pr (ho bo st : Nat) : ByteArray := if ck ho bo st = 0 then (((⟨#[66]⟩ : ByteArray) ++ td bo) ++ (⟨#[47, 83]⟩ : ByteArray) ++ td st) ++ lt ho else ⟨#[]⟩
end Lf
theorem Lf.td_size (v : Nat) : (Lf.td v).size ≤ 10 := by
  unfold Lf.td
  show (Lf.tdl v 10).toArray.size ≤ 10
  rw [List.size_toArray]
  exact Lf.tdl_len v 10
theorem Lf.lt_size (h : Nat) : (Lf.lt h).size ≤ 1 := by unfold Lf.lt; split; exact Nat.le_refl _; split; exact Nat.le_refl _; exact Nat.zero_le _
end Go.Proofs.YthjiiljglgmkpaaGreatDoor
