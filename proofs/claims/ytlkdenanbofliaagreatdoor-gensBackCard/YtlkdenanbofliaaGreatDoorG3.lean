/- What secondSlash and readLettered of package gens answer; what the world of a call has. -/
import Derived.Test.YtlkdenanbofliaaGreatDoorGm
import Derived.Test.YtlkdenanbofliaaGreatDoorL7
import Derived.Test.YtlkdenanbofliaaGreatDoorS3
import Derived.Lib.LaidTab
namespace Go.Proofs.YtlkdenanbofliaaGreatDoor
open Go.RowKit
set_option linter.unusedVariables false
set_option linter.unusedSimpArgs false
set_option maxRecDepth 100000

/-- What the walk takes of the world: the table of neighbourhoods, an int in internal/bytealg.MaxLen, an error in strconv.ErrRange, the table of tens. -/
structure En (w : World) : Prop where
  hv : Hv w
  ml : ∃ m : Int, w.cell? ⟨1, 0, none⟩ = some (.int .i64 m)
  er : ∃ tp p, Nu.Er tp p w
  tab : Lib.TabIs Tryz.prog w "internal/strconv.uint64pow10" .u64 Lib.pow10Tab
  size : 8 < w.heap.size
theorem enK {w w' : World} (h : Hid (En w)) (g : w.grownBy w' none) : Hid (En w') := by
  obtain ⟨m, hm⟩ := h.out.ml
  obtain ⟨tp, p, he⟩ := h.out.er
  have hz := h.out.size
  refine ⟨(hvK h.out.hv g), ⟨m, ?_⟩, ⟨tp, p, he.below (gb_below g) (by omega)⟩, Joins.tab_stays (g := 2) (by kernel_rfl) h.out.tab (gb_below g) (Nat.le_refl _), by have := g.size; omega⟩
  have hb := g.block 1 (by omega) (by simp)
  unfold World.cell? at hm ⊢
  rw [hb]; exact hm
theorem enH {w : World} (h : Hid (En w)) : Hid (Hv w) := h.out.hv
theorem enD {w : World} (h : Hid (En w)) : Hid (En w.drew) := enK h (gb_drew (World.grownBy.refl _ _))
set_option maxHeartbeats 1000000 in
theorem secondSlashC (s : ByteArray) (w : World) (en : Hid (En w)) (hs : s.size ≤ 1048576) : Calls Tryz.prog 47 #[.string s] w fun e w' => e = .returned (.int .i64 (Gn.ss s : Nat)) ∧ w.grownBy w' none := by
  obtain ⟨m, hm⟩ := en.out.ml
  have hsp := Tryz.strings_SplitN s ⟨#[47]⟩ 3 m w (by omega) hm (by decide) (by decide) (by decide)
  by_cases h : Gn.ss s < s.size
  · obtain ⟨x, y, h3, h2⟩ := Gn.split3 s h
    have hmin : min 3 (s.size + 1) = 3 := by omega
    rw [hmin] at hsp
    have hcell : (Lib.cellsOf (Lib.splitB ⟨#[47]⟩ 0 (3 - 1) s) 3) = #[.string x, .string y, .string (s.extract (Gn.ss s + 1) s.size)] := by
      show (Lib.cellsOf (Lib.splitB ⟨#[47]⟩ 0 2 s) 3) = _
      rw [h3]; rfl
    have hl : (Lib.splitB ⟨#[47]⟩ 0 (3 - 1) s).length = 3 := by
      show (Lib.splitB ⟨#[47]⟩ 0 2 s).length = _
      rw [h3]; rfl
    rw [hcell, hl] at hsp
    have hz := Sc.size_ext s (a := Gn.ss s + 1) (Nat.le_refl _)
    have hle : Gn.ss s + 1 ≤ s.size := h
    have hw1 : IntKind.i64.wrap ((s.size : Int) - ((s.size - (Gn.ss s + 1) : Nat) : Int)) = ((Gn.ss s + 1 : Nat) : Int) := by rw [IntKind.wrap_i64]; omega
    have hw2 : IntKind.i64.wrap (((Gn.ss s + 1 : Nat) : Int) - 1) = ((Gn.ss s : Nat) : Int) := by rw [IntKind.wrap_i64]; omega
    generalize s.extract (Gn.ss s + 1) s.size = z at hsp hz
    rw [← hz] at hw1
    generalize hq : ((Gn.ss s + 1 : Nat) : Int) = q at hw1 hw2
    generalize Gn.ss s = r at hw2 ⊢
    clear hcell hl hmin h3 hm hz hq h hle h2
    obtain ⟨W1, hW1, sz1, g1, B1⟩ := boxn w #[.string x, .string y, .string z] 9
    have c2 := B1.cell 2 (v := .string z) rfl
    rw [hW1] at hsp
    go_enter Tryz.func47, Tryz.ntmps47
    go_wp2_with (first | (go_at_call 66; refine hsp.mono ?_; rintro e w2 ⟨rfl, hw⟩; subst w2))
    go_ret
    exact ⟨rfl, g1⟩
  · have hss : Gn.ss s = s.size := by have := Gn.ss_le s; omega
    have h3 := Gn.split2 s (min 3 (s.size + 1) - 1) h
    generalize (Lib.splitB ⟨#[47]⟩ 0 (min 3 (s.size + 1) - 1) s).length = l at hsp h3
    have h3' : (l : Int) < 3 := by omega
    rw [hss]
    clear hss h3 h hm
    generalize hcs : Lib.cellsOf (Lib.splitB ⟨#[47]⟩ 0 (min 3 (s.size + 1) - 1) s) (min 3 (s.size + 1)) = cs at hsp
    go_enter Tryz.func47, Tryz.ntmps47
    go_wp2_with (first | (go_at_call 66; refine hsp.mono ?_; rintro e w2 ⟨rfl, hw⟩))
    go_ret
    exact ⟨rfl, World.grownBy_alloc _ _ _⟩
set_option maxHeartbeats 1000000 in
theorem letteredBad (s : ByteArray) (w : World) (en : Hid (En w)) (hs : s.size ≤ 1048576) (r : Lf.PR) (hr : Hid (Lf.parseR (s.extract 0 (Gn.ss s)) = r)) (he : Hid (¬ ((r.er : Nat) : Int) = 0)) : Calls Tryz.prog 25 #[.string s] w fun e w' => e = .returned (.tuple #[.agg #[.int .u8 0, .int .u16 0, .int .u16 0], .int .i64 r.a, .int .i64 r.er]) ∧ w.grownBy w' none := by
  obtain ⟨fs, hfs'⟩ := underLf
  have hfs : Hid (Tryz.prog.underlying 25 = some (.struct fs)) := hfs'
  clear hfs'
  obtain ⟨W1, hW1, sz1, g1, B1⟩ := boxn w #[.int .u8 0, .int .u16 0, .int .u16 0] 25
  have en1 := enK en g1
  have hss := fun w en => secondSlashC s w en hs
  have hp := fun w hv => parseC (s.extract 0 (Gn.ss s)) w hv
  rw [hr.out] at hp
  have hle := Gn.ss_le s
  have hle' : ((Gn.ss s : Nat) : Int) ≤ (s.size : Int) := by omega
  have E1 := he.out
  clear hr
  generalize Gn.ss s = q at hss hp hle hle'
  go_enter Tryz.func25, Tryz.ntmps25
  go_wp2_with (first | (go_at_call 47; refine (hss _ en1).mono ?_; rintro e w2 ⟨rfl, g2⟩; have B2 := B1.kept g2 (by simp); have en2 := enK en1 g2; have G2 := gb_trans g1 g2) | (go_at_call 48; refine (hp _ (enH en2)).mono ?_; rintro e w3 ⟨rfl, g3⟩; have B3 := B2.kept g3 (by simp); have G3 := gb_trans G2 g3; obtain ⟨W4, hW4, sz4, g4, C4⟩ := boxn w3 #[.int .u8 r.ho, .int .u16 r.bo, .int .u16 r.st] 25; have B4 := B3.kept g4 (by simp); have G4 := gb_trans G3 g4) | (refine wpList_st (op := ⟨_, .store 25 _ _, _, _, _, _⟩) rfl 25 _ _ rfl w.heap.size #[.int .u8 0, .int .u16 0, .int .u16 0] rfl rfl B4 infoLf rfl (by simp [Value.oneCell']) ?_; intro W9 hW9 B9))
  refine ret_c3 (g := w.heap.size) (cs := #[.int .u8 0, .int .u16 0, .int .u16 0]) rfl hfs.out infoLf rfl B9 rfl ⟨rfl, hW9 ▸ gb_row2 G4 (by omega)⟩
set_option maxHeartbeats 1000000 in
theorem letteredFine (s : ByteArray) (w : World) (en : Hid (En w)) (hs : s.size ≤ 1048576) (ho bo st a : Nat) (hr : Hid (Lf.parseR (s.extract 0 (Gn.ss s)) = ⟨ho, bo, st, a, 0⟩)) : Calls Tryz.prog 25 #[.string s] w fun e w' => e = .returned (.tuple #[.agg #[.int .u8 ho, .int .u16 bo, .int .u16 st], .int .i64 (Gn.ss s : Nat), .int .i64 0]) ∧ w.grownBy w' none := by
  obtain ⟨fs, hfs'⟩ := underLf
  have hfs : Hid (Tryz.prog.underlying 25 = some (.struct fs)) := hfs'
  clear hfs'
  obtain ⟨W1, hW1, sz1, g1, B1⟩ := boxn w #[.int .u8 0, .int .u16 0, .int .u16 0] 25
  have en1 := enK en g1
  have hss := fun w en => secondSlashC s w en hs
  have hp := fun w hv => parseC (s.extract 0 (Gn.ss s)) w hv
  rw [hr.out] at hp
  have hle := Gn.ss_le s
  have hle' : ((Gn.ss s : Nat) : Int) ≤ (s.size : Int) := by omega
  clear hr
  generalize Gn.ss s = q at hss hp hle hle' ⊢
  go_enter Tryz.func25, Tryz.ntmps25
  go_wp2_with (first | (go_at_call 47; refine (hss _ en1).mono ?_; rintro e w2 ⟨rfl, g2⟩; have B2 := B1.kept g2 (by simp); have en2 := enK en1 g2; have G2 := gb_trans g1 g2) | (go_at_call 48; refine (hp _ (enH en2)).mono ?_; rintro e w3 ⟨rfl, g3⟩; have B3 := B2.kept g3 (by simp); have G3 := gb_trans G2 g3; obtain ⟨W4, hW4, sz4, g4, C4⟩ := boxn w3 #[.int .u8 ho, .int .u16 bo, .int .u16 st] 25; have B4 := B3.kept g4 (by simp); have G4 := gb_trans G3 g4; have p0 := C4.cell 0 (v := .int .u8 ho) rfl; have p1 := C4.cell 1 (v := .int .u16 bo) rfl; have p2 := C4.cell 2 (v := .int .u16 st) rfl) | (refine wpList_st (op := ⟨_, .store 25 _ _, _, _, _, _⟩) rfl 25 _ _ rfl w.heap.size #[.int .u8 ho, .int .u16 bo, .int .u16 st] rfl rfl B4 infoLf rfl (by simp [Value.oneCell']) ?_; intro W9 hW9 B9))
  refine ret_c3 (g := w.heap.size) (cs := #[.int .u8 ho, .int .u16 bo, .int .u16 st]) rfl hfs.out infoLf rfl B9 rfl ⟨rfl, hW9 ▸ gb_row2 G4 (by omega)⟩
theorem readLetteredC (s : ByteArray) (w : World) (en : Hid (En w)) (hs : s.size ≤ 1048576) : Calls Tryz.prog 25 #[.string s] w fun e w' => e = .returned (.tuple #[.agg #[.int .u8 (Gn.lettR s).ho, .int .u16 (Gn.lettR s).bo, .int .u16 (Gn.lettR s).st], .int .i64 (Gn.lettR s).a, .int .i64 (Gn.lettR s).er]) ∧ w.grownBy w' none := by
  unfold Gn.lettR
  cases hr : Lf.parseR (s.extract 0 (Gn.ss s)) with
  | mk ho bo st a er =>
    unfold Gn.lett1
    by_cases he : er = 0
    · subst he
      simp only [if_true]
      exact letteredFine s w en hs ho bo st a hr
    · simp only []
      rw [if_neg he]
      exact letteredBad s w en hs ⟨ho, bo, st, a, er⟩ hr (by unfold Hid; show ¬ ((er : Nat) : Int) = 0; omega)
end Go.Proofs.YtlkdenanbofliaaGreatDoor
