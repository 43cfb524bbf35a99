/- What the calls of package words that make rows answer: blank, copied, cut. -/
import Derived.Test.YtcdefpfnjjahgabW1
namespace Go.Proofs.Ytcdefpfnjjahgab
open Go.RowKit
set_option linter.unusedVariables false

theorem infoW : (Try.prog.info? 22).map (fun i => (i.zero, i.size, i.bytes)) = some (some (.int .u64 0), 1, 8) := by kernel_rfl
theorem infoWs : (Try.prog.info? 22).map (·.size) = some 1 := by kernel_rfl
theorem underS : Try.prog.underlying 29 = some (.slice 22) := by kernel_rfl

theorem underR : ∃ fs, Try.prog.underlying 31 = some (.struct fs) := by
  have h : (match Try.prog.underlying 31 with | some (.struct _) => true | _ => false) = true := by kernel_rfl
  split at h
  · exact ⟨_, by assumption⟩
  · cases h
theorem infoR : (Try.prog.info? 31).map (·.size) = some 2 := by kernel_rfl

theorem blankC (m : Nat) (h1 : m ≤ 65538) (w : World) :
    Calls Try.prog 35 #[.int .i64 m] w fun e w' => ∃ b, e = .returned (.agg #[.int .i64 m, .slice (some ⟨b, 0, none⟩) ((m + 63) / 64) ((m + 63) / 64)]) ∧ Row w' 22 b ((m + 63) / 64) (fun _ => false) ∧ w.grownBy w' none ∧ w.heap.size ≤ b ∧ Hid (b < w'.heap.size) := by
  obtain ⟨c, hc⟩ : ∃ c : Nat, c = (m + 63) / 64 := ⟨_, rfl⟩
  have hw := wordsForC m (by omega)
  rw [← hc] at hw ⊢
  have cl : c ≤ 1025 := by omega
  clear hc
  have hmk := run_make_row' (P := Try.prog) 29 22 (.int .u64 0) 8 underS infoW rfl .i64 .i64 c (by omega) (by omega)
  go_enter Try.func35, Try.ntmps35
  go_wp2_with (first | (go_at_call 36; refine (hw _).mono ?_; rintro e w' ⟨rfl, rfl⟩))
  obtain ⟨fs, hfs⟩ := underR
  refine ret_box1 (g := w.heap.size) (t := 31) rfl hfs infoR rfl ((Bx.new w _ _ _).kept (World.grownBy_alloc _ _ none) (by simp)) rfl ?_
  refine ⟨w.heap.size + 1, rfl, ?_, gb_alloc (World.grownBy_alloc _ _ _) _, by omega, ?_⟩
  · have h := World.rowIs_made (w.alloc (Obj.cells #[Value.int IntKind.i64 m, Value.slice (some ⟨w.heap.size + 1, 0, none⟩) c c] 31)) (.int .u64 0) c 22
    have e : (w.alloc (Obj.cells #[Value.int IntKind.i64 m, Value.slice (some ⟨w.heap.size + 1, 0, none⟩) c c] 31)).heap.size = w.heap.size + 1 := by simp
    rw [e] at h
    exact h.congr fun i hi => by rw [Pk.pack_zero]; rfl
  · unfold Hid; simp

theorem copiedC (m n cap : Nat) (sp : Option Addr) (p : Nat → Bool) (h1 : m ≤ 65538) (hn : n = (m + 63) / 64) (w : World) (hc : Wd w sp n (Pk.pack p)) :
    Calls Try.prog 40 #[.agg #[.int .i64 m, .slice sp n cap]] w fun e w' => ∃ b, e = .returned (.agg #[.int .i64 m, .slice (some ⟨b, 0, none⟩) n n]) ∧ Row w' 22 b n p ∧ w.grownBy w' none ∧ w.heap.size ≤ b ∧ Hid (b < w'.heap.size) := by
  have hb := blankC m h1
  rw [← hn] at hb
  clear hn
  obtain ⟨W1, hW, c0, c1, sz, hg, hB⟩ := box2 w (.int .i64 m) (.slice sp n cap) 31
  obtain ⟨W2, hW2, d0, d1, sz2, hg2, hB2⟩ := box2 W1 (.int .i64 0) (.slice none 0 0) 31
  have hc2 := (hc.kept hg (by simp)).kept hg2 (by simp)
  have hB' := hB.kept hg2 (by simp)
  have e0 := hB'.cell0
  have e1 := hB'.cell1
  go_enter Try.func40, Try.ntmps40
  go_wp2_with (first | (go_at_call 35; refine (hb W2).mono ?_; rintro e w' ⟨b, rfl, hr, hg3, hlt, hlt2⟩; obtain ⟨W3, hW3, g0, g1, sz3, hg4, hB3⟩ := box2 w' (.int .i64 m) (.slice (some ⟨b, 0, none⟩) n n) 31; have hg34 := gb_none hg3 hg4; have f1 := (hB'.kept hg34 (by simp)).cell1; have hr3 := hr.kept hg4 (by simp); have hc3 := hc2.kept hg34 (by simp); obtain ⟨W4, hcp, hr4, hg5⟩ := run_copy_words (P := Try.prog) W3 29 29 3 22 underS infoWs sp n n cap 22 b _ p hr3 hc3; have hB34 := hB3.kept hg5 (by have := hlt2.out; simp; omega); have k0 := hB34.cell0; have k1 := hB34.cell1; have hB24 := (hB2.kept hg34 (by simp)).kept hg5 (by have := sz2.out; simp; omega); have l0 := hB24.cell0; have l1 := hB24.cell1; have m0 := hB24.free0; have m1 := hB24.free1))
  have hs1 := sz.out
  have hs2 := sz2.out
  have hne : W1.heap.size ≠ b := by omega
  obtain ⟨fs, hfs⟩ := underR
  refine ret_box1 (g := W1.heap.size) (t := 31) rfl hfs infoR rfl (hB24.set _ _) rfl ?_
  have G4 : w.grownBy W4 none := gb_past (gb_trans (gb_trans hg hg2) hg34) hg5 (by omega)
  refine ⟨b, rfl, ?_, gb_new (gb_new G4 (by show w.heap.size ≤ W1.heap.size; omega) _) (by show w.heap.size ≤ W1.heap.size; omega) _, by omega, ?_⟩
  · exact (World.rowIs.setOther (World.rowIs.setOther hr4 (Ne.symm hne) _) (Ne.symm hne) _)
  · have := World.rowIs.lt hr4
    unfold Hid
    simpa [World.setCell] using this

end Go.Proofs.Ytcdefpfnjjahgab
