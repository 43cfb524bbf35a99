/- The rows of inputs, and what a function answers row by row. -/
import Derived.Test.YteaionmjbkildabDoorQ16
namespace Go.Proofs.YteaionmjbkildabDoor
open Go.RowKit
set_option linter.unusedVariables false
set_option linter.unusedSimpArgs false
set_option maxRecDepth 100000
attribute [local go_sem] Oper.semAt_some

set_option maxHeartbeats 1000000 in
theorem rows1C (n l gI gS st inp : Nat) (hst : st ≤ 256) (hin : inp ≤ 16) (J Jx : List (List Nat) → World → Prop) (W : World) (hI : Bo W gI 3 #[.int .i64 (inp : Nat)]) (hS : Bo W gS 3 #[.int .i64 (st : Nat)]) (hJ : ∀ s A B, J s A → A.grownBy B (some (W.heap.size + 1)) → J s B)
    (hY : ∀ pre x W1 m, J pre W1 → Rx (W.heap.size + 1) inp st x W1 → pre.length < st ^ inp → YieldAt Fence.wide m Tryd.prog l #[.slice (some ⟨W.heap.size + 1, 0, none⟩) inp inp] W1 fun e W' => (e = .returned (.bool true) ∧ J (pre ++ [x]) W' ∧ Kr gI W.heap.size (W.heap.size + 1 + 1) gS (W.heap.size + 1 + 1 + 1) (W.heap.size + 1) W1 W') ∨ (e = .returned (.bool false) ∧ Jx (pre ++ [x]) W'))
    (h0 : J [] W) :
    CallsIn Fence.wide n Tryd.prog 69 #[.func (.yield l) #[] #[], .pointer (some ⟨gI, 0, none⟩), .pointer (some ⟨gS, 0, none⟩)] W fun e W' => (∃ v, e = .returned v) ∧ ((∃ xs, xs = rws st inp ∧ J xs W') ∨ (∃ pre, (∃ r, pre ++ r = rws st inp) ∧ Jx pre W')) := by
  have hmk := run_make_row' (P := Tryd.prog) 44 5 (.int .u8 0) 1 under8S info8 rfl .i64 .i64 inp (by omega) (by omega)
  obtain ⟨V, hV⟩ : ∃ V, (((W.alloc (.cells #[.func (.yield l) #[] #[]] 119)).alloc (.cells (madeCells #[.int .u8 0] inp) 5)).alloc (.cells #[.slice (some ⟨W.heap.size + 1, 0, none⟩) inp inp] 44)).alloc (.cells #[.func (.func 70) #[] #[.pointer (some ⟨gI, 0, none⟩), .pointer (some ⟨W.heap.size, 0, none⟩), .pointer (some ⟨W.heap.size + 1 + 1, 0, none⟩), .pointer (some ⟨gS, 0, none⟩), .pointer (some ⟨W.heap.size + 1 + 1 + 1, 0, none⟩)]] 120) = V := ⟨_, rfl⟩
  have gV : W.grownBy V none := (by rw [← hV]; exact gb_alloc (gb_alloc (gb_alloc (World.grownBy_alloc _ _ _) _) _) _)
  have BY : Bo V W.heap.size 119 #[.func (.yield l) #[] #[]] := (by rw [← hV]; exact (((Bo.new W _ _).more _).more _).more _)
  have BR : Bo V (W.heap.size + 1 + 1) 44 #[.slice (some ⟨W.heap.size + 1, 0, none⟩) inp inp] := (by rw [← hV]; exact (bo_at (by simp)).more _)
  have BF : Bo V (W.heap.size + 1 + 1 + 1) 120 #[.func (.func 70) #[] #[.pointer (some ⟨gI, 0, none⟩), .pointer (some ⟨W.heap.size, 0, none⟩), .pointer (some ⟨W.heap.size + 1 + 1, 0, none⟩), .pointer (some ⟨gS, 0, none⟩), .pointer (some ⟨W.heap.size + 1 + 1 + 1, 0, none⟩)]] := (by rw [← hV]; exact bo_at (by simp))
  have RV : V.rowIs (W.heap.size + 1) 5 inp (fun _ => .int .u8 0) := (by
    rw [← hV]
    have h := World.rowIs_made (W.alloc (.cells #[.func (.yield l) #[] #[]] 119)) (.int .u8 0) inp 5
    rw [show (W.alloc (.cells #[.func (.yield l) #[] #[]] 119)).heap.size = W.heap.size + 1 by simp] at h
    exact (World.rowIs.alloc (World.rowIs.alloc h _) _))
  have CV : Rc V l gI W.heap.size (W.heap.size + 1 + 1) gS (W.heap.size + 1 + 1 + 1) (W.heap.size + 1) st inp := ⟨hI.kept gV (by simp), BY, BR, hS.kept gV (by simp), BF⟩
  have hIl := hI.lt
  have hSl := hS.lt
  have hf := fromC l gI W.heap.size (W.heap.size + 1 + 1) gS (W.heap.size + 1 + 1 + 1) (W.heap.size + 1) st inp hst hin ⟨by omega, by omega, by omega, by omega, by omega⟩ (by unfold Hid; omega) (st ^ inp) J Jx hJ hY inp [] [] V (n - 1) (by simp) (by simp) CV (hJ _ _ _ h0 (gV.but _)) ⟨_, RV, fun i hi => absurd hi (by simp), by simp⟩
  have i0 := hI.cell 0 (v := .int .i64 (inp : Nat)) rfl
  have f0 := BF.cell 0 (v := .func (.func 70) #[] #[.pointer (some ⟨gI, 0, none⟩), .pointer (some ⟨W.heap.size, 0, none⟩), .pointer (some ⟨W.heap.size + 1 + 1, 0, none⟩), .pointer (some ⟨gS, 0, none⟩), .pointer (some ⟨W.heap.size + 1 + 1 + 1, 0, none⟩)]) rfl
  have hmap : Hid ((rws st inp).map (([] : List Nat) ++ ·) = rws st inp) := by unfold Hid; simp
  refine callsIn_of_wp Tryd.func69 rfl trivial ?_ rfl
  simp only [Tryd.ntmps69, List.size_toArray, List.length_cons, List.length_nil, Nat.reduceAdd, Nat.reduceSub, Array.replicate_succ, Array.replicate_zero, List.push_toArray, List.append_toArray, List.nil_append, List.cons_append]
  have i1 := (hI.more (.cells #[.func (.yield l) #[] #[]] 119)).cell 0 (v := .int .i64 (inp : Nat)) rfl
  gi_wp2_with (first | (refine ⟨trivial, fun h => by simp [Fence.wide] at h, ?_⟩; gi_at_call 70; refine hf.mono ?_; rintro e w2 (⟨rfl, hJ2, C2, hw2⟩ | ⟨rfl, qq, rr, hqr, hx2⟩)))
  · go_end0
    exact ⟨⟨_, rfl⟩, .inl ⟨_, rfl, by rw [hmap.out] at hJ2; simpa using hJ2⟩⟩
  · go_end0
    exact ⟨⟨_, rfl⟩, .inr ⟨qq, ⟨rr, by rw [hqr, hmap.out]⟩, by simpa using hx2⟩⟩

theorem rowsC (n st inp : Nat) (w : World) : CallsIn Fence.wide n Tryd.prog 57 #[.int .i64 (st : Nat), .int .i64 (inp : Nat)] w fun e w' => e = .returned (.func (.func 69) #[] #[.pointer (some ⟨w.heap.size + 1, 0, none⟩), .pointer (some ⟨w.heap.size, 0, none⟩)]) ∧ w' = (w.alloc (.cells #[.int .i64 (st : Nat)] 3)).alloc (.cells #[.int .i64 (inp : Nat)] 3) := by
  refine callsIn_of_wp Tryd.func57 rfl trivial ?_ rfl
  simp only [Tryd.ntmps57, List.size_toArray, List.length_cons, List.length_nil, Nat.reduceAdd, Nat.reduceSub, Array.replicate_succ, Array.replicate_zero, List.push_toArray, List.append_toArray, List.nil_append, List.cons_append]
  gi_wp2
  go_ret
  exact ⟨rfl, rfl⟩
end Go.Proofs.YteaionmjbkildabDoor
