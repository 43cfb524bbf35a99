/- LinearNames: the walk. -/
import Derived.Test.YtijjbejilpglnaaGreatN33
import Derived.Test.YtijjbejilpglnaaGreatN32
namespace Go.Proofs.YtijjbejilpglnaaGreat
open Go.RowKit
set_option linter.unusedVariables false
set_option linter.unusedSimpArgs false
set_option maxRecDepth 100000

namespace Ln
def gN (j : Nat) : Pt := ((j : Int), -(j : Int))
theorem psL_succ (f : Nat → Pt) (n : Nat) : psL f (n + 1) = psL f n ++ [f n] := by unfold psL; rw [List.range_succ, List.map_append]; rfl
theorem gN_64 : ckO gN 64 1099511627776 = 0 := by
  unfold ckO
  rw [if_neg (by omega), if_neg (by
    rw [(alW_is _ gN 64).2 (fun k hk => by rw [inW_is, inW_is]; unfold gN; simp only; omega)]
    simp), tw_no (fun i j hij hj h => by unfold gN at h; simp at h; omega)]
  rfl
theorem gN_65 : ckO gN 65 1099511627776 = 6 := by unfold ckO; rw [if_pos (by omega)]
theorem gN_ok (k : Nat) (hk : k < 65) : PtOk (gN k) := by unfold gN; exact ⟨⟨by simp only; omega, by simp only; omega⟩, ⟨by simp only; omega, by simp only; omega⟩⟩
set_option maxHeartbeats 2000000 in
theorem names_walk (w : World) : Calls Tryz.prog 3 #[] w fun e w' => e = .returned (.bool true) ∧ Below w.heap.size w w' := by
  obtain ⟨i0, HI⟩ : ∃ i, Hid (Tryz.prog.info? 25 = some i ∧ i.zero = some (.agg #[.int .i64 0, .int .i64 0]) ∧ i.size = 2 ∧ i.bytes = 16) := by
    obtain ⟨i, h1, h2, h3, h4⟩ := info_parts infoK
    exact ⟨i, h1, h2, h3, h4⟩
  have kA := aliveC w
  go_enter Tryz.func3, Tryz.ntmps3
  go_wp2_with (first | (go_at_call 9; refine kA.mono ?_; rintro e w1 ⟨rfl, g1⟩) | go_in)
  clear kA
  go_loopw [2, 3] (fun a b wr => ∃ (i : Nat) (ov : Value), i ≤ 65 ∧ a = ov ∧ b = .int .i64 i ∧ wr.ownsRow w.heap.size 25 2 ov i (fl (psL gN i)) ∧ w.grownBy wr none) (fun _ b _ => 65 - (intOf b).toNat)
  case atStart => exact ⟨0, _, by omega, rfl, rfl, World.ownsRow_nil _ _ _ _, g1⟩
  case round =>
    obtain ⟨i, ov, hi, hov, rfl, own, gi⟩ := hrel
    subst hov
    by_cases hlt : i < 65
    · have hlt' : (i : Int) < 65 := by omega
      have hwn : IntKind.i64.wrap (-(i : Int)) = -(i : Int) := by rw [IntKind.wrap_i64]; omega
      obtain ⟨W3, hW3⟩ : ∃ W3, wr.alloc (.cells #[.int .i64 (i : Int), .int .i64 (-(i : Int))] 25) = W3 := ⟨_, rfl⟩
      have g3 : wr.grownBy W3 none := (by rw [← hW3]; exact World.grownBy_alloc _ _ _)
      have nX : ∀ l u, [Value.int .i64 (i : Int), .int .i64 (-(i : Int))][l]? = some u → W3.cell? ((⟨wr.heap.size, 0, none⟩ : Addr).add l) = some u := by rw [← hW3]; exact World.news_of_block (heap_alloc_new _ _)
      have own3 := own.kept g3 (Classical.em _)
      have hb3 : w.heap.size ≤ W3.heap.size := (gb_trans gi g3).size
      have HX : Hid (fl (psL gN i) ++ [.int .i64 (i : Int), .int .i64 (-(i : Int))] = fl (psL gN (i + 1))) := by unfold Hid; rw [psL_succ, fl_app]; rfl
      have how := fun gg e => own3.lt gg e
      clear own
      go_wp2_with (first | (at_builtin; refine wpList_append_lies _ rfl _ _ 23 rfl w.heap.size 25 i0 (.agg #[.int .i64 0, .int .i64 0]) 2 16 underPS HI.out.1 HI.out.2.1 HI.out.2.2.1 HI.out.2.2.2 rfl (by decide) _ i _ rfl own3 ⟨wr.heap.size, 0, none⟩ 1 1 [.int .i64 (i : Int), .int .i64 (-(i : Int))] rfl rfl nX (by intro u hu; simp at hu; rcases hu with rfl | rfl <;> rfl) (by decide) (by unfold maxLen; omega) (by omega) hb3 _ rfl ?_; intro g6 c6 w6 own6 g6' at6 lt6) | go_in)
      go_roundw
      case rel => exact ⟨i + 1, _, by omega, rfl, by go_num, by rw [← HX.out]; exact own6, (gb_trans gi g3).andThen g6' (fun j hj => .inl (how j hj).1)⟩
      case measure => simp [intOf]; omega
    · have hin : i = 65 := by omega
      subst hin
      rcases own.2 with ⟨_, hnil⟩ | ⟨gg, cap, cur, rfl, hb, hbk, h1, h2, h3, h4⟩
      · exact absurd hnil (by decide)
      · have hP : Pl wr (some ⟨gg, 0, none⟩) 65 gN := (pl_own own (psL_len gN 65)).congr (fun j hj => psL_at gN 65 j hj)
        have h64c : (64 : Int) ≤ (cap : Int) := by omega
        have k64 := fun w1 (g1 : wr.grownBy w1 none) (c : Nat) => checkC (some ⟨gg, 0, none⟩) 64 c gN (fun k hk => gN_ok k (by omega)) (by decide) w1 (fun k hk => (hP.kept g1 (by simp)) k (by omega))
        have k65 := fun w1 (g1 : wr.grownBy w1 none) => checkC (some ⟨gg, 0, none⟩) 65 cap gN (fun k hk => gN_ok k hk) (by decide) w1 (hP.kept g1 (by simp))
        have k0 := fun w1 => checkC none 0 0 gN (fun k hk => by omega) (by decide) w1 (fun k hk => by omega)
        have e0 : ckO gN 0 1099511627776 = 0 := by decide
        rw [gN_64] at k64
        rw [gN_65] at k65
        rw [e0] at k0
        clear own h3 h4 hP e0 hbk h2 hb
        have k64r := fun c => k64 wr (World.grownBy.refl _ _) c
        clear k64
        go_wp2_with (first | (go_at_call 10; refine (k64r _).mono ?_; rintro e w2 ⟨rfl, g2⟩; have k65a := k65 w2 g2; clear k64r) | (go_at_call 10; refine k65a.mono ?_; rintro e w3 ⟨rfl, g3⟩; clear k65a; have kz := k0 w3) | (go_at_call 10; refine kz.mono ?_; rintro e w4 ⟨rfl, g4⟩) | go_in)
        go_ret
        exact ⟨rfl, gb_below (gb_trans gi (gb_trans g2 (gb_trans g3 g4)))⟩
end Ln
end Go.Proofs.YtijjbejilpglnaaGreat
