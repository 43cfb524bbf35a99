/- LinearMakes: the walk. -/
import Derived.Test.YtelelnpoijokjaaGreatM1
namespace Go.Proofs.YtelelnpoijokjaaGreat
open Go.RowKit
set_option linter.unusedVariables false
set_option linter.unusedSimpArgs false
set_option maxRecDepth 100000

namespace Ln
theorem bstep {F G : Nat → Bool} {x : Nat} {b0 : Bool} (h : ∀ c, G c = if c = x then Bool.xor b0 true else F c) (c : Nat) : (if c = x then Value.bool (!b0) else bR F c) = bR G c := by
  show _ = Value.bool (G c)
  rw [h c]
  by_cases e : c = x
  · rw [if_pos e, if_pos e]; cases b0 <;> rfl
  · rw [if_neg e, if_neg e]; rfl
theorem bkeep {F G : Nat → Bool} {x : Nat} {b0 : Bool} (h : ∀ c, G c = if c = x then Bool.xor b0 false else F c) (hb : F x = b0) (c : Nat) : bR F c = bR G c := by
  show Value.bool (F c) = Value.bool (G c)
  rw [h c]
  by_cases e : c = x
  · rw [if_pos e, e, hb]; cases b0 <;> rfl
  · rw [if_neg e]
theorem first_row {h : Nat → Int} {m : Nat} (c : Nat) : (if c = 300 then Value.bool true else bR (fun _ => false) c) = bR (fun c => gen h m 0 oneA ((c : Int) - 300)) c := by
  show _ = Value.bool (oneA ((c : Int) - 300))
  unfold oneA
  by_cases e : c = 300
  · subst e; rfl
  · rw [if_neg e, decide_eq_false (by omega)]; rfl
set_option maxHeartbeats 8000000 in
theorem makes_walk (sp : Option Addr) (n c : Nat) (f : Nat → Int) (a p : Int) (h0 : sp = none → n = 0 ∧ c = 0) (hn : n ≤ 17592186043904) (hf : ∀ j, j < n → -9223372036854775808 ≤ f j ∧ f j ≤ 9223372036854775807) (ha : -9223372036854775808 ≤ a ∧ a ≤ 9223372036854775807) (hp : -9223372036854775808 ≤ p ∧ p ≤ 9223372036854775807) (w : World) (H : In w sp n f) :
    Calls Tryz.prog 3 #[.slice sp n c, .int .i64 a, .int .i64 p] w fun e w' => e = .returned (.bool true) ∧ Below w.heap.size w w' := by
  have kA := aliveC w
  have kU := fun w1 => upC a ha w1
  obtain ⟨i0, HI⟩ : ∃ i, Hid (Tryz.prog.info? 3 = some i ∧ i.zero = some (.int .i64 0) ∧ i.size = 1 ∧ i.bytes = 8) := by
    obtain ⟨i, h1, h2, h3, h4⟩ := info_parts infoI
    exact ⟨i, h1, h2, h3, h4⟩
  have hp1 := Int.tmod_lt_of_pos p (show (0 : Int) < 130 by omega)
  have hp2 := Int.lt_tmod_of_pos p (show (0 : Int) < 130 by omega)
  obtain ⟨P, hP⟩ : ∃ P, Int.tmod p 130 = P := ⟨_, rfl⟩
  rw [hP] at hp1 hp2
  clear h0 hf ha hp
  go_enter Tryz.func3, Tryz.ntmps3
  go_wp2_with (first | (go_at_call 4; refine kA.mono ?_; rintro e w1 ⟨rfl, g1⟩; clear kA) | go_in)
  go_loopw [9, 8] (fun u v wr => ∃ (i nD : Nat) (D : List Int) (ov : Value), i ≤ n ∧ u = .int .i64 i ∧ v = ov ∧ Hid (D.length = nD) ∧ nD ≤ 8 ∧ wr.ownsRow w.heap.size 3 1 ov nD (D.map fun x : Int => Value.int .i64 x) ∧ Hid (Dk D) ∧ w.grownBy wr none) (fun u _ _ => n - (intOf u).toNat)
  case atStart => exact ⟨0, 0, [], _, Nat.zero_le _, rfl, rfl, rfl, by omega, World.ownsRow_nil _ _ _ _, ⟨List.nodup_nil, fun x hx => (by cases hx), Nat.zero_le _⟩, g1⟩
  case round =>
    obtain ⟨i, nD, D, ov, hi, rfl, hov, HDL, hnD, own, HD, gi⟩ := hrel
    subst hov
    obtain ⟨sD, cD, rfl, ID⟩ := own_shapeI own HDL.out
    by_cases hgo : i < n ∧ nD < 8
    · have hlt := hgo.1
      have hlt' : (i : Int) < (n : Int) := by omega
      have hd8 : (nD : Int) < 8 := by omega
      obtain ⟨q, o, rfl, c0⟩ := (H.kept gi (by simp)) i hlt
      obtain ⟨x, hx⟩ : ∃ x, f i = x := ⟨_, rfl⟩
      rw [hx] at c0
      have hk1 := Int.tmod_lt_of_pos x (show (0 : Int) < 9 by omega)
      have hk2 := Int.lt_tmod_of_pos x (show (0 : Int) < 9 by omega)
      obtain ⟨k, hk⟩ : ∃ k, Int.tmod x 9 = k := ⟨_, rfl⟩
      rw [hk] at hk1 hk2
      clear hx hgo
      obtain ⟨wi, hwi⟩ : ∃ W, W = wr := ⟨_, rfl⟩
      subst hwi
      go_wp2
      go_loopw [12, 11] (fun u v wr => ∃ (j : Nat) (fb : Bool), j ≤ nD ∧ u = .int .i64 j ∧ v = .bool fb ∧ Hid (fb = true ↔ ∀ t, t < j → D.getD t 0 ≠ k) ∧ wi.grownBy wr none) (fun u _ _ => nD - (intOf u).toNat)
      case atStart => exact ⟨0, true, Nat.zero_le _, rfl, rfl, ⟨fun _ t ht => by omega, fun _ => rfl⟩, World.grownBy.refl _ _⟩
      case round =>
        obtain ⟨j, fb, hj, rfl, rfl, HF, gj⟩ := hrel
        by_cases hjt : j < nD
        · have hjt' : (j : Int) < (nD : Int) := by omega
          obtain ⟨q2, o2, rfl, d0⟩ := (ID.kept gj (by simp)) j hjt
          simp only at d0
          by_cases he : D.getD j 0 = k
          · have HF1 : Hid ((false : Bool) = true ↔ ∀ t, t < j + 1 → D.getD t 0 ≠ k) := ⟨(fun e => by cases e), (fun e => absurd he (e j (by omega)))⟩
            rw [he] at d0
            have hb : (k == k) = true := by simp
            clear HF
            go_wp2
            first | go_roundw | (go_quiet (fail); go_wp2; go_roundw)
            case rel => exact ⟨j + 1, false, by omega, by go_num, rfl, HF1.out, by first | exact gj | exact gb_drew gj | exact gb_drewN gj _⟩
            case measure => simp [intOf]; omega
          · have HF1 : Hid (fb = true ↔ ∀ t, t < j + 1 → D.getD t 0 ≠ k) := ⟨fun e t ht => by
              by_cases e2 : t = j
              · subst e2; exact he
              · exact HF.out.1 e t (by omega), fun e => HF.out.2 (fun t ht => e t (by omega))⟩
            obtain ⟨y, hy⟩ : ∃ y, D.getD j 0 = y := ⟨_, rfl⟩
            rw [hy] at d0 he
            have hb : (y == k) = false := by simp [he]
            clear HF hy
            go_wp2
            first | go_roundw | (go_quiet (fail); go_wp2; go_roundw)
            case rel => exact ⟨j + 1, fb, by omega, by go_num, rfl, HF1.out, by first | exact gj | exact gb_drew gj | exact gb_drewN gj _⟩
            case measure => simp [intOf]; omega
        · have hjn : j = nD := by omega
          subst hjn
          have hjt' : ¬ (j : Int) < (j : Int) := by omega
          have gij := gb_trans gi gj
          have own2 := own.kept gj (Classical.em _)
          cases fb with
          | false =>
            go_wp2
            go_roundw
            case rel => exact ⟨i + 1, j, D, _, by omega, by go_num, rfl, HDL.out, hnD, own2, HD.out, gij⟩
            case measure => simp [intOf]; omega
          | true =>
            have hnot : k ∉ D := fun hm => by
              obtain ⟨t, ht, e⟩ := List.getElem_of_mem hm
              have := HF.out.1 rfl t (by rw [← HDL.out]; exact ht)
              rw [List.getD_eq_getElem?_getD, List.getElem?_eq_getElem ht] at this
              exact this e
            have HD1 : Hid (Dk (D ++ [k])) := HD.out.snoc (by omega) hnot (by rw [HDL.out]; omega)
            have HX : Hid ((D.map fun x : Int => Value.int .i64 x) ++ [.int .i64 k] = ((D ++ [k]).map fun x : Int => Value.int .i64 x)) := by unfold Hid; rw [List.map_append]; rfl
            have HL1 : Hid ((D ++ [k]).length = j + 1) := by unfold Hid; rw [List.length_append, HDL.out]; rfl
            obtain ⟨W3, hW3⟩ : ∃ W3, wr.alloc (.cells #[.int .i64 k] 3) = W3 := ⟨_, rfl⟩
            have g3 : wr.grownBy W3 none := (by rw [← hW3]; exact World.grownBy_alloc _ _ _)
            have nX : ∀ l u, [Value.int .i64 k][l]? = some u → W3.cell? ((⟨wr.heap.size, 0, none⟩ : Addr).add l) = some u := by rw [← hW3]; exact World.news_of_block (heap_alloc_new _ _)
            have own3 := own2.kept g3 (Classical.em _)
            have hb3 : w.heap.size ≤ W3.heap.size := (gb_trans gij g3).size
            have how := fun gg e => own3.lt gg e
            clear own own2 hnot
            go_wp2_with (first | (at_builtin; refine wpList_append_lies _ rfl _ _ 22 rfl w.heap.size 3 i0 (.int .i64 0) 1 8 underIL HI.out.1 HI.out.2.1 HI.out.2.2.1 HI.out.2.2.2 rfl (by decide) _ j _ rfl own3 ⟨wr.heap.size, 0, none⟩ 1 1 [.int .i64 k] rfl rfl nX (by intro u hu; simp at hu; subst hu; rfl) (by decide) (by unfold maxLen; omega) (by omega) hb3 _ rfl ?_; intro g6 c6 w6 own6 gg6 at6 lt6) | go_in)
            go_roundw
            case rel => exact ⟨i + 1, j + 1, D ++ [k], _, by omega, by go_num, rfl, HL1.out, by omega, by rw [← HX.out]; exact own6, HD1.out, (gb_trans gij g3).andThen gg6 (fun j hj => .inl (how j hj).1)⟩
            case measure => simp [intOf]; omega
    · obtain ⟨h, hh⟩ : ∃ h : Nat → Int, (fun k => D.getD k 0) = h := ⟨_, rfl⟩
      rw [hh] at ID
      have hck := HD.out.ck
      rw [hh, HDL.out] at hck
      have HB : Hid (∀ k, k < nD → -8 ≤ h k ∧ h k ≤ 8) := fun k hk => by
        rw [← hh]
        have hk' : k < D.length := by rw [HDL.out]; exact hk
        have := HD.out.bd _ (List.getElem_mem hk')
        simp only
        rw [List.getD_eq_getElem?_getD, List.getElem?_eq_getElem hk']
        exact this
      have HCK : Hid (ckO (onL h) nD 64 = 0) := hck
      clear hck hh own HD HDL
      obtain ⟨wi, hwi⟩ : ∃ W, W = wr := ⟨_, rfl⟩
      subst hwi
      have hmk := makeB wi
      have hm0 := madeB wi
      obtain ⟨W2, hW2⟩ : ∃ W2, wi.alloc (.cells (madeCells #[.bool false] 601) 4) = W2 := ⟨_, rfl⟩
      have g2 : wi.grownBy W2 none := (by rw [← hW2]; exact World.grownBy_alloc _ _ _)
      rw [hW2] at hmk hm0
      have z0 := hm0.cell (i := 300) (by omega)
      have y0 := hm0.frozen 300
      have hbr : bR (fun _ => false) 300 = .bool false := rfl
      rw [hbr] at z0
      by_cases hin : i < n
      · have hlt' : (i : Int) < (n : Int) := by omega
        have hd8 : ¬ (nD : Int) < 8 := by omega
        clear hgo
        go_wp2_with (first | (go_at_call 5; refine (kU _).mono ?_; rintro e w' ⟨F, hF, rfl, hw'⟩; subst w'; clear kU) | go_in)
        have hrow0 : (W2.setCell ⟨wi.heap.size, 300, none⟩ (.bool true)).rowIs wi.heap.size 4 601 (bR fun c => gen h nD 0 oneA ((c : Int) - 300)) := (hm0.set 300 (.bool true)).congr (fun c hc => first_row c)
        have gL : wi.grownBy (W2.setCell ⟨wi.heap.size, 300, none⟩ (.bool true)) none := gb_new g2 (Nat.le_refl _) _
        clear hmk hm0 z0 y0 hW2 hbr
        go_loopw [16, 15] (fun u v wr => ∃ (i' g : Nat), i' ≤ F ∧ u = .int .i64 i' ∧ v = .slice (some ⟨g, 0, none⟩) 601 601 ∧ wr.rowIs g 4 601 (bR fun c => gen h nD i' oneA ((c : Int) - 300)) ∧ wi.grownBy wr none) (fun u _ _ => F - (intOf u).toNat)
        case atStart => exact ⟨0, wi.heap.size, Nat.zero_le _, rfl, rfl, hrow0, gL⟩
        case round =>
          obtain ⟨i', g, hi', rfl, rfl, hrow, gw⟩ := hrel
          by_cases hil : i' < F
          · have hil' : (i' : Int) < (F : Int) := by omega
            obtain ⟨wo, hwo⟩ : ∃ W, W = wr := ⟨_, rfl⟩
            subst hwo
            have hmk := makeB wo
            have hm0 := madeB wo
            obtain ⟨W3, hW3⟩ : ∃ W3, wo.alloc (.cells (madeCells #[.bool false] 601) 4) = W3 := ⟨_, rfl⟩
            have g3 : wo.grownBy W3 none := (by rw [← hW3]; exact World.grownBy_alloc _ _ _)
            rw [hW3] at hmk hm0
            clear hW3
            have hm1 : W3.rowIs wo.heap.size 4 601 (bR (nxR h nD i' 100 0)) := hm0.congr (fun c hc => by show Value.bool false = Value.bool _; rw [nxR_first])
            clear hm0
            go_wp2
            clear hmk
            go_loopw [18] (fun u wr => ∃ x : Nat, 100 ≤ x ∧ x ≤ 501 ∧ u = .int .i64 x ∧ wr.rowIs wo.heap.size 4 601 (bR (nxR h nD i' x 0)) ∧ wo.grownBy wr none) (fun u _ => 501 - (intOf u).toNat)
            case atStart => exact ⟨100, by omega, by omega, rfl, hm1, g3⟩
            case round =>
              obtain ⟨x, hx1, hx2, rfl, hrx, gx⟩ := hrel
              by_cases hxl : x ≤ 500
              · have hxl' : (x : Int) ≤ 500 := by omega
                go_wp2
                go_loopw [19] (fun u wr => ∃ k : Nat, k ≤ nD ∧ u = .int .i64 k ∧ wr.rowIs wo.heap.size 4 601 (bR (nxR h nD i' x k)) ∧ wo.grownBy wr none) (fun u _ => nD - (intOf u).toNat)
                case atStart => exact ⟨0, Nat.zero_le _, rfl, hrx, gx⟩
                case round =>
                  obtain ⟨k, hk, rfl, hrk, gk⟩ := hrel
                  by_cases hkt : k < nD
                  · have hkt' : (k : Int) < (nD : Int) := by omega
                    obtain ⟨q, o, rfl, d0⟩ := ((ID.kept gw (by simp)).kept gk (by simp)) k hkt
                    have hb := HB.out k hkt
                    have HST := fun c => nxR_step h nD i' x k c
                    obtain ⟨y, hy⟩ : ∃ y, h k = y := ⟨_, rfl⟩
                    rw [hy] at d0 hb HST
                    obtain ⟨t, ht⟩ : ∃ t : Nat, (x : Int) + y = (t : Int) := ⟨((x : Int) + y).toNat, by omega⟩
                    have hwt : IntKind.i64.wrap (t : Int) = (t : Int) := by rw [IntKind.wrap_i64]; omega
                    have ht1 : (t : Int) < 601 := by omega
                    have hxx : (x : Int) < 601 := by omega
                    have hl := (rowIs_kept hrow gk (by simp)).cell (i := t) (by omega)
                    have hlv : bR (fun c => gen h nD i' oneA ((c : Int) - 300)) t = .bool (gen h nD i' oneA ((x : Int) - 300 + y)) := by show Value.bool (gen h nD i' oneA ((t : Int) - 300)) = _; rw [show (t : Int) - 300 = (x : Int) - 300 + y by omega]
                    rw [hlv] at hl
                    have hc := hrk.cell (i := x) (by omega)
                    have hcf := hrk.frozen x
                    obtain ⟨b0, hb0⟩ : ∃ b, nxR h nD i' x k x = b := ⟨_, rfl⟩
                    have hcv : bR (nxR h nD i' x k) x = .bool b0 := by show Value.bool _ = _; rw [hb0]
                    rw [hcv] at hc
                    obtain ⟨lv', hlv'⟩ : ∃ b, gen h nD i' oneA ((x : Int) - 300 + y) = b := ⟨_, rfl⟩
                    rw [hlv'] at hl HST
                    rw [hb0] at HST
                    have HSTh : Hid (∀ c, nxR h nD i' x (k + 1) c = if c = x then Bool.xor b0 lv' else nxR h nD i' x k c) := HST
                    clear HST hlv hlv' hcv hy
                    cases lv' with
                    | true =>
                      go_wp2
                      first | go_roundw | (go_quiet (fail); go_wp2; go_roundw)
                      case rel => exact ⟨k + 1, by omega, by go_num, (hrk.set x _).congr (fun c hc => bstep HSTh.out c), gb_new gk (Nat.le_refl _) _⟩
                      case measure => simp [intOf]; omega
                    | false =>
                      go_wp2
                      first | go_roundw | (go_quiet (fail); go_wp2; go_roundw)
                      case rel => exact ⟨k + 1, by omega, by go_num, hrk.congr (fun c hc => bkeep HSTh.out hb0 c), gk⟩
                      case measure => simp [intOf]; omega
                  · have hkn : k = nD := by omega
                    subst hkn
                    have hkt' : ¬ (k : Int) < (k : Int) := by omega
                    have hr1 : wr.rowIs wo.heap.size 4 601 (bR (nxR h k i' (x + 1) 0)) := hrk.congr (fun c hc => by show Value.bool _ = Value.bool _; rw [nxR_next h k i' x c hx1])
                    go_wp2
                    go_roundw
                    case rel => exact ⟨x + 1, by omega, by omega, by go_num, hr1, gk⟩
                    case measure => simp [intOf]; omega
              · have hxe : x = 501 := by omega
                subst hxe
                have hr1 : wr.rowIs wo.heap.size 4 601 (bR fun c => gen h nD (i' + 1) oneA ((c : Int) - 300)) := hrx.congr (fun c hc => by show Value.bool _ = Value.bool _; rw [nxR_last h nD i' c HB.out (by omega) hc])
                go_wp2
                go_roundw
                case rel => exact ⟨i' + 1, wo.heap.size, by omega, by go_num, rfl, hr1, gb_trans gw gx⟩
                case measure => simp [intOf]; omega
          · have hie : i' = F := by omega
            subst hie
            have hil' : ¬ (i' : Int) < (i' : Int) := by omega
            have kL := lineY sD nD cD h (fun k hk => by have := HB.out k hk; omega) (by omega) i' P (by omega) wr (ID.kept gw (by simp)) HCK.out (by omega)
            rw [lnR_gen, lv_one] at kL
            obtain ⟨t, ht⟩ : ∃ t : Nat, 300 + P = (t : Int) := ⟨(300 + P).toNat, by omega⟩
            have hwt : IntKind.i64.wrap (t : Int) = (t : Int) := by rw [IntKind.wrap_i64]; omega
            have ht1 : (t : Int) < 601 := by omega
            have hl := hrow.cell (i := t) (by omega)
            have hlv : bR (fun c => gen h nD i' oneA ((c : Int) - 300)) t = .bool (gen h nD i' oneA P) := by show Value.bool (gen h nD i' oneA ((t : Int) - 300)) = _; rw [show (t : Int) - 300 = P by omega]
            rw [hlv] at hl
            generalize gen h nD i' oneA P = rB at kL hl
            have hbb : (rB == rB) = true := by simp
            clear hlv
            go_wp2_with (first | (go_at_call 6; refine kL.mono ?_; rintro e w7 ⟨rfl, g7⟩; clear kL; have hl7 := g7.cell hl (by simp)) | go_in)
            first | go_ret | (go_quiet (fail); go_wp2; go_ret)
            exact ⟨rfl, gb_below (by first | exact gb_trans gi (gb_trans gw g7) | exact gb_drewN (gb_trans gi (gb_trans gw g7)) _)⟩
      · have hlt' : ¬ (i : Int) < (n : Int) := by omega
        clear hgo
        go_wp2_with (first | (go_at_call 5; refine (kU _).mono ?_; rintro e w' ⟨F, hF, rfl, hw'⟩; subst w'; clear kU) | go_in)
        have hrow0 : (W2.setCell ⟨wi.heap.size, 300, none⟩ (.bool true)).rowIs wi.heap.size 4 601 (bR fun c => gen h nD 0 oneA ((c : Int) - 300)) := (hm0.set 300 (.bool true)).congr (fun c hc => first_row c)
        have gL : wi.grownBy (W2.setCell ⟨wi.heap.size, 300, none⟩ (.bool true)) none := gb_new g2 (Nat.le_refl _) _
        clear hmk hm0 z0 y0 hW2 hbr
        go_loopw [16, 15] (fun u v wr => ∃ (i' g : Nat), i' ≤ F ∧ u = .int .i64 i' ∧ v = .slice (some ⟨g, 0, none⟩) 601 601 ∧ wr.rowIs g 4 601 (bR fun c => gen h nD i' oneA ((c : Int) - 300)) ∧ wi.grownBy wr none) (fun u _ _ => F - (intOf u).toNat)
        case atStart => exact ⟨0, wi.heap.size, Nat.zero_le _, rfl, rfl, hrow0, gL⟩
        case round =>
          obtain ⟨i', g, hi', rfl, rfl, hrow, gw⟩ := hrel
          by_cases hil : i' < F
          · have hil' : (i' : Int) < (F : Int) := by omega
            obtain ⟨wo, hwo⟩ : ∃ W, W = wr := ⟨_, rfl⟩
            subst hwo
            have hmk := makeB wo
            have hm0 := madeB wo
            obtain ⟨W3, hW3⟩ : ∃ W3, wo.alloc (.cells (madeCells #[.bool false] 601) 4) = W3 := ⟨_, rfl⟩
            have g3 : wo.grownBy W3 none := (by rw [← hW3]; exact World.grownBy_alloc _ _ _)
            rw [hW3] at hmk hm0
            clear hW3
            have hm1 : W3.rowIs wo.heap.size 4 601 (bR (nxR h nD i' 100 0)) := hm0.congr (fun c hc => by show Value.bool false = Value.bool _; rw [nxR_first])
            clear hm0
            go_wp2
            clear hmk
            go_loopw [18] (fun u wr => ∃ x : Nat, 100 ≤ x ∧ x ≤ 501 ∧ u = .int .i64 x ∧ wr.rowIs wo.heap.size 4 601 (bR (nxR h nD i' x 0)) ∧ wo.grownBy wr none) (fun u _ => 501 - (intOf u).toNat)
            case atStart => exact ⟨100, by omega, by omega, rfl, hm1, g3⟩
            case round =>
              obtain ⟨x, hx1, hx2, rfl, hrx, gx⟩ := hrel
              by_cases hxl : x ≤ 500
              · have hxl' : (x : Int) ≤ 500 := by omega
                go_wp2
                go_loopw [19] (fun u wr => ∃ k : Nat, k ≤ nD ∧ u = .int .i64 k ∧ wr.rowIs wo.heap.size 4 601 (bR (nxR h nD i' x k)) ∧ wo.grownBy wr none) (fun u _ => nD - (intOf u).toNat)
                case atStart => exact ⟨0, Nat.zero_le _, rfl, hrx, gx⟩
                case round =>
                  obtain ⟨k, hk, rfl, hrk, gk⟩ := hrel
                  by_cases hkt : k < nD
                  · have hkt' : (k : Int) < (nD : Int) := by omega
                    obtain ⟨q, o, rfl, d0⟩ := ((ID.kept gw (by simp)).kept gk (by simp)) k hkt
                    have hb := HB.out k hkt
                    have HST := fun c => nxR_step h nD i' x k c
                    obtain ⟨y, hy⟩ : ∃ y, h k = y := ⟨_, rfl⟩
                    rw [hy] at d0 hb HST
                    obtain ⟨t, ht⟩ : ∃ t : Nat, (x : Int) + y = (t : Int) := ⟨((x : Int) + y).toNat, by omega⟩
                    have hwt : IntKind.i64.wrap (t : Int) = (t : Int) := by rw [IntKind.wrap_i64]; omega
                    have ht1 : (t : Int) < 601 := by omega
                    have hxx : (x : Int) < 601 := by omega
                    have hl := (rowIs_kept hrow gk (by simp)).cell (i := t) (by omega)
                    have hlv : bR (fun c => gen h nD i' oneA ((c : Int) - 300)) t = .bool (gen h nD i' oneA ((x : Int) - 300 + y)) := by show Value.bool (gen h nD i' oneA ((t : Int) - 300)) = _; rw [show (t : Int) - 300 = (x : Int) - 300 + y by omega]
                    rw [hlv] at hl
                    have hc := hrk.cell (i := x) (by omega)
                    have hcf := hrk.frozen x
                    obtain ⟨b0, hb0⟩ : ∃ b, nxR h nD i' x k x = b := ⟨_, rfl⟩
                    have hcv : bR (nxR h nD i' x k) x = .bool b0 := by show Value.bool _ = _; rw [hb0]
                    rw [hcv] at hc
                    obtain ⟨lv', hlv'⟩ : ∃ b, gen h nD i' oneA ((x : Int) - 300 + y) = b := ⟨_, rfl⟩
                    rw [hlv'] at hl HST
                    rw [hb0] at HST
                    have HSTh : Hid (∀ c, nxR h nD i' x (k + 1) c = if c = x then Bool.xor b0 lv' else nxR h nD i' x k c) := HST
                    clear HST hlv hlv' hcv hy
                    cases lv' with
                    | true =>
                      go_wp2
                      first | go_roundw | (go_quiet (fail); go_wp2; go_roundw)
                      case rel => exact ⟨k + 1, by omega, by go_num, (hrk.set x _).congr (fun c hc => bstep HSTh.out c), gb_new gk (Nat.le_refl _) _⟩
                      case measure => simp [intOf]; omega
                    | false =>
                      go_wp2
                      first | go_roundw | (go_quiet (fail); go_wp2; go_roundw)
                      case rel => exact ⟨k + 1, by omega, by go_num, hrk.congr (fun c hc => bkeep HSTh.out hb0 c), gk⟩
                      case measure => simp [intOf]; omega
                  · have hkn : k = nD := by omega
                    subst hkn
                    have hkt' : ¬ (k : Int) < (k : Int) := by omega
                    have hr1 : wr.rowIs wo.heap.size 4 601 (bR (nxR h k i' (x + 1) 0)) := hrk.congr (fun c hc => by show Value.bool _ = Value.bool _; rw [nxR_next h k i' x c hx1])
                    go_wp2
                    go_roundw
                    case rel => exact ⟨x + 1, by omega, by omega, by go_num, hr1, gk⟩
                    case measure => simp [intOf]; omega
              · have hxe : x = 501 := by omega
                subst hxe
                have hr1 : wr.rowIs wo.heap.size 4 601 (bR fun c => gen h nD (i' + 1) oneA ((c : Int) - 300)) := hrx.congr (fun c hc => by show Value.bool _ = Value.bool _; rw [nxR_last h nD i' c HB.out (by omega) hc])
                go_wp2
                go_roundw
                case rel => exact ⟨i' + 1, wo.heap.size, by omega, by go_num, rfl, hr1, gb_trans gw gx⟩
                case measure => simp [intOf]; omega
          · have hie : i' = F := by omega
            subst hie
            have hil' : ¬ (i' : Int) < (i' : Int) := by omega
            have kL := lineY sD nD cD h (fun k hk => by have := HB.out k hk; omega) (by omega) i' P (by omega) wr (ID.kept gw (by simp)) HCK.out (by omega)
            rw [lnR_gen, lv_one] at kL
            obtain ⟨t, ht⟩ : ∃ t : Nat, 300 + P = (t : Int) := ⟨(300 + P).toNat, by omega⟩
            have hwt : IntKind.i64.wrap (t : Int) = (t : Int) := by rw [IntKind.wrap_i64]; omega
            have ht1 : (t : Int) < 601 := by omega
            have hl := hrow.cell (i := t) (by omega)
            have hlv : bR (fun c => gen h nD i' oneA ((c : Int) - 300)) t = .bool (gen h nD i' oneA P) := by show Value.bool (gen h nD i' oneA ((t : Int) - 300)) = _; rw [show (t : Int) - 300 = P by omega]
            rw [hlv] at hl
            generalize gen h nD i' oneA P = rB at kL hl
            have hbb : (rB == rB) = true := by simp
            clear hlv
            go_wp2_with (first | (go_at_call 6; refine kL.mono ?_; rintro e w7 ⟨rfl, g7⟩; clear kL; have hl7 := g7.cell hl (by simp)) | go_in)
            first | go_ret | (go_quiet (fail); go_wp2; go_ret)
            exact ⟨rfl, gb_below (by first | exact gb_trans gi (gb_trans gw g7) | exact gb_drewN (gb_trans gi (gb_trans gw g7)) _)⟩
end Ln
end Go.Proofs.YtelelnpoijokjaaGreat
