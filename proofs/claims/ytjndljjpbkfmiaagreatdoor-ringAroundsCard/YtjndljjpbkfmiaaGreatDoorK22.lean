/- What Around answers, in one; full, long, only of the statements. -/
import Derived.Test.YtjndljjpbkfmiaaGreatDoorK21
namespace Go.Proofs.YtjndljjpbkfmiaaGreatDoor
open Go.RowKit
set_option linter.unusedVariables false
set_option linter.unusedSimpArgs false
set_option maxRecDepth 100000

/-- A row of bytes of one's own, as it lies. -/
theorem row_own {w : World} {base d m cap : Nat} {f : Nat → Nat} {F : Nat → Value} (hb : base ≤ d) (hc : m ≤ cap) (hx : cap ≤ maxLen) (h : w.rowIs d 5 cap F) (hF : ∀ k, k < m → F k = .int .u8 (f k : Nat)) : w.ownsRow base 5 1 (.slice (some ⟨d, 0, none⟩) m cap) m (bysV f m) := by
  obtain ⟨c, h1, h2, h3⟩ := h
  refine ⟨by rw [bysV_len, Nat.mul_one], .inr ⟨d, cap, c, rfl, hb, h1, hc, hx, by rw [h2, Nat.mul_one], ?_⟩⟩
  rw [Nat.mul_one]
  apply List.ext_getElem?
  intro i
  by_cases hi : i < m
  · rw [List.getElem?_take_of_lt hi]
    have := h3 i (by omega)
    rw [hF i hi] at this
    simp only [bysV, List.getElem?_map, List.getElem?_range hi, Option.map_some]
    simpa using this
  · rw [List.getElem?_eq_none (by simp; omega), List.getElem?_eq_none (by rw [bysV_len]; omega)]
theorem own_rows {w : World} {base m : Nat} {v : Value} {f : Nat → Nat} (h : w.ownsRow base 5 1 v m (bysV f m)) : (v = .slice none 0 0 ∧ m = 0) ∨ ∃ d cap F, v = .slice (some ⟨d, 0, none⟩) m cap ∧ base ≤ d ∧ m ≤ cap ∧ cap ≤ maxLen ∧ w.rowIs d 5 cap F ∧ ∀ k, k < m → F k = .int .u8 (f k : Nat) := by
  rcases h.2 with h0 | ⟨g, cap, cur, h1, h2, h3, h4, h5, h6, h7⟩
  · exact .inl h0
  · refine .inr ⟨g, cap, fun k => cur[k]?.getD (.int .u8 0), h1, h2, h4, h5, ⟨cur, h3, by omega, fun i hi => ?_⟩, fun k hk => ?_⟩
    · show cur[i]? = some (cur[i]?.getD (.int .u8 0))
      rw [Array.getElem?_eq_getElem (show i < cur.size by omega)]; rfl
    · have e := congrArg (fun l => l[k]?) h7
      simp only [Nat.mul_one] at e
      rw [List.getElem?_take_of_lt hk] at e
      simp only [bysV, List.getElem?_map, List.getElem?_range hk, Option.map_some] at e
      have e2 : cur[k]? = some (.int .u8 (f k : Nat)) := by simpa using e
      show cur[k]?.getD (.int .u8 0) = _
      rw [e2]; rfl
theorem own_by {w : World} {base m : Nat} {v : Value} {f : Nat → Nat} (h : w.ownsRow base 5 1 v m (bysV f m)) : ∃ p c, v = .slice p m c ∧ By w p m f ∧ (∀ a, p = some a → v.ownBlock = some a.block) ∧ m ≤ c := by
  rcases own_rows h with ⟨rfl, rfl⟩ | ⟨d, cap, F, rfl, h1, h2, h3, h4, h5⟩
  · exact ⟨none, 0, rfl, fun k hk => absurd hk (Nat.not_lt_zero _), fun a e => (by cases e), Nat.le_refl _⟩
  · refine ⟨_, cap, rfl, fun k hk => ⟨_, rfl, ?_⟩, fun a e => (by cases e; rfl), h2⟩
    rw [add_mid, Nat.zero_add, ← h5 k hk]
    exact h4.cell (by omega)
/-- **What both Arounds answer.** -/
theorem aroundAll (x y u v : Int) (h : Nat) (h255 : h ≤ 255) (n : Nat) (f : Nat → Nat) (h256 : ∀ i, f i < 256) : ∃ (m : Nat) (F : Nat → Nat) (E : Int), m ≤ 8 ∧ (∀ i, F i < 256) ∧
    (∀ sp c w, By w sp n f → Tab w → Calls Tryz.prog 24 #[.agg #[.int .i64 x, .int .i64 y, .slice sp n c], .int .u8 (h : Nat), .int .i64 u, .int .i64 v] w fun e w' => ∃ r, e = .returned (.tuple #[r, .int .i64 E]) ∧ w'.ownsRow w.heap.size 5 1 r m (bysV F m) ∧ w.grownBy w' none) ∧
    (∀ sp c w, By w sp n f → Calls Tryz.prog 22 #[.agg #[.int .i64 x, .int .i64 y, .slice sp n c], .int .u8 (h : Nat), .int .i64 u, .int .i64 v] w fun e w' => ∃ r, e = .returned (.tuple #[r, .int .i64 E]) ∧ w'.ownsRow w.heap.size 5 1 r m (bysV F m) ∧ w.grownBy w' none) := by
  have nilC : ∀ (E : Int) (P Q : Prop → Prop), True := fun _ _ _ => trivial
  have err : ∀ E : Int, (∀ sp c w, Calls Tryz.prog 24 #[.agg #[.int .i64 x, .int .i64 y, .slice sp n c], .int .u8 (h : Nat), .int .i64 u, .int .i64 v] w fun e w' => e = .returned (.tuple #[.slice none 0 0, .int .i64 E]) ∧ w.grownBy w' none) → (∀ sp c w, Calls Tryz.prog 22 #[.agg #[.int .i64 x, .int .i64 y, .slice sp n c], .int .u8 (h : Nat), .int .i64 u, .int .i64 v] w fun e w' => e = .returned (.tuple #[.slice none 0 0, .int .i64 E]) ∧ w.grownBy w' none) → _ := fun E hp hd => (⟨0, fun _ => 0, E, by decide, fun _ => (by decide : (0 : Nat) < 256),
    fun sp c w _ _ => (hp sp c w).mono fun e w' ⟨h1, h2⟩ => ⟨_, h1, World.ownsRow_nil _ _ _ _, h2⟩,
    fun sp c w _ => (hd sp c w).mono fun e w' ⟨h1, h2⟩ => ⟨_, h1, World.ownsRow_nil _ _ _ _, h2⟩⟩ : ∃ (m : Nat) (F : Nat → Nat) (E : Int), m ≤ 8 ∧ (∀ i, F i < 256) ∧
    (∀ sp c w, By w sp n f → Tab w → Calls Tryz.prog 24 #[.agg #[.int .i64 x, .int .i64 y, .slice sp n c], .int .u8 (h : Nat), .int .i64 u, .int .i64 v] w fun e w' => ∃ r, e = .returned (.tuple #[r, .int .i64 E]) ∧ w'.ownsRow w.heap.size 5 1 r m (bysV F m) ∧ w.grownBy w' none) ∧
    (∀ sp c w, By w sp n f → Calls Tryz.prog 22 #[.agg #[.int .i64 x, .int .i64 y, .slice sp n c], .int .u8 (h : Nat), .int .i64 u, .int .i64 v] w fun e w' => ∃ r, e = .returned (.tuple #[r, .int .i64 E]) ∧ w'.ownsRow w.heap.size 5 1 r m (bysV F m) ∧ w.grownBy w' none))
  have hfm : fmE x y n = 0 ∨ fmE x y n = 140 := by unfold fmE; split <;> simp
  rcases hfm with hE | hE
  · by_cases hh : 1 ≤ h ∧ h ≤ 3
    · by_cases hp : 0 ≤ u ∧ u < x ∧ 0 ≤ v ∧ v < y
      · have hf : (1 ≤ x ∧ x ≤ 65536) ∧ (1 ≤ y ∧ y ≤ 65536) ∧ x * y ≤ 1048576 ∧ (n : Int) = (x + 2) * (y + 2) := by
          unfold fmE at hE
          split at hE
          · assumption
          · cases hE
        obtain ⟨f1, f2, f3, f4⟩ := hf
        obtain ⟨C, rfl⟩ := Int.eq_ofNat_of_zero_le (show 0 ≤ x by omega)
        obtain ⟨R, rfl⟩ := Int.eq_ofNat_of_zero_le (show 0 ≤ y by omega)
        obtain ⟨a, rfl⟩ := Int.eq_ofNat_of_zero_le (show 0 ≤ u by omega)
        obtain ⟨b, rfl⟩ := Int.eq_ofNat_of_zero_le (show 0 ≤ v by omega)
        have hn : n = (C + 2) * (R + 2) := by
          have : (n : Int) = (((C + 2) * (R + 2) : Nat) : Int) := by rw [f4]; simp
          exact Int.ofNat.inj this
        have hall : C * R ≤ 1048576 := by
          rw [← Int.natCast_mul] at f3; omega
        refine ⟨ofN h, fun i => f (ixN C (a + (ofP h i).1) (b + (ofP h i).2)), 0, ofN_le h, fun i => h256 _, fun sp c w hb hT => ?_, fun sp c w hb => refAroundY (by omega) (by omega) sp n c hn hE f h a b hh.1 hh.2 (by omega) (by omega) w hb⟩
        rw [hn] at hb ⊢
        refine (aroundY (by omega) (by omega) hall sp c f h a b hh.1 hh.2 (by omega) (by omega) w hb hT).mono ?_
        rintro e w' ⟨d, rfl, h1, h2, h3⟩
        have := ofN_le h
        exact ⟨_, rfl, row_own h2 (Nat.le_refl _) (by unfold maxLen; omega) h1 (fun k _ => rfl), h3⟩
      · exact err 130 (fun sp c w => around3 x y u v h hh.1 hh.2 sp n c hE hp w) (fun sp c w => refAround3 x y u v h hh.1 hh.2 sp n c hE hp w)
    · exact err 70 (fun sp c w => around2 x y u v h h255 hh sp n c hE w) (fun sp c w => refAround2 x y u v h h255 hh sp n c hE w)
  · exact err 140 (fun sp c w => around1 x y u v h sp n c hE w) (fun sp c w => refAround1 x y u v h sp n c hE w)
set_option maxHeartbeats 1000000 in
theorem fullC (base m mk : Nat) (f : Nat → Nat) (v : Value) (hm : m ≤ 140737488351232) (w : World) (h : w.ownsRow base 5 1 v m (bysV f m)) : Calls Tryz.prog 14 #[v, .int .u8 (mk : Nat)] w fun e w' => e = .returned (.tuple #[]) ∧ w'.ownsRow base 5 1 v m (bysV (fun _ => mk) m) ∧ w.grownBy w' v.ownBlock := by
  rcases own_rows h with ⟨rfl, rfl⟩ | ⟨d, cap, F, rfl, h1, h2, h3, h4, h5⟩
  · go_enter Tryz.func14, Tryz.ntmps14
    go_wp2
    refine wp_loop_rounds 1 ?_
    rw [rounds_succ]
    go_wp2
    go_end0
    exact ⟨rfl, World.ownsRow_nil _ _ _ _, World.grownBy.refl _ _⟩
  · go_enter Tryz.func14, Tryz.ntmps14
    go_wp2
    go_loopw [4] (fun i wr => ∃ (q : Nat) (F' : Nat → Value), q ≤ m ∧ i = .int .i64 (q : Nat) ∧ wr.rowIs d 5 cap F' ∧ (∀ k, k < q → F' k = .int .u8 (mk : Nat)) ∧ w.grownBy wr (some d)) (fun i _ => m - (intOf i).toNat)
    case atStart => exact ⟨0, F, Nat.zero_le _, rfl, h4, fun k hk => absurd hk (Nat.not_lt_zero _), World.grownBy.refl _ _⟩
    case round =>
      obtain ⟨q, F', hq, rfl, hr, hF, gw⟩ := hrel
      by_cases hlt : q < m
      · have hi1 : (q : Int) < (m : Int) := by omega
        have hc := hr.cell (i := q) (by omega)
        have hf := hr.frozen q
        go_wp2
        go_roundw
        case rel =>
          refine ⟨q + 1, _, hlt, by go_num, hr.set q _, fun k hk => ?_, gb_set gw _ _⟩
          by_cases e : k = q
          · rw [if_pos e]
          · rw [if_neg e]; exact hF k (by omega)
        case measure => simp [intOf]; omega
      · obtain rfl : q = m := by omega
        go_wp2
        go_end0
        exact ⟨rfl, row_own h1 h2 h3 hr hF, gw⟩
set_option maxHeartbeats 1000000 in
theorem longC (base m mk : Nat) (v : Value) (hm : m ≤ 1048576) (w : World) (hbase : base ≤ w.heap.size) (h : w.ownsRow base 5 1 v m (bysV (fun _ => mk) m)) : Calls Tryz.prog 15 #[v, .int .u8 (mk : Nat)] w fun e w' => ∃ r, e = .returned r ∧ w'.ownsRow base 5 1 r (m + 40) (bysV (fun _ => mk) (m + 40)) ∧ w.grownBy w' v.ownBlock := by
  obtain ⟨i8, HI8⟩ : ∃ i, Hid (Tryz.prog.info? 5 = some i ∧ i.zero = some (.int .u8 0) ∧ i.size = 1 ∧ i.bytes = 1) := by
    obtain ⟨i, h1, h2, h3, h4⟩ := info_parts info8
    exact ⟨i, h1, h2, h3, h4⟩
  go_enter Tryz.func15, Tryz.ntmps15
  go_wp2
  go_loopw [5, 0] (fun i o wr => ∃ (q : Nat) (ov : Value), ov = o ∧ q ≤ 40 ∧ i = .int .i64 (q : Nat) ∧ wr.ownsRow base 5 1 ov (m + q) (bysV (fun _ => mk) (m + q)) ∧ w.grownBy wr v.ownBlock ∧ (ov.ownBlock = v.ownBlock ∨ ∀ b, ov.ownBlock = some b → w.heap.size ≤ b)) (fun i _ _ => 40 - (intOf i).toNat)
  case atStart => exact ⟨0, _, rfl, Nat.zero_le _, rfl, h, World.grownBy.refl _ _, .inl rfl⟩
  case round =>
    obtain ⟨q, ov, rfl, hq, rfl, hown, gw, hor⟩ := hrel
    by_cases hlt : q < 40
    · have hi1 : (q : Int) < 40 := by omega
      obtain ⟨X2, hX2⟩ : ∃ X2, wr.alloc (.cells #[.int .u8 (mk : Nat)] 5) = X2 := ⟨_, rfl⟩
      have gX2 : wr.grownBy X2 none := by rw [← hX2]; exact World.grownBy_alloc _ _ _
      have nX : ∀ l u, [Value.int .u8 (mk : Nat)][l]? = some u → X2.cell? ((⟨wr.heap.size, 0, none⟩ : Addr).add l) = some u := by rw [← hX2]; exact new1 wr _
      have own2 := hown.kept gX2 (Classical.em _)
      have sX : base ≤ X2.heap.size := Nat.le_trans hbase (Nat.le_trans gw.size gX2.size)
      have sW : w.heap.size ≤ X2.heap.size := Nat.le_trans gw.size gX2.size
      go_wp2_with (at_builtin; refine wpList_append_own_at _ rfl _ _ 24 rfl base 5 i8 (.int .u8 0) 1 1 under8S HI8.out.1 HI8.out.2.1 HI8.out.2.2.1 HI8.out.2.2.2 rfl (by decide) _ _ _ rfl own2 ⟨wr.heap.size, 0, none⟩ 1 1 [.int .u8 (mk : Nat)] rfl rfl nX (by intro u hu; simp at hu; subst hu; rfl) (by unfold maxLen; omega) (by omega) sX ?_; intro v' w' own' g' hnil' hat')
      go_roundw
      case rel =>
        refine ⟨q + 1, v', rfl, hlt, by go_num, ?_, ?_, ?_⟩
        · have e : bysV (fun _ => mk) (m + (q + 1)) = bysV (fun _ => mk) (m + q) ++ [.int .u8 (mk : Nat)] := bysV_succ _ _
          rw [e]; exact own'
        · refine ⟨(g'.os.trans gX2.os).trans gw.os, (g'.tape.trans gX2.tape).trans gw.tape, (g'.output.trans gX2.output).trans gw.output, Nat.le_trans gw.size (Nat.le_trans gX2.size g'.size), fun i hi hne => ?_⟩
          have hi2 : i < wr.heap.size := Nat.lt_of_lt_of_le hi gw.size
          have hi3 : i < X2.heap.size := Nat.lt_of_lt_of_le hi2 gX2.size
          have hn2 : some i ≠ ov.ownBlock := fun e => by
            rcases hor with h1 | h1
            · exact hne (e.trans h1)
            · have := h1 i e.symm; omega
          exact ((g'.block i hi3 hn2).trans (gX2.block i hi2 (by simp))).trans (gw.block i hi hne)
        · rcases hat' with h1 | h1
          · rcases hor with h2 | h2
            · exact .inl (h1.trans h2)
            · exact .inr (fun b e => h2 b (h1 ▸ e))
          · exact .inr (fun b e => by rw [h1] at e; cases e; exact sW)
      case measure => simp [intOf]; omega
    · obtain rfl : q = 40 := by omega
      go_wp2
      go_ret
      exact ⟨ov, rfl, hown, gw⟩
set_option maxHeartbeats 1000000 in
theorem onlyC (p : Option Addr) (n c mk : Nat) (hn : n ≤ 140737488351232) (w : World) (h : By w p n (fun _ => mk)) : Calls Tryz.prog 16 #[.slice p n c, .int .u8 (mk : Nat)] w fun e w' => e = .returned (.bool true) ∧ w.grownBy w' none := by
  go_enter Tryz.func16, Tryz.ntmps16
  go_wp2
  go_loopw [5] (fun i wr => ∃ q : Nat, q ≤ n ∧ i = .int .i64 (q : Nat) ∧ w.grownBy wr none) (fun i _ => n - (intOf i).toNat)
  case atStart => exact ⟨0, Nat.zero_le _, rfl, World.grownBy.refl _ _⟩
  case round =>
    obtain ⟨q, hq, rfl, gw⟩ := hrel
    by_cases hlt : q < n
    · obtain ⟨a, rfl⟩ := h.some (by omega)
      have hi1 : (q : Int) < (n : Int) := by omega
      have hc := (h.kept gw (by simp)).at hlt
      go_wp2
      go_roundw
      case rel => exact ⟨q + 1, hlt, by go_num, gw⟩
      case measure => simp [intOf]; omega
    · obtain rfl : q = n := by omega
      go_wp2
      go_ret
      exact ⟨rfl, gw⟩
end Go.Proofs.YtjndljjpbkfmiaaGreatDoor
