/- Split, the program's and the document's. -/
import Derived.Test.YtdjjankeedonkaaShelf
import Derived.Test.YtdjjankeedonkaaBo
import Derived.Lib.Hide
import Derived.Lib.IndexMore
namespace Go.Proofs.Ytdjjankeedonkaa
open Go.RowKit
set_option linter.unusedVariables false
set_option linter.unusedSimpArgs false
set_option maxRecDepth 100000
attribute [local go_sem] Oper.semAt_some

/-- Where the first colon stands. -/
abbrev ix (s : ByteArray) : Int := Lib.indexByte s.data.toList 58
set_option maxHeartbeats 1000000 in
theorem indexC (s : ByteArray) (w : World) : Calls Try.prog 8 #[.string s, .string ⟨#[58]⟩] w fun e w' => e = .returned (.int .i64 (ix s)) ∧ w' = w := by
  obtain ⟨x, hx⟩ : ∃ x, ix s = x := ⟨_, rfl⟩
  have hb := Try.stringslite_IndexByte s 58
  have e1 : Lib.indexByte s.data.toList ((58 : Int).toNat.toUInt8) = x := hx
  rw [e1] at hb
  rw [hx]
  have e0 : (⟨#[58]⟩ : ByteArray).size = 1 := rfl
  cases hs : ([58] == s.toList : Bool) with
  | true =>
    have h2 : s.data.toList = [58] := by rw [← Lib.toList_data]; exact (beq_iff_eq.1 hs).symm
    obtain rfl : x = 0 := by
      rw [← hx]
      show Lib.indexByte s.data.toList 58 = 0
      rw [h2]
      rfl
    clear hx e1 hb h2
    go_enter Try.func8, Try.ntmps8
    go_wp2
    go_ret
    exact ⟨rfl, rfl⟩
  | false =>
    clear hx e1
    go_enter Try.func8, Try.ntmps8
    go_wp2_with (go_at_call 9; refine (hb _).mono ?_; rintro e w' ⟨rfl, rfl⟩)
    go_ret
    exact ⟨rfl, rfl⟩
theorem ix_cases (s : ByteArray) : ix s = -1 ∧ (∀ k, k < s.size → s.data.toList[k]? ≠ some 58) ∨ ∃ i : Nat, ix s = (i : Int) ∧ i < s.size ∧ s.data.toList[i]? = some 58 ∧ ∀ k, k < i → s.data.toList[k]? ≠ some 58 := by
  have hge := Lib.indexByte_ge s.data.toList 58
  by_cases h : ix s = -1
  · exact .inl ⟨h, fun k _ => Lib.indexByte_none h k⟩
  · have h2 : ix s = ((ix s).toNat : Int) := by
      have h' : ix s ≠ -1 := h
      have hge' : -1 ≤ ix s := hge
      omega
    obtain ⟨a, b⟩ := Lib.indexByte_some (o := (ix s).toNat) h2
    have hl := (List.getElem?_eq_some_iff.1 a).1
    exact .inr ⟨(ix s).toNat, h2, by rw [Lib.size_eq]; exact hl, a, b⟩
/-- What Split answers. -/
def spl (s : ByteArray) : Value := if ix s = -1 then .tuple #[.string s, .string ⟨#[80]⟩, .int .i64 (s.size : Nat)] else .tuple #[.string (s.extract 0 (ix s).toNat), .string (s.extract ((ix s).toNat + 1) s.size), .int .i64 (((ix s).toNat + 1 : Nat) : Int)]
/-- What Cut answers. -/
def cutV (s : ByteArray) : Value := if ix s = -1 then .tuple #[.string s, .string ⟨#[]⟩, .bool false] else .tuple #[.string (s.extract 0 (ix s).toNat), .string (s.extract ((ix s).toNat + 1) s.size), .bool true]
set_option maxHeartbeats 1000000 in
theorem cutC (s : ByteArray) (hs : s.size ≤ 9223372036854775807) (w : World) : Calls Try.prog 7 #[.string s, .string ⟨#[58]⟩] w fun e w' => e = .returned (cutV s) ∧ ∃ n, w' = w.drewN n := by
  have hi := indexC s w
  have e0 : (⟨#[58]⟩ : ByteArray).size = 1 := rfl
  rcases ix_cases s with ⟨h, _⟩ | ⟨i, h, hlt, _⟩
  · unfold cutV
    rw [if_pos h]
    rw [h] at hi
    go_enter Try.func7, Try.ntmps7
    go_wp2_with (go_at_call 8; refine hi.mono ?_; rintro e w' ⟨rfl, rfl⟩)
    go_ret3
    exact ⟨rfl, 0, rfl⟩
  · unfold cutV
    rw [if_neg (by omega), h, Int.toNat_natCast]
    rw [h] at hi
    have c1 : (0 : Int) ≤ (i : Int) := by omega
    have c2 : (i : Int) ≤ (s.size : Int) := by omega
    have c3 : (0 : Int) ≤ (i : Int) + 1 := by omega
    have c4 : (i : Int) + 1 ≤ (s.size : Int) := by omega
    have c5 : IntKind.i64.wrap ((i : Int) + 1) = (i : Int) + 1 := by rw [IntKind.wrap_i64]; omega
    go_enter Try.func7, Try.ntmps7
    go_wp2_with (go_at_call 8; refine hi.mono ?_; rintro e w' ⟨rfl, rfl⟩)
    have mixed : Try.prog.follows Departure.mixedOrders = true := by kernel_rfl
    go_region_o
    go_wp2
    go_ret3
    exact ⟨rfl, 1, rfl⟩
set_option maxHeartbeats 1000000 in
theorem scutC (s : ByteArray) (hs : s.size ≤ 9223372036854775807) (w : World) : Calls Try.prog 6 #[.string s, .string ⟨#[58]⟩] w fun e w' => e = .returned (cutV s) ∧ ∃ n, w' = w.drewN n := by
  have hi := cutC s hs w
  unfold cutV at hi ⊢
  by_cases h : ix s = -1
  · rw [if_pos h] at hi ⊢
    go_enter Try.func6, Try.ntmps6
    go_wp2_with (go_at_call 7; refine hi.mono ?_; rintro e w' ⟨rfl, n, rfl⟩)
    go_ret3
    exact ⟨rfl, n, rfl⟩
  · rw [if_neg h] at hi ⊢
    obtain ⟨p, hp⟩ : ∃ p, s.extract 0 (ix s).toNat = p := ⟨_, rfl⟩
    obtain ⟨q, hq⟩ : ∃ q, s.extract ((ix s).toNat + 1) s.size = q := ⟨_, rfl⟩
    rw [hp, hq] at hi ⊢
    go_enter Try.func6, Try.ntmps6
    go_wp2_with (go_at_call 7; refine hi.mono ?_; rintro e w' ⟨rfl, n, rfl⟩)
    go_ret3
    exact ⟨rfl, n, rfl⟩
set_option maxHeartbeats 1000000 in
theorem splitC (s : ByteArray) (hs : s.size ≤ 9223372036854775807) (w : World) : Calls Try.prog 4 #[.string s] w fun e w' => e = .returned (spl s) ∧ ∃ n, w' = w.drewN n := by
  have hi := scutC s hs w
  unfold cutV at hi
  unfold spl
  by_cases h : ix s = -1
  · rw [if_pos h] at hi ⊢
    go_enter Try.func4, Try.ntmps4
    go_wp2_with (go_at_call 6; refine hi.mono ?_; rintro e w' ⟨rfl, n, rfl⟩)
    go_ret3
    exact ⟨rfl, n, rfl⟩
  · rcases ix_cases s with ⟨h2, _⟩ | ⟨i, h2, hlt, _⟩
    · exact absurd h2 h
    rw [if_neg h] at hi ⊢
    rw [h2, Int.toNat_natCast] at hi ⊢
    have hz : (s.extract (i + 1) s.size).size = s.size - (i + 1) := by rw [ByteArray.size_extract]; omega
    obtain ⟨p, hp⟩ : ∃ p, s.extract 0 i = p := ⟨_, rfl⟩
    obtain ⟨q, hq⟩ : ∃ q, s.extract (i + 1) s.size = q := ⟨_, rfl⟩
    rw [hq] at hz
    rw [hp, hq] at hi ⊢
    have c5 : IntKind.i64.wrap ((s.size : Int) - (q.size : Int)) = ((i + 1 : Nat) : Int) := by rw [hz, IntKind.wrap_i64]; omega
    clear hz
    go_enter Try.func4, Try.ntmps4
    go_wp2_with (go_at_call 6; refine hi.mono ?_; rintro e w' ⟨rfl, n, rfl⟩)
    go_ret3
    exact ⟨rfl, n, rfl⟩
theorem str_at (s : ByteArray) (i : Nat) (h : i < s.size) : s.data.toList[i]? = some (s[i]'h) := by
  rw [Lib.data_getElem? s i h]
set_option maxHeartbeats 1000000 in
theorem refSplitC (s : ByteArray) (hs : s.size ≤ 9223372036854775807) (w : World) : Calls Try.prog 5 #[.string s] w fun e w' => e = .returned (spl s) ∧ ∃ n, w' = w.drewN n := by
  obtain ⟨V, hV⟩ : ∃ V, spl s = V := ⟨_, rfl⟩
  have HV : Hid (spl s = V) := hV
  rw [hV]
  clear hV
  have HC : Hid (ix s = -1 ∧ (∀ k, k < s.size → s.data.toList[k]? ≠ some 58) ∨ ∃ i : Nat, ix s = (i : Int) ∧ i < s.size ∧ s.data.toList[i]? = some 58 ∧ ∀ k, k < i → s.data.toList[k]? ≠ some 58) := ix_cases s
  go_enter Try.func5, Try.ntmps5
  go_wp2
  go_loopw [5] (fun v wr => ∃ j : Nat, j ≤ s.size ∧ v = .int .i64 (j : Nat) ∧ Hid (∀ k, k < j → s.data.toList[k]? ≠ some 58) ∧ ∃ n, wr = w.drewN n) (fun v _ => s.size - (intOf v).toNat)
  case atStart => exact ⟨0, Nat.zero_le _, rfl, fun k hk => absurd hk (Nat.not_lt_zero _), 0, rfl⟩
  case round =>
    obtain ⟨j, hj, rfl, hno, n, rfl⟩ := hrel
    by_cases hlt : j < s.size
    · have hlt' : (j : Int) < (s.size : Int) := by omega
      have hat := str_at s j hlt
      obtain ⟨c, hc⟩ : ∃ c : UInt8, s[j]'hlt = c := ⟨_, rfl⟩
      rw [hc] at hat
      have c3 : (0 : Int) ≤ (j : Int) + 1 := by omega
      have c4 : (j : Int) + 1 ≤ (s.size : Int) := by omega
      have c2 : (j : Int) ≤ (s.size : Int) := by omega
      have c5 : IntKind.i64.wrap ((j : Int) + 1) = (j : Int) + 1 := by rw [IntKind.wrap_i64]; omega
      by_cases h58 : c = 58
      · subst h58
        have he : ix s = (j : Int) := by
          rcases HC.out with ⟨_, h⟩ | ⟨i, h2, h3, h4, h5⟩
          · exact absurd hat (h j hlt)
          · by_cases a : i < j
            · exact absurd h4 (hno.out i a)
            · by_cases b : j < i
              · exact absurd hat (h5 j b)
              · have : i = j := by omega
                rw [h2, this]
        have HV2 : Hid (Value.tuple #[.string (s.extract 0 j), .string (s.extract (j + 1) s.size), .int .i64 ((j : Int) + 1)] = V) := by
          have h9 := HV.out
          unfold spl at h9
          rw [if_neg (by omega), he, Int.toNat_natCast] at h9
          unfold Hid
          rw [← h9]
          push_cast
          rfl
        have mixed : Try.prog.follows Departure.mixedOrders = true := by kernel_rfl
        clear hat hno
        go_wp2
        go_region_o
        go_wp2
        go_ret3
        exact ⟨congrArg Ending.returned HV2.out, n + 1, rfl⟩
      · have hne : ((c.toNat : Int) == 58) = false := by
          simp
          intro e
          exact h58 (UInt8.toNat_inj.1 (by show c.toNat = 58; omega))
        go_wp2
        go_roundw
        case rel => exact ⟨j + 1, hlt, by go_num, fun k hk => by
          by_cases e : k = j
          · subst e; rw [hat]; simpa using h58
          · exact hno.out k (by omega), n, rfl⟩
        case measure => simp [intOf]; omega
    · obtain rfl : j = s.size := by omega
      have he : ix s = -1 := by
        rcases HC.out with ⟨h, _⟩ | ⟨i, h2, h3, h4, h5⟩
        · exact h
        · exact absurd h4 (hno.out i h3)
      have HV2 : Hid (Value.tuple #[.string s, .string ⟨#[80]⟩, .int .i64 (s.size : Nat)] = V) := by
        have h9 := HV.out
        unfold spl at h9
        rw [if_pos he] at h9
        exact h9
      have hlt' : ¬ (s.size : Int) < (s.size : Int) := by omega
      go_wp2
      go_ret3
      exact ⟨congrArg Ending.returned HV2.out, n, rfl⟩
set_option maxHeartbeats 1000000 in
theorem splits_walk (s : ByteArray) (hs : s.size ≤ 9223372036854775807) (w : World) : Calls Try.prog 3 #[.string s] w fun e w' => e = .returned (.bool true) ∧ Below w.heap.size w w' := by
  have h1 := splitC s hs w
  have h2 := fun X => refSplitC s hs X
  obtain ⟨p, q, k, hp⟩ : ∃ p q k, spl s = .tuple #[.string p, .string q, .int .i64 k] := by
    unfold spl
    split
    · exact ⟨_, _, _, rfl⟩
    · exact ⟨_, _, _, rfl⟩
  rw [hp] at h1
  simp only [hp] at h2
  have e1 : (p.toList == p.toList) = true := by simp
  have e2 : (q.toList == q.toList) = true := by simp
  clear hp
  go_enter Try.func3, Try.ntmps3
  go_wp2_with (first | (go_at_call 4; refine h1.mono ?_; rintro e w1 ⟨rfl, n1, rfl⟩) | (go_at_call 5; refine (h2 _).mono ?_; rintro e w1 ⟨rfl, n2, rfl⟩))
  go_ret
  refine ⟨rfl, ?_⟩
  exact gb_below (gb_drewN (World.grownBy.refl _ _) _)
end Go.Proofs.Ytdjjankeedonkaa
