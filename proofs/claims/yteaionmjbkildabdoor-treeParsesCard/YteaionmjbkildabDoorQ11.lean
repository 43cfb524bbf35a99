/- A form in memory: nodes and their numbers. -/
import Derived.Test.YteaionmjbkildabDoorQ10
namespace Go.Proofs.YteaionmjbkildabDoor
open Go.RowKit
set_option linter.unusedVariables false
set_option linter.unusedSimpArgs false
set_option maxRecDepth 100000

/-- What a node's key reads as. -/
def nk (x : Nd) : Lit := kl (x.1 : Int) ⟨(ktx x.2).toArray⟩
def nkV (x : Nd) : Value := .agg #[.int .u8 (x.1 : Int), .string ⟨(ktx x.2).toArray⟩]
theorem wf8 {n : Nat} (h : n < 256) : (Lit.int .u8 (n : Int)).wf = true := by
  exact WalkArith.wf_u8 (by omega)
theorem ktx_size {x : Nd} (h : NdOk x) : (⟨(ktx x.2).toArray⟩ : ByteArray).size ≤ maxLen := by
  show (ktx x.2).toArray.size ≤ maxLen
  rw [List.size_toArray, ktx_len]
  have := h.2.2
  unfold maxLen
  omega
theorem nk_key {x : Nd} (h : NdOk x) : keyOf Tryd.prog 116 (nkV x) = some (nk x) := (keyOf_is _ _).2 ⟨_, _, rfl, wf8 h.1, ktx_size h, rfl⟩
theorem nkV_inj {x y : Nd} (hx : NdOk x) (hy : NdOk y) (h : nkV x = nkV y) : x = y := by
  simp only [nkV, Value.agg.injEq, Array.mk.injEq, List.cons.injEq, Value.int.injEq, Value.string.injEq, true_and, and_true, ByteArray.mk.injEq] at h
  have h2 : ktx x.2 = ktx y.2 := by simpa using h.2
  exact Prod.ext (by omega) (ktx_inj hx.2.1 hy.2.1 h2)
theorem nk_inj {x y : Nd} (hx : NdOk x) (hy : NdOk y) (h : nk x = nk y) : x = y := nkV_inj hx hy (lawK.inj (nk_key hx) (h ▸ nk_key hy))
/-- A form in memory: the map of block b has the nodes L with their numbers. -/
def Fm (w : World) (b : Nat) (L : List Nd) : Prop := ∃ D : DataW Unit, w.ownsMap Tryd.prog 116 (plainElem Tryd.prog 3) b L.length D ∧ Maps.size D = L.length ∧ (∀ i x, L[i]? = some x → ∀ z, D.atKey (nk x) z = .lit (.int .i64 (i : Nat))) ∧ (∀ q, Maps.has D q = true → ∃ x ∈ L, q = nk x)
theorem Fm.kept {w w' : World} {b : Nat} {L : List Nd} {r : Option Nat} (h : Fm w b L) (hg : w.grownBy w' r) (hne : some b ≠ r) : Fm w' b L := by
  obtain ⟨D, h1, h2⟩ := h
  exact ⟨D, h1.kept hg hne, h2⟩
theorem Fm.lt {w : World} {b : Nat} {L : List Nd} (h : Fm w b L) : b < w.heap.size := by
  obtain ⟨D, h1, h2⟩ := h
  exact h1.lt
theorem Fm.made (w : World) : Fm (w.alloc (.map #[] 0)) w.heap.size [] := ⟨.map [], World.ownsMap_made _ _ _ _, rfl, fun i x h => by simp at h, fun q h => by cases h⟩
theorem wf64 {n : Nat} (h : n < 2147483648) : (Lit.int .i64 (n : Int)).wf = true := by
  exact WalkArith.wf_i64 (by omega)

set_option maxHeartbeats 1000000 in
theorem numberC (b : Nat) (L : List Nd) (x : Nd) (hL : Gf L) (hx : NdOk x) (hl : L.length < 2147483648) (sp : Option Addr) (cap : Nat) (w : World) (F : Fm w b L) (h : In w sp x.2.length (lf x.2)) :
    Calls Tryd.prog 65 #[.map (some b), .int .u8 (x.1 : Int), .slice sp x.2.length cap] w fun e w' => e = .returned (.int .i64 (nix L x : Nat)) ∧ Fm w' b (nfm L x) ∧ w.grownBy w' (some b) := by
  obtain ⟨D, F1, F2, F3, F4⟩ := F
  have wr := writtenC sp cap x.2 hx.2.1 (by have := hx.2.2; omega) w h
  obtain ⟨T, hT⟩ : ∃ T : ByteArray, ⟨(ktx x.2).toArray⟩ = T := ⟨_, rfl⟩
  have KY := nk_key hx
  obtain ⟨s0, hs0⟩ : ∃ s0 : Int, (x.1 : Int) = s0 := ⟨_, rfl⟩
  have KV : keyOf Tryd.prog 116 (.agg #[.int .u8 s0, .string T]) = some (nk x) := by rw [← hT, ← hs0]; exact KY
  rw [hT] at wr
  rw [hs0]
  obtain ⟨n, hn⟩ : ∃ n, x.2.length = n := ⟨_, rfl⟩
  rw [hn] at wr ⊢
  clear hs0 hT hn h KY
  obtain ⟨N, hN⟩ : ∃ N, L.length = N := ⟨_, rfl⟩
  by_cases hin : x ∈ L
  · have hi := nix_in hin
    have HX : Hid (nfm L x = L) := by unfold Hid nfm; rw [if_pos hin]
    have HA := F3 _ _ hi
    have hh : Maps.has D (nk x) = true := Maps.has_true_of_atKey HA
    obtain ⟨m, hm⟩ : ∃ m, nix L x = m := ⟨_, rfl⟩
    rw [hm] at HA ⊢
    clear hi hm
    go_enter Tryd.func65, Tryd.ntmps65
    go_wp2_with (first | (go_at_call 79; refine wr.mono ?_; rintro e w1 ⟨rfl, g1⟩; obtain ⟨W1, hW1, sz1, gb1, B1⟩ := boxn w1 #[.int .u8 s0, .string T] 116; have c0 := B1.cell 0 (v := .int .u8 s0) rfl; have c1 := B1.cell 1 (v := .string T) rfl; have G1 := gb_trans g1 gb1; have own1 := F1.kept G1 (by simp)) | (at_lookup; refine wpList_lookup_own_ok_int _ rfl _ _ 100 rfl 116 3 .i64 lawK underM underI (zeroI _) b _ D rfl own1 _ _ rfl KV ?_; intro c hat hwc; rw [HA] at hat; rw [hh]; obtain rfl : c = (m : Int) := (by injection hat with hat; injection hat with _ hat; exact hat.symm)) | go_in)
    go_ret
    exact ⟨rfl, by rw [HX.out]; exact ⟨D, own1, F2, F3, F4⟩, G1.but _⟩
  · have HX : Hid (nfm L x = L ++ [x]) := by unfold Hid nfm; rw [if_neg hin]
    have hix : nix L x = N := by rw [nix_out hin, hN]
    have hh : Maps.has D (nk x) = false := by
      cases hq : Maps.has D (nk x) with
      | false => rfl
      | true =>
        obtain ⟨y, hy, e⟩ := F4 _ hq
        exact absurd (nk_inj hx (hL y hy) e ▸ hy) hin
    rw [hix]
    rw [hN] at F2 F1 hl
    have wfN := wf64 hl
    go_enter Tryd.func65, Tryd.ntmps65
    go_wp2_with (first | (go_at_call 79; refine wr.mono ?_; rintro e w1 ⟨rfl, g1⟩; obtain ⟨W1, hW1, sz1, gb1, B1⟩ := boxn w1 #[.int .u8 s0, .string T] 116; have c0 := B1.cell 0 (v := .int .u8 s0) rfl; have c1 := B1.cell 1 (v := .string T) rfl; have G1 := gb_trans g1 gb1; have own1 := F1.kept G1 (by simp)) | (at_lookup; refine wpList_lookup_own_ok_int _ rfl _ _ 100 rfl 116 3 .i64 lawK underM underI (zeroI _) b _ D rfl own1 _ _ rfl KV ?_; intro c hat hwc; rw [hh]; clear hat hwc) | (at_len; refine wpList_len_own _ rfl _ 100 rfl 116 3 underM _ b _ D rfl own1 ?_; rw [F2]) | (at_mapUpdate; refine wpList_mapUpdate_own _ rfl _ _ _ 100 rfl 116 3 lawK underM _ b _ _ rfl own1 (by unfold maxLen; omega) _ _ _ rfl rfl KV _ [] (plainElem_int underI wfN) ?_; intro w2 own2 g2) | go_in)
    go_ret
    refine ⟨rfl, ?_, (G1.but _).andThen g2 (fun j hj => .inr hj)⟩
    rw [HX.out]
    refine ⟨_, by rw [List.length_append, hN]; exact own2, ?_, ?_, ?_⟩
    · rw [Maps.size_put (own1.tidy lawK), hh, F2]; simp [hN]
    · intro i y hi z
      by_cases hiN : i < L.length
      · rw [List.getElem?_append_left hiN] at hi
        have hy : y ∈ L := List.mem_of_getElem? hi
        rw [Maps.atKey_put_other (fun e => hin (nk_inj (hL y hy) hx e ▸ hy))]
        exact F3 i y hi z
      · rw [List.getElem?_append_right (by omega)] at hi
        have e0 : i - L.length = 0 := by
          have := (List.getElem?_eq_some_iff.1 hi).1
          simp at this; omega
        rw [e0] at hi
        simp at hi
        subst hi
        rw [Maps.atKey_put_same own1.isMap (lawK.key KV)]
        have : i = N := by omega
        rw [this]
    · intro q hq
      by_cases e : q = nk x
      · exact ⟨x, by simp, e⟩
      · rw [Maps.has_put_other e] at hq
        obtain ⟨y, hy, e'⟩ := F4 q hq
        exact ⟨y, by simp [hy], e'⟩
end Go.Proofs.YteaionmjbkildabDoor
