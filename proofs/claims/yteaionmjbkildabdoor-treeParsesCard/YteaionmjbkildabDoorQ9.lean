/- The kids of a node, written as bytes. -/
import Derived.Maps.AppendAt
import Derived.Deep.OwnRows
import Derived.Deep.AppendLies
import Derived.Laws.IdiomStrings
import Derived.Test.YteaionmjbkildabDoorQ6
import Derived.Test.YteaionmjbkildabDoorQ8
namespace Go.Proofs.YteaionmjbkildabDoor
open Go.RowKit
set_option linter.unusedVariables false
set_option linter.unusedSimpArgs false
set_option maxRecDepth 100000

/-- Numbers that can be read. -/
def In (w : World) (sp : Option Addr) (n : Nat) (f : Nat → Int) : Prop := ∀ k, k < n → ∃ a, sp = some a ∧ w.cell? (a.add k) = some (.int .i64 (f k))
theorem In.at {w : World} {a : Addr} {n : Nat} {f : Nat → Int} (h : In w (some a) n f) {k : Nat} (hk : k < n) : w.cell? (a.add k) = some (.int .i64 (f k)) := by
  obtain ⟨a', ha, hc⟩ := h k hk
  cases ha
  exact hc
theorem In.some {w : World} {sp : Option Addr} {n : Nat} {f : Nat → Int} (h : In w sp n f) (hn : 0 < n) : ∃ a, sp = Option.some a := by
  obtain ⟨a, ha, _⟩ := h 0 hn
  exact ⟨a, ha⟩
theorem In.kept {w w' : World} {sp : Option Addr} {n : Nat} {f : Nat → Int} {r : Option Nat} (h : In w sp n f) (hg : w.grownBy w' r) (hne : ∀ a, sp = Option.some a → Option.some a.block ≠ r) : In w' sp n f := fun k hk => by
  obtain ⟨a, ha, hc⟩ := h k hk
  have hb : (a.add k).block = a.block := by unfold Addr.add; split <;> simp_all
  exact ⟨a, ha, hg.cell hc (by rw [hb]; exact hne a ha)⟩
theorem In.congr {w : World} {sp : Option Addr} {n : Nat} {f g : Nat → Int} (h : In w sp n f) (e : ∀ k, k < n → f k = g k) : In w sp n g := fun k hk => by
  obtain ⟨a, ha, hc⟩ := h k hk
  exact ⟨a, ha, by rw [← e k hk]; exact hc⟩
/-- A list of numbers as what is read. -/
def lf (ks : List Nat) (i : Nat) : Int := (ks.getD i 0 : Nat)
/-- Bytes as cells. -/
def bv (l : List UInt8) : List Value := l.map fun b => .int .u8 (b.toNat : Int)
theorem under8S : Tryd.prog.underlying 44 = some (.slice 5) := by kernel_rfl
theorem under8 : Tryd.prog.underlying 5 = some (.int .u8) := by kernel_rfl
theorem underSt : Tryd.prog.underlying 9 = some .string := by kernel_rfl
theorem underIS : Tryd.prog.underlying 63 = some (.slice 3) := by kernel_rfl
theorem underI : Tryd.prog.underlying 3 = some (.int .i64) := by kernel_rfl
theorem info8 : (Tryd.prog.info? 5).map (fun i => (i.zero, i.size, i.bytes)) = some (some (.int .u8 0), 1, 1) := by kernel_rfl
theorem infoI : (Tryd.prog.info? 3).map (fun i => (i.zero, i.size, i.bytes)) = some (some (.int .i64 0), 1, 8) := by kernel_rfl
theorem bv_kb (k : Nat) : bv (kb k) = [.int .u8 ((k / 65536 % 256 : Nat) : Int), .int .u8 ((k / 256 % 256 : Nat) : Int), .int .u8 ((k % 256 : Nat) : Int)] := by
  simp [bv, kb, UInt8.toNat_ofNat']
theorem bv_one (l : List UInt8) : ∀ u ∈ bv l, u.oneCell' = true := fun u hu => by
  obtain ⟨b, _, rfl⟩ := List.mem_map.1 hu
  rfl
theorem bv_app (a b : List UInt8) : bv (a ++ b) = bv a ++ bv b := List.map_append
theorem bv_len (a : List UInt8) : (bv a).length = a.length := List.length_map ..

set_option maxHeartbeats 600000 in
theorem writtenC (sp : Option Addr) (cap : Nat) (ks : List Nat) (hks : ∀ k ∈ ks, k < 16777216) (hl : ks.length ≤ 1000000) (w : World) (h : In w sp ks.length (lf ks)) :
    Calls Tryd.prog 79 #[.slice sp ks.length cap] w fun e w' => e = .returned (.string ⟨(ktx ks).toArray⟩) ∧ w.grownBy w' none := by
  obtain ⟨i8, HI8⟩ : ∃ i, Hid (Tryd.prog.info? 5 = some i ∧ i.zero = some (.int .u8 0) ∧ i.size = 1 ∧ i.bytes = 1) := by
    obtain ⟨i, h1, h2, h3, h4⟩ := info_parts info8
    exact ⟨i, h1, h2, h3, h4⟩
  obtain ⟨n, hn⟩ : ∃ n, ks.length = n := ⟨_, rfl⟩
  have HN : Hid (ks.length = n) := hn
  rw [hn] at h hl ⊢
  clear hn
  have hmul : IntKind.i64.wrap (3 * (n : Int)) = ((3 * n : Nat) : Int) := by rw [IntKind.wrap_i64]; omega
  go_enter Tryd.func79, Tryd.ntmps79
  go_wp2_with (first | (at_make; refine wpList_make_own _ rfl _ _ 44 rfl w.heap.size 5 i8 (.int .u8 0) 1 under8S HI8.out.1 HI8.out.2.1 HI8.out.2.2.1 .i64 .i64 _ (3 * n) rfl rfl (by first | rfl | omega) (by rw [HI8.out.2.2.2]; omega) (by unfold maxLen; omega) (Nat.le_refl _) ?_; intro w1 own1 g1) | go_in)
  go_loopw [12, 3] (fun i t wr => ∃ j : Nat, j ≤ n ∧ i = .int .i64 j ∧ wr.ownsRow w.heap.size 5 1 t (3 * j) (bv (ktx (ks.take j))) ∧ w.grownBy wr none ∧ Hid (t ≠ .slice none 0 0)) (fun i _ _ => n - (intOf i).toNat)
  case atStart => exact ⟨0, Nat.zero_le _, rfl, own1, g1, (by unfold Hid; simp)⟩
  case round =>
    obtain ⟨j, hj, rfl, own, hg, hnn⟩ := hrel
    by_cases hlt : j < n
    · obtain ⟨a, rfl⟩ := h.some (by omega)
      have hlt' : (j : Int) < (n : Int) := by omega
      have hc := (h.kept hg (by simp)).at hlt
      obtain ⟨k, hk⟩ : ∃ k : Nat, lf ks j = (k : Int) := ⟨_, rfl⟩
      have hk2 : ks[j]? = some k := by
        have hjl : j < ks.length := by rw [HN.out]; exact hlt
        have : (ks.getD j 0 : Int) = (k : Int) := hk
        rw [List.getElem?_eq_getElem hjl]
        have e : ks.getD j 0 = ks[j] := by simp [List.getD_eq_getElem?_getD, hjl]
        rw [e] at this
        congr 1
        omega
      have hk3 : k < 16777216 := hks k (List.mem_of_getElem? hk2)
      have HT : Hid (ks.take (j + 1) = ks.take j ++ [k]) := by
        unfold Hid; rw [List.take_add_one, hk2]; rfl
      rw [hk] at hc
      clear hk hk2
      obtain ⟨V, hV⟩ : ∃ V, wr.alloc (.cells #[.int .u8 ((k : Int) / 65536), .int .u8 ((k : Int) / 256 % 256), .int .u8 ((k : Int) % 256)] 5) = V := ⟨_, rfl⟩
      have gV : wr.grownBy V none := (by rw [← hV]; exact World.grownBy_alloc _ _ _)
      have ownV := own.kept gV (Classical.em _)
      have v0 : ∀ l u, (bv (kb k))[l]? = some u → V.cell? ((⟨wr.heap.size, 0, none⟩ : Addr).add l) = some u := (by
        have e : bv (kb k) = [.int .u8 ((k : Int) / 65536), .int .u8 ((k : Int) / 256 % 256), .int .u8 ((k : Int) % 256)] := (by
          rw [bv_kb]
          have e1 : ((k / 65536 % 256 : Nat) : Int) = (k : Int) / 65536 := (by omega)
          have e2 : ((k / 256 % 256 : Nat) : Int) = (k : Int) / 256 % 256 := (by omega)
          have e3 : ((k % 256 : Nat) : Int) = (k : Int) % 256 := (by omega)
          rw [e1, e2, e3])
        rw [e, ← hV]
        exact World.news_of_block (cs := #[.int .u8 ((k : Int) / 65536), .int .u8 ((k : Int) / 256 % 256), .int .u8 ((k : Int) % 256)]) (heap_alloc_new wr _))
      have sV : w.heap.size ≤ V.heap.size := Nat.le_trans hg.size gV.size
      go_wp2_with (at_builtin; refine wpList_append_own_at _ rfl _ _ 44 rfl w.heap.size 5 i8 (.int .u8 0) 1 1 under8S HI8.out.1 HI8.out.2.1 HI8.out.2.2.1 HI8.out.2.2.2 rfl (by decide) _ (3 * j) _ rfl ownV ⟨wr.heap.size, 0, none⟩ 3 3 (bv (kb k)) rfl rfl v0 (bv_one _) (by unfold maxLen; omega) (by omega) sV ?_; intro v' w' own' g' hnil' hblk')
      go_roundw
      case rel => exact ⟨j + 1, by omega, by go_num, by rw [HT.out, ktx_snoc, bv_app, show 3 * (j + 1) = 3 * j + 3 by omega]; exact own', by
        have gx := hg.andThen gV (by simp)
        exact gx.andThen g' (fun b hb => .inl (ownV.lt b hb).1), fun e => by have := (hnil'.1 e).2; omega⟩
      case measure => simp [intOf]; omega
    · have hjn : j = n := by omega
      subst hjn
      have HE : Hid (ks.take j = ks) := by unfold Hid; rw [← HN.out]; exact List.take_length
      rw [HE.out] at own
      have HL : Hid ((ktx ks).length = 3 * j) := by unfold Hid; rw [ktx_len, HN.out]
      rcases own.2 with ⟨rfl, h0⟩ | ⟨g, cp, cur, rfl, hb, hgc, hle, hm, hcs, htk⟩
      · exact absurd rfl hnn.out
      · have hcv := run_convert_bytes_back (P := Tryd.prog) wr 44 9 5 ⟨g, 0, none⟩ cp (ktx ks) under8S under8 underSt (fun i hi => by
          have := own.cells (g := g) rfl i (.int .u8 ((ktx ks)[i].toNat : Int)) (by simp [bv, hi])
          exact this)
        rw [HL.out] at hcv
        go_wp2
        go_ret
        exact ⟨rfl, hg⟩
end Go.Proofs.YteaionmjbkildabDoor
