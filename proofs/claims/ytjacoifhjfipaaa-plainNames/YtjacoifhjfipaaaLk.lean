/- look: what it answers. -/
import Derived.Test.YtjacoifhjfipaaaLv
namespace Go.Proofs.Ytjacoifhjfipaaa
open Go.RowKit Ln
set_option linter.unusedVariables false
set_option linter.unusedSimpArgs false
set_option maxRecDepth 100000

theorem bo5 {w : World} {g : Nat} {t : TypeId} {a b c d e a' b' c' d' e' : Value} (h : Bo w g t #[a, b, c, d, e]) : Bo (((((w.setCell ⟨g, 0, none⟩ a').setCell ⟨g, 1, none⟩ b').setCell ⟨g, 2, none⟩ c').setCell ⟨g, 3, none⟩ d').setCell ⟨g, 4, none⟩ e') g t #[a', b', c', d', e'] :=
  ((((h.set 0 a').set 1 b').set 2 c').set 3 d').set 4 e'
theorem gb5 {w w' : World} {g : Nat} {a' b' c' d' e' : Value} (h : w.grownBy w' none) (hg : w.heap.size ≤ g) : w.grownBy (((((w'.setCell ⟨g, 0, none⟩ a').setCell ⟨g, 1, none⟩ b').setCell ⟨g, 2, none⟩ c').setCell ⟨g, 3, none⟩ d').setCell ⟨g, 4, none⟩ e') none :=
  gb_own' (gb_own' (gb_own' (gb_own' (gb_own' h hg _) hg _) hg _) hg _) hg _
theorem underV : ∃ fs, Try.prog.underlying 56 = some (.struct fs) := by
  have h : (match Try.prog.underlying 56 with | some (.struct _) => true | _ => false) = true := by kernel_rfl
  split at h
  · rename_i fs hfs; exact ⟨fs, hfs⟩
  · cases h
theorem infoV : (Try.prog.info? 56).map (·.size) = some 5 := by kernel_rfl
abbrev vwV (X Y V H : Int) (b : Nat) : Value := .agg #[.int .i64 X, .int .i64 Y, .int .i64 V, .int .i64 H, .map (some b)]
/-- What look leaves. -/
def LkP (w : World) (l : List Cx) (X Y V H : Int) (e : Ending) (w' : World) : Prop := w.grownBy w' none ∧ (if lkE l X Y V H = 0 then ∃ b, e = .returned (.tuple #[vwV X Y V H b, .int .i64 0]) ∧ Mp w' b l ∧ w.heap.size ≤ b else e = .returned (.tuple #[.agg #[.int .i64 0, .int .i64 0, .int .i64 0, .int .i64 0, .map none], .int .i64 (lkE l X Y V H)]))
theorem mp_set {w : World} {b g i : Nat} {l : List Cx} {v : Value} (h : Mp w b l) (hne : b ≠ g) : Mp (w.setCell ⟨g, i, none⟩ v) b l := by
  obtain ⟨D, h1, h2⟩ := h
  exact ⟨D, h1.setCell (a := ⟨g, i, none⟩) hne v, h2⟩
set_option maxHeartbeats 4000000 in
theorem lookC (sp : Option Addr) (cap : Nat) (l : List Cx) (hl : l.length < 1099511627776) (hok : ∀ c ∈ l, CxOk c) (X Y V H : Int) (w : World) (h : Ce w sp l) : Calls Try.prog 29 #[.slice sp l.length cap, .agg #[.int .i64 X, .int .i64 Y, .int .i64 V, .int .i64 H]] w (LkP w l X Y V H) := by
  obtain ⟨V1, hV1, sV1, g1, B1⟩ := boxn w #[.int .i64 X, .int .i64 Y, .int .i64 V, .int .i64 H] 31
  have r0 := B1.cell 0 (v := .int .i64 X) rfl
  have r1 := B1.cell 1 (v := .int .i64 Y) rfl
  have r2 := B1.cell 2 (v := .int .i64 V) rfl
  have r3 := B1.cell 3 (v := .int .i64 H) rfl
  obtain ⟨V2, hV2, sV2, g2, B2⟩ := boxn V1 #[.int .i64 0, .int .i64 0, .int .i64 0, .int .i64 0, .map none] 56
  have g12 := gb_trans g1 g2
  have hCe2 := h.kept g12 (by simp)
  have hz1 : w.heap.size ≤ V1.heap.size := g1.size
  have hz2 : V1.heap.size < V2.heap.size := by have := sV2.out; omega
  cases hf : farA l with
  | true =>
    have HE : Hid (lkE l X Y V H = 5) := by unfold Hid lkE; rw [if_pos hf]
    go_enter Try.func29, Try.ntmps29
    go_wp2_with (first | (go_at_call 43; refine (livingC sp cap l hl hok _ hCe2).mono ?_; rintro e w3 hlv0; unfold LvP at hlv0; obtain ⟨gl, hlv⟩ := hlv0; rw [hf, if_pos rfl] at hlv; obtain rfl := hlv; have gg := gb_trans g2 gl; have B2' := B2.kept gl (by simp); have r0' := (B1.kept gg (by simp)).cell 0 (v := .int .i64 X) rfl; have r1' := (B1.kept gg (by simp)).cell 1 (v := .int .i64 Y) rfl; have r2' := (B1.kept gg (by simp)).cell 2 (v := .int .i64 V) rfl; have r3' := (B1.kept gg (by simp)).cell 3 (v := .int .i64 H) rfl; have z0' := (B2.kept gl (by simp)).cell 0 (v := .int .i64 0) rfl; have y0' := (B2.kept gl (by simp)).frozen 0; have z1' := (B2.kept gl (by simp)).cell 1 (v := .int .i64 0) rfl; have y1' := (B2.kept gl (by simp)).frozen 1; have z2' := (B2.kept gl (by simp)).cell 2 (v := .int .i64 0) rfl; have y2' := (B2.kept gl (by simp)).frozen 2; have z3' := (B2.kept gl (by simp)).cell 3 (v := .int .i64 0) rfl; have y3' := (B2.kept gl (by simp)).frozen 3; have z4' := (B2.kept gl (by simp)).cell 4 (v := .map none) rfl; have y4' := (B2.kept gl (by simp)).frozen 4; clear r0 r1 r2 r3) | go_in)
    obtain ⟨fs, hfs⟩ := underV; refine ret_c2 (g := V1.heap.size) (cs := #[.int .i64 0, .int .i64 0, .int .i64 0, .int .i64 0, .map none]) rfl hfs infoV rfl (bo5 B2') rfl ?_; unfold LkP; rw [HE.out]; exact ⟨gb5 (gb_trans g12 gl) (by omega), rfl⟩
  | false =>
    cases hm : mnA [] l with
    | true =>
      have HE : Hid (lkE l X Y V H = 6) := by unfold Hid lkE; rw [hf, if_neg (by decide), if_pos hm]
      go_enter Try.func29, Try.ntmps29
      go_wp2_with (first | (go_at_call 43; refine (livingC sp cap l hl hok _ hCe2).mono ?_; rintro e w3 hlv0; unfold LvP at hlv0; obtain ⟨gl, hlv⟩ := hlv0; rw [hf, if_neg (by decide), hm, if_pos rfl] at hlv; obtain rfl := hlv; have gg := gb_trans g2 gl; have B2' := B2.kept gl (by simp); have r0' := (B1.kept gg (by simp)).cell 0 (v := .int .i64 X) rfl; have r1' := (B1.kept gg (by simp)).cell 1 (v := .int .i64 Y) rfl; have r2' := (B1.kept gg (by simp)).cell 2 (v := .int .i64 V) rfl; have r3' := (B1.kept gg (by simp)).cell 3 (v := .int .i64 H) rfl; have z0' := (B2.kept gl (by simp)).cell 0 (v := .int .i64 0) rfl; have y0' := (B2.kept gl (by simp)).frozen 0; have z1' := (B2.kept gl (by simp)).cell 1 (v := .int .i64 0) rfl; have y1' := (B2.kept gl (by simp)).frozen 1; have z2' := (B2.kept gl (by simp)).cell 2 (v := .int .i64 0) rfl; have y2' := (B2.kept gl (by simp)).frozen 2; have z3' := (B2.kept gl (by simp)).cell 3 (v := .int .i64 0) rfl; have y3' := (B2.kept gl (by simp)).frozen 3; have z4' := (B2.kept gl (by simp)).cell 4 (v := .map none) rfl; have y4' := (B2.kept gl (by simp)).frozen 4; clear r0 r1 r2 r3) | go_in)
      obtain ⟨fs, hfs⟩ := underV; refine ret_c2 (g := V1.heap.size) (cs := #[.int .i64 0, .int .i64 0, .int .i64 0, .int .i64 0, .map none]) rfl hfs infoV rfl (bo5 B2') rfl ?_; unfold LkP; rw [HE.out]; exact ⟨gb5 (gb_trans g12 gl) (by omega), rfl⟩
    | false =>
      cases hV : sideB V with
      | false =>
        have HE : Hid (lkE l X Y V H = 231) := by unfold Hid lkE; rw [hf, hm, hV]; rfl
        go_enter Try.func29, Try.ntmps29
        go_wp2_with (first | (go_at_call 43; refine (livingC sp cap l hl hok _ hCe2).mono ?_; rintro e w3 hlv0; unfold LvP at hlv0; obtain ⟨gl, hlv⟩ := hlv0; rw [hf, hm, if_neg (by decide), if_neg (by decide)] at hlv; obtain ⟨b, rfl, hmp, hb⟩ := hlv; have gg := gb_trans g2 gl; have B2' := B2.kept gl (by simp); have r0' := (B1.kept gg (by simp)).cell 0 (v := .int .i64 X) rfl; have r1' := (B1.kept gg (by simp)).cell 1 (v := .int .i64 Y) rfl; have r2' := (B1.kept gg (by simp)).cell 2 (v := .int .i64 V) rfl; have r3' := (B1.kept gg (by simp)).cell 3 (v := .int .i64 H) rfl; have z0' := (B2.kept gl (by simp)).cell 0 (v := .int .i64 0) rfl; have y0' := (B2.kept gl (by simp)).frozen 0; have z1' := (B2.kept gl (by simp)).cell 1 (v := .int .i64 0) rfl; have y1' := (B2.kept gl (by simp)).frozen 1; have z2' := (B2.kept gl (by simp)).cell 2 (v := .int .i64 0) rfl; have y2' := (B2.kept gl (by simp)).frozen 2; have z3' := (B2.kept gl (by simp)).cell 3 (v := .int .i64 0) rfl; have y3' := (B2.kept gl (by simp)).frozen 3; have z4' := (B2.kept gl (by simp)).cell 4 (v := .map none) rfl; have y4' := (B2.kept gl (by simp)).frozen 4; clear r0 r1 r2 r3) | (go_at_call 44; refine (isSideC _ _).mono ?_; rintro e w8 ⟨rfl, hw8⟩; subst w8; first | rw [hV] | rw [hH]) | go_in)
        obtain ⟨fs, hfs⟩ := underV; refine ret_c2 (g := V1.heap.size) (cs := #[.int .i64 0, .int .i64 0, .int .i64 0, .int .i64 0, .map none]) rfl hfs infoV rfl (bo5 B2') rfl ?_; unfold LkP; rw [HE.out]; exact ⟨gb5 (gb_trans g12 gl) (by omega), rfl⟩
      | true =>
        cases hH : sideB H with
        | false =>
          have HE : Hid (lkE l X Y V H = 231) := by unfold Hid lkE; rw [hf, hm, hV, hH]; rfl
          go_enter Try.func29, Try.ntmps29
          go_wp2_with (first | (go_at_call 43; refine (livingC sp cap l hl hok _ hCe2).mono ?_; rintro e w3 hlv0; unfold LvP at hlv0; obtain ⟨gl, hlv⟩ := hlv0; rw [hf, hm, if_neg (by decide), if_neg (by decide)] at hlv; obtain ⟨b, rfl, hmp, hb⟩ := hlv; have gg := gb_trans g2 gl; have B2' := B2.kept gl (by simp); have r0' := (B1.kept gg (by simp)).cell 0 (v := .int .i64 X) rfl; have r1' := (B1.kept gg (by simp)).cell 1 (v := .int .i64 Y) rfl; have r2' := (B1.kept gg (by simp)).cell 2 (v := .int .i64 V) rfl; have r3' := (B1.kept gg (by simp)).cell 3 (v := .int .i64 H) rfl; have z0' := (B2.kept gl (by simp)).cell 0 (v := .int .i64 0) rfl; have y0' := (B2.kept gl (by simp)).frozen 0; have z1' := (B2.kept gl (by simp)).cell 1 (v := .int .i64 0) rfl; have y1' := (B2.kept gl (by simp)).frozen 1; have z2' := (B2.kept gl (by simp)).cell 2 (v := .int .i64 0) rfl; have y2' := (B2.kept gl (by simp)).frozen 2; have z3' := (B2.kept gl (by simp)).cell 3 (v := .int .i64 0) rfl; have y3' := (B2.kept gl (by simp)).frozen 3; have z4' := (B2.kept gl (by simp)).cell 4 (v := .map none) rfl; have y4' := (B2.kept gl (by simp)).frozen 4; clear r0 r1 r2 r3) | (go_at_call 44; refine (isSideC _ _).mono ?_; rintro e w8 ⟨rfl, hw8⟩; subst w8; first | rw [hV] | rw [hH]) | go_in)
          obtain ⟨fs, hfs⟩ := underV; refine ret_c2 (g := V1.heap.size) (cs := #[.int .i64 0, .int .i64 0, .int .i64 0, .int .i64 0, .map none]) rfl hfs infoV rfl (bo5 B2') rfl ?_; unfold LkP; rw [HE.out]; exact ⟨gb5 (gb_trans g12 gl) (by omega), rfl⟩
        | true =>
          cases hX : farB X with
          | true =>
            have HE : Hid (lkE l X Y V H = 5) := by unfold Hid lkE; rw [hf, hm, hV, hH, hX]; rfl
            go_enter Try.func29, Try.ntmps29
            go_wp2_with (first | (go_at_call 43; refine (livingC sp cap l hl hok _ hCe2).mono ?_; rintro e w3 hlv0; unfold LvP at hlv0; obtain ⟨gl, hlv⟩ := hlv0; rw [hf, hm, if_neg (by decide), if_neg (by decide)] at hlv; obtain ⟨b, rfl, hmp, hb⟩ := hlv; have gg := gb_trans g2 gl; have B2' := B2.kept gl (by simp); have r0' := (B1.kept gg (by simp)).cell 0 (v := .int .i64 X) rfl; have r1' := (B1.kept gg (by simp)).cell 1 (v := .int .i64 Y) rfl; have r2' := (B1.kept gg (by simp)).cell 2 (v := .int .i64 V) rfl; have r3' := (B1.kept gg (by simp)).cell 3 (v := .int .i64 H) rfl; have z0' := (B2.kept gl (by simp)).cell 0 (v := .int .i64 0) rfl; have y0' := (B2.kept gl (by simp)).frozen 0; have z1' := (B2.kept gl (by simp)).cell 1 (v := .int .i64 0) rfl; have y1' := (B2.kept gl (by simp)).frozen 1; have z2' := (B2.kept gl (by simp)).cell 2 (v := .int .i64 0) rfl; have y2' := (B2.kept gl (by simp)).frozen 2; have z3' := (B2.kept gl (by simp)).cell 3 (v := .int .i64 0) rfl; have y3' := (B2.kept gl (by simp)).frozen 3; have z4' := (B2.kept gl (by simp)).cell 4 (v := .map none) rfl; have y4' := (B2.kept gl (by simp)).frozen 4; clear r0 r1 r2 r3) | (go_at_call 44; refine (isSideC _ _).mono ?_; rintro e w8 ⟨rfl, hw8⟩; subst w8; first | rw [hV] | rw [hH]) | (go_at_call 45; refine (isFarC _ _).mono ?_; rintro e w8 ⟨rfl, hw8⟩; subst w8; first | rw [hX] | rw [hY]) | go_in)
            obtain ⟨fs, hfs⟩ := underV; refine ret_c2 (g := V1.heap.size) (cs := #[.int .i64 0, .int .i64 0, .int .i64 0, .int .i64 0, .map none]) rfl hfs infoV rfl (bo5 B2') rfl ?_; unfold LkP; rw [HE.out]; exact ⟨gb5 (gb_trans g12 gl) (by omega), rfl⟩
          | false =>
            cases hY : farB Y with
            | true =>
              have HE : Hid (lkE l X Y V H = 5) := by unfold Hid lkE; rw [hf, hm, hV, hH, hX, hY]; rfl
              go_enter Try.func29, Try.ntmps29
              go_wp2_with (first | (go_at_call 43; refine (livingC sp cap l hl hok _ hCe2).mono ?_; rintro e w3 hlv0; unfold LvP at hlv0; obtain ⟨gl, hlv⟩ := hlv0; rw [hf, hm, if_neg (by decide), if_neg (by decide)] at hlv; obtain ⟨b, rfl, hmp, hb⟩ := hlv; have gg := gb_trans g2 gl; have B2' := B2.kept gl (by simp); have r0' := (B1.kept gg (by simp)).cell 0 (v := .int .i64 X) rfl; have r1' := (B1.kept gg (by simp)).cell 1 (v := .int .i64 Y) rfl; have r2' := (B1.kept gg (by simp)).cell 2 (v := .int .i64 V) rfl; have r3' := (B1.kept gg (by simp)).cell 3 (v := .int .i64 H) rfl; have z0' := (B2.kept gl (by simp)).cell 0 (v := .int .i64 0) rfl; have y0' := (B2.kept gl (by simp)).frozen 0; have z1' := (B2.kept gl (by simp)).cell 1 (v := .int .i64 0) rfl; have y1' := (B2.kept gl (by simp)).frozen 1; have z2' := (B2.kept gl (by simp)).cell 2 (v := .int .i64 0) rfl; have y2' := (B2.kept gl (by simp)).frozen 2; have z3' := (B2.kept gl (by simp)).cell 3 (v := .int .i64 0) rfl; have y3' := (B2.kept gl (by simp)).frozen 3; have z4' := (B2.kept gl (by simp)).cell 4 (v := .map none) rfl; have y4' := (B2.kept gl (by simp)).frozen 4; clear r0 r1 r2 r3) | (go_at_call 44; refine (isSideC _ _).mono ?_; rintro e w8 ⟨rfl, hw8⟩; subst w8; first | rw [hV] | rw [hH]) | (go_at_call 45; refine (isFarC _ _).mono ?_; rintro e w8 ⟨rfl, hw8⟩; subst w8; first | rw [hX] | rw [hY]) | go_in)
              obtain ⟨fs, hfs⟩ := underV; refine ret_c2 (g := V1.heap.size) (cs := #[.int .i64 0, .int .i64 0, .int .i64 0, .int .i64 0, .map none]) rfl hfs infoV rfl (bo5 B2') rfl ?_; unfold LkP; rw [HE.out]; exact ⟨gb5 (gb_trans g12 gl) (by omega), rfl⟩
            | false =>
              have HE : Hid (lkE l X Y V H = 0) := by unfold Hid lkE; rw [hf, hm, hV, hH, hX, hY]; rfl
              go_enter Try.func29, Try.ntmps29
              go_wp2_with (first | (go_at_call 43; refine (livingC sp cap l hl hok _ hCe2).mono ?_; rintro e w3 hlv0; unfold LvP at hlv0; obtain ⟨gl, hlv⟩ := hlv0; rw [hf, hm, if_neg (by decide), if_neg (by decide)] at hlv; obtain ⟨b, rfl, hmp, hb⟩ := hlv; have gg := gb_trans g2 gl; have B2' := B2.kept gl (by simp); have r0' := (B1.kept gg (by simp)).cell 0 (v := .int .i64 X) rfl; have r1' := (B1.kept gg (by simp)).cell 1 (v := .int .i64 Y) rfl; have r2' := (B1.kept gg (by simp)).cell 2 (v := .int .i64 V) rfl; have r3' := (B1.kept gg (by simp)).cell 3 (v := .int .i64 H) rfl; have z0' := (B2.kept gl (by simp)).cell 0 (v := .int .i64 0) rfl; have y0' := (B2.kept gl (by simp)).frozen 0; have z1' := (B2.kept gl (by simp)).cell 1 (v := .int .i64 0) rfl; have y1' := (B2.kept gl (by simp)).frozen 1; have z2' := (B2.kept gl (by simp)).cell 2 (v := .int .i64 0) rfl; have y2' := (B2.kept gl (by simp)).frozen 2; have z3' := (B2.kept gl (by simp)).cell 3 (v := .int .i64 0) rfl; have y3' := (B2.kept gl (by simp)).frozen 3; have z4' := (B2.kept gl (by simp)).cell 4 (v := .map none) rfl; have y4' := (B2.kept gl (by simp)).frozen 4; clear r0 r1 r2 r3) | (go_at_call 44; refine (isSideC _ _).mono ?_; rintro e w8 ⟨rfl, hw8⟩; subst w8; first | rw [hV] | rw [hH]) | (go_at_call 45; refine (isFarC _ _).mono ?_; rintro e w8 ⟨rfl, hw8⟩; subst w8; first | rw [hX] | rw [hY]) | go_in)
              obtain ⟨fs, hfs⟩ := underV
              refine ret_c2 (g := V1.heap.size) (cs := #[.int .i64 X, .int .i64 Y, .int .i64 V, .int .i64 H, .map (some b)]) rfl hfs infoV rfl (bo5 B2') rfl ?_
              unfold LkP
              refine ⟨gb5 (gb_trans g12 gl) (by omega), ?_⟩
              rw [HE.out, if_pos rfl]
              exact ⟨b, rfl, mp_set (mp_set (mp_set (mp_set (mp_set hmp (by omega)) (by omega)) (by omega)) (by omega)) (by omega), by omega⟩
end Go.Proofs.Ytjacoifhjfipaaa
