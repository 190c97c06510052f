/-
  Stage 14: the statements' own examples.
-/
import Derived.Test.YtnladolpcocchaaDeltaF
namespace Go.Proofs.Ytnladolpcocchaa
open Go.RowKit
set_option linter.unusedSimpArgs false
set_option linter.unusedVariables false
set_option maxRecDepth 10000
set_option synthInstance.maxSize 2000

theorem box_below {g : Nat} {X X' : World} {o : Obj} (h : X.heap[g]? = some o) (k : Below X.heap.size X X') : X'.heap[g]? = some o := by
  rw [k.block g (Array.getElem?_eq_some_iff.1 h).1]; exact h
/-- A record of the examples. -/
def r14 (i n : Int) : Rc := ⟨i, n, 0, 1, 1, false, none, 0, []⟩
theorem r14_ok (w : World) (i n : Int) (hi : (Lit.int .i64 i).wf = true) (hn : (Lit.int .i64 n).wf = true) : ROk w (r14 i n) := ⟨hi, hn, show (Lit.int .i64 0).wf = true by decide, show (Lit.int .i64 1).wf = true by decide, show (Lit.int .i64 1).wf = true by decide, Nat.le_refl _, by simp [r14, maxLen], fun _ => rfl, FIn.empty _ _, by simp [r14]⟩
theorem sm14 (l : List Rc) (hl : l.length ≤ 10) (h : ∀ x ∈ l, x.bag = []) : SmK (rks l) := by
  refine ⟨by rw [rks_len]; omega, fun r hr => ?_⟩
  obtain ⟨x, hx, rfl⟩ := List.mem_map.1 hr
  have e : (rk x).bag = [] := by show kys x.bag = []; rw [h x hx]; rfl
  rw [e]; simp [szK]
theorem rin14 (X : World) (l : List Rc) (g : Nat) (hg : X.heap.size = g) (cs : Array Value) (hcs : cs = cellsR l) (h : ∀ f ∈ l, ROk (X.alloc (.cells cs 34)) f) : RIn (X.alloc (.cells cs 34)) (some ⟨g, 0, none⟩) l := by
  subst hg hcs
  exact RIn.of_row (heap_alloc_new _ _) h

set_option maxHeartbeats 4000000 in
theorem awake14_any (O : DeltaOk) (w : World) : Calls Try.prog 7 #[] w fun e w' => e = .returned (.bool true) ∧ Below w.heap.size w w' := by
  have w1 : (Lit.int .i64 1).wf = true := by decide
  have w2 : (Lit.int .i64 2).wf = true := by decide
  have w3 : (Lit.int .i64 3).wf = true := by decide
  have w0 : (Lit.int .i64 0).wf = true := by decide
  have HS := Hid.mk' (two_cells (heap_alloc_new w (.cells #[.int .i64 1, .int .i64 1] 31)))
  have HB0 := Hid.mk' ((Below.refl w.heap.size w).alloc (Nat.le_refl _) (.cells #[.int .i64 1, .int .i64 1] 31))
  generalize hx0 : w.alloc (.cells #[.int .i64 1, .int .i64 1] 31) = x0 at HS HB0
  have HDF := Hid.mk' (show ∀ (g1 g2 : Nat) X, RIn X (some ⟨g1, 0, none⟩) [r14 1 0, r14 2 0] → RIn X (some ⟨g2, 0, none⟩) [r14 1 0, r14 2 1, r14 3 0] → Calls Try.prog 8 #[.slice (some ⟨g1, 0, none⟩) 2 2, .slice (some ⟨g2, 0, none⟩) 3 3] X fun e w' => GivesR X true [rk (r14 2 1), rk (r14 3 0)] e w' from fun g1 g2 X h1 h2 =>
    O.diff (some ⟨g1, 0, none⟩) 2 [r14 1 0, r14 2 0] (some ⟨g2, 0, none⟩) 3 [r14 1 0, r14 2 1, r14 3 0] X h1 (by simp) (by simp [maxLen]) (by simp) (sm14 _ (by simp) (by simp [r14])) h2 (by simp) (by simp [maxLen]) (by simp) (sm14 _ (by simp) (by simp [r14])))
  have HGN := Hid.mk' (show ∀ (g1 g2 : Nat) X, RIn X (some ⟨g1, 0, none⟩) [r14 1 0, r14 2 0] → RIn X (some ⟨g2, 0, none⟩) [r14 2 0] → Calls Try.prog 9 #[.slice (some ⟨g1, 0, none⟩) 2 2, .slice (some ⟨g2, 0, none⟩) 1 1] X fun e w' => GivesN X true [1] e w' from fun g1 g2 X h1 h2 =>
    O.gone (some ⟨g1, 0, none⟩) 2 [r14 1 0, r14 2 0] (some ⟨g2, 0, none⟩) 1 [r14 2 0] X h1 (by simp) (by simp [maxLen]) (by simp) (sm14 _ (by simp) (by simp [r14])) h2 (by simp) (by simp [maxLen]) (by simp) (sm14 _ (by simp) (by simp [r14])))
  obtain ⟨s0, s1, _⟩ := HS.out
  go_enter Try.func7, Try.ntmps7
  subst hx0
  go_wp2_with fail
  refine (HDF.out _ _ _ ?_ ?_).mono ?_
  · exact (rin14 _ [r14 1 0, r14 2 0] _ (by simp) _ rfl (by intro f hf; simp at hf; rcases hf with rfl | rfl <;> exact r14_ok _ _ _ (by decide) (by decide))).below ((Below.refl _ _).alloc (Nat.le_refl _) _)
  · exact rin14 _ [r14 1 0, r14 2 1, r14 3 0] _ (by simp) _ rfl (by intro f hf; simp at hf; rcases hf with rfl | rfl | rfl <;> exact r14_ok _ _ _ (by decide) (by decide))
  have HB2 := Hid.mk' ((HB0.out.alloc HB0.out.size (.cells #[.int .i64 1, .int .i64 0, .int .i64 0, .int .i64 1, .int .i64 1, .bool false, .slice none 0 0, .int .i64 2, .int .i64 0, .int .i64 0, .int .i64 1, .int .i64 1, .bool false, .slice none 0 0] 34)).alloc (by simp; omega) (.cells #[.int .i64 1, .int .i64 0, .int .i64 0, .int .i64 1, .int .i64 1, .bool false, .slice none 0 0, .int .i64 2, .int .i64 1, .int .i64 0, .int .i64 1, .int .i64 1, .bool false, .slice none 0 0, .int .i64 3, .int .i64 0, .int .i64 0, .int .i64 1, .int .i64 1, .bool false, .slice none 0 0] 34))
  have HG2 := Hid.mk' (box_below (box_below (heap_alloc_new w (.cells #[.int .i64 1, .int .i64 1] 31)) ((Below.refl _ _).alloc (Nat.le_refl _) (.cells #[.int .i64 1, .int .i64 0, .int .i64 0, .int .i64 1, .int .i64 1, .bool false, .slice none 0 0, .int .i64 2, .int .i64 0, .int .i64 0, .int .i64 1, .int .i64 1, .bool false, .slice none 0 0] 34))) ((Below.refl _ _).alloc (Nat.le_refl _) (.cells #[.int .i64 1, .int .i64 0, .int .i64 0, .int .i64 1, .int .i64 1, .bool false, .slice none 0 0, .int .i64 2, .int .i64 1, .int .i64 0, .int .i64 1, .int .i64 1, .bool false, .slice none 0 0, .int .i64 3, .int .i64 0, .int .i64 0, .int .i64 1, .int .i64 1, .bool false, .slice none 0 0] 34)))
  intro e x3 hg
  obtain ⟨p, c, D, rfl, hrin, _, _, _, hk, hb⟩ := hg
  rw [if_pos rfl] at hk
  have hl : D.length = 2 := by rw [← rks_len, hk]; rfl
  have HB3 := Hid.mk' (HB2.out.trans (hb.mono HB2.out.size))
  have HG3 := Hid.mk' (box_below HG2.out hb)
  have HR3 := Hid.mk' hrin
  have HK := Hid.mk' hk
  have HL := Hid.mk' hl
  clear hb hrin hk hl HB2 HG2 HS s0 s1 HB0 HDF
  obtain ⟨s0, s1, _⟩ := two_cells HG3.out
  have hlt : w.heap.size < x3.heap.size := (Array.getElem?_eq_some_iff.1 HG3.out).1
  go_wp2_with fail
  refine (HGN.out _ _ _ ?_ ?_).mono ?_
  · exact (rin14 _ [r14 1 0, r14 2 0] _ (by simp) _ rfl (by intro f hf; simp at hf; rcases hf with rfl | rfl <;> exact r14_ok _ _ _ (by decide) (by decide))).below ((Below.refl _ _).alloc (Nat.le_refl _) _)
  · exact rin14 _ [r14 2 0] _ (by simp) _ rfl (by intro f hf; simp at hf; subst hf; exact r14_ok _ _ _ (by decide) (by decide))
  have hb4 := (Below.refl x3.heap.size x3).alloc (Nat.le_refl _) (.cells #[.int .i64 1, .int .i64 0, .int .i64 0, .int .i64 1, .int .i64 1, .bool false, .slice none 0 0, .int .i64 2, .int .i64 0, .int .i64 0, .int .i64 1, .int .i64 1, .bool false, .slice none 0 0] 34)
  have hb5 := hb4.alloc hb4.size (.cells #[.int .i64 2, .int .i64 0, .int .i64 0, .int .i64 1, .int .i64 1, .bool false, .slice none 0 0] 34)
  have HB5 := Hid.mk' hb5
  intro e x6 hg
  obtain ⟨pg, cg, G, rfl, hnin, _, _, hgk, hb⟩ := hg
  rw [if_pos rfl] at hgk
  subst hgk
  have HB6 := Hid.mk' (HB5.out.trans (hb.mono HB5.out.size))
  obtain ⟨b, o, rfl, hc⟩ := (HR3.out.below HB6.out).at (by rw [HL.out]; omega)
  have k0 := (hc 0 (by rw [HL.out]; omega)).1.1
  have k1 := (hc 0 (by rw [HL.out]; omega)).1.2.1
  have k2 := (hc 1 (by rw [HL.out]; omega)).1.1
  have q0 : (D.getD 0 zr).id = 2 ∧ (D.getD 0 zr).inc = 1 ∧ (D.getD 1 zr).id = 3 := by
    have h := HK.out
    match D, HL.out with
    | [a, d], _ =>
      simp only [rks, List.map_cons, List.map_nil, List.cons.injEq, and_true] at h
      obtain ⟨h1, h2⟩ := h
      have e1 : a.id = 2 := congrArg RK.id h1
      have e2 : a.inc = 1 := congrArg RK.inc h1
      have e3 : d.id = 3 := congrArg RK.id h2
      exact ⟨e1, e2, e3⟩
  rw [q0.1] at k0
  rw [q0.2.1] at k1
  rw [q0.2.2] at k2
  simp only [Nat.zero_mul, Nat.add_zero, Nat.one_mul] at k0 k1 k2
  obtain ⟨bg, og, rfl, hcg⟩ := hnin (by simp)
  have kg := hcg 0 (by simp)
  simp only [List.getD_cons_zero, Nat.add_zero] at kg
  rw [HL.out]
  have HBF := Hid.mk' (HB3.out.trans (HB6.out.mono HB3.out.size))
  clear hb hc hnin hcg q0 hb4 hb5 s0 s1 HG3 HR3 HK HL HB3 HB5 HB6
  go_wp2_with fail
  go_ret
  exact ⟨rfl, HBF.out⟩
end Go.Proofs.Ytnladolpcocchaa
