/-
  Stage 8: the statements' own 'awake'.
-/
import Derived.Test.YtecdagmeobiahabRecU
import Derived.Test.YtecdagmeobiahabRecN
namespace Go.Proofs.Ytecdagmeobiahab
open Go.RowKit
set_option linter.unusedSimpArgs false
set_option linter.unusedVariables false
set_option maxRecDepth 10000
set_option synthInstance.maxSize 2000

def ri (t : Int) : Rc := ⟨t, 0, 0, 0, 0, false, none, 0, []⟩
theorem ri_ok (w : World) (t : Int) (h : (Lit.int .i64 t).wf = true) : ROk w (ri t) := ⟨h, show (Lit.int .i64 0).wf = true by decide, show (Lit.int .i64 0).wf = true by decide, show (Lit.int .i64 0).wf = true by decide, show (Lit.int .i64 0).wf = true by decide, Nat.le_refl _, by simp [ri, maxLen], fun _ => rfl, FIn.empty _ _, by simp [ri]⟩

theorem rkey_at {l : List Rc} {L : List RK} (h : rks l = L) (i : Nat) (hi : i < L.length) : (l.getD i zr).id = (L[i]).id := by
  subst h
  have hl : i < l.length := by rw [rks_len] at hi; exact hi
  simp [rks, rk, List.getD, hl]

set_option maxHeartbeats 4000000 in
theorem awake8_any (w : World) : Calls Try.prog 7 #[] w fun e w' => e = .returned (.bool true) ∧ Below w.heap.size w w' := by
  have B1 := fun X => bare_any ⟨0, 0, 0, 0, 0, false, some ⟨w.heap.size, 0, none⟩, 1, [⟨40, none, 0, []⟩]⟩ X
  have B2 := fun X => bare_any zr X
  have P := fun X b (h : RIn X (some ⟨b, 0, none⟩) [ri 3, ri 7]) => rput_any (some ⟨b, 0, none⟩) 2 [ri 3, ri 7] (ri 5) X h (ri_ok _ _ (by decide)) (by simp) (by simp [maxLen]) (by simp) (by simp) (by intro x hx; simp at hx; rcases hx with rfl | rfl <;> simp [ri]) (by simp [ri])
  have N := fun X => rname_any 2 X
  rw [show stS 2 = ⟨#[100, 101, 97, 100]⟩ from rfl] at N
  simp only [List.length_cons, List.length_nil, Nat.zero_add, Nat.zero_lt_succ, Nat.zero_lt_one, decide_true, Bool.or_true] at B1
  simp only [zr, List.length_nil, Nat.lt_irrefl, decide_false, Bool.or_false] at B2
  simp only [List.length_cons, List.length_nil, Nat.zero_add, Nat.reduceAdd] at P
  have HB := Hid.mk' ((Below.refl w.heap.size w).alloc (Nat.le_refl _) (.cells #[.int .i64 40, .slice none 0 0] 43))
  go_enter Try.func7, Try.ntmps7
  go_wp2_with fail
  refine (B1 _).mono ?_
  rintro e w1 ⟨rfl, hb1⟩
  have HB1 := Hid.mk' (HB.out.trans (hb1.mono HB.out.size))
  clear hb1 HB B1
  have hI := Hid.mk' (show InB w1 ⟨0, 0, 0, 0, 0, true, none, 0, []⟩ (w1.alloc (.cells #[.int .i64 0, .int .i64 0, .int .i64 0, .int .i64 0, .int .i64 0, .bool true, .slice none 0 0] 26)) from InB.start w1 ⟨0, 0, 0, 0, 0, true, none, 0, []⟩)
  have hB2 := (Below.refl (w1.heap.size + 1) (w1.alloc (.cells #[.int .i64 0, .int .i64 0, .int .i64 0, .int .i64 0, .int .i64 0, .bool true, .slice none 0 0] 26))).alloc (by simp) (.cells (cellsR [ri 3, ri 7]) 26)
  have hrow := heap_alloc_new (w1.alloc (.cells #[.int .i64 0, .int .i64 0, .int .i64 0, .int .i64 0, .int .i64 0, .bool true, .slice none 0 0] 26)) (.cells (cellsR [ri 3, ri 7]) 26)
  have P1 := P _ _ (RIn.of_row hrow (by intro f hf; simp at hf; rcases hf with rfl | rfl <;> exact ri_ok _ _ (by decide)))
  rw [show (w1.alloc (.cells #[.int .i64 0, .int .i64 0, .int .i64 0, .int .i64 0, .int .i64 0, .bool true, .slice none 0 0] 26)).heap.size = w1.heap.size + 1 by simp] at P1
  rw [show cellsR [ri 3, ri 7] = #[.int .i64 3, .int .i64 0, .int .i64 0, .int .i64 0, .int .i64 0, .bool false, .slice none 0 0, .int .i64 7, .int .i64 0, .int .i64 0, .int .i64 0, .int .i64 0, .bool false, .slice none 0 0] from rfl] at P1 hB2
  rw [show #[Value.int .i64 (ri 5).id, .int .i64 (ri 5).inc, .int .i64 (ri 5).st, .int .i64 (ri 5).lo, .int .i64 (ri 5).hi, .bool (ri 5).cut, .slice (ri 5).p (ri 5).bag.length (ri 5).cap] = #[.int .i64 5, .int .i64 0, .int .i64 0, .int .i64 0, .int .i64 0, .bool false, .slice none 0 0] from rfl] at P1
  have HI2 := Hid.mk' (hI.out.on (by simpa using hB2))
  have HPL := Hid.mk' (show rks (putL (ri 5) [ri 3, ri 7]) = [rk (ri 3), rk (ri 5), rk (ri 7)] from rfl)
  clear hrow P hB2 hI
  go_wp2_with fail
  refine P1.mono ?_
  rintro e w3 ⟨g, l', rfl, hkl, hrin, hb3⟩
  have HI3 := Hid.mk' (HI2.out.on hb3)
  rw [HPL.out] at hkl
  have hlen : l'.length = 3 := by rw [← rks_len, hkl]; rfl
  rw [hlen]
  have HR := Hid.mk' hrin
  have HK := Hid.mk' hkl
  have HLEN := Hid.mk' hlen
  obtain ⟨_, _, _, _, _, c5, c6⟩ := box_cells HI3.out.box
  simp only [List.length_nil] at c5 c6
  clear hb3 hrin hkl hlen HI2 P1 HPL
  go_wp2_with fail
  refine (B2 _).mono ?_
  rintro e w4 ⟨rfl, hb4⟩
  have HB4 := Hid.mk' (HB1.out.trans ((HI3.out.on hb4).below.mono HB1.out.size))
  obtain ⟨b, o, hbo, hc⟩ := (HR.out.below hb4).at (by rw [HLEN.out]; omega)
  simp at hbo
  obtain ⟨rfl, rfl⟩ := hbo
  have k0 := (hc 0 (by rw [HLEN.out]; omega)).1.1
  have k1 := (hc 1 (by rw [HLEN.out]; omega)).1.1
  have k2 := (hc 2 (by rw [HLEN.out]; omega)).1.1
  rw [rkey_at HK.out 0 (by simp)] at k0
  rw [rkey_at HK.out 1 (by simp)] at k1
  rw [rkey_at HK.out 2 (by simp)] at k2
  simp only [List.getElem_cons_succ, List.getElem_cons_zero, Nat.zero_add, Nat.zero_mul, Nat.reduceMul, Nat.reduceAdd, rk, ri] at k0 k1 k2
  have xf : ∀ w, (Instr.field 26 (.agg #[.int .i64 0, .int .i64 0, .int .i64 0, .int .i64 0, .int .i64 0, .bool false, .slice none 0 0]) 4).run Try.prog w = .ok (.bool false) w := fun w => rfl
  clear hc c5 c6 hb4 HI3
  go_wp2_with fail
  refine (N _).mono ?_
  rintro e w5 ⟨rfl, hb5⟩
  have HB5 := Hid.mk' (HB4.out.trans (hb5.mono HB4.out.size))
  clear hb5 k0 k1 k2
  go_wp2_with fail
  go_ret
  exact ⟨rfl, HB5.out⟩
end Go.Proofs.Ytecdagmeobiahab
