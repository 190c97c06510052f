/-
  Stage 6: the statements' own 'awake'.
-/
import Derived.Test.YtecdagmeobiahaaBagQ
import Derived.Test.YtecdagmeobiahaaLaw06
namespace Go.Proofs.Ytecdagmeobiahaa
open Go.RowKit
set_option linter.unusedSimpArgs false
set_option linter.unusedVariables false

def bf (t : Int) : Fd := ⟨t, none, 0, []⟩
theorem bf_ok (w : World) (t : Int) (h : (Lit.int .i64 t).wf = true) : FOk w (bf t) := ⟨h, Nat.le_refl _, by simp [bf, maxLen], fun _ => rfl, BIn.empty _ _, isB.nil, by simp [bf]⟩

theorem key_at {l : List Fd} {L : List Key} (h : kys l = L) (i : Nat) (hi : i < L.length) : (l.getD i zf).tag = (L[i]).1 ∧ (l.getD i zf).d = (L[i]).2 := by
  subst h
  have hl : i < l.length := by rw [kys_len] at hi; exact hi
  simp [kys, ky, List.getD, hl]

set_option maxHeartbeats 4000000 in
theorem awake6_any (w : World) : Calls Try.prog 10 #[] w fun e w' => e = .returned (.bool true) ∧ Below w.heap.size w w' := by
  go_enter Try.func10, Try.ntmps10
  go_wp2_with fail
  obtain ⟨W, hW⟩ : ∃ W, ((w.alloc (.cells #[.int .i64 32, .slice none 0 0, .int .i64 40, .slice none 0 0, .int .i64 41, .slice none 0 0] 32)).alloc (.cells #[.int .u8 7] 5)) = W := ⟨_, rfl⟩
  rw [hW]
  have h0 : W.heap[w.heap.size]? = some (.cells (cellsF [bf 32, bf 40, bf 41]) 32 (0, 0)) := by rw [← hW]; exact (heap_alloc_old _ _ (by simp)).trans (heap_alloc_new _ _)
  have h1 : W.heap[w.heap.size + 1]? = some (.cells (cellsB [7]) 5 (0, 0)) := by
    rw [← hW]
    have := heap_alloc_new (w.alloc (.cells #[.int .i64 32, .slice none 0 0, .int .i64 40, .slice none 0 0, .int .i64 41, .slice none 0 0] 32)) (.cells #[.int .u8 7] 5)
    rw [show (w.alloc (.cells #[.int .i64 32, .slice none 0 0, .int .i64 40, .slice none 0 0, .int .i64 41, .slice none 0 0] 32)).heap.size = w.heap.size + 1 by simp] at this
    exact this
  have HB := Hid.mk' (show Below w.heap.size w W from by rw [← hW]; exact ((Below.refl _ _).alloc (Nat.le_refl _) _).alloc (by simp) _)
  clear hW
  have P1 := put_any (some ⟨w.heap.size, 0, none⟩) 3 [bf 32, bf 40, bf 41] ⟨40, some ⟨w.heap.size + 1, 0, none⟩, 1, [7]⟩ W
    (FIn.of_row h0 (by intro f hf; simp at hf; rcases hf with rfl | rfl | rfl <;> exact bf_ok _ _ (by decide)))
    ⟨show (Lit.int .i64 40).wf = true by decide, by simp, by simp [maxLen], by simp, BIn.of_block (rest := []) (by simpa [cellsB] using h1), by intro x hx; simp at hx; omega, by simp⟩ (by simp) (by simp [maxLen]) (by simp) (by simp) (by decide)
  clear h0 h1
  refine P1.mono ?_
  rintro e w2 ⟨hpo, hb2⟩
  rw [show ky ⟨40, some ⟨w.heap.size + 1, 0, none⟩, 1, [7]⟩ = ((40, [7]) : Key) from rfl] at hpo
  rw [if_pos (by decide), if_pos (by decide)] at hpo
  obtain ⟨g, l', rfl, hkl, hf, _⟩ := hpo
  have hkl' : kys l' = [(32, []), (40, []), (40, [7]), (41, [])] := by rw [hkl]; decide
  have hlen : l'.length = 4 := by rw [← kys_len, hkl']; rfl
  have HB2 := Hid.mk' (HB.out.trans (hb2.mono HB.out.size))
  have HF := Hid.mk' hf
  have HK := Hid.mk' hkl'
  rw [hlen]
  clear hkl hkl' hf hb2 HB P1
  have P2 := put_any none 0 [] (bf 31) w2 (FIn.empty _ _) (bf_ok _ _ (by decide)) (by simp) (by simp [maxLen]) (by simp) (by simp) (by decide)
  go_wp2_with fail
  refine P2.mono ?_
  rintro e w3 ⟨hpo, hb3⟩
  rw [if_neg (by decide)] at hpo
  subst hpo
  obtain ⟨b, o, hbo, hc⟩ := (HF.out.below hb3).at (by omega)
  simp at hbo
  obtain ⟨rfl, rfl⟩ := hbo
  obtain ⟨c0, c1, _⟩ := hc 2 (by omega)
  obtain ⟨k0, k1⟩ := key_at HK.out 2 (by decide)
  rw [k0] at c0
  rw [k1] at c1
  simp only [List.getElem_cons_succ, List.getElem_cons_zero, List.length_cons, List.length_nil, Nat.zero_add, Nat.reduceMul, Nat.reduceAdd] at c0 c1
  have HB3 := Hid.mk' (HB2.out.trans (hb3.mono HB2.out.size))
  clear hb3 hc k0 k1 HB2 P2
  generalize l'.getD 2 zf = z at c1
  go_wp2_with fail
  have hn4 := heap_alloc_new w3 (.cells #[.int .i64 255, .slice none 0 0] 32)
  have hb4 := (Below.refl w3.heap.size w3).alloc (Nat.le_refl _) (.cells #[.int .i64 255, .slice none 0 0] 32)
  refine (valid_any (some ⟨w3.heap.size, 0, none⟩) 1 [bf 255] _ (FIn.one hn4 (bf_ok _ _ (by decide))) (by simp [maxLen]) (by decide)).mono ?_
  rintro e w5 ⟨rfl, hb5⟩
  rw [show mayK (kys [bf 255]) = true by decide]
  have HB5 := Hid.mk' ((HB3.out.trans (hb4.mono HB3.out.size)).trans (hb5.mono (Nat.le_trans HB3.out.size hb4.size)))
  clear hn4 hb4 hb5 HB3 c0 c1
  go_wp2_with fail
  have hn6 := heap_alloc_new w5 (.cells #[.int .i64 256, .slice none 0 0] 32)
  have hb6 := (Below.refl w5.heap.size w5).alloc (Nat.le_refl _) (.cells #[.int .i64 256, .slice none 0 0] 32)
  refine (valid_any (some ⟨w5.heap.size, 0, none⟩) 1 [bf 256] _ (FIn.one hn6 (bf_ok _ _ (by decide))) (by simp [maxLen]) (by decide)).mono ?_
  rintro e w7 ⟨rfl, hb7⟩
  rw [show mayK (kys [bf 256]) = false by decide]
  have HB7 := Hid.mk' ((HB5.out.trans (hb6.mono HB5.out.size)).trans (hb7.mono (Nat.le_trans HB5.out.size hb6.size)))
  clear hn6 hb6 hb7 HB5
  go_wp2_with fail
  go_ret
  exact ⟨rfl, HB7.out⟩
end Go.Proofs.Ytecdagmeobiahaa
