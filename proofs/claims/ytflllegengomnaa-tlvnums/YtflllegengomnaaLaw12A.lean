/-
  Stage 12: the statements' own 'awake'.
-/
import Derived.Test.YtflllegengomnaaLaw12
namespace Go.Proofs.Ytflllegengomnaa
open Go.RowKit
set_option linter.unusedSimpArgs false
set_option linter.unusedVariables false
set_option maxRecDepth 10000

theorem FIn.one12 {w : World} {g : Nat} {f : Fd} {t : TypeId} (h : w.heap[g]? = some (.cells #[.int .i64 f.tag, .slice f.p f.d.length f.cap] t (0, 0))) (hf : FOk w f) : FIn w (some ⟨g, 0, none⟩) [f] := by
  obtain ⟨h0, h1, _, _⟩ := two_cells h
  refine FIn.of fun i hi => ?_
  obtain rfl : i = 0 := by simp at hi; omega
  exact ⟨by simpa using h0, by simpa using h1, by simpa using hf⟩

/-- 'string(b)' of bytes that were laid just now. -/
theorem conv_new {X : World} {l : List Int} (c : Nat) : (convert 25 9 (.slice (some ⟨X.heap.size, 0, none⟩) l.length c)).run Try.prog (X.alloc (.cells (cellsB l) 5)) = .ok (.string (strOfNums l)) (X.alloc (.cells (cellsB l) 5)) :=
  (BIn.of_block (w := X.alloc (.cells (cellsB l) 5)) (g := X.heap.size) (e := 5) (f := (0, 0)) (l := l) (rest := []) (by simpa [cellsB] using heap_alloc_new X (.cells (cellsB l) 5))).convert (P := Try.prog) c 25 5 9 Try.underlying25 Try.underlying5 Try.underlying9

set_option maxHeartbeats 4000000 in
theorem awake12_any (w : World) : Calls Try.prog 8 #[] w fun e w' => e = .returned (.bool true) ∧ Below w.heap.size w w' := by
  go_enter Try.func8, Try.ntmps8
  go_wp2_with fail
  have hb1 := ((Below.refl w.heap.size w).alloc (Nat.le_refl _) (.cells #[.int .u8 1, .int .u8 2] 5))
  have hn1 := heap_alloc_new w (.cells #[.int .u8 1, .int .u8 2] 5)
  have hs1 : (w.alloc (.cells #[.int .u8 1, .int .u8 2] 5)).heap.size = w.heap.size + 1 := by simp
  generalize w.alloc (.cells #[.int .u8 1, .int .u8 2] 5) = w1 at hb1 hn1 hs1 ⊢
  have hb2 := ((Below.refl w1.heap.size w1).alloc (Nat.le_refl _) (.cells #[.int .i64 7, .slice (some ⟨w.heap.size, 0, none⟩) 2 2] 30))
  have hn2 := heap_alloc_new w1 (.cells #[.int .i64 7, .slice (some ⟨w.heap.size, 0, none⟩) 2 2] 30)
  rw [hs1] at hn2
  have hbi : BIn w1 (some ⟨w.heap.size, 0, none⟩) [1, 2] := two_BIn hn1
  have HB2 := Hid.mk' (hb1.trans (hb2.mono hb1.size))
  have P1 := tjoin_any (some ⟨w.heap.size + 1, 0, none⟩) 1 [⟨7, some ⟨w.heap.size, 0, none⟩, 2, [1, 2]⟩] _ (FIn.one12 (f := ⟨7, some ⟨w.heap.size, 0, none⟩, 2, [1, 2]⟩) hn2 ⟨show (Lit.int .i64 7).wf = true by decide, by simp, by simp [maxLen], by simp, hbi.below hb2, by intro x hx; simp at hx; omega, by simp⟩) (by simp [maxLen]) (by simp [kys, ky, joinK, encK])
  generalize w1.alloc (.cells #[.int .i64 7, .slice (some ⟨w.heap.size, 0, none⟩) 2 2] 30) = w2 at HB2 P1 ⊢
  clear hb1 hn1 hs1 hb2 hn2 hbi
  refine P1.mono ?_
  clear P1
  rintro e w3 ⟨hj, hb3⟩
  rcases hj with ⟨_, g, rfl, hbi, hgg⟩ | ⟨h, _⟩
  case inr => exact absurd (show fltL [((7 : Int), [1, 2])] = 0 by decide) h
  rw [show joinK (kys [⟨7, some ⟨w.heap.size, 0, none⟩, 2, [1, 2]⟩]) = [7, 0, 2, 1, 2] from (show joinK [((7 : Int), [1, 2])] = [7, 0, 2, 1, 2] by decide)] at hbi ⊢
  have HB3 := Hid.mk' (HB2.out.trans (hb3.mono HB2.out.size))
  have HI3 := Hid.mk' hbi
  clear hb3 hbi HB2
  go_wp2_with fail
  have hb4 := (Below.refl w3.heap.size w3).alloc (Nat.le_refl _) (.cells #[.int .u8 7, .int .u8 0, .int .u8 2, .int .u8 1] 5)
  have hn4 : BIn (w3.alloc (.cells #[.int .u8 7, .int .u8 0, .int .u8 2, .int .u8 1] 5)) (some ⟨w3.heap.size, 0, none⟩) [7, 0, 2, 1] := BIn.of_block (rest := []) (e := 5) (f := (0, 0)) (by simpa using heap_alloc_new w3 _)
  have P2 := tsplit_any (some ⟨w3.heap.size, 0, none⟩) 4 [7, 0, 2, 1] _ hn4 (by intro x hx; simp at hx; omega) (by simp)
  have HB4 := Hid.mk' (HB3.out.trans (hb4.mono HB3.out.size))
  have HI4 := Hid.mk' (HI3.out.below hb4)
  generalize w3.alloc (.cells #[.int .u8 7, .int .u8 0, .int .u8 2, .int .u8 1] 5) = w4 at HB4 HI4 P2 ⊢
  clear hb4 hn4 HB3 HI3
  refine P2.mono ?_
  clear P2
  rintro e w5 ⟨hj, hb5⟩
  rcases hj with ⟨_, rfl⟩ | ⟨p, c, L, h, _⟩
  case inr => exact absurd h (by rw [show splitB [7, 0, 2, 1] = none by decide]; simp)
  have HB5 := Hid.mk' (HB4.out.trans (hb5.mono HB4.out.size))
  have HI5 := Hid.mk' (HI4.out.below hb5)
  clear hb5 HB4 HI4
  go_wp2_with fail
  refine (tnum_any 1 2 258 w5 (by decide) (by decide) (by decide)).mono ?_
  rintro e w6 ⟨p, c, rfl, hok, _, hb6⟩
  have hd : numD 2 258 = [1, 2] := by decide
  rw [hd] at hok ⊢
  have HB6 := Hid.mk' (HB5.out.trans (hb6.mono HB5.out.size))
  have HI6 := Hid.mk' (HI5.out.below hb6)
  have HO6 := Hid.mk' hok
  clear hb6 hok HB5 HI5 hd
  have hn7 := heap_alloc_new w6 (.cells #[.int .i64 1, .slice p 2 c] 30)
  have hb7 := (Below.refl w6.heap.size w6).alloc (Nat.le_refl _) (.cells #[.int .i64 1, .slice p 2 c] 30)
  obtain ⟨w7, hw7⟩ : ∃ w7, w6.alloc (.cells #[.int .i64 1, .slice p 2 c] 30) = w7 := ⟨_, rfl⟩
  rw [hw7] at hn7 hb7
  have cv1 := (HI6.out.below hb7).convert (P := Try.prog) 5 25 5 9 Try.underlying25 Try.underlying5 Try.underlying9
  have cv2 := conv_new (X := w7) (l := [7, 0, 2, 1, 2]) 5
  have hb8 := (Below.refl w7.heap.size w7).alloc (Nat.le_refl _) (.cells (cellsB [7, 0, 2, 1, 2]) 5)
  have cv3 := ((HO6.out.bin.below hb7).below hb8).convert (P := Try.prog) c 25 5 9 Try.underlying25 Try.underlying5 Try.underlying9
  have cv4 := conv_new (X := w7.alloc (.cells (cellsB [7, 0, 2, 1, 2]) 5)) (l := [1, 2]) 2
  have hs1 : ((strOfNums [7, 0, 2, 1, 2]).toList == (strOfNums [7, 0, 2, 1, 2]).toList) = true := by simp
  have hs2 : ((strOfNums [1, 2]).toList == (strOfNums [1, 2]).toList) = true := by simp
  have hs7 : w7.heap.size = w6.heap.size + 1 := by rw [← hw7]; simp
  rw [show (w7.alloc (.cells (cellsB [7, 0, 2, 1, 2]) 5)).heap.size = w6.heap.size + 1 + 1 by simp [hs7]] at cv4
  rw [hs7] at cv2
  clear hs7
  obtain ⟨c0, c1, _⟩ := two_cells hn7
  have c1' : (w7.alloc (.cells (cellsB [7, 0, 2, 1, 2]) 5)).cell? ⟨w6.heap.size, 1, none⟩ = some (.slice p 2 c) := by rw [hb8.cell (p := ⟨w6.heap.size, 1, none⟩) (lt_of_cell c1)]; exact c1
  have c0' : (w7.alloc (.cells (cellsB [7, 0, 2, 1, 2]) 5)).cell? ⟨w6.heap.size, 0, none⟩ = some (.int .i64 1) := by rw [hb8.cell (p := ⟨w6.heap.size, 0, none⟩) (lt_of_cell c0)]; exact c0
  generalize strOfNums [7, 0, 2, 1, 2] = s1 at cv1 cv2 hs1
  generalize strOfNums [1, 2] = s2 at cv3 cv4 hs2
  simp only [cellsB, List.map_cons, List.map_nil, List.length_cons, List.length_nil, Nat.zero_add, Nat.reduceAdd] at cv1 cv2 cv3 cv4 c1' c0' hb8
  have HB8 := Hid.mk' ((HB6.out.trans (hb7.mono HB6.out.size)).trans (hb8.mono (Nat.le_trans HB6.out.size hb7.size)))
  have HB9 := Hid.mk' (HB8.out.alloc HB8.out.size (.cells #[.int .u8 1, .int .u8 2] 5))
  clear hb7 hb8 hn7 HI6 HO6 HB6 c0 c1
  subst hw7
  go_wp2_with fail
  go_ret
  exact ⟨rfl, HB9.out⟩
end Go.Proofs.Ytflllegengomnaa
