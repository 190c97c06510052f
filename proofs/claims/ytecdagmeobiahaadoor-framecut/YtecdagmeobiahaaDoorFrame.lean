/-
  Package frame: isGen, sum, own, sealed, Seal.
-/
import Derived.Test.YtecdagmeobiahaaDoorFrameM
import Derived.Test.YtecdagmeobiahaaDoorLaw03
namespace Go.Proofs.YtecdagmeobiahaaDoor
open Go.RowKit
set_option linter.unusedSimpArgs false
set_option linter.unusedVariables false

set_option maxHeartbeats 400000 in
theorem isGen_yes (g : Int) (w : World) (h1 : 1 ≤ g) (h2 : g ≤ 3) :
    Calls Tryd.prog 21 #[.int .i64 g] w fun e w' => e = .returned (.bool true) ∧ w = w' := by
  go_enter Tryd.func21, Tryd.ntmps21
  go_wp2
  go_ret
  exact ⟨rfl, rfl⟩

set_option maxHeartbeats 400000 in
theorem isGen_no (g : Int) (w : World) (h : ¬ (1 ≤ g ∧ g ≤ 3)) :
    Calls Tryd.prog 21 #[.int .i64 g] w fun e w' => e = .returned (.bool false) ∧ w = w' := by
  by_cases h1 : 1 ≤ g
  · have h3 : ¬ g ≤ 3 := fun q => h ⟨h1, q⟩
    clear h
    go_enter Tryd.func21, Tryd.ntmps21
    go_wp2
    go_ret
    exact ⟨rfl, rfl⟩
  · clear h
    go_enter Tryd.func21, Tryd.ntmps21
    go_wp2
    go_ret
    exact ⟨rfl, rfl⟩

set_option maxHeartbeats 400000 in
theorem sum_parts (p : Option Addr) (c : Nat) (ls : List (List Int)) (w : World) (hT : Tab w) (hp : PIn w p ls) (hm : ls.length ≤ 140737488355328) (hb : isB ls.flatten) :
    Calls Tryd.prog 27 #[.slice p ls.length c] w fun e w' => e = .returned (.int .i64 ((sumB ls.flatten : Nat) : Int)) ∧ w = w' := by
  have O := of_parts p c ls w hT hp hm
  have hs := sum_lt _ hb
  generalize sumB ls.flatten = s at O hs
  go_enter Tryd.func27, Tryd.ntmps27
  go_wp2_with (go_at_call 23; refine O.mono ?_; rintro e w' ⟨rfl, rfl⟩)
  go_ret
  exact ⟨rfl, rfl⟩

set_option maxHeartbeats 400000 in
theorem own4_any (p : Option Addr) (c : Nat) (l : List Int) (w : World) (hB : BIn w p l) (hn : l.length ≤ 140737488355328) :
    Calls Tryd.prog 28 #[.slice p l.length c] w fun e w' => e = .returned (.slice (some ⟨w.heap.size, 0, none⟩) l.length l.length) ∧
      w'.heap[w.heap.size]? = some (.cells (cellsB l) 5 (0, 0)) ∧ Below w.heap.size w w' := by
  have hmk := fun w => run_make_row' (P := Tryd.prog) 22 5 (.int .u8 0) 1 Tryd.underlying22 infoB rfl .i64 .i64 l.length (by omega) (by omega) w
  go_enter Tryd.func28, Tryd.ntmps28
  go_wp2_with (refine wpList_copy_splice rfl (.tmp 7) (.tmp 8) 22 22 rfl 5 Tryd.underlying22 infoB1 (some ⟨w.heap.size, 0, none⟩) p l.length l.length l.length c rfl rfl w.heap.size 0 (madeCells #[Value.int .u8 0] l.length).toList 5 (by simpa using heap_alloc_new w _) (l.map (Value.int .u8)) (by simp) (src_old hB _ _) (by simp [made_len]) (oneCells l) w.heap.size w ((Below.refl _ _).alloc (Nat.le_refl _) _) (Nat.le_refl _) ?_)
  intro w' hg hb
  go_wp2
  go_ret
  refine ⟨rfl, ?_, hb⟩
  rw [hg.out, splice_all _ _ (by simp [made_len])]
  rfl

theorem splice_at (a r b : List Value) (i : Nat) (hi : i = a.length) : splice (a ++ r) i b = (a ++ b) ++ r.drop b.length := by
  subst hi
  rw [splice, List.take_left, List.drop_append, List.drop_eq_nil_of_le (by omega), Nat.add_sub_cancel_left]
  simp

/-- Three copies, side by side, fill a row. -/
theorem splice_three (z a b c : List Value) (h : z.length = a.length + b.length + c.length) (i j : Nat) (hi : i = a.length) (hj : j = a.length + b.length) : splice (splice (splice z 0 a) i b) j c = a ++ b ++ c := by
  have e0 := splice_at [] z a 0 rfl
  rw [List.nil_append, List.nil_append] at e0
  rw [e0, splice_at a _ b i hi, splice_at (a ++ b) _ c j (by simpa using hj), List.drop_eq_nil_of_le (by simp; omega), List.append_nil]

/-- Parts that were laid for a call. -/
theorem sum_list (g n : Nat) (vs : Array Value) (ls : List (List Int)) (w : World) (t : TypeId) (hg : g = w.heap.size) (hn : n = ls.length) (hT : Tab w)
    (hv : ∀ i (h : i < ls.length), ∃ q c, vs[i]? = some (.slice q (ls[i].length : Nat) c) ∧ BIn w q ls[i] ∧ isB ls[i] ∧ ls[i].length ≤ 140737488355328) (hm : ls.length ≤ 140737488355328) (hb : isB ls.flatten) :
    Calls Tryd.prog 27 #[.slice (some ⟨g, 0, none⟩) n n] (w.alloc (.cells vs t)) fun e w' => e = .returned (.int .i64 ((sumB ls.flatten : Nat) : Int)) ∧ w' = w.alloc (.cells vs t) := by
  subst hg; subst hn
  have b : Below w.heap.size w (w.alloc (.cells vs t)) := (Below.refl _ _).alloc (Nat.le_refl _) _
  have h := sum_parts (some ⟨w.heap.size, 0, none⟩) ls.length ls (w.alloc (.cells vs t)) (hT.below b hT.pos) (fun _ => ⟨_, _, rfl, fun i hi => by
    obtain ⟨q, c, h1, h2, h3, h4⟩ := hv i hi
    exact ⟨q, c, by rw [new_cell, Nat.zero_add]; exact h1, h2.below b, h3, h4⟩⟩) hm hb
  exact h.mono fun e w' ⟨h1, h2⟩ => ⟨h1, h2.symm⟩

set_option maxHeartbeats 1600000 in
theorem sealed_any (g : Int) (p : Option Addr) (c : Nat) (l : List Int) (w : World) (hT : Tab w) (hB : BIn w p l) (hl : isB l) (hg1 : 1 ≤ g) (hg2 : g ≤ 3) (hn : l.length ≤ 65499) :
    Calls Tryd.prog 22 #[.int .i64 g, .slice p l.length c] w fun e w' => ∃ q, e = .returned (.slice (some ⟨q, 0, none⟩) (l.length + 8) (l.length + 8)) ∧ w.heap.size ≤ q ∧
      w'.heap[q]? = some (.cells (cellsB (fullB g l)) 5 (0, 0)) ∧ Below w.heap.size w w' := by
  go_enter Tryd.func22, Tryd.ntmps22
  go_wp2_with fail
  refine (writeB w).mono ?_
  rintro e w1 ⟨rfl, hW1, hb1⟩
  go_wp2_with fail
  refine (numB_ok w.heap.size w.heap.size [] 1 156 w1 hW1 (by omega) (by omega) (by omega) (by decide) (by omega) (by simp)).mono ?_
  rintro e w2 ⟨rfl, hW2, hb2⟩
  go_wp2_with fail
  refine (numB_ok w.heap.size w.heap.size _ 1 g w2 hW2 (by omega) (by omega) (by omega) (by rw [Int.pow_one]; omega) (by omega) (by simp [digB_len])).mono ?_
  rintro e w3 ⟨rfl, hW3, hb3⟩
  go_wp2_with fail
  refine (numB_ok w.heap.size w.heap.size _ 2 l.length w3 hW3 (by omega) (by omega) (by omega) (by rw [show (256 : Int) ^ 2 = 65536 from rfl]; omega) (by omega) (by simp [digB_len])).mono ?_
  rintro e w4 ⟨rfl, hW4, hb4⟩
  rw [digB_one 156 (by omega), digB_one g (by omega), digB_two (l.length : Int) (by omega)] at hW4
  go_wp2_with fail
  refine (bytesB w.heap.size w.heap.size _ w4 hW4 (by simp)).mono ?_
  rintro e w5 ⟨rfl, hF5, hb5⟩
  simp only [List.nil_append, List.cons_append] at hF5
  have h04 := hb1.trans (hb2.trans (hb3.trans hb4))
  have hb : Below w.heap.size w w5 := h04.trans (hb5.mono h04.size)
  have hf := h04.size
  have hFl : isB [156, g, (l.length : Int) / 256, (l.length : Int) % 256] := fun x hx => by simp at hx; omega
  have hd : [[156, g, (l.length : Int) / 256, (l.length : Int) % 256], l].flatten = frontB g l := by simp [frontB]
  have hT5 := hT.below hb hT.pos
  have hB5 := hB.below hb
  generalize w4.heap.size = f at hF5 hf
  have HF := Hid.mk' hF5
  have HB := Hid.mk' hB5
  have Hb := Hid.mk' hb
  clear hW1 hb1 hW2 hb2 hW3 hb3 hW4 hb4 hb5 h04 hF5 hB5 hb
  go_wp2_with fail
  refine (writeB w5).mono ?_
  rintro e w6 ⟨rfl, hW6, hb6⟩
  have h06 := Hb.out.trans (hb6.mono Hb.out.size)
  have hl6 := hb6.size
  have S6 := sum_list w6.heap.size 2 #[.slice (some ⟨f, 0, none⟩) 4 4, .slice p l.length c] [[156, g, (l.length : Int) / 256, (l.length : Int) % 256], l] w6 22 rfl rfl (hT.below h06 hT.pos) (fun i hi => by
    match i, hi with
    | 0, _ => exact ⟨_, _, rfl, HF.out.below hb6, hFl, by simp⟩
    | 1, _ => exact ⟨_, _, rfl, HB.out.below hb6, hl, by simp only [List.getElem_cons_succ, List.getElem_cons_zero]; omega⟩) (by simp) (by rw [hd]; exact frontB_isB g l ⟨hg1, hg2⟩ hl hn)
  rw [hd] at S6
  have ha6 : Below w6.heap.size w6 (w6.alloc (.cells #[.slice (some ⟨f, 0, none⟩) 4 4, .slice p l.length c] 22)) := (Below.refl _ _).alloc (Nat.le_refl _) _
  have hW6' := hW6.below ha6
  have h07 := h06.trans (ha6.mono h06.size)
  have h57 := hb6.trans (ha6.mono hl6)
  have Hs := Hid.mk' (show fullB g l = frontB g l ++ four (sumB (frontB g l)) from rfl)
  have hs := sum_lt _ (frontB_isB g l ⟨hg1, hg2⟩ hl hn)
  generalize sumB (frontB g l) = s at S6 Hs hs
  have HW6 := Hid.mk' hW6'
  have H07 := Hid.mk' h07
  have H57 := Hid.mk' h57
  clear hW6 hW6' ha6 h06 h07 h57 hb6 hd
  go_wp2_with fail
  refine S6.mono ?_
  rintro e w' ⟨rfl, rfl⟩
  clear S6
  generalize w6.alloc (.cells #[.slice (some ⟨f, 0, none⟩) 4 4, .slice p l.length c] 22) = w7 at HW6 H07 H57
  go_wp2_with fail
  refine (numB_ok w5.heap.size w5.heap.size [] 4 s w7 HW6.out (by omega) (by omega) (by omega) (by rw [show (256 : Int) ^ 4 = 4294967296 from rfl]; omega) (by omega) (by simp)).mono ?_
  rintro e w8 ⟨rfl, hW8, hb8⟩
  rw [digB_four s hs, List.nil_append] at hW8
  go_wp2_with fail
  refine (bytesB w5.heap.size w5.heap.size _ w8 hW8 (by simp [four])).mono ?_
  rintro e w9 ⟨rfl, hF9, hb9⟩
  have h58 := H57.out.trans hb8
  have h59 := h58.trans (hb9.mono h58.size)
  have h09 := Hb.out.trans (h59.mono Hb.out.size)
  have hk := h58.size
  have hF := HF.out.below h59
  have hB9 := HB.out.below h59
  have hl9 := hb9.size
  have hz5 := Hb.out.size
  generalize w8.heap.size = k at hF9 hk hl9
  have hmk := fun w => run_make_row' (P := Tryd.prog) 22 5 (.int .u8 0) 1 Tryd.underlying22 infoB rfl .i64 .i64 (l.length + 8) (by omega) (by omega) w
  simp only [Int.natCast_add, Int.cast_ofNat_Int] at hmk
  have HF := Hid.mk' hF
  have HB := Hid.mk' hB9
  have HK := Hid.mk' hF9
  have H09 := Hid.mk' h09
  have b10 : Below w9.heap.size w9 (w9.alloc (.cells (madeCells #[Value.int .u8 0] (l.length + 8)) 5)) := (Below.refl _ _).alloc (Nat.le_refl _) _
  have hz9 := H09.out.size
  clear hF hB9 hF9 h09 hb9 h59 h58 hW8 hb8 HW6 H57 H07 hl9 Hb
  go_wp2_with (refine wpList_copy_splice rfl (.tmp 35) (.tmp 36) 22 22 rfl 5 Tryd.underlying22 infoB1 (some ⟨w9.heap.size, 0, none⟩) (some ⟨f, 0, none⟩) (l.length + 8) (l.length + 8) 4 4 rfl rfl w9.heap.size 0 (madeCells #[Value.int .u8 0] (l.length + 8)).toList 5 (by simpa using heap_alloc_new w9 _) ([156, g, (l.length : Int) / 256, (l.length : Int) % 256].map (Value.int .u8)) (by simp) (fun h => ⟨rfl, (HF.out.below b10).news (by simp)⟩) (by simp [made_len]) (oneCells _) w9.heap.size w9 b10 (Nat.le_refl _) ?_)
  intro w10 hg10 hb10
  clear b10
  generalize hZ : (madeCells #[Value.int .u8 0] (l.length + 8)).toList = Z at hg10
  have hZl : Z.length = l.length + 8 := by rw [← hZ]; simp [made_len]
  clear hZ hmk
  obtain ⟨Y1, hY1, HG1, hl1⟩ : ∃ Y, Hid (Y = splice Z 0 ([156, g, (l.length : Int) / 256, (l.length : Int) % 256].map (Value.int .u8))) ∧ Hid (w10.heap[w9.heap.size]? = some (.cells Y.toArray 5 (0, 0))) ∧ Y.length = l.length + 8 := ⟨_, Hid.mk' rfl, hg10, by rw [length_splice _ _ _ (by simp; omega), hZl]⟩
  clear hg10
  go_wp2_with (refine wpList_copy_splice rfl (.tmp 39) (.tmp 40) 22 22 rfl 5 Tryd.underlying22 infoB1 (some ⟨w9.heap.size, 4, none⟩) p (l.length + 4) (l.length + 4) l.length c rfl rfl w9.heap.size 4 Y1 5 HG1.out (l.map (Value.int .u8)) (by rw [List.length_map]; exact (Nat.min_eq_left (by omega)).symm) (fun h => ⟨rfl, (HB.out.below hb10).news (by simpa using h)⟩) (by rw [List.length_map]; omega) (oneCells _) w9.heap.size w9 hb10 (Nat.le_refl _) ?_)
  intro w11 hg11 hb11
  obtain ⟨Y2, hY2, HG2, hl2⟩ : ∃ Y, Hid (Y = splice Y1 4 (l.map (Value.int .u8))) ∧ Hid (w11.heap[w9.heap.size]? = some (.cells Y.toArray 5 (0, 0))) ∧ Y.length = l.length + 8 := ⟨_, Hid.mk' rfl, hg11, by rw [length_splice _ _ _ (by rw [List.length_map]; omega), hl1]⟩
  clear hg11
  have hx1 : (l.length : Int) + 8 - (4 + (l.length : Int)) = 4 := by omega
  have hx2 : l.length + 8 - (4 + l.length) = 4 := by omega
  have hx3 : ¬ (l.length + 8 = 4 + l.length) := by omega
  go_wp2_with (refine wpList_copy_splice rfl (.tmp 46) (.tmp 47) 22 22 rfl 5 Tryd.underlying22 infoB1 (some ⟨w9.heap.size, 4 + l.length, none⟩) (some ⟨k, 0, none⟩) (l.length + 8 - (4 + l.length)) (l.length + 8 - (4 + l.length)) (four s).length (four s).length rfl rfl w9.heap.size (4 + l.length) Y2 5 HG2.out ((four s).map (Value.int .u8)) (by rw [List.length_map, hx2]; rfl) (fun h => ⟨rfl, (HK.out.below hb11).news (by simp [four])⟩) (by rw [hl2]; simp [four]; omega) (oneCells _) w9.heap.size w9 hb11 (Nat.le_refl _) ?_)
  intro w12 hg12 hb12
  go_wp2
  go_ret
  refine ⟨_, rfl, H09.out.size, ?_, H09.out.trans (hb12.mono H09.out.size)⟩
  rw [hg12.out, hY2.out, hY1.out, splice_three _ _ _ _ (by rw [hZl]; simp [four]; omega) _ _ (by simp) (by simp), Hs.out, cellsB, frontB]
  simp only [List.map_append]

set_option maxHeartbeats 400000 in
theorem seal_range (g : Int) (p : Option Addr) (c n : Nat) (w : World) (h : ¬ (1 ≤ g ∧ g ≤ 3)) :
    Calls Tryd.prog 10 #[.int .i64 g, .slice p n c] w fun e w' => e = .returned (.tuple #[.slice none 0 0, .int .i64 5]) ∧ w = w' := by
  have G := isGen_no g w h
  clear h
  go_enter Tryd.func10, Tryd.ntmps10
  go_wp2_with (go_at_call 21; refine G.mono ?_; rintro e w' ⟨rfl, rfl⟩)
  go_ret2
  exact ⟨rfl, rfl⟩

set_option maxHeartbeats 400000 in
theorem seal_long (g : Int) (p : Option Addr) (c n : Nat) (w : World) (h1 : 1 ≤ g) (h2 : g ≤ 3) (hn : 65499 < n) (hn2 : n ≤ 9223372036854775807) :
    Calls Tryd.prog 10 #[.int .i64 g, .slice p n c] w fun e w' => e = .returned (.tuple #[.slice none 0 0, .int .i64 3]) ∧ w = w' := by
  have G := isGen_yes g w h1 h2
  have h3 : 65499 < (n : Int) := by omega
  go_enter Tryd.func10, Tryd.ntmps10
  go_wp2_with (go_at_call 21; refine G.mono ?_; rintro e w' ⟨rfl, rfl⟩)
  go_ret2
  exact ⟨rfl, rfl⟩

set_option maxHeartbeats 400000 in
theorem seal_ok (g : Int) (p : Option Addr) (c : Nat) (l : List Int) (w : World) (hT : Tab w) (hB : BIn w p l) (hl : isB l) (h1 : 1 ≤ g) (h2 : g ≤ 3) (hn : l.length ≤ 65499) :
    Calls Tryd.prog 10 #[.int .i64 g, .slice p l.length c] w fun e w' => ∃ q, e = .returned (.tuple #[.slice (some ⟨q, 0, none⟩) (l.length + 8) (l.length + 8), .int .i64 0]) ∧ w.heap.size ≤ q ∧
      w'.heap[q]? = some (.cells (cellsB (fullB g l)) 5 (0, 0)) ∧ Below w.heap.size w w' := by
  have G := isGen_yes g w h1 h2
  have S := sealed_any g p c l w hT hB hl h1 h2 hn
  have h3 : ¬ 65499 < (l.length : Int) := by omega
  go_enter Tryd.func10, Tryd.ntmps10
  go_wp2_with (first | (go_at_call 21; refine G.mono ?_; rintro e w' ⟨rfl, rfl⟩) | (go_at_call 22; refine S.mono ?_; rintro e w2 ⟨q, rfl, hq, hblk, hb2⟩; have HK := Hid.mk' hblk; clear hblk))
  go_ret2
  exact ⟨q, rfl, hq, HK.out, hb2⟩

/-- The frame's bytes, as what is owned. -/
theorem seal_acc {w : World} {q B : Nat} {l : List Int} (h : w.heap[q]? = some (.cells (cellsB l) 5 (0, 0))) (hB : B ≤ q) (hl : l.length ≤ 140737488355328) : Acc w B (.slice (some ⟨q, 0, none⟩) l.length l.length) l :=
  ⟨⟨by simp, .inr ⟨q, l.length, cellsB l, rfl, Nat.zero_le _, h, Nat.le_refl _, by simp only [maxLen]; omega, by simp [cellsB], by rw [Nat.mul_one, cellsB]; exact List.take_of_length_le (by simp)⟩⟩, fun k hk => by cases hk; exact hB⟩

/-- What 'genOf' answers of four bytes and a number. -/
def genR (x0 x1 x2 x3 n : Int) : Bool := decide (x0 = 156 ∧ (1 ≤ x1 ∧ x1 ≤ 3) ∧ x2 * 256 + x3 = n)

set_option maxHeartbeats 1600000 in
theorem genOf_any (p : Option Addr) (c : Nat) (x0 x1 x2 x3 n : Int) (w : World) (hB : BIn w p [x0, x1, x2, x3]) (hl : isB [x0, x1, x2, x3]) :
    Calls Tryd.prog 24 #[.slice p 4 c, .int .i64 n] w fun e w' => e = .returned (.tuple #[.int .i64 x1, .bool (genR x0 x1 x2 x3 n)]) ∧ Below w.heap.size w w' := by
  have R := read_at p c [x0, x1, x2, x3] w hB hl (by simp)
  have Y := fun w h1 h2 => isGen_yes x1 w h1 h2
  have No := fun w h => isGen_no x1 w h
  go_enter Tryd.func24, Tryd.ntmps24
  go_wp2_with fail
  refine R.mono ?_
  rintro e w1 ⟨b, rfl, hb1, hb2, hR1, hbel⟩
  go_wp2_with fail
  refine (num_ok b _ 1 w1 hR1 (by simp) (by omega) (by omega)).mono ?_
  rintro e w2 ⟨rfl, hR2, hF2, hz2⟩
  rw [show numB (List.take 1 [x0, x1, x2, x3]) = x0 by simp [numB]]
  rw [show List.drop 1 [x0, x1, x2, x3] = [x1, x2, x3] from rfl] at hR2
  go_wp2_with fail
  refine (num_ok b _ 1 w2 hR2 (by simp) (by omega) (by omega)).mono ?_
  rintro e w3 ⟨rfl, hR3, hF3, hz3⟩
  rw [show numB (List.take 1 [x1, x2, x3]) = x1 by simp [numB]]
  rw [show List.drop 1 [x1, x2, x3] = [x2, x3] from rfl] at hR3
  go_wp2_with fail
  refine (num_ok b _ 2 w3 hR3 (by simp) (by omega) (by omega)).mono ?_
  rintro e w4 ⟨rfl, hR4, hF4, hz4⟩
  rw [show numB (List.take 2 [x2, x3]) = x2 * 256 + x3 by simp [numB]]
  have hB4 : Below w.heap.size w w4 := hbel.trans ((hF2.below (fun i q => by omega) hbel.size).trans ((hF3.below (fun i q => by omega) (by omega)).trans (hF4.below (fun i q => by omega) (by omega))))
  have H := Hid.mk' hB4
  have Y4 := Y w4
  have N4 := No w4
  clear hR1 hR2 hR3 hR4 hF2 hF3 hF4 hbel hB4 R Y No hB hb1 hb2 hz2 hz3 hz4
  by_cases t1 : x0 = 156
  · by_cases t2 : 1 ≤ x1 ∧ x1 ≤ 3
    · have Y4 := Y4 t2.1 t2.2
      by_cases t3 : x2 * 256 + x3 = n
      · have HG := Hid.mk' (show genR x0 x1 x2 x3 n = true from decide_eq_true ⟨t1, t2, t3⟩)
        have t3' : (x2 * 256 + x3 == n) = true := by simpa using t3
        clear N4
        go_wp2_with (go_at_call 21; refine Y4.mono ?_; rintro e w' ⟨rfl, rfl⟩)
        go_ret2
        exact ⟨by rw [HG.out]; rfl, H.out⟩
      · have HG := Hid.mk' (show genR x0 x1 x2 x3 n = false from decide_eq_false fun q => t3 q.2.2)
        have t3' : (x2 * 256 + x3 == n) = false := by simpa using t3
        clear N4
        go_wp2_with (go_at_call 21; refine Y4.mono ?_; rintro e w' ⟨rfl, rfl⟩)
        go_ret2
        exact ⟨by rw [HG.out]; rfl, H.out⟩
    · have N4 := N4 t2
      have HG := Hid.mk' (show genR x0 x1 x2 x3 n = false from decide_eq_false fun q => t2 q.2.1)
      clear Y4
      go_wp2_with (go_at_call 21; refine N4.mono ?_; rintro e w' ⟨rfl, rfl⟩)
      go_ret2
      exact ⟨by rw [HG.out]; rfl, H.out⟩
  · have HG := Hid.mk' (show genR x0 x1 x2 x3 n = false from decide_eq_false fun q => t1 q.1)
    have t1' : (x0 == 156) = false := by simpa using t1
    clear Y4 N4
    go_wp2
    go_ret2
    exact ⟨by rw [HG.out]; rfl, H.out⟩

end Go.Proofs.YtecdagmeobiahaaDoor
