/-
  Package varint: next and From, over a reader.
-/
import Derived.Test.YtllaajajjodimaaVarGet
import Derived.Test.YtllaajajjodimaaOctetR
namespace Go.Proofs.Ytllaajajjodimaa
open Go.RowKit
set_option linter.unusedSimpArgs false
set_option linter.unusedVariables false

/-- How many bytes 'next' takes. -/
def nextN (l : List Int) : Nat := if endP l < 10 then endP l + 1 else 10

/-- The reader ends ahead of a form's end. -/
def shortB (l : List Int) : Bool := decide (endP l < 10 ∧ l.length ≤ endP l)

theorem nextN_bd (l : List Int) : 1 ≤ nextN l ∧ nextN l ≤ 10 ∧ (shortB l = false → nextN l ≤ l.length) ∧ (shortB l = true → l.length = endP l ∧ nextN l = endP l + 1) := by
  have h := endP_le l
  unfold nextN shortB
  by_cases q : endP l < 10
  · rw [if_pos q]; simp [q]; omega
  · rw [if_neg q]; simp [q]; omega

/-- What 'Get' answers of what 'next' took is what it answers of all. -/
theorem endP_next (l : List Int) : endP (l.take (nextN l)) = endP l := by
  have h := endP_le l
  have hn := nextN_bd l
  refine endP_eq _ _ (by simp; unfold nextN; split <;> omega) h.1 (fun t ht => ?_) (fun h1 h2 => ?_)
  · rw [getD_take l _ t (by unfold nextN; split <;> omega)]; exact endP_ge l t ht
  · simp at h2
    rw [getD_take l _ _ (by omega)]; exact endP_lt l h1 (by omega)

theorem get_next (l : List Int) : getE (l.take (nextN l)) = getE l ∧ getW (l.take (nextN l)) = getW l ∧ getN (l.take (nextN l)) = getN l := by
  have h := endP_le l
  have e := endP_next l
  by_cases q : endP l < 10
  · have hn : nextN l = endP l + 1 := by unfold nextN; rw [if_pos q]
    by_cases hs : l.length ≤ endP l
    · rw [List.take_of_length_le (by omega)]; exact ⟨rfl, rfl, rfl⟩
    · have hm : (l.take (nextN l)).length = endP l + 1 := by simp; omega
      have b1 := getBad_last l q (by omega)
      have b2 := getBad_last (l.take (nextN l)) (by omega) (by omega)
      rw [e, getD_take l _ _ (by omega)] at b2
      by_cases hb : getBad l = true
      · have g1 := get_bad_at l hb
        have g2 := get_bad_at _ (b2.2 (b1.1 hb))
        exact ⟨by rw [g1.1, g2.1], by rw [g1.2.1, g2.2.1], by rw [g1.2.2, g2.2.2]⟩
      · have hb2 : ¬ getBad (l.take (nextN l)) = true := fun x => hb (b1.2 (b2.1 x))
        have g1 := get_good_at l (by simpa using hb) (by omega)
        have g2 := get_good_at (l.take (nextN l)) (by simpa using hb2) (by omega)
        rw [e, hn, List.take_take, Nat.min_self] at g2
        rw [hn]
        exact ⟨by rw [g1.1, g2.1], by rw [g1.2.1, g2.2.1], by rw [g1.2.2, g2.2.2]⟩
  · have g1 := get_bad_at l (by simp [getBad]; omega)
    have g2 := get_bad_at (l.take (nextN l)) (by simp [getBad]; omega)
    exact ⟨by rw [g1.1, g2.1], by rw [g1.2.1, g2.2.1], by rw [g1.2.2, g2.2.2]⟩

/-- Behind j bytes that 'next' took. -/
theorem take_snoc (l : List Int) (j : Nat) (h : j < l.length) : l.take (j + 1) = l.take j ++ [l.getD j 0] := by
  rw [List.take_succ_eq_append_getElem h, show l.getD j 0 = l[j] by simp [List.getD, h]]

theorem drop_take1 (l : List Int) (j : Nat) (h : j < l.length) : numB ((l.drop j).take 1) = l.getD j 0 := by
  rw [List.drop_eq_getElem_cons h, show l.getD j 0 = l[j] by simp [List.getD, h]]
  show List.foldl _ 0 [l[j]] = _
  simp

/-- Where 'next' leaves the reader. -/
def nextRd (Q : Nat → Prop) (w : World) (b : Nat) (l : List Int) : Prop := (shortB l = true ∧ Rd w b [] true) ∨ (shortB l = false ∧ RdQ Q w b (l.drop (nextN l)) false)

set_option maxHeartbeats 1000000 in
theorem next_any (B b : Nat) (l : List Int) (w : World) (h : RdQ (fun k => k < B) w b l false) (hb : b < B) (hB : B ≤ w.heap.size) (hl : isB l) :
    Calls Try.prog 21 #[.pointer (some ⟨b, 0, none⟩)] w fun e w' => ∃ p c, e = .returned (.slice p (l.take (nextN l)).length c) ∧ BIn w' p (l.take (nextN l)) ∧ (p = none → c = 0) ∧
      nextRd (fun k => k < B) w' b l ∧ Fr (fun k => k = b) w w' := by
  have HL := Hid.mk' hl
  have HR := Hid.mk' h
  clear h hl
  go_enter Try.func21, Try.ntmps21
  go_wp2
  go_loopw [3, 5] (fun out i wr => ∃ j : Nat, j ≤ 10 ∧ j ≤ endP l ∧ i = .int .i64 j ∧ Acc wr w.heap.size out (l.take j) ∧ RdQ (fun k => k < B) wr b (l.drop j) false ∧ Fr (fun k => k = b) w wr) (fun _ i _ => 10 - (intOf i).toNat)
  case atStart => exact ⟨0, Nat.zero_le _, Nat.zero_le _, rfl, Acc.nil _ _, HR.out, Fr.refl _ _⟩
  case round =>
    obtain ⟨j, hj, hje, rfl, hA, hR, hF⟩ := hrel
    have he := endP_le l
    have hlj : (l.take j).length = j := by simp; omega
    by_cases hj10 : j < 10
    · by_cases hlt : j < l.length
      · have N := num_ok b (l.drop j) 1 wr hR (by simp; omega) (by omega) (by omega)
        rw [drop_take1 l j hlt, List.drop_drop] at N
        have hx := HL.out.getD j
        have hge := endP_ge l j
        have hle := endP_lt l
        have HS := Hid.mk' (take_snoc l j hlt)
        have hjx : endP l = j → l.getD (endP l) 0 = l.getD j 0 := fun q => by rw [q]
        have HA := Hid.mk' hA
        have HF := Hid.mk' hF
        clear hR hA hF
        generalize l.getD j 0 = x at N hx hge HS hjx
        have hw : x % 256 = x := by omega
        by_cases h128 : x < 128
        · have hej : endP l = j := by
            by_cases q : endP l = j
            · exact q
            · have := hge (by omega); omega
          have hn : nextN l = j + 1 := by unfold nextN; rw [hej, if_pos hj10]
          have hsh : shortB l = false := by unfold shortB; simp; omega
          have HG : Hid (l.take (nextN l) = l.take j ++ [x] ∧ l.drop (nextN l) = l.drop (j + 1) ∧ shortB l = false) := ⟨by rw [hn]; exact HS.out, by rw [hn], hsh⟩
          clear hge hle hjx hej hn hsh he hje hlj
          go_wp2_with fail
          refine N.mono ?_
          rintro e w2 ⟨rfl, hR2, hF2, hz2⟩
          have Bd := badR_any b _ _ w2 hR2
          have hA2 := HA.out.fr hF2 (fun g hg q => by have := HA.out.above g hg; omega)
          have hs2 : w.heap.size ≤ w2.heap.size := Nat.le_trans HF.out.size hF2.size
          have HR2 := Hid.mk' hR2
          have HF2 := Hid.mk' hF2
          clear hR2 hF2 hz2 N
          go_wp2_with (first | (go_at_call 23; refine Bd.mono ?_; rintro e w' ⟨rfl, rfl⟩) | (at_builtin; refine wpList_acc1 rfl (.tmp 12) (.tmp 15) rfl w.heap.size _ (l.take j) rfl hA2 hs2 _ rfl (by simp; omega) ?_; intro v3 w3 hA3 hB3; obtain ⟨p3, c3, rfl, hp3, hq3, _⟩ := hA3.slice))
          go_ret
          refine ⟨p3, c3, ?_, by rw [HG.out.1]; exact hp3, hq3, .inr ⟨HG.out.2.2, ?_⟩, ?_⟩
          · rw [HG.out.1, List.length_append, List.length_take]; rfl
          · rw [HG.out.2.1]; exact HR2.out.low hb (Nat.le_trans hB hs2) (hB3.mono hB)
          · exact (HF.out.trans HF2.out fun i q => .inl q).trans (S' := fun i => w.heap.size ≤ i) ⟨hB3.os, hB3.tape, hB3.output, hB3.size, fun i _ hn => hB3.block i (by omega)⟩ fun i q => .inr q
        · have hej : j + 1 ≤ endP l := by
            by_cases q : endP l = j
            · have := hle (by omega) (by omega); rw [hjx q] at this; exact absurd this h128
            · omega
          clear hge hle hjx he hje hlj
          go_wp2_with fail
          refine N.mono ?_
          rintro e w2 ⟨rfl, hR2, hF2, hz2⟩
          have Bd := badR_any b _ _ w2 hR2
          have hA2 := HA.out.fr hF2 (fun g hg q => by have := HA.out.above g hg; omega)
          have hs2 : w.heap.size ≤ w2.heap.size := Nat.le_trans HF.out.size hF2.size
          have HR2 := Hid.mk' hR2
          have HF2 := Hid.mk' hF2
          clear hR2 hF2 hz2 N
          go_wp2_with (first | (go_at_call 23; refine Bd.mono ?_; rintro e w' ⟨rfl, rfl⟩) | (at_builtin; refine wpList_acc1 rfl (.tmp 12) (.tmp 15) rfl w.heap.size _ (l.take j) rfl hA2 hs2 _ rfl (by simp; omega) ?_; intro v3 w3 hA3 hB3))
          go_roundw
          case rel =>
            refine ⟨j + 1, by omega, hej, by go_num, by rw [HS.out]; exact hA3, HR2.out.low hb (Nat.le_trans hB hs2) (hB3.mono hB), ?_⟩
            exact (HF.out.trans HF2.out fun i q => .inl q).trans (S' := fun i => w.heap.size ≤ i) ⟨hB3.os, hB3.tape, hB3.output, hB3.size, fun i _ hn => hB3.block i (by omega)⟩ fun i q => .inr q
          case measure => simp [intOf]; omega
      · have hlen : l.length = j := by omega
        have hn : nextN l = j + 1 := by unfold nextN; rw [show endP l = j by omega, if_pos hj10]
        have hsh : shortB l = true := by unfold shortB; simp; omega
        have HG : Hid (l.take (nextN l) = l.take j ∧ shortB l = true) := ⟨by rw [hn, List.take_of_length_le (by omega), List.take_of_length_le (by omega)], hsh⟩
        have N := num_no b (l.drop j) false 1 wr hR (by right; right; right; simp; omega)
        obtain ⟨p3, c3, rfl, hp3, hq3, _⟩ := hA.slice
        have HA := Hid.mk' hA
        have HF := Hid.mk' hF
        have HP3 := Hid.mk' hp3
        rw [hlj]
        clear hR hA hF hn hsh he hje hlen hp3
        go_wp2_with fail
        refine N.mono ?_
        rintro e w2 ⟨rfl, hR2, hF2⟩
        have Bd := badR_any b _ _ w2 hR2
        have hA2 := HA.out.fr hF2 (fun g hg q => by have := HA.out.above g hg; omega)
        have HR2 := Hid.mk' hR2
        have HF2 := Hid.mk' hF2
        clear hR2 hF2 N
        go_wp2_with (go_at_call 23; refine Bd.mono ?_; rintro e w' ⟨rfl, rfl⟩)
        go_ret
        refine ⟨p3, c3, ?_, ?_, hq3, .inl ⟨HG.out.2, HR2.out⟩, HF.out.trans HF2.out fun i q => .inl q⟩
        · rw [HG.out.1, hlj]; rfl
        · rw [HG.out.1]
          obtain ⟨p4, c4, e4, h4, _⟩ := hA2.slice
          cases e4
          exact h4
    · have hj : j = 10 := by omega
      have hn : nextN l = j := by unfold nextN; rw [if_neg (by omega)]; omega
      have hsh : shortB l = false := by unfold shortB; simp; omega
      have HG := Hid.mk' (show nextN l = j ∧ shortB l = false from ⟨hn, hsh⟩)
      obtain ⟨p3, c3, rfl, hp3, hq3, _⟩ := hA.slice
      have HF := Hid.mk' hF
      have HP3 := Hid.mk' hp3
      have HR2 := Hid.mk' hR
      have hj10' : ¬ (j : Int) < 10 := by omega
      rw [hlj]
      clear hR hA hF hn hsh he hje hp3 hj
      go_wp2
      go_ret
      refine ⟨p3, c3, ?_, ?_, hq3, .inr ⟨HG.out.2, ?_⟩, HF.out⟩
      · rw [HG.out.1, ← List.length_take, hlj]; rfl
      · rw [HG.out.1]; exact HP3.out
      · rw [HG.out.1]; exact HR2.out

theorem getW_bd (l : List Int) (hB : isB l) (h : getE l = 0) : 0 ≤ getW l ∧ getW l ≤ 18446744073709551615 ∧ shortB l = false ∧ getN l = nextN l ∧ nextN l ≤ l.length := by
  have he := endP_le l
  have hbad : getBad l = false := by
    cases hb : getBad l
    · rfl
    · have := (get_bad_at l hb).1; omega
  have h10 : endP l < 10 := by
    by_cases q : endP l < 10
    · exact q
    · unfold getBad at hbad; simp at hbad; omega
  have hs : endP l < l.length := by
    by_cases q : endP l < l.length
    · exact q
    · have := (get_short_at l h10 (by omega)).1; omega
  have g := get_good_at l hbad hs
  have t := take_good l hB (by omega) hs hbad
  have hn : nextN l = endP l + 1 := by unfold nextN; rw [if_pos h10]
  rw [g.2.1]
  refine ⟨t.1, by omega, by unfold shortB; simp; omega, by rw [g.2.2, hn]; omega, by omega⟩

set_option maxHeartbeats 1000000 in
theorem from_ok (B b : Nat) (l : List Int) (most : Int) (w : World) (h : RdQ (fun k => k < B) w b l false) (hb : b < B) (hB : B ≤ w.heap.size) (hl : isB l) (hm : most ≤ 9223372036854775807) (hE : getE l = 0) (hm0 : 0 ≤ most) (hW : getW l ≤ most) :
    Calls Try.prog 14 #[.pointer (some ⟨b, 0, none⟩), .int .i64 most] w fun e w' => e = .returned (.tuple #[.int .i64 (getW l), .bool true]) ∧ RdQ (fun k => k < B) w' b (l.drop (nextN l)) false ∧ Fr (fun k => k = b) w w' := by
  have N := next_any B b l w h hb hB hl
  have hn := nextN_bd l
  have wb := getW_bd l hl hE
  obtain ⟨q1, q2, q3⟩ := get_next l
  have HG := Hid.mk' (show getE (l.take (nextN l)) = 0 ∧ getW (l.take (nextN l)) = getW l from ⟨by rw [q1, hE], q2⟩)
  have HT := Hid.mk' (hl.take (nextN l))
  have hlen : (l.take (nextN l)).length ≤ 10 := by simp; omega
  have HD := Hid.mk' (show shortB l = false from wb.2.2.1)
  have w0 := wb.1
  clear h hE q1 q2 q3 wb hn hl
  generalize getW l = V at HG hW w0 ⊢
  go_enter Try.func14, Try.ntmps14
  go_wp2_with fail
  refine N.mono ?_
  rintro e w1 ⟨p1, c1, rfl, hP1, hq1, hR1, hF1⟩
  have G := get_any p1 c1 (l.take (nextN l)) w1 hP1 HT.out (by omega)
  rw [HG.out.1, HG.out.2] at G
  have HR : Hid (RdQ (fun k => k < B) w1 b (l.drop (nextN l)) false) := by
    rcases hR1 with ⟨q, _⟩ | ⟨_, q⟩
    · rw [HD.out] at q; cases q
    · exact q
  have HF := Hid.mk' hF1
  clear N hP1 hq1 hR1 hF1
  generalize getN (l.take (nextN l)) = N at G
  generalize (l.take (nextN l)).length = K at G hlen ⊢
  go_wp2_with (go_at_call 12; refine G.mono ?_; rintro e w' ⟨rfl, rfl⟩)
  go_ret2
  exact ⟨rfl, HR.out, HF.out⟩

set_option maxHeartbeats 1000000 in
theorem from_no (B b : Nat) (l : List Int) (most : Int) (w : World) (h : RdQ (fun k => k < B) w b l false) (hb : b < B) (hB : B ≤ w.heap.size) (hl : isB l) (hm : most ≤ 9223372036854775807) (hno : getE l ≠ 0 ∨ most < 0 ∨ most < getW l) :
    Calls Try.prog 14 #[.pointer (some ⟨b, 0, none⟩), .int .i64 most] w fun e w' => e = .returned (.tuple #[.int .i64 0, .bool false]) ∧ Rd w' b [] true ∧ Fr (fun k => k = b) w w' := by
  have N := next_any B b l w h hb hB hl
  have hn := nextN_bd l
  have hno' : (getE l ≠ 0) ∨ (getE l = 0 ∧ most < 0) ∨ (getE l = 0 ∧ 0 ≤ most ∧ most < getW l) := by
    by_cases q : getE l = 0
    · by_cases q2 : most < 0
      · exact .inr (.inl ⟨q, q2⟩)
      · exact .inr (.inr ⟨q, by omega, by omega⟩)
    · exact .inl q
  have hWb : getE l = 0 → 0 ≤ getW l ∧ getW l ≤ 18446744073709551615 := fun q => ⟨(getW_bd l hl q).1, (getW_bd l hl q).2.1⟩
  obtain ⟨q1, q2, q3⟩ := get_next l
  have HT := Hid.mk' (hl.take (nextN l))
  have hlen : (l.take (nextN l)).length ≤ 10 := by simp; omega
  have G := fun p c wx hx => get_any p c (l.take (nextN l)) wx hx HT.out (by omega)
  rw [q1, q2, q3] at G
  have HG := Hid.mk' G
  clear h q1 q2 q3 hn hl hno G HT
  generalize getW l = V at HG hno' hWb
  generalize getE l = E at HG hno' hWb
  generalize getN l = M at HG
  go_enter Try.func14, Try.ntmps14
  go_wp2_with fail
  refine N.mono ?_
  rintro e w1 ⟨p1, c1, rfl, hP1, hq1, hR1, hF1⟩
  have G := HG.out p1 c1 w1 hP1
  have T : Calls Try.prog 22 #[.pointer (some ⟨b, 0, none⟩), .int .i64 (-1)] w1 fun e w' => (∃ g, e = .returned (.slice (some ⟨g, 0, none⟩) 0 0)) ∧ Rd w' b [] true ∧ Fr (fun k => k = b) w1 w' := by
    rcases hR1 with ⟨_, q⟩ | ⟨_, q⟩
    · exact take_no b _ _ (-1) w1 q (.inl rfl)
    · exact take_no b _ _ (-1) w1 q (.inr (.inl (by omega)))
  have HF := Hid.mk' hF1
  clear N hP1 hq1 hR1 hF1 HG
  generalize (l.take (nextN l)).length = K at G hlen ⊢
  rcases hno' with q | ⟨rfl, q⟩ | ⟨rfl, q, q2⟩
  · have qb : (E != 0) = true := by simp [q]
    clear q hWb
    go_wp2_with (first | (go_at_call 12; refine G.mono ?_; rintro e w' ⟨rfl, rfl⟩) | (go_at_call 22; refine T.mono ?_; rintro e w2 ⟨⟨g2, rfl⟩, hR2, hF2⟩))
    go_ret2
    exact ⟨rfl, hR2, HF.out.trans hF2 fun i q => .inl q⟩
  · clear hWb
    go_wp2_with (first | (go_at_call 12; refine G.mono ?_; rintro e w' ⟨rfl, rfl⟩) | (go_at_call 22; refine T.mono ?_; rintro e w2 ⟨⟨g2, rfl⟩, hR2, hF2⟩))
    go_ret2
    exact ⟨rfl, hR2, HF.out.trans hF2 fun i q => .inl q⟩
  · have hV := hWb rfl
    clear hWb
    go_wp2_with (first | (go_at_call 12; refine G.mono ?_; rintro e w' ⟨rfl, rfl⟩) | (go_at_call 22; refine T.mono ?_; rintro e w2 ⟨⟨g2, rfl⟩, hR2, hF2⟩))
    go_ret2
    exact ⟨rfl, hR2, HF.out.trans hF2 fun i q => .inl q⟩
end Go.Proofs.Ytllaajajjodimaa
