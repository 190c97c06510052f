/-
  Package tlv: Num, Value.
-/
import Derived.Test.YtflllegengomnaaTlvJ
namespace Go.Proofs.Ytflllegengomnaa
open Go.RowKit
set_option linter.unusedSimpArgs false
set_option linter.unusedVariables false
set_option maxRecDepth 10000

theorem numD_yes {n : Nat} {v : Int} (h1 : 1 ≤ n) (h7 : n ≤ 7) (hv : 0 ≤ v) (hv2 : v < 256 ^ n) : numD n v = digB n v := by
  unfold numD
  rw [if_pos ⟨⟨by omega, by omega⟩, hv, by simpa using hv2⟩]
  simp
theorem numD_no {n v : Int} (h : n < 1 ∨ 7 < n ∨ v < 0 ∨ 256 ^ n.toNat ≤ v) : numD n v = [] := by
  unfold numD
  rw [if_neg]
  rintro ⟨⟨h1, h2⟩, h3, h4⟩
  rcases h with h | h | h | h
  · omega
  · omega
  · omega
  · omega
theorem numD_isB (n v : Int) : isB (numD n v) := by
  unfold numD
  split
  · exact digB_isB _ _
  · exact isB.nil
theorem numD_len (n v : Int) : (numD n v).length ≤ 7 := by
  unfold numD
  split
  · rename_i h; rw [digB_len]; omega
  · simp

/-- What Num comes to. -/
def NumP (w : World) (t n v : Int) (e : Ending) (w' : World) : Prop :=
  ∃ p c, e = .returned (.agg #[.int .i64 t, .slice p (numD n v).length c]) ∧ FOk w' ⟨t, p, c, numD n v⟩ ∧ (0 < (numD n v).length → ∀ a, p = some a → w.heap.size ≤ a.block) ∧ Below w.heap.size w w'

set_option maxHeartbeats 4000000 in
theorem tnum_any (t n v : Int) (w : World) (ht : (Lit.int .i64 t).wf = true) (hn : (Lit.int .i64 n).wf = true) (hv : (Lit.int .i64 v).wf = true) :
    Calls Try.prog 13 #[.int .i64 t, .int .i64 n, .int .i64 v] w fun e w' => NumP w t n v e w' := by
  have bv := bounds_i64 hv
  have hb0 : Below w.heap.size w (w.alloc (.cells #[.int .i64 0, .slice none 0 0] 30)) := (Below.refl _ _).alloc (Nat.le_refl _) _
  have hn0 := heap_alloc_new w (.cells #[.int .i64 0, .slice none 0 0] 30)
  by_cases hg : n < 1 ∨ 7 < n ∨ v < 0 ∨ 256 ^ n.toNat ≤ v
  · have hd := numD_no hg
    have HP := Hid.mk' (show ∀ w', Below w.heap.size w w' → NumP w t n v (.returned (.agg #[.int .i64 t, .slice none 0 0])) w' from fun w' hb => ⟨none, 0, by rw [hd]; rfl, by rw [hd]; exact ⟨ht, Nat.le_refl _, by simp [maxLen], fun _ => rfl, BIn.empty _ _, isB.nil, by simp⟩, fun h => by rw [hd] at h; simp at h, hb⟩)
    have HG := Hid.mk' hg
    clear hg hd
    have W0 := writeB (w.alloc (.cells #[.int .i64 0, .slice none 0 0] 30))
    go_enter Try.func13, Try.ntmps13
    go_wp2_with fail
    generalize hw0 : w.alloc (.cells #[.int .i64 0, .slice none 0 0] 30) = w0 at hb0 hn0 W0 ⊢
    have hlt : w.heap.size < w0.heap.size := (Array.getElem?_eq_some_iff.1 hn0).1
    have HLT := Hid.mk' hlt
    have HB0 := Hid.mk' hb0
    have HN0 := Hid.mk' hn0
    clear hw0 hlt hb0 hn0
    refine W0.mono ?_
    rintro e w1 ⟨rfl, hW1, hb1⟩
    obtain ⟨g1, hW1, hB1, hg1⟩ := hW1
    have N1 := numW_no _ _ _ _ n v w1 hW1 (by omega) (by omega) HG.out
    have HB1 := Hid.mk' hb1
    have HLB := Hid.mk' hW1.lt
    have HG1 := Hid.mk' hg1
    clear hW1 hb1 W0 hB1 hg1
    go_wp2_with fail
    refine N1.mono ?_
    rintro e w2 ⟨rfl, hW2, hf2⟩
    have hb2 : Below w0.heap.size w1 w2 := hf2.below (fun i q => by rcases q with rfl | q; exact Nat.le_refl _; exact HG1.out i q) HB1.out.size
    have Y := bytes_bad _ _ _ w2 hW2
    have HB2 := Hid.mk' (HB1.out.trans hb2)
    clear hW2 hb2 hf2 N1 HB1 HLB HG1
    go_wp2_with fail
    refine Y.mono ?_
    rintro e w3 ⟨rfl, rfl⟩
    have hbox : w2.heap[w.heap.size]? = some (.cells #[.int .i64 0, .slice none 0 0] 30 (0, 0)) := by rw [HB2.out.block _ HLT.out]; exact HN0.out
    obtain ⟨c0, c1, f0, f1⟩ := two_cells hbox
    have HBX := Hid.mk' hbox
    have HB03 := Hid.mk' (HB0.out.trans (HB2.out.mono HB0.out.size))
    clear hbox Y HB2
    obtain ⟨Q0, Q1⟩ := two_set HBX.out (.int .i64 t) (.slice none 0 0)
    have HQ0 := Hid.mk' Q0
    have HQ1 := Hid.mk' Q1
    clear Q0 Q1
    go_wp2
    have f : Fr (fun k => k = w.heap.size) w2 ((w2.setCell ⟨w.heap.size, 0, none⟩ (.int .i64 t)).setCell ⟨w.heap.size, 1, none⟩ (.slice none 0 0)) :=
      Fr.setCell (S := fun k => k = w.heap.size) (p := ⟨w.heap.size, 1, none⟩) (Fr.setCell (S := fun k => k = w.heap.size) (p := ⟨w.heap.size, 0, none⟩) (Fr.refl _ _) (.inl rfl) _) (.inl rfl) _
    exact bodyPost_ret (v := .agg #[.int .i64 t, .slice none 0 0]) (by have q0 := HQ0.out; have q1 := HQ1.out; simp [results, Try.results13, go_sem, q0, q1]) rfl
      (HP.out _ (HB03.out.trans (f.below (fun i q => by omega) HB03.out.size)))
  · obtain ⟨m, rfl⟩ := Int.eq_ofNat_of_zero_le (show 0 ≤ n by omega)
    have h1 : 1 ≤ m := by omega
    have h7 : m ≤ 7 := by omega
    have hv0 : 0 ≤ v := by omega
    have hv2 : v < 256 ^ m := by
      have : ¬ (256 ^ (m : Int).toNat ≤ v) := fun q => hg (.inr (.inr (.inr q)))
      rw [Int.toNat_natCast] at this
      omega
    have hv3 : v ≤ 9223372036854775807 := by omega
    have hd := numD_yes h1 h7 hv0 hv2
    have HP := Hid.mk' (show ∀ g w', w.heap.size ≤ g → BIn w' (some ⟨g, 0, none⟩) (digB m v) → Below w.heap.size w w' → NumP w t m v (.returned (.agg #[.int .i64 t, .slice (some ⟨g, 0, none⟩) m m])) w' from fun g w' hgg hbi hb => ⟨some ⟨g, 0, none⟩, m, by rw [hd, digB_len], by rw [hd]; exact FOk.new ht hbi (digB_len _ _) (by omega) (digB_isB _ _), fun _ a ha => by cases ha; exact hgg, hb⟩)
    have W0 := writeB (w.alloc (.cells #[.int .i64 0, .slice none 0 0] 30))
    have HV := Hid.mk' hv2
    clear hv2 hg hd
    go_enter Try.func13, Try.ntmps13
    go_wp2_with fail
    generalize hw0 : w.alloc (.cells #[.int .i64 0, .slice none 0 0] 30) = w0 at hb0 hn0 W0 ⊢
    have hlt : w.heap.size < w0.heap.size := (Array.getElem?_eq_some_iff.1 hn0).1
    have HLT := Hid.mk' hlt
    have HB0 := Hid.mk' hb0
    have HN0 := Hid.mk' hn0
    clear hw0 hlt hb0 hn0
    refine W0.mono ?_
    rintro e w1 ⟨rfl, hW1, hb1⟩
    have N1 := numB_ok _ _ [] m v w1 hW1 h1 h7 hv0 HV.out hv3 (by simp)
    have HB1 := Hid.mk' hb1
    clear hW1 hb1 W0
    go_wp2_with fail
    refine N1.mono ?_
    rintro e w2 ⟨rfl, hW2, hb2⟩
    rw [List.nil_append] at hW2
    have Y := bytesB _ _ _ w2 hW2 (by rw [digB_len]; omega)
    rw [digB_len] at Y
    have HB2 := Hid.mk' (HB1.out.trans hb2)
    clear hW2 hb2 N1 HB1
    go_wp2_with fail
    refine Y.mono ?_
    rintro e w3 ⟨rfl, hB3, hb3⟩
    have hb03 : Below w0.heap.size w0 w3 := HB2.out.trans (hb3.mono HB2.out.size)
    have hbox : w3.heap[w.heap.size]? = some (.cells #[.int .i64 0, .slice none 0 0] 30 (0, 0)) := by rw [hb03.block _ HLT.out]; exact HN0.out
    obtain ⟨c0, c1, f0, f1⟩ := two_cells hbox
    have HBX := Hid.mk' hbox
    have HB3 := Hid.mk' hB3
    have HB03 := Hid.mk' (HB0.out.trans (hb03.mono HB0.out.size))
    have HG := Hid.mk' (Nat.le_trans (Nat.le_of_lt HLT.out) HB2.out.size)
    have HGG := Hid.mk' (Nat.lt_of_lt_of_le HLT.out HB2.out.size)
    clear hB3 hb3 hb03 hbox Y HB2
    obtain ⟨Q0, Q1⟩ := two_set HBX.out (.int .i64 t) (.slice (some ⟨w2.heap.size, 0, none⟩) m m)
    have HQ0 := Hid.mk' Q0
    have HQ1 := Hid.mk' Q1
    clear Q0 Q1
    go_wp2
    have f : Fr (fun k => k = w.heap.size) w3 ((w3.setCell ⟨w.heap.size, 0, none⟩ (.int .i64 t)).setCell ⟨w.heap.size, 1, none⟩ (.slice (some ⟨w2.heap.size, 0, none⟩) m m)) :=
      Fr.setCell (S := fun k => k = w.heap.size) (p := ⟨w.heap.size, 1, none⟩) (Fr.setCell (S := fun k => k = w.heap.size) (p := ⟨w.heap.size, 0, none⟩) (Fr.refl _ _) (.inl rfl) _) (.inl rfl) _
    exact bodyPost_ret (v := .agg #[.int .i64 t, .slice (some ⟨w2.heap.size, 0, none⟩) m m]) (by have q0 := HQ0.out; have q1 := HQ1.out; simp [results, Try.results13, go_sem, q0, q1]) rfl
      (HP.out _ _ HG.out (HB3.out.fr f (fun a ha _ q => by cases ha; have := HGG.out; simp at q; omega)) (HB03.out.trans (f.below (fun i q => by omega) HB03.out.size)))

/-- The number of n bytes that an item is. -/
def valK (d : List Int) (n : Int) : Int × Bool := if (1 ≤ n ∧ n ≤ 7) ∧ (d.length : Int) = n then (numB d, true) else (0, false)

set_option maxHeartbeats 4000000 in
theorem tvalue_any (f : Fd) (n : Int) (w : World) (hf : FOk w f) (hn : (Lit.int .i64 n).wf = true) :
    Calls Try.prog 14 #[.agg #[.int .i64 f.tag, .slice f.p f.d.length f.cap], .int .i64 n] w fun e w' => e = .returned (.tuple #[.int .i64 (valK f.d n).1, .bool (valK f.d n).2]) ∧ Below w.heap.size w w' := by
  have HI := Hid.mk' (InBF.start w f)
  have R := gread_any f.p f.cap f.d _ (hf.bin.below HI.out.below) hf.isb hf.few
  have HV := Hid.mk' (show valK f.d n = if (1 ≤ n ∧ n ≤ 7) ∧ (f.d.length : Int) = n then (numB f.d, true) else (0, false) from rfl)
  have bn := bounds_i64 hn
  generalize valK f.d n = r at HV ⊢
  clear hf hn
  go_enter Try.func14, Try.ntmps14
  obtain ⟨c0, c1⟩ := HI.out.two
  go_wp2_with fail
  clear c0 c1
  generalize w.alloc (.cells #[.int .i64 f.tag, .slice f.p f.d.length f.cap] 30) = w0 at HI R ⊢
  refine R.mono ?_
  clear R
  rintro e w1 ⟨b, rfl, hb, hR, hb1⟩
  have HB1 := Hid.mk' (HI.out.below.trans (hb1.mono HI.out.below.size))
  have HR := Hid.mk' hR
  have HBB := Hid.mk' (show w.heap.size ≤ b from Nat.le_trans HI.out.below.size hb)
  clear hb hR hb1 HI
  by_cases hg : 1 ≤ n ∧ n ≤ 7
  · obtain ⟨k, rfl⟩ := Int.eq_ofNat_of_zero_le (show 0 ≤ n by omega)
    have N := gnum_any _ b k (some f.d) w1 HR.out (by omega) (by omega)
    have HG := Hid.mk' hg
    clear hg
    obtain ⟨x, hx⟩ : ∃ x, nV k (some f.d) = x := ⟨_, rfl⟩
    rw [hx] at N
    have HX := Hid.mk' hx
    clear hx
    go_wp2_with fail
    refine N.mono ?_
    clear N
    rintro e w2 ⟨rfl, hR2, hf2⟩
    have HB2 := Hid.mk' (HB1.out.trans (hf2.below (fun i q => by have := HBB.out; omega) HB1.out.size))
    have D := gdone_any _ b _ w2 hR2
    clear hR2 hf2 HB1 HR
    obtain ⟨d, hd⟩ : ∃ d, decide (nS k (some f.d) = some []) = d := ⟨_, rfl⟩
    rw [hd] at D
    have HD := Hid.mk' hd
    clear hd
    go_wp2_with fail
    refine D.mono ?_
    clear D
    rintro e w3 ⟨rfl, rfl⟩
    cases d
    · have hq : ¬ f.d.length = k := fun q => by
        have h := HD.out
        rw [decide_eq_false_iff_not] at h
        exact h (by rw [nS_some (by omega), List.drop_of_length_le (by omega)])
      obtain rfl : r = (0, false) := by rw [HV.out, if_neg]; omega
      clear hq
      go_wp2_with fail
      go_ret2
      exact ⟨rfl, HB2.out⟩
    · have hq : f.d.length = k := by
        have h := HD.out
        rw [decide_eq_true_eq] at h
        by_cases q : k ≤ f.d.length
        · rw [nS_some q] at h
          have h2 := congrArg List.length (Option.some.inj h)
          simp at h2
          omega
        · rw [nS_short (by omega)] at h; cases h
      have hx : x = numB f.d := by rw [← HX.out, nV_some (by omega), List.take_of_length_le (by omega)]
      have HRV := Hid.mk' (show r = (x, true) by rw [HV.out, if_pos ⟨HG.out, by omega⟩, hx])
      clear hq hx
      go_wp2_with fail
      go_ret2
      exact ⟨by rw [HRV.out]; rfl, HB2.out⟩
  · have N := num_no b f.d false n w1 (HR.out.good f.d rfl) (by omega)
    obtain rfl : r = (0, false) := by rw [HV.out, if_neg]; omega
    clear HV hg
    go_wp2_with fail
    refine N.mono ?_
    clear N
    rintro e w2 ⟨rfl, hR2, hf2⟩
    have HB2 := Hid.mk' (HB1.out.trans (hf2.below (fun i q => by have := HBB.out; omega) HB1.out.size))
    have D := done_any b [] true w2 hR2
    clear hR2 hf2 HB1 HR
    go_wp2_with fail
    refine D.mono ?_
    clear D
    rintro e w3 ⟨rfl, rfl⟩
    go_wp2_with fail
    go_ret2
    exact ⟨rfl, HB2.out⟩
end Go.Proofs.Ytflllegengomnaa
