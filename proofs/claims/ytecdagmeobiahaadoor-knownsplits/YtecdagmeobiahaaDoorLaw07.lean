/-
  Stage 7: the chapter's examples (the statements' own 'awake'); where the first field of a tag stands.
-/
import Derived.Test.YtecdagmeobiahaaDoorKnowB
namespace Go.Proofs.YtecdagmeobiahaaDoor
open Go.RowKit
set_option linter.unusedSimpArgs false
set_option linter.unusedVariables false

theorem kat {l : List Fd} {L : List Key} (h : kys l = L) (i : Nat) (hi : i < L.length) : (l.getD i zf).tag = (L[i]).1 ∧ (l.getD i zf).d = (L[i]).2 := by
  subst h
  have hl : i < l.length := by rw [kys_len] at hi; exact hi
  simp [kys, ky, List.getD, hl]

theorem OwnF.fin {B : Nat} {W : World} {v : Value} {L : List Fd} (h : OwnF B W v L) : ∃ p c, v = .slice p L.length c ∧ FIn W p L ∧ (p = none → c = 0) ∧ L.length ≤ c ∧ c ≤ maxLen := own_fin h.own h.oks

set_option maxHeartbeats 4000000 in
theorem awake7_any (w : World) : Calls Tryd.prog 14 #[] w fun e w' => e = .returned (.bool true) ∧ Below w.heap.size w w' := by
  have M1 := make_any 7 (-1) ⟨#[118, 50]⟩ [118, 50] w (Str.of [118, 50] (by intro x hx; simp at hx; omega)) (by simp)
  have M2 := fun w => make_any 256 0 ⟨#[]⟩ [] w (Str.of [] isB.nil) (by simp)
  rw [show makeK 7 (-1) [118, 50] = (0, [(32, [7]), (34, [118, 50])]) by decide +kernel] at M1
  rw [show makeK 256 0 [] = (5, []) by decide +kernel] at M2
  have K1 := fun w => knows_any 2 33 w
  have K2 := fun w => knows_any 2 34 w
  rw [show knowsK 2 33 = true by decide] at K1
  rw [show knowsK 2 34 = false by decide] at K2
  go_enter Tryd.func14, Tryd.ntmps14
  go_wp2_with fail
  refine M1.mono ?_
  rintro e w1 ⟨v, L, rfl, hk, hO, hb⟩
  obtain ⟨p, c, rfl, hf, _⟩ := hO.fin
  have hlen : L.length = 2 := by rw [← kys_len, hk]; rfl
  rw [hlen]
  have HF := Hid.mk' hf
  have HK := Hid.mk' hk
  have HB := Hid.mk' hb
  have HL := Hid.mk' hlen
  clear hf hk hb hO hlen M1
  go_wp2_with fail
  refine (M2 _).mono ?_
  rintro e w2 ⟨v2, L2, rfl, hk2, hO2, hb2⟩
  obtain ⟨b, o, rfl, hc⟩ := (HF.out.below hb2).at (by rw [HL.out]; omega)
  obtain ⟨c0, _, _⟩ := hc 0 (by rw [HL.out]; omega)
  obtain ⟨_, d1, hx⟩ := hc 1 (by rw [HL.out]; omega)
  obtain ⟨k0, _⟩ := kat HK.out 0 (by simp)
  obtain ⟨_, k1⟩ := kat HK.out 1 (by simp)
  have cv := BIn.convert (P := Tryd.prog) hx.bin (L.getD 1 zf).cap 22 5 9 Tryd.underlying22 Tryd.underlying5 Tryd.underlying9
  rw [k0] at c0
  rw [k1] at d1 cv
  simp only [List.getElem_cons_succ, List.getElem_cons_zero, List.length_cons, List.length_nil, Nat.zero_add, Nat.reduceMul, Nat.reduceAdd, Nat.zero_mul, Nat.add_zero, Nat.one_mul] at c0 d1 cv
  rw [show strOfNums [118, 50] = ⟨#[118, 50]⟩ from rfl] at cv
  generalize L.getD 1 zf = y at d1 cv
  have HB2 := Hid.mk' (HB.out.trans (hb2.mono HB.out.size))
  clear hc hx k0 k1 hk2 hO2 hb2 HF HK HB HL M2
  go_wp2_with fail
  refine (K1 _).mono ?_
  rintro e w3 ⟨rfl, rfl⟩
  go_wp2_with fail
  refine (K2 _).mono ?_
  rintro e w3 ⟨rfl, rfl⟩
  go_wp2_with fail
  go_ret
  exact ⟨rfl, HB2.out⟩

/-- The place of the first field with a tag, from place k on. -/
def firstK (v : Int) : Nat → List Key → Int
  | _, [] => -1
  | k, x :: t => if x.1 = v then (k : Int) else firstK v (k + 1) t


/-- Where the first one stands, and what it says. -/
theorem firstK_get (v : Int) : ∀ (l : List Fd) (k : Nat), (firstK v k (kys l) = -1 ∧ getK v (kys l) = none) ∨ ∃ q : Nat, q < l.length ∧ firstK v k (kys l) = ((k + q : Nat) : Int) ∧ getK v (kys l) = some (l.getD q zf).d
  | [], k => .inl ⟨rfl, rfl⟩
  | x :: l, k => by
    simp only [kys, List.map_cons, firstK, getK, ky]
    by_cases t : x.tag = v
    · rw [if_pos t, if_pos t]
      exact .inr ⟨0, by simp, by simp, by simp⟩
    · rw [if_neg t, if_neg t]
      rcases firstK_get v l (k + 1) with h | ⟨q, h1, h2, h3⟩
      · exact .inl h
      · refine .inr ⟨q + 1, by simpa using h1, ?_, ?_⟩
        · simp only [kys] at h2; rw [h2]; congr 1; omega
        · simp only [kys] at h3; rw [h3]; simp
end Go.Proofs.YtecdagmeobiahaaDoor
