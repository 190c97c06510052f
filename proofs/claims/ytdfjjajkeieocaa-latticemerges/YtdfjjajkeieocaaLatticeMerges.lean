/-
  Proved: the statement on what lists of layer 9 come to (LatticeMerges) returns true at every input, and leaves its arguments as they were. No condition.
-/
import Derived.Test.YtdfjjajkeieocaaRows
import Derived.Test.YtdfjjajkeieocaaLatMg
import Derived.Test.YtdfjjajkeieocaaLatO
import Derived.Test.YtdfjjajkeieocaaLatFd
import Derived.Test.YtdfjjajkeieocaaRecX
import Derived.Test.YtdfjjajkeieocaaRecQ
import Derived.ShutString
import Derived.ChangeOld
namespace Go.Proofs.Ytdfjjajkeieocaa.latticeMerges
open Go.ChangeShapes Go.WideShapes Go.ChangeAt Go.RowKit
open Go.ChangeMaps (open_string shut_string)
set_option linter.unusedVariables false
set_option synthInstance.maxSize 2000
set_option linter.unusedSimpArgs false

/-- What is known of a list that came in. -/
structure Lst (w : World) (p : Option Addr) (c : Nat) (l : List Rc) : Prop where
  inn : RIn w p l
  nil : p = none → c = 0
  len : l.length ≤ 20
  few : ∀ x ∈ l, x.bag.length ≤ 40 ∧ szK (kys x.bag) ≤ 5000
theorem Lst.pt {w X : World} {p : Option Addr} {c : Nat} {l : List Rc} (h : Lst w p c l) (k : Below w.heap.size w X) : PtOk X ⟨p, c, l⟩ :=
  ⟨h.inn.below k, h.nil, by have := h.len; simp only; omega, fun x hx => by have := h.few x hx; omega⟩
theorem Lst.bags {w : World} {p : Option Addr} {c : Nat} {l : List Rc} (h : Lst w p c l) : ∀ r ∈ rks l, szK r.bag ≤ 5000 := fun r hr => by
  obtain ⟨x, hx, rfl⟩ := List.mem_map.1 hr
  exact (h.few x hx).2
theorem szs {l : List Rc} (h : ∀ r ∈ rks l, szK r.bag ≤ 5000) : ∀ x ∈ l, szK (kys x.bag) ≤ 5000 := fun x hx => h (rk x) (List.mem_map.2 ⟨x, hx, rfl⟩)

theorem firstP_there {f : Int → Bool} {l : List Rc} (h : ∃ x ∈ l, f x.id = true) : firstP f l < l.length := by
  by_cases t : firstP f l < l.length
  · exact t
  · obtain ⟨x, hx, hf⟩ := h
    have := firstP_no f l x (by rw [List.take_of_length_le (by omega)]; exact hx)
    rw [this] at hf; cases hf

/-- What is found of two lists, and of what they come to. -/
theorem find_same {r l m : List Rc} (h : Mrg (rks r) (rks l ++ (rks m ++ []))) {y : Rc} (hy : y ∈ r) : gK (rks (l ++ m)) y.id = some (rk y) := by
  have h1 := asc_get h.asc (rk y) (List.mem_map.2 ⟨y, hy, rfl⟩)
  rw [h.eq, List.append_nil] at h1
  rw [rks_append]
  exact h1
theorem found {r l m : List Rc} (h : Mrg (rks r) (rks l ++ (rks m ++ []))) {e : Rc} (he : e ∈ l ++ m) : firstP (fun i => i == e.id) r < r.length := by
  obtain ⟨s, hs, h1, _⟩ := h.over (rk e) (by
    have : rk e ∈ rks (l ++ m) := List.mem_map.2 ⟨e, he, rfl⟩
    rw [rks_append] at this
    simpa using this)
  obtain ⟨y, hy, rfl⟩ := List.mem_map.1 hs
  exact firstP_there ⟨y, hy, by show (y.id == e.id) = true; rw [beq_iff_eq]; exact h1⟩

set_option maxHeartbeats 16000000 in
set_option maxRecDepth 10000 in
theorem walk (p0 : Option Addr) (c0 : Nat) (l : List Rc) (p1 : Option Addr) (c1 : Nat) (m : List Rc) (w : World) (hlc0 : l.length ≤ c0) (hcm0 : c0 ≤ maxLen) (hp0 : p0 = none → c0 = 0) (hin0 : RIn w p0 l) (hlc1 : m.length ≤ c1) (hcm1 : c1 ≤ maxLen) (hp1 : p1 = none → c1 = 0) (hin1 : RIn w p1 m) :
    Calls Try.prog 6 #[.slice p0 l.length c0, .slice p1 m.length c1] w fun e w' => e = .returned (.bool true) ∧ Below w.heap.size w w' := by
  have AW := fun X => awake9_any X
  have n0 := Nat.le_trans hlc0 hcm0
  have F0 := lfew_any p0 c0 l w hin0 n0
  obtain ⟨f0, hf0⟩ : ∃ f, fewR (rks l) = f := ⟨_, rfl⟩
  rw [hf0] at F0
  have HF0 := Hid.mk' hf0
  have HI0 := Hid.mk' hin0
  have HP0 := Hid.mk' hp0
  have HN0 := Hid.mk' n0
  have n1 := Nat.le_trans hlc1 hcm1
  have F1 := lfew_any p1 c1 m w hin1 n1
  obtain ⟨f1, hf1⟩ : ∃ f, fewR (rks m) = f := ⟨_, rfl⟩
  rw [hf1] at F1
  have HF1 := Hid.mk' hf1
  have HI1 := Hid.mk' hin1
  have HP1 := Hid.mk' hp1
  have HN1 := Hid.mk' n1
  clear hf0 n0 hin0 hlc0 hcm0 hp0 hf1 n1 hin1 hlc1 hcm1 hp1
  go_enter Try.func6, Try.ntmps6
  go_wp2_with fail
  refine F0.mono ?_
  rintro e x0 ⟨rfl, rfl⟩
  clear F0
  cases f0
  · go_wp2_with fail
    refine (AW _).mono ?_
    rintro e xe ⟨rfl, hbe⟩
    have HBE := Hid.mk' hbe
    clear hbe
    go_wp2_with fail
    go_ret
    exact ⟨rfl, HBE.out⟩
  go_wp2_with fail
  refine F1.mono ?_
  rintro e x1 ⟨rfl, rfl⟩
  clear F1
  cases f1
  · go_wp2_with fail
    refine (AW _).mono ?_
    rintro e xe ⟨rfl, hbe⟩
    have HBE := Hid.mk' hbe
    clear hbe
    go_wp2_with fail
    go_ret
    exact ⟨rfl, HBE.out⟩
  have HL0 := Hid.mk' (show Lst w p0 c0 l from ⟨HI0.out, HP0.out, (fewR_yes HF0.out).1, (fewR_yes HF0.out).2⟩)
  have S0 := fun X (h : Below w.heap.size w X) => sorted_any p0 c0 l X (HI0.out.below h) HN0.out (fun x hx => by have := (HL0.out.few x hx).2; omega)
  obtain ⟨s0, hs0⟩ : ∃ s, sortR (-1) (rks l) = s := ⟨_, rfl⟩
  rw [hs0] at S0
  have HS0 := Hid.mk' hs0
  have HL1 := Hid.mk' (show Lst w p1 c1 m from ⟨HI1.out, HP1.out, (fewR_yes HF1.out).1, (fewR_yes HF1.out).2⟩)
  have S1 := fun X (h : Below w.heap.size w X) => sorted_any p1 c1 m X (HI1.out.below h) HN1.out (fun x hx => by have := (HL1.out.few x hx).2; omega)
  obtain ⟨s1, hs1⟩ : ∃ s, sortR (-1) (rks m) = s := ⟨_, rfl⟩
  rw [hs1] at S1
  have HS1 := Hid.mk' hs1
  have HAS := Hid.mk' (show allSorted [⟨p0, c0, l⟩, ⟨p1, c1, m⟩] = (s0 && s1) by simp only [allSorted, List.all_cons, List.all_nil, hs0, hs1, Bool.and_true])
  clear hs0 hs1 HF0 HF1 HI0 HI1 HP0 HP1
  have M := mergeS [⟨p0, c0, l⟩, ⟨p1, c1, m⟩] w (by
    intro q hq
    simp only [List.mem_cons, List.not_mem_nil, or_false] at hq
    rcases hq with rfl | rfl
    · exact HL0.out.pt (Below.refl _ _)
    · exact HL1.out.pt (Below.refl _ _)) (by simp) rfl 2 rfl
  simp only [List.map_cons, List.map_nil] at M
  go_wp2_with fail
  refine M.mono ?_
  clear M
  rintro e mw ⟨hc, hb⟩
  rw [HAS.out] at hc
  have hba := (Below.refl w.heap.size w).alloc (Nat.le_refl _) (.cells #[.slice p0 l.length c0, .slice p1 m.length c1] 22)
  have HBM := Hid.mk' (hba.trans (hb.mono (by simp)))
  clear hba hb
  cases s0
  · simp only [Bool.false_and, Bool.false_eq_true, if_false] at hc
    subst hc
    go_wp2_with fail
    refine (S0 _ HBM.out).mono ?_
    rintro e y0 ⟨rfl, hb⟩
    have HB1 := Hid.mk' (HBM.out.trans (hb.mono HBM.out.size))
    clear hb S0 S1 HBM
    go_wp2_with fail
    refine (AW _).mono ?_
    rintro e xe ⟨rfl, hbe⟩
    have HBE := Hid.mk' (HB1.out.trans (hbe.mono HB1.out.size))
    clear hbe
    go_wp2_with fail
    go_ret
    exact ⟨rfl, HBE.out⟩
  cases s1
  · simp only [Bool.true_and, Bool.false_eq_true, if_false] at hc
    subst hc
    go_wp2_with fail
    refine (S0 _ HBM.out).mono ?_
    rintro e y0 ⟨rfl, hb⟩
    have HB1 := Hid.mk' (HBM.out.trans (hb.mono HBM.out.size))
    clear hb S0 HBM
    go_wp2_with fail
    refine (S1 _ HB1.out).mono ?_
    rintro e y1 ⟨rfl, hb⟩
    have HB2 := Hid.mk' (HB1.out.trans (hb.mono HB1.out.size))
    clear hb S1 HB1
    go_wp2_with fail
    refine (AW _).mono ?_
    rintro e xe ⟨rfl, hbe⟩
    have HBE := Hid.mk' (HB2.out.trans (hbe.mono HB2.out.size))
    clear hbe
    go_wp2_with fail
    go_ret
    exact ⟨rfl, HBE.out⟩
  simp only [Bool.true_and, if_true] at hc
  obtain ⟨q, cap, r, rfl, hin, hasc, heq, hlen, hfw, hnil⟩ := hc
  have HMG := Hid.mk' (show Mrg (rks r) (rks l ++ (rks m ++ [])) from ⟨hasc, fun x => by rw [heq x]; simp only [allR, List.flatMap_cons, List.flatMap_nil, rks_append]; rfl⟩)
  have HIN := Hid.mk' hin
  have HFW := Hid.mk' hfw
  have hr40 : r.length ≤ 40 := by have h0 := HL0.out.len; have h1 := HL1.out.len; simp only [allR, List.flatMap_cons, List.flatMap_nil, List.length_append, List.length_nil] at hlen; omega
  have HL0s := Hid.mk' (sortR_asc HS0.out)
  have HL1s := Hid.mk' (sortR_asc HS1.out)
  have HYM := Hid.mk' (show ∀ r ∈ rks l ++ (rks m ++ []), (mayR r = true ∧ -1 < r.id) ∧ szK r.bag ≤ 5000 from fun r hr => by
    simp only [List.mem_append, List.not_mem_nil, or_false] at hr
    rcases hr with hr | hr
    · exact ⟨HL0s.out.2 r hr, HL0.out.bags r hr⟩
    · exact ⟨HL1s.out.2 r hr, HL1.out.bags r hr⟩)
  have HYS := Hid.mk' (HMG.out.sorted (fun r hr => (HYM.out r hr).1))
  have HYB := Hid.mk' (szs (HMG.out.bags (fun r hr => (HYM.out r hr).2)))
  clear hin hasc heq hlen hfw hnil HYM HL0s HL1s HAS HS0 HS1
  have hl20 := HL0.out.len
  have hm20 := HL1.out.len
  go_wp2_with fail
  refine (S0 _ HBM.out).mono ?_
  rintro e y0 ⟨rfl, hb⟩
  have HB1 := Hid.mk' hb
  clear hb S0
  go_wp2_with fail
  refine (S1 _ (HBM.out.trans (HB1.out.mono HBM.out.size))).mono ?_
  rintro e y1 ⟨rfl, hb⟩
  have HB2 := Hid.mk' (HB1.out.trans (hb.mono HB1.out.size))
  clear hb S1 HB1
  have S2 := sorted_any q cap r y1 (HIN.out.below HB2.out) (by unfold maxLen; omega) (fun x hx => by have := HYB.out x hx; omega)
  rw [HYS.out] at S2
  go_wp2_with fail
  refine S2.mono ?_
  rintro e y2 ⟨rfl, hb⟩
  have HB3 := Hid.mk' (HB2.out.trans (hb.mono HB2.out.size))
  clear hb S2 HB2 HYS HYB
  go_wp2_with fail
  go_loopw [7] (fun i W => ∃ k : Nat, k ≤ r.length ∧ i = .int .i64 k ∧ Hid (Below mw.heap.size mw W)) (fun i _ => r.length - (intOf i).toNat)
  case atStart => exact ⟨0, by omega, rfl, HB3⟩
  case round =>
    obtain ⟨k, hk, rfl, HB⟩ := hrel
    clear HB3
    by_cases t : k < r.length
    · have hymem : r.getD k zr ∈ r := by simp [List.getD, t]
      obtain ⟨b, o, rfl, hc⟩ := (HIN.out.below HB.out).at (by omega)
      obtain ⟨hx, hok⟩ := hc k t
      have HGE := Hid.mk' (find_same HMG.out hymem)
      generalize r.getD k zr = y at hx hok HGE
      have HXA := Hid.mk' (show ∀ X, Below wr.heap.size wr X → RAt X b (o + k * 7) y ∧ ROk X y from fun X h => ⟨hx.below h, hok.below h⟩)
      have HBW := Hid.mk' (HBM.out.trans (HB.out.mono HBM.out.size))
      have FI := lfind_any p0 c0 l p1 c1 m y.id wr (HL0.out.inn.below HBW.out) (HL1.out.inn.below HBW.out) (by omega) (by omega)
      rw [HGE.out] at FI
      obtain ⟨e0, e1, e2, e3, e4, e5, e6⟩ := hx
      clear hc hok hymem
      go_wp2_with fail
      refine FI.mono ?_
      clear FI e0 e1 e2 e3 e4 e5 e6
      rintro e wf ⟨r', ok, rfl, hor, hro, hb⟩
      cases ok
      · cases hor
      · have HRK := Hid.mk' (show rk y = rk r' from by have h : some (rk y) = some (rk r') := hor; exact Option.some.inj h)
        have HRO := Hid.mk' hro
        have hba := (Below.refl wf.heap.size wf).alloc (Nat.le_refl _) (.cells #[.int .i64 r'.id, .int .i64 r'.inc, .int .i64 r'.st, .int .i64 r'.lo, .int .i64 r'.hi, .bool r'.cut, .slice r'.p r'.bag.length r'.cap] 27)
        have HB2 := Hid.mk' (hb.trans (hba.mono hb.size))
        have HXR := Hid.mk' (Bx.new wf r')
        have HSX := Hid.mk' (show ∀ X, Below mw.heap.size mw X → Below wr.heap.size wr X → Bx X wf.heap.size r' → X.cell? ⟨b, o + k * 7, none⟩ = some (.int .i64 y.id) ∧ X.cell? ⟨b, o + k * 7 + 1, none⟩ = some (.int .i64 y.inc) ∧ X.cell? ⟨b, o + k * 7 + 2, none⟩ = some (.int .i64 y.st) ∧ X.cell? ⟨b, o + k * 7 + 3, none⟩ = some (.int .i64 y.lo) ∧ X.cell? ⟨b, o + k * 7 + 4, none⟩ = some (.int .i64 y.hi) ∧ X.cell? ⟨b, o + k * 7 + 5, none⟩ = some (.bool y.cut) ∧ X.cell? ⟨b, o + k * 7 + 6, none⟩ = some (.slice y.p y.bag.length y.cap) ∧ X.cell? ⟨wf.heap.size, 0, none⟩ = some (.int .i64 r'.id) ∧ X.cell? ⟨wf.heap.size, 1, none⟩ = some (.int .i64 r'.inc) ∧ X.cell? ⟨wf.heap.size, 2, none⟩ = some (.int .i64 r'.st) ∧ X.cell? ⟨wf.heap.size, 3, none⟩ = some (.int .i64 r'.lo) ∧ X.cell? ⟨wf.heap.size, 4, none⟩ = some (.int .i64 r'.hi) ∧ X.cell? ⟨wf.heap.size, 5, none⟩ = some (.bool r'.cut) ∧ X.cell? ⟨wf.heap.size, 6, none⟩ = some (.slice r'.p r'.bag.length r'.cap) ∧ Hid (Below mw.heap.size mw X) ∧ Hid (Below wr.heap.size wr X) ∧ Hid (Bx X wf.heap.size r') from fun X h1 h2 h3 => by
          obtain ⟨e0, e1, e2, e3, e4, e5, e6⟩ := (HXA.out X h2).1
          obtain ⟨g0, g1, g2, g3, g4, g5, g6⟩ := h3.cells
          exact ⟨e0, e1, e2, e3, e4, e5, e6, g0, g1, g2, g3, g4, g5, g6, h1, h2, h3⟩)
        have AL := fun X (h2 : Below wr.heap.size wr X) => lalike_any y r' X (HXA.out X h2).2 (HRO.out.below h2)
        rw [decide_eq_true HRK.out] at AL
        have hS0 := HSX.out _ (HB.out.trans (HB2.out.mono HB.out.size)).drew HB2.out.drew (HXR.out.on (Below.refl _ _).drew)
        clear hor hro hb hba HRK HGE HXR HBW
        go_wp2_with fail
        refine wp_region_held_drew (S := fun X => X.cell? ⟨b, o + k * 7, none⟩ = some (.int .i64 y.id) ∧ X.cell? ⟨b, o + k * 7 + 1, none⟩ = some (.int .i64 y.inc) ∧ X.cell? ⟨b, o + k * 7 + 2, none⟩ = some (.int .i64 y.st) ∧ X.cell? ⟨b, o + k * 7 + 3, none⟩ = some (.int .i64 y.lo) ∧ X.cell? ⟨b, o + k * 7 + 4, none⟩ = some (.int .i64 y.hi) ∧ X.cell? ⟨b, o + k * 7 + 5, none⟩ = some (.bool y.cut) ∧ X.cell? ⟨b, o + k * 7 + 6, none⟩ = some (.slice y.p y.bag.length y.cap) ∧ X.cell? ⟨wf.heap.size, 0, none⟩ = some (.int .i64 r'.id) ∧ X.cell? ⟨wf.heap.size, 1, none⟩ = some (.int .i64 r'.inc) ∧ X.cell? ⟨wf.heap.size, 2, none⟩ = some (.int .i64 r'.st) ∧ X.cell? ⟨wf.heap.size, 3, none⟩ = some (.int .i64 r'.lo) ∧ X.cell? ⟨wf.heap.size, 4, none⟩ = some (.int .i64 r'.hi) ∧ X.cell? ⟨wf.heap.size, 5, none⟩ = some (.bool r'.cut) ∧ X.cell? ⟨wf.heap.size, 6, none⟩ = some (.slice r'.p r'.bag.length r'.cap) ∧ Hid (Below mw.heap.size mw X) ∧ Hid (Below wr.heap.size wr X) ∧ Hid (Bx X wf.heap.size r')) (by kernel_rfl) hS0 (fun hS => ?_)
        clear hS0
        generalize (wf.alloc (.cells #[.int .i64 r'.id, .int .i64 r'.inc, .int .i64 r'.st, .int .i64 r'.lo, .int .i64 r'.hi, .bool r'.cut, .slice r'.p r'.bag.length r'.cap] 27)).drew = wd at hS ⊢
        refine wpAnyH_take (i := 0) (v := ?v0_65) rfl (by kernel_rfl) (by kernel_rfl) (by kernel_rfl) (fun _ _ _ h => h) (Or.inl ⟨by rfl, ?hy0_65⟩) (by assumption) ?rest0_65
        case hy0_65 => (intro w hSw; (try dsimp only at hSw); go_simp; try (with_reducible rfl))
        simp only [Act.put, List.getElem_toArray, List.getElem_cons_zero, List.getElem_cons_succ, List.setIfInBounds_toArray, List.set_cons_zero, List.set_cons_succ]
        refine wpAnyH_take (i := 1) (v := ?v1_66) rfl (by kernel_rfl) (by kernel_rfl) (by kernel_rfl) (fun _ _ _ h => h) (Or.inl ⟨by rfl, ?hy1_66⟩) (by assumption) ?rest1_66
        case hy1_66 => (intro w hSw; (try dsimp only at hSw); go_simp; try (with_reducible rfl))
        simp only [Act.put, List.getElem_toArray, List.getElem_cons_zero, List.getElem_cons_succ, List.setIfInBounds_toArray, List.set_cons_zero, List.set_cons_succ]
        refine wpAnyH_take (i := 2) (v := ?v2_67) rfl (by kernel_rfl) (by kernel_rfl) (by kernel_rfl) (fun _ _ _ h => h) (Or.inl ⟨by rfl, ?hy2_67⟩) (by assumption) ?rest2_67
        case hy2_67 => (intro w hSw; (try dsimp only at hSw); go_simp; try (with_reducible rfl))
        simp only [Act.put, List.getElem_toArray, List.getElem_cons_zero, List.getElem_cons_succ, List.setIfInBounds_toArray, List.set_cons_zero, List.set_cons_succ]
        refine wpAnyH_take (i := 3) (v := ?v3_68) rfl (by kernel_rfl) (by kernel_rfl) (by kernel_rfl) (fun _ _ _ h => h) (Or.inl ⟨by rfl, ?hy3_68⟩) (by assumption) ?rest3_68
        case hy3_68 => (intro w hSw; (try dsimp only at hSw); go_simp; try (with_reducible rfl))
        simp only [Act.put, List.getElem_toArray, List.getElem_cons_zero, List.getElem_cons_succ, List.setIfInBounds_toArray, List.set_cons_zero, List.set_cons_succ]
        refine wpAnyH_take (i := 4) (v := ?v4_69) rfl (by kernel_rfl) (by kernel_rfl) (by kernel_rfl) (fun _ _ _ h => h) (Or.inl ⟨by rfl, ?hy4_69⟩) (by assumption) ?rest4_69
        case hy4_69 => (intro w hSw; (try dsimp only at hSw); go_simp; try (with_reducible rfl))
        simp only [Act.put, List.getElem_toArray, List.getElem_cons_zero, List.getElem_cons_succ, List.setIfInBounds_toArray, List.set_cons_zero, List.set_cons_succ]
        refine wpAnyH_take (i := 5) (v := ?v5_70) rfl (by kernel_rfl) (by kernel_rfl) (by kernel_rfl) (fun _ _ _ h => h) (Or.inl ⟨by rfl, ?hy5_70⟩) (by assumption) ?rest5_70
        case hy5_70 => (intro w hSw; (try dsimp only at hSw); go_simp; try (with_reducible rfl))
        simp only [Act.put, List.getElem_toArray, List.getElem_cons_zero, List.getElem_cons_succ, List.setIfInBounds_toArray, List.set_cons_zero, List.set_cons_succ]
        refine wpAnyH_take (i := 6) (v := ?v6_71) rfl (by kernel_rfl) (by kernel_rfl) (by kernel_rfl) (fun _ _ _ h => h) (Or.inl ⟨by rfl, ?hy6_71⟩) (by assumption) ?rest6_71
        case hy6_71 => (intro w hSw; (try dsimp only at hSw); go_simp; try (with_reducible rfl))
        simp only [Act.put, List.getElem_toArray, List.getElem_cons_zero, List.getElem_cons_succ, List.setIfInBounds_toArray, List.set_cons_zero, List.set_cons_succ]
        refine wpAnyH_take (i := 7) (v := ?v7_72) rfl (by kernel_rfl) (by kernel_rfl) (by kernel_rfl) (fun _ _ _ h => h) (Or.inl ⟨by rfl, ?hy7_72⟩) (by assumption) ?rest7_72
        case hy7_72 => (intro w hSw; (try dsimp only at hSw); go_simp; try (with_reducible rfl))
        simp only [Act.put, List.getElem_toArray, List.getElem_cons_zero, List.getElem_cons_succ, List.setIfInBounds_toArray, List.set_cons_zero, List.set_cons_succ]
        refine wpAnyH_ready (rs := [8]) (by kernel_rfl) (by simp) ?_
        refine (AllReadyH.cons rfl (fun K hK => ?_) AllReadyH.nil)
        go_simp
        refine (AL _ (hS.2.2.2.2.2.2.2.2.2.2.2.2.2.2.2.1.out)).mono ?_
        rintro e w3 ⟨rfl, hb3⟩
        have hI3 := HSX.out _ ((hS.2.2.2.2.2.2.2.2.2.2.2.2.2.2.1.out).trans (hb3.mono (hS.2.2.2.2.2.2.2.2.2.2.2.2.2.2.1.out).size)) ((hS.2.2.2.2.2.2.2.2.2.2.2.2.2.2.2.1.out).trans (hb3.mono (hS.2.2.2.2.2.2.2.2.2.2.2.2.2.2.2.1.out).size)) ((hS.2.2.2.2.2.2.2.2.2.2.2.2.2.2.2.2.out).on hb3)
        clear hb3
        go_wp2_with fail
        refine hK.out _ _ ?_ (fun hS' => ?_)
        · exact hI3
        clear hK K
        try simp only [Act.put, List.getElem_toArray, List.getElem_cons_zero, List.getElem_cons_succ, List.setIfInBounds_toArray, List.set_cons_zero, List.set_cons_succ]
        replace hS := hS'
        clear hS'
        refine wpAnyH_take (i := 9) (v := ?v9_73) rfl (by kernel_rfl) (by kernel_rfl) (by kernel_rfl) (fun _ _ _ h => h) (Or.inl ⟨by rfl, ?hy9_73⟩) (by assumption) ?rest9_73
        case hy9_73 => (intro w hSw; (try dsimp only at hSw); go_simp; try (with_reducible rfl))
        simp only [Act.put, List.getElem_toArray, List.getElem_cons_zero, List.getElem_cons_succ, List.setIfInBounds_toArray, List.set_cons_zero, List.set_cons_succ]
        refine wpAnyH_take (i := 10) (v := ?v10_74) rfl (by kernel_rfl) (by kernel_rfl) (by kernel_rfl) (fun _ _ _ h => h) (Or.inl ⟨by rfl, ?hy10_74⟩) (by assumption) ?rest10_74
        case hy10_74 => (intro w hSw; (try dsimp only at hSw); go_simp; try (with_reducible rfl))
        simp only [Act.put, List.getElem_toArray, List.getElem_cons_zero, List.getElem_cons_succ, List.setIfInBounds_toArray, List.set_cons_zero, List.set_cons_succ]
        refine wpAnyH_done (by kernel_rfl) ?_ _
        go_wp2_with fail
        go_roundw
        case rel => exact ⟨k + 1, by omega, by go_num, hS.2.2.2.2.2.2.2.2.2.2.2.2.2.2.1.out⟩
        case measure => simp [intOf]; omega
    · obtain rfl : k = r.length := by omega
      have hsum : IntKind.i64.wrap ((l.length : Int) + (m.length : Int)) = (l.length : Int) + (m.length : Int) := by rw [IntKind.wrap_i64]; omega
      have HLA := Hid.mk' (show (l ++ m).length = l.length + m.length by simp)
      clear t hk
      go_wp2_with fail
      go_loopw [10] (fun i W => ∃ k : Nat, k ≤ l.length + m.length ∧ i = .int .i64 k ∧ Hid (Below mw.heap.size mw W)) (fun i _ => l.length + m.length - (intOf i).toNat)
      case atStart => exact ⟨0, by omega, rfl, HB⟩
      case round =>
        obtain ⟨k, hk, rfl, HC⟩ := hrel
        clear HB
        by_cases t : k < l.length + m.length
        · have ti : (k : Int) < (l.length : Int) + (m.length : Int) := by omega
          have td : decide ((k : Int) < (l.length : Int) + (m.length : Int)) = true := by simpa using ti
          have hemem : (l ++ m).getD k zr ∈ l ++ m := by
            have h := List.getElem_mem (show k < (l ++ m).length by rw [HLA.out]; exact t)
            rwa [show (l ++ m)[k]'(by rw [HLA.out]; exact t) = (l ++ m).getD k zr by rw [List.getD, List.getElem?_eq_getElem (by rw [HLA.out]; exact t)]; rfl] at h
          have HFD := Hid.mk' (found HMG.out hemem)
          obtain ⟨ee, he⟩ : ∃ e, (l ++ m).getD k zr = e := ⟨_, rfl⟩
          rw [he] at HFD
          have HBW := Hid.mk' (HBM.out.trans (HC.out.mono HBM.out.size))
          obtain ⟨bq, hbq⟩ : ∃ bq, decide (k < l.length) = bq := ⟨_, rfl⟩
          have HBQ := Hid.mk' hbq
          clear hemem
          go_upto_if 95 with fail
          clear hbq
          go_cut [11] (fun t wx => t = .int .i64 ee.id ∧ wx = wr)
          case first =>
            cases bq
            · have t1 : ¬ k < l.length := by have h := HBQ.out; simp at h; omega
              obtain ⟨j, hj⟩ : ∃ j, k = l.length + j := ⟨k - l.length, by omega⟩
              have s9 : IntKind.i64.wrap ((k : Int) - (l.length : Int)) = (j : Int) := by rw [IntKind.wrap_i64]; omega
              have hjl : j < m.length := by omega
              obtain ⟨b, o, rfl, hc⟩ := (HL1.out.inn.below HBW.out).at (by omega)
              obtain ⟨hx, _⟩ := hc j hjl
              rw [show m.getD j zr = ee by rw [← he, rapp_right _ _ _ t1, show k - l.length = j by omega]] at hx
              obtain ⟨e0, _, _, _, _, _, _⟩ := hx
              clear hc he hj t1
              go_wp2_with fail
              go_meet
              exact ⟨rfl, rfl⟩
            · have t1 : k < l.length := by have h := HBQ.out; simp at h; omega
              obtain ⟨b, o, rfl, hc⟩ := (HL0.out.inn.below HBW.out).at (by omega)
              obtain ⟨hx, _⟩ := hc k t1
              rw [show l.getD k zr = ee by rw [← he, rapp_left _ _ _ t1]] at hx
              obtain ⟨e0, _, _, _, _, _, _⟩ := hx
              clear hc he
              go_wp2_with fail
              go_meet
              exact ⟨rfl, rfl⟩
          case rest =>
          obtain ⟨rfl, rfl⟩ := hcut
          have FI := find_any q cap r ee.id _ (HIN.out.below HC.out) (by unfold maxLen; omega) HFW.out
          clear he HBW
          go_wp2_with fail
          refine FI.mono ?_
          clear FI
          rintro e w2 ⟨hf, hb⟩
          rw [if_pos HFD.out] at hf
          obtain ⟨r', rfl, _, _⟩ := hf
          have HC2 := Hid.mk' (HC.out.trans (hb.mono HC.out.size))
          have HC3 := Hid.mk' (HC2.out.alloc HC2.out.size (.cells #[.int .i64 r'.id, .int .i64 r'.inc, .int .i64 r'.st, .int .i64 r'.lo, .int .i64 r'.hi, .bool r'.cut, .slice r'.p r'.bag.length r'.cap] 27))
          clear hb HFD
          go_wp2_with fail
          go_roundw
          case rel => exact ⟨k + 1, by omega, by go_num, HC3⟩
          case measure => simp [intOf]; omega
        · have ti : ¬ (k : Int) < (l.length : Int) + (m.length : Int) := by omega
          have td : decide ((k : Int) < (l.length : Int) + (m.length : Int)) = false := by simpa using ti
          have HBW := Hid.mk' (HBM.out.trans (HC.out.mono HBM.out.size))
          clear ti
          go_wp2_with fail
          refine (AW _).mono ?_
          rintro e xe ⟨rfl, hbe⟩
          have HBE := Hid.mk' (HBW.out.trans (hbe.mono HBW.out.size))
          clear hbe
          go_wp2_with fail
          go_ret
          exact ⟨rfl, HBE.out⟩

theorem own : ownKnob Try.prog.godebug = none := by kernel_rfl
theorem laidOut : laidOutB Try.prog = true := by kernel_rfl

set_option maxRecDepth 100000 in
theorem lifted (os : Os) (started : os.Started) (H : Type) (enc : TypeId × Value → H) :
    ReturnsInHanded {} Try.checked os 6 .any (Rows.latticeMergesSpec.pre6 enc Try.prog Try.f6 Rows.latticeMergesRow.domain false) (Rows.latticeMergesSpec.post enc Try.prog Try.f6 false true false false) := by
  refine returnsInHanded_of_change_sized (C := Try.checked) own started (by kernel_rfl) Try.func6
    (ChangeSpec.witness6 (enc := enc) (C := Try.checked) false ⟨#[], #[.slice none 0 0, .slice none 0 0], []⟩ 8 (by kernel_rfl) (by kernel_rfl) (by kernel_rfl) (by kernel_rfl)) ?_
  intro W base args ds gs before hval0 hW hcnd hsz0 _
  have hz : ∀ (j : Nat) t d, Try.f6.params.toList[j]? = some t → ds[j]? = some d → ∀ n ∈ d.weights Try.prog t, n ≤ reachBytes := fun j t d ht hd n hn => by
    have := List.all_eq_true.1 hsz0 n (DataW.weights_mem_each (j := j) (t := t) (d := d) (by rw [List.getElem?_append_left (List.getElem?_eq_some_iff.1 ht).1]; exact ht) (by rw [List.getElem?_append_left (List.getElem?_eq_some_iff.1 hd).1]; exact hd) n hn)
    simpa using this
  have hval : ∀ (j : Nat) t v, Try.f6.params[j]? = some t → args[j]? = some v → Value.okWide Try.prog W .any base t v := hval0
  have hW' := hW
  obtain ⟨p, q, hA0, hV, rfl, hfz, hnd⟩ := hW
  have hA : DataW.TrodAll enc Try.prog W 0 (fun _ => true) true Try.f6.params.toList args.toList ds p := hA0
  rw [Try.params6] at hA hval hz
  obtain ⟨v0, vs0, d0, ds0, p0x, q0, hargs, rfl, rfl, h0, r0⟩ := trodAll_cons hA
  obtain ⟨v1, vs1, d1, ds1, p1x, q1, rfl, rfl, rfl, h1, r1⟩ := trodAll_cons r0
  obtain ⟨rfl, rfl, rfl⟩ := trodAll_nil r1
  obtain rfl : args = #[v0, v1] := by cases args; simp_all
  obtain ⟨rfl, rfl⟩ := trodVars_none hV
  obtain ⟨p0, len0, c0, rfl⟩ := okWide_slice Try.underlying22 (hval 0 22 v0 rfl rfl)
  have k0 := h0
  have lt0 : ∀ x ∈ p0x, x.block < W.heap.size := by obtain ⟨m, hm⟩ := k0; exact DataW.trod_lt m _ _ _ hm
  obtain ⟨l0, rfl, hlc0, hcm0, hp0, hin0⟩ : ∃ l : List Rc, l.length = len0 ∧ len0 ≤ c0 ∧ c0 ≤ maxLen ∧ (p0 = none → c0 = 0) ∧ LIn W p0 7 shRc l := by
    haveI : Inhabited Rc := ⟨zr⟩
    obtain ⟨fuel, hf⟩ := h0
    obtain ⟨l, p, c, hcs, hl1, hl2, hl3, _, hl4⟩ := opensZ_slice (size := 7) (bytes := 72) Try.underlying22 (by kernel_rfl) (by kernel_rfl) (by decide) opensZ_rc _ _ _ hf (hz 0 22 d0 rfl rfl)
    simp [Value.cells] at hcs
    obtain ⟨rfl, rfl, rfl⟩ := hcs
    exact ⟨l, rfl, hl1, hl2, hl3, hl4⟩
  obtain ⟨p1, len1, c1, rfl⟩ := okWide_slice Try.underlying22 (hval 1 22 v1 rfl rfl)
  have k1 := h1
  have lt1 : ∀ x ∈ p1x, x.block < W.heap.size := by obtain ⟨m, hm⟩ := k1; exact DataW.trod_lt m _ _ _ hm
  obtain ⟨l1, rfl, hlc1, hcm1, hp1, hin1⟩ : ∃ l : List Rc, l.length = len1 ∧ len1 ≤ c1 ∧ c1 ≤ maxLen ∧ (p1 = none → c1 = 0) ∧ LIn W p1 7 shRc l := by
    haveI : Inhabited Rc := ⟨zr⟩
    obtain ⟨fuel, hf⟩ := h1
    obtain ⟨l, p, c, hcs, hl1, hl2, hl3, _, hl4⟩ := opensZ_slice (size := 7) (bytes := 72) Try.underlying22 (by kernel_rfl) (by kernel_rfl) (by decide) opensZ_rc _ _ _ hf (hz 1 22 d1 rfl rfl)
    simp [Value.cells] at hcs
    obtain ⟨rfl, rfl, rfl⟩ := hcs
    exact ⟨l, rfl, hl1, hl2, hl3, hl4⟩
  clear hA0 hval0
  refine (walk p0 c0 l0 p1 c1 l1 W hlc0 hcm0 hp0 hin0 hlc1 hcm1 hp1 hin1).mono fun e W' ⟨he, bel⟩ => ?_
  subst he
  exact ⟨_, rfl, _, _, _, [], _, [], hW', trodAll_mk1 (shut_bool Try.underlying4 _), (trodAll_cons_mk (Below.trod laidOut (by kernel_rfl) (of_decide_eq_true (by kernel_rfl)) k0 bel lt0) (trodAll_cons_mk (Below.trod laidOut (by kernel_rfl) (of_decide_eq_true (by kernel_rfl)) k1 bel lt1) trodAll_mk0)), rfl, bel.frame _, fun h => by cases h⟩

theorem over : Rows.latticeMergesRow.holds Try.pinned (OpenSpec.ofChange Rows.latticeMergesSpec) :=
  OpenClaim.holds_of_wide 6 Try.f6 rfl rfl rfl rfl rfl rfl rfl ⟨rfl, rfl, rfl, rfl, rfl⟩ rfl rfl rfl rfl rfl (by kernel_rfl) Try.func6 (by kernel_rfl)
    (of_decide_eq_true (by kernel_rfl)) (by unfold Func.isWrapper; first | (rw [if_pos (by decide +kernel)]; kernel_rfl) | (rw [if_neg (by decide +kernel)]; exact ⟨rfl, rfl⟩))
    (fun os started H enc _ => lifted os started H enc)

/-- The given statement. -/
theorem proved : Rows.LatticeMergesSaid := over
#print axioms proved
end Go.Proofs.Ytdfjjajkeieocaa.latticeMerges
