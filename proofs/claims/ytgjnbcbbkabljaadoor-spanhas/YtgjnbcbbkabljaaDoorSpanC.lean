/-
  Package span: Common, Meet, Best; the statements' own 'in'.
-/
import Derived.Test.YtgjnbcbbkabljaaDoorSpan
namespace Go.Proofs.YtgjnbcbbkabljaaDoor
open Go.RowKit
set_option linter.unusedSimpArgs false
set_option linter.unusedVariables false

theorem bcell {W w1 : World} (hb : Below W.heap.size W w1) : (∀ b o, b < W.heap.size → w1.cell? ⟨b, o, none⟩ = W.cell? ⟨b, o, none⟩) ∧ (∀ b o, b < W.heap.size → w1.frozen? ⟨b, o, none⟩ = W.frozen? ⟨b, o, none⟩) :=
  ⟨fun b o h => hb.cell (p := ⟨b, o, none⟩) h, fun b o h => hb.frozen (p := ⟨b, o, none⟩) h⟩

/-- Spans in a slice. -/
abbrev SIn (w : World) (p : Option Addr) (l : List (Int × Int)) : Prop := LIn w p 2 (shTwo (shInt .i64) (shInt .i64)) l

theorem SIn.at {w : World} {p : Option Addr} {l : List (Int × Int)} (h : SIn w p l) (hl : 0 < l.length) : ∃ b o, p = some ⟨b, o, none⟩ ∧ ∀ i, i < l.length → w.cell? ⟨b, o + i * 2, none⟩ = some (.int .i64 (l.getD i (0, 0)).1) ∧ w.cell? ⟨b, o + i * 2 + 1, none⟩ = some (.int .i64 (l.getD i (0, 0)).2) := by
  obtain ⟨b, o, rfl, hc⟩ := h hl
  refine ⟨b, o, rfl, fun i hi => ?_⟩
  obtain ⟨cs, _, h1, a, c, rfl, ⟨rfl, _⟩, ⟨rfl, _⟩⟩ := hc i hi
  have h0 := h1 0 (by omega)
  have h2 := h1 1 (by omega)
  simp [List.getD, hi] at h0 h2 ⊢
  exact ⟨h0, h2⟩

/-- What is in all of them. -/
def com (l : List (Int × Int)) : Int × Int := l.foldl nar (1, 3)

/-- While it is made: the result's place, what is left so far, and all that is old. -/
structure InC (w W : World) (x : Int × Int) : Prop where
  res : W.heap[w.heap.size]? = some (.cells #[.int .i64 0, .int .i64 0] 23 (0, 0))
  cur : W.heap[w.heap.size + 1]? = some (.cells #[.int .i64 x.1, .int .i64 x.2] 23 (0, 0))
  below : Below w.heap.size w W

theorem InC.lt {w W : World} {x : Int × Int} (h : InC w W x) : w.heap.size + 1 < W.heap.size := (Array.getElem?_eq_some_iff.1 h.cur).1

theorem InC.on {w W W' : World} {x : Int × Int} (h : InC w W x) (k : Below W.heap.size W W') : InC w W' x :=
  ⟨by rw [k.block _ (by have := h.lt; omega)]; exact h.res, by rw [k.block _ h.lt]; exact h.cur, h.below.trans (k.mono h.below.size)⟩

theorem InC.set {w W : World} {x : Int × Int} (h : InC w W x) (y : Int × Int) : InC w ((W.setCell ⟨w.heap.size + 1, 0, none⟩ (.int .i64 y.1)).setCell ⟨w.heap.size + 1, 1, none⟩ (.int .i64 y.2)) y :=
  ⟨by rw [Below.heap_setCell _ _ _ _ (by simp), Below.heap_setCell _ _ _ _ (by simp)]; exact h.res, set_second (set_first h.cur _) _, (h.below.setCell (by simp) _).setCell (by simp) _⟩

theorem com_next (l : List (Int × Int)) (k : Nat) (h : k < l.length) : com (l.take (k + 1)) = nar (com (l.take k)) (l.getD k (0, 0)) := by
  rw [List.take_succ_eq_append_getElem h, com, List.foldl_append]
  simp [com, List.getD, h]

theorem SIn.below {w w' : World} {p : Option Addr} {l : List (Int × Int)} (h : SIn w p l) (k : Below w.heap.size w w') : SIn w' p l := fun hl => by
  obtain ⟨b, o, rfl, hc⟩ := h hl
  have hlt : b < w.heap.size := by
    obtain ⟨cs, h0, h1, a, c, rfl, ⟨rfl, _⟩, ⟨rfl, _⟩⟩ := hc 0 hl
    exact lt_of_cell (p := ⟨b, o + 0 * 2 + 0, none⟩) (v := .int .i64 l[0].1) (by rw [h1 0 (by omega)]; rfl)
  refine ⟨b, o, rfl, fun i hi => ?_⟩
  obtain ⟨cs, h0, h1, a, c, rfl, ⟨rfl, ha⟩, ⟨rfl, hc⟩⟩ := hc i hi
  exact ⟨_, h0, fun j hj => by rw [k.cell (p := ⟨b, o + i * 2 + j, none⟩) hlt]; exact h1 j hj, _, _, rfl, ⟨rfl, ha⟩, ⟨rfl, hc⟩⟩

set_option maxHeartbeats 1600000 in
theorem common_any (p : Option Addr) (c : Nat) (l : List (Int × Int)) (w : World) (hp : SIn w p l) (hn : l.length ≤ 140737488355328) :
    Calls Tryd.prog 17 #[.slice p l.length c] w fun e w' => e = .returned (.tuple #[.agg #[.int .i64 (com l).1, .int .i64 (com l).2], .bool (com l != (0, 0))]) ∧ Below w.heap.size w w' := by
  go_enter Tryd.func17, Tryd.ntmps17
  go_wp2
  go_loopw [10] (fun i W => ∃ k : Nat, k ≤ l.length ∧ i = .int .i64 k ∧ Hid (InC w W (com (l.take k)))) (fun i _ => l.length - (intOf i).toNat)
  case atStart =>
    refine ⟨0, by omega, rfl, ?_, ?_, ?_⟩
    · rw [heap_alloc_old _ _ (by simp)]; exact heap_alloc_new _ _
    · have := heap_alloc_new (w.alloc (.cells #[.int .i64 0, .int .i64 0] 23)) (.cells #[.int .i64 1, .int .i64 3] 23)
      simpa [com] using this
    · exact ((Below.refl _ _).alloc (Nat.le_refl _) _).alloc (by simp) _
  case round =>
    obtain ⟨k, hk, rfl, HM⟩ := hrel
    by_cases t : k < l.length
    · obtain ⟨b, o, rfl, hc⟩ := (hp.below (HM.out.below)).at (by omega)
      obtain ⟨e0, e1⟩ := hc k t
      obtain ⟨c0, c1, f0, f1⟩ := two_cells HM.out.cur
      have HN := Hid.mk' (com_next l k t)
      generalize com (l.take k) = x at HM HN c0 c1
      generalize l.getD k (0, 0) = y at HN e0 e1
      have HI := Hid.mk' ((HM.out.on ((Below.refl _ _).alloc (Nat.le_refl _) (.cells #[.int .i64 y.1, .int .i64 y.2] 23))))
      have N := narrowed_any x y (wr.alloc (.cells #[.int .i64 y.1, .int .i64 y.2] 23))
      have hlt := HM.out.lt
      clear hc HM
      go_wp2_with fail
      refine N.mono ?_
      rintro e w' ⟨rfl, hb⟩
      have HI' := HI.out.on hb
      have HJ := Hid.mk' HI'
      obtain ⟨d0, d1, g0, g1⟩ := two_cells HI'.cur
      clear HI HI' hb N
      go_wp2
      go_roundw
      case rel => exact ⟨k + 1, by omega, by go_num, by rw [HN.out]; exact HJ.out.set _⟩
      case measure => simp [intOf]; omega
    · obtain rfl : k = l.length := by omega
      rw [List.take_of_length_le (Nat.le_refl _)] at HM
      obtain ⟨x, hx⟩ : ∃ x, com l = x := ⟨_, rfl⟩
      rw [hx] at HM
      have HX := Hid.mk' hx
      clear hx
      obtain ⟨a, b⟩ := x
      obtain ⟨c0, c1, f0, f1⟩ := two_cells HM.out.cur
      obtain ⟨d0, d1, g0, g1⟩ := two_cells HM.out.res
      dsimp only at c0 c1
      have Q0 := Hid.mk' (two_cells (set_first HM.out.res (.int .i64 a))).1
      have Q1 := Hid.mk' (two_cells (set_second (set_first HM.out.res (.int .i64 a)) (.int .i64 b))).2.1
      have hb : Below w.heap.size w ((wr.setCell ⟨w.heap.size, 0, none⟩ (.int .i64 a)).setCell ⟨w.heap.size, 1, none⟩ (.int .i64 b)).drew := ((HM.out.below.setCell (by simp) _).setCell (by simp) _).drew
      have HB := Hid.mk' hb
      have hlt := HM.out.lt
      clear hb HM
      have hab : (a = 0 ∧ b = 0) ∨ (a = 0 ∧ b ≠ 0) ∨ a ≠ 0 := by omega
      rcases hab with ⟨rfl, rfl⟩ | ⟨rfl, hb⟩ | ha
      · go_wp2
        go_region
        go_wp2
        rw [HX.out]
        exact bodyPost_ret (v := .tuple #[.agg #[.int .i64 0, .int .i64 0], .bool false]) (by have q0 := Q0.out; have q1 := Q1.out; simp [results, Tryd.results17, go_sem, q0, q1]) rfl ⟨rfl, HB.out⟩
      · go_wp2
        go_region
        go_wp2
        rw [HX.out]
        exact bodyPost_ret (v := .tuple #[.agg #[.int .i64 0, .int .i64 b], .bool true]) (by have q0 := Q0.out; have q1 := Q1.out; simp [results, Tryd.results17, go_sem, q0, q1]) rfl ⟨by simp [hb], HB.out⟩
      · go_wp2
        go_region
        go_wp2
        rw [HX.out]
        exact bodyPost_ret (v := .tuple #[.agg #[.int .i64 a, .int .i64 b], .bool true]) (by have q0 := Q0.out; have q1 := Q1.out; simp [results, Tryd.results17, go_sem, q0, q1]) rfl ⟨by simp [ha], HB.out⟩

theorem res_cells {W : World} {g : Nat} {t : TypeId} {x y : Value} (h : W.heap[g]? = some (.cells #[x, y] t (0, 0))) (u v : Value) :
    (W.setCell ⟨g, 0, none⟩ u).cell? ⟨g, 0, none⟩ = some u ∧ ((W.setCell ⟨g, 0, none⟩ u).setCell ⟨g, 1, none⟩ v).cell? ⟨g, 1, none⟩ = some v :=
  ⟨(two_cells (set_first h u)).1, (two_cells (set_second (set_first h u) v)).2.1⟩

/-- Two spans that were laid for a call. -/
theorem SIn.two (w : World) (x y : Int × Int) (hx : (Lit.int .i64 x.1).wf = true ∧ (Lit.int .i64 x.2).wf = true) (hy : (Lit.int .i64 y.1).wf = true ∧ (Lit.int .i64 y.2).wf = true) (g : Nat) (hg : g = w.heap.size) :
    SIn (w.alloc (.cells #[.int .i64 x.1, .int .i64 x.2, .int .i64 y.1, .int .i64 y.2] 23)) (some ⟨g, 0, none⟩) [x, y] := fun _ => by
  subst hg
  refine ⟨_, _, rfl, fun i hi => ?_⟩
  have hi' : i = 0 ∨ i = 1 := by simp at hi; omega
  have h := heap_alloc_new w (.cells #[.int .i64 x.1, .int .i64 x.2, .int .i64 y.1, .int .i64 y.2] 23)
  generalize w.alloc (.cells #[.int .i64 x.1, .int .i64 x.2, .int .i64 y.1, .int .i64 y.2] 23) = W at h ⊢
  rcases hi' with rfl | rfl
  · refine ⟨[.int .i64 x.1, .int .i64 x.2], rfl, fun j hj => ?_, [_], [_], rfl, ⟨rfl, hx.1⟩, ⟨rfl, hx.2⟩⟩
    have hj' : j = 0 ∨ j = 1 := by omega
    rcases hj' with rfl | rfl <;> simp [World.cell?, h]
  · refine ⟨[.int .i64 y.1, .int .i64 y.2], rfl, fun j hj => ?_, [_], [_], rfl, ⟨rfl, hy.1⟩, ⟨rfl, hy.2⟩⟩
    have hj' : j = 0 ∨ j = 1 := by omega
    rcases hj' with rfl | rfl <;> simp [World.cell?, h]

def wfS (x : Int × Int) : Prop := (Lit.int .i64 x.1).wf = true ∧ (Lit.int .i64 x.2).wf = true

set_option maxHeartbeats 1600000 in
theorem meet_any (x y : Int × Int) (w : World) (hx : wfS x) (hy : wfS y) :
    Calls Tryd.prog 14 #[.agg #[.int .i64 x.1, .int .i64 x.2], .agg #[.int .i64 y.1, .int .i64 y.2]] w fun e w' => e = .returned (.tuple #[.agg #[.int .i64 (com [x, y]).1, .int .i64 (com [x, y]).2], .bool (com [x, y] != (0, 0))]) ∧ Below w.heap.size w w' := by
  have C := fun w g hg => common_any (some ⟨g, 0, none⟩) 2 [x, y] _ (SIn.two w x y hx hy g hg) (by simp)
  generalize com [x, y] = z at C ⊢
  go_enter Tryd.func14, Tryd.ntmps14
  go_wp2_with fail
  refine (C _ _ (by simp)).mono ?_
  rintro e w' ⟨rfl, hb⟩
  have hr : w'.heap[w.heap.size + 1 + 1]? = some (.cells #[.int .i64 0, .int .i64 0] 23 (0, 0)) := by
    rw [hb.block _ (by simp), heap_alloc_old _ _ (by simp)]
    have := heap_alloc_new ((w.alloc (.cells #[.int .i64 x.1, .int .i64 x.2] 23)).alloc (.cells #[.int .i64 y.1, .int .i64 y.2] 23)) (.cells #[.int .i64 0, .int .i64 0] 23)
    simpa using this
  obtain ⟨Q0, Q1⟩ := res_cells hr (.int .i64 z.1) (.int .i64 z.2)
  obtain ⟨c0, c1, f0, f1⟩ := two_cells hr
  clear hr
  go_wp2
  refine bodyPost_ret (v := .tuple #[.agg #[.int .i64 z.1, .int .i64 z.2], .bool (z != (0, 0))]) (by simp [results, Tryd.results14, go_sem, Q0, Q1]) rfl ⟨rfl, ?_⟩
  have hb' := hb.mono (show w.heap.size ≤ _ by simp; omega)
  exact ((((((((Below.refl _ _).alloc (Nat.le_refl _) _).alloc (by simp) _).alloc (by simp; omega) _).alloc (by simp; omega) _).trans hb').setCell (by simp; omega) _).setCell (by simp; omega) _)

set_option maxHeartbeats 1600000 in
theorem best_any (x y : Int × Int) (w : World) (hx : wfS x) (hy : wfS y) :
    Calls Tryd.prog 16 #[.agg #[.int .i64 x.1, .int .i64 x.2], .agg #[.int .i64 y.1, .int .i64 y.2]] w fun e w' => e = .returned (.int .i64 (com [x, y]).2) ∧ Below w.heap.size w w' := by
  have C := fun w => meet_any x y w hx hy
  generalize com [x, y] = z at C ⊢
  go_enter Tryd.func16, Tryd.ntmps16
  go_wp2_with fail
  refine (C _).mono ?_
  rintro e w' ⟨rfl, hb⟩
  go_wp2
  go_ret
  have hb' := hb.mono (show w.heap.size ≤ _ by simp; omega)
  have hb2 := (((Below.refl w.heap.size w).alloc (Nat.le_refl _) _).alloc (by simp) _).trans hb'
  exact ⟨rfl, hb2.alloc hb2.size _⟩

/-- Is a generation in all of them? -/
def inS (l : List (Int × Int)) (g : Int) : Bool := decide ((∀ x ∈ l, okS x.1 x.2 = true ∧ x.1 ≤ g ∧ g ≤ x.2) ∧ 1 ≤ g ∧ g ≤ 3)

theorem inS_no {l : List (Int × Int)} {g : Int} {y : Int × Int} (hy : y ∈ l) (h : ¬ (okS y.1 y.2 = true ∧ y.1 ≤ g ∧ g ≤ y.2)) : inS l g = false :=
  decide_eq_false fun q => h (q.1 y hy)

theorem inS_out {l : List (Int × Int)} {g : Int} (h : ¬ (1 ≤ g ∧ g ≤ 3)) : inS l g = false :=
  decide_eq_false fun q => h q.2

set_option maxHeartbeats 1600000 in
theorem in_any (p : Option Addr) (c : Nat) (l : List (Int × Int)) (g : Int) (w : World) (hp : SIn w p l) (hn : l.length ≤ 140737488355328) :
    Calls Tryd.prog 15 #[.slice p l.length c, .int .i64 g] w fun e w' => e = .returned (.bool (inS l g)) ∧ Below w.heap.size w w' := by
  go_enter Tryd.func15, Tryd.ntmps15
  go_wp2
  go_loopw [5] (fun i W => ∃ k : Nat, k ≤ l.length ∧ i = .int .i64 k ∧ Hid ((∀ x ∈ l.take k, okS x.1 x.2 = true ∧ x.1 ≤ g ∧ g ≤ x.2) ∧ Below w.heap.size w W)) (fun i _ => l.length - (intOf i).toNat)
  case atStart => exact ⟨0, by omega, rfl, by simp, Below.refl _ _⟩
  case round =>
    obtain ⟨k, hk, rfl, HM⟩ := hrel
    by_cases t : k < l.length
    · obtain ⟨b, o, rfl, hc⟩ := (hp.below (HM.out.2)).at (by omega)
      obtain ⟨e0, e1⟩ := hc k t
      have hy : l.getD k (0, 0) ∈ l := by simp [List.getD, t]
      have ht : l.take (k + 1) = l.take k ++ [l.getD k (0, 0)] := by rw [List.take_succ_eq_append_getElem t]; simp [List.getD, t]
      have HT := Hid.mk' ht
      have M := fun w => may_any (l.getD k (0, 0)).1 (l.getD k (0, 0)).2 w
      generalize l.getD k (0, 0) = y at HT e0 e1 M hy
      have HY := Hid.mk' hy
      have hbl : b < wr.heap.size := lt_of_cell e0
      clear hc ht hy
      obtain ⟨q, hq⟩ : ∃ q, okS y.1 y.2 = q := ⟨_, rfl⟩
      rw [hq] at M
      have HQ := Hid.mk' hq
      clear hq
      cases q
      · go_wp2_with (go_at_call 9; refine (M _).mono ?_; rintro e w' ⟨rfl, rfl⟩)
        go_ret
        exact ⟨by rw [inS_no HY.out (by rw [HQ.out]; simp)]; rfl, HM.out.2.alloc HM.out.2.size _⟩
      · by_cases t1 : g < y.1
        · go_wp2_with (go_at_call 9; refine (M _).mono ?_; rintro e w' ⟨rfl, rfl⟩)
          go_ret
          exact ⟨by rw [inS_no HY.out (by omega)]; rfl, HM.out.2.alloc HM.out.2.size _⟩
        · by_cases t2 : y.2 < g
          · go_wp2_with (go_at_call 9; refine (M _).mono ?_; rintro e w' ⟨rfl, rfl⟩)
            go_ret
            exact ⟨by rw [inS_no HY.out (by omega)]; rfl, HM.out.2.alloc HM.out.2.size _⟩
          · go_wp2_with (go_at_call 9; refine (M _).mono ?_; rintro e w' ⟨rfl, rfl⟩)
            go_roundw
            case rel => exact ⟨k + 1, by omega, by go_num, fun x hx => by
              rw [HT.out] at hx
              rcases List.mem_append.1 hx with q | q
              · exact HM.out.1 x q
              · obtain rfl : x = y := by simpa using q
                exact ⟨HQ.out, by omega, by omega⟩, HM.out.2.alloc HM.out.2.size _⟩
            case measure => simp [intOf]; omega
    · obtain rfl : k = l.length := by omega
      rw [List.take_of_length_le (Nat.le_refl _)] at HM
      by_cases t1 : 1 ≤ g
      · by_cases t2 : g ≤ 3
        · go_wp2
          go_ret
          exact ⟨by rw [show inS l g = true by simpa [inS] using ⟨fun a b h => HM.out.1 (a, b) h, t1, t2⟩]; rfl, HM.out.2⟩
        · go_wp2
          go_ret
          exact ⟨by rw [inS_out (by omega)]; rfl, HM.out.2⟩
      · go_wp2
        go_ret
        exact ⟨by rw [inS_out (by omega)]; rfl, HM.out.2⟩
end Go.Proofs.YtgjnbcbbkabljaaDoor
