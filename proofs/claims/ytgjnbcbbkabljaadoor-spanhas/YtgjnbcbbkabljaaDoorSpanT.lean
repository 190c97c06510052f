/-
  Package span: Text, All, Parse; strconv.Itoa of one digit; the statements' own examples.
-/
import Derived.Test.YtgjnbcbbkabljaaDoorSpanC
import Derived.Test.YtgjnbcbbkabljaaDoorOwn
import Derived.Deep.QuietTactic
import Derived.BigQuiet
namespace Go.Proofs.YtgjnbcbbkabljaaDoor
open Go.RowKit
set_option linter.unusedSimpArgs false
set_option linter.unusedVariables false

/-- A digit as a text. -/
def dig (n : Int) : ByteArray := ⟨#[UInt8.ofNat (48 + n.toNat)]⟩

/-- A span as a text. -/
def txt (lo hi : Int) : ByteArray := ⟨#[UInt8.ofNat (48 + lo.toNat), 45, UInt8.ofNat (48 + hi.toNat)]⟩

set_option maxHeartbeats 800000 in
theorem small_any (n : Int) (w : World) (h : n = 1 ∨ n = 2 ∨ n = 3) :
    Calls Tryd.prog 24 #[.int .i64 n] w fun e w' => e = .returned (.string (dig n)) ∧ w = w' := by
  rcases h with rfl | rfl | rfl
  all_goals
    go_enter Tryd.func24, Tryd.ntmps24
    go_wp2
    go_ret
    exact ⟨rfl, rfl⟩

set_option maxHeartbeats 800000 in
theorem formatInt_any (n : Int) (w : World) (h : n = 1 ∨ n = 2 ∨ n = 3) :
    Calls Tryd.prog 23 #[.int .i64 n, .int .i64 10] w fun e w' => e = .returned (.string (dig n)) ∧ w = w' := by
  have S := fun w => small_any n w h
  have h0 : 0 ≤ n := by omega
  have h1 : n < 100 := by omega
  clear h
  generalize dig n = d at S ⊢
  go_enter Tryd.func23, Tryd.ntmps23
  go_wp2_with (go_at_call 24; refine (S _).mono ?_; rintro e w' ⟨rfl, rfl⟩)
  go_ret
  exact ⟨rfl, rfl⟩

set_option maxHeartbeats 800000 in
theorem itoa_any (n : Int) (w : World) (h : n = 1 ∨ n = 2 ∨ n = 3) :
    Calls Tryd.prog 21 #[.int .i64 n] w fun e w' => e = .returned (.string (dig n)) ∧ w' = w := by
  have S : ∀ w, Calls Tryd.prog 22 #[.int .i64 n] w fun e w' => e = .returned (.string (dig n)) ∧ w = w' := by
    intro w
    have S := fun w => formatInt_any n w h
    clear h
    generalize dig n = d at S ⊢
    go_enter Tryd.func22, Tryd.ntmps22
    go_wp2_with (go_at_call 23; refine (S _).mono ?_; rintro e w' ⟨rfl, rfl⟩)
    go_ret
    exact ⟨rfl, rfl⟩
  clear h
  generalize dig n = d at S ⊢
  go_enter Tryd.func21, Tryd.ntmps21
  go_wp2_with (go_at_call 22; refine (S _).mono ?_; rintro e w' ⟨rfl, rfl⟩)
  go_ret
  exact ⟨rfl, rfl⟩

set_option maxHeartbeats 800000 in
theorem text_no (lo hi : Int) (w : World) (h : okS lo hi = false) :
    Calls Tryd.prog 19 #[.agg #[.int .i64 lo, .int .i64 hi]] w fun e w' => e = .returned (.string ⟨#[]⟩) ∧ Below w.heap.size w w' := by
  have V := fun w => valid_any lo hi w
  rw [h] at V
  clear h
  go_enter Tryd.func19, Tryd.ntmps19
  go_wp2_with (go_at_call 8; refine (V _).mono ?_; rintro e w' ⟨rfl, rfl⟩)
  go_ret
  exact ⟨rfl, ((Below.refl _ _).alloc (Nat.le_refl _) _).alloc (by simp) _⟩

set_option maxHeartbeats 1600000 in
theorem text_yes (lo hi : Int) (w : World) (h : okS lo hi = true) :
    Calls Tryd.prog 19 #[.agg #[.int .i64 lo, .int .i64 hi]] w fun e w' => e = .returned (.string (txt lo hi)) ∧ Below w.heap.size w w' := by
  have V := fun w => valid_any lo hi w
  have hh := okS_yes h
  rw [h] at V
  clear h
  have hc : (lo = 1 ∧ hi = 1) ∨ (lo = 1 ∧ hi = 2) ∨ (lo = 1 ∧ hi = 3) ∨ (lo = 2 ∧ hi = 2) ∨ (lo = 2 ∧ hi = 3) ∨ (lo = 3 ∧ hi = 3) := by omega
  clear hh
  have I1 := fun w => itoa_any 1 w (by omega)
  have I2 := fun w => itoa_any 2 w (by omega)
  have I3 := fun w => itoa_any 3 w (by omega)
  rw [show dig 1 = ⟨#[49]⟩ from rfl] at I1
  rw [show dig 2 = ⟨#[50]⟩ from rfl] at I2
  rw [show dig 3 = ⟨#[51]⟩ from rfl] at I3
  rcases hc with ⟨rfl, rfl⟩ | ⟨rfl, rfl⟩ | ⟨rfl, rfl⟩ | ⟨rfl, rfl⟩ | ⟨rfl, rfl⟩ | ⟨rfl, rfl⟩
  all_goals
    go_enter Tryd.func19, Tryd.ntmps19
    go_wp2_with (go_at_call 8; refine (V _).mono ?_; rintro e w' ⟨rfl, rfl⟩)
    go_quiet ((go_at_call 21; first | exact Calls.quiet_of_same (I1 _) | exact Calls.quiet_of_same (I2 _) | exact Calls.quiet_of_same (I3 _)))
    go_wp2
    go_ret
    exact ⟨congrArg (fun s => Ending.returned (Value.string s)) (by kernel_rfl), bel_drewN (((Below.refl _ _).alloc (Nat.le_refl _) _).alloc (by simp) _) _⟩

/-- The six. -/
def six : List (Int × Int) := [(1, 1), (1, 2), (1, 3), (2, 2), (2, 3), (3, 3)]

def cellsS (l : List (Int × Int)) : List Value := l.flatMap fun x => [.int .i64 x.1, .int .i64 x.2]

theorem cellsS_append (l m : List (Int × Int)) : cellsS (l ++ m) = cellsS l ++ cellsS m := by simp [cellsS]

theorem cellsS_get (l : List (Int × Int)) (i : Nat) (h : i < l.length) : (cellsS l)[i * 2]? = some (.int .i64 l[i].1) ∧ (cellsS l)[i * 2 + 1]? = some (.int .i64 l[i].2) := by
  induction l generalizing i with
  | nil => simp at h
  | cons a t ih =>
    cases i with
    | zero => simp [cellsS]
    | succ k =>
      have := ih k (by simpa using h)
      have e : cellsS (a :: t) = .int .i64 a.1 :: .int .i64 a.2 :: cellsS t := by simp [cellsS]
      rw [e, show (k + 1) * 2 = k * 2 + 1 + 1 by omega]
      simpa using this

theorem infoS : (Tryd.prog.info? 23).map (fun i => (i.zero, i.size, i.bytes)) = some (some (.agg #[.int .i64 0, .int .i64 0]), 2, 16) := by kernel_rfl

theorem OwnR.spans {w : World} {B : Nat} {v : Value} {l : List (Int × Int)} (h : OwnR 23 2 w B v l.length (cellsS l)) (hw : ∀ x ∈ l, wfS x) : ∃ p c, v = .slice p l.length c ∧ SIn w p l := by
  obtain ⟨p, c, rfl, _, _, _, h5⟩ := h.slice
  refine ⟨p, c, rfl, fun hl => ?_⟩
  obtain ⟨g, rfl, _, hc⟩ := h5 hl
  refine ⟨g, 0, rfl, fun i hi => ⟨[.int .i64 l[i].1, .int .i64 l[i].2], rfl, fun j hj => ?_, [_], [_], rfl, ⟨rfl, (hw _ (List.getElem_mem hi)).1⟩, ⟨rfl, (hw _ (List.getElem_mem hi)).2⟩⟩⟩
  obtain ⟨h0, h1⟩ := cellsS_get l i hi
  have hj' : j = 0 ∨ j = 1 := by omega
  rcases hj' with rfl | rfl
  · simpa using hc _ _ h0
  · simpa using hc _ _ h1

/-- How many of the six have a lesser Lo. -/
def ahead (x : Nat) : Nat := match x with | 0 => 0 | 1 => 0 | 2 => 3 | 3 => 5 | _ => 6

theorem six_next (x y : Nat) (h : 1 ≤ x) (h1 : x ≤ y) (h2 : y ≤ 3) : six.take (ahead x + (y + 1 - x)) = six.take (ahead x + (y - x)) ++ [((x : Int), (y : Int))] ∧ (six.take (ahead x + (y - x))).length ≤ 5 := by
  have : (x = 1 ∧ y = 1) ∨ (x = 1 ∧ y = 2) ∨ (x = 1 ∧ y = 3) ∨ (x = 2 ∧ y = 2) ∨ (x = 2 ∧ y = 3) ∨ (x = 3 ∧ y = 3) := by omega
  rcases this with ⟨rfl, rfl⟩ | ⟨rfl, rfl⟩ | ⟨rfl, rfl⟩ | ⟨rfl, rfl⟩ | ⟨rfl, rfl⟩ | ⟨rfl, rfl⟩ <;> decide

theorem ahead_next (x : Nat) (h : 1 ≤ x) (h2 : x ≤ 3) : ahead x + (4 - x) = ahead (x + 1) := by
  have : x = 1 ∨ x = 2 ∨ x = 3 := by omega
  rcases this with rfl | rfl | rfl <;> rfl

theorem six_wf : ∀ x ∈ six, wfS x := by
  intro x hx
  simp [six] at hx
  rcases hx with rfl | rfl | rfl | rfl | rfl | rfl <;> exact ⟨rfl, rfl⟩

set_option maxHeartbeats 1600000 in
theorem all_any (w : World) : Calls Tryd.prog 7 #[] w fun e w' => ∃ p c, e = .returned (.slice p 6 c) ∧ SIn w' p six ∧ Below w.heap.size w w' := by
  go_enter Tryd.func7, Tryd.ntmps7
  go_wp2
  go_loopw [1, 2] (fun v a W => ∃ x : Nat, 1 ≤ x ∧ x ≤ 4 ∧ a = .int .i64 x ∧ Hid (OwnR 23 2 W w.heap.size v (six.take (ahead x)).length (cellsS (six.take (ahead x)))) ∧ Hid (Below w.heap.size w W)) (fun _ a _ => (4 - intOf a).toNat)
  case atStart => exact ⟨1, by omega, by omega, rfl, OwnR.nil _ _ _ _, Below.refl _ _⟩
  case round =>
    obtain ⟨x, hx1, hx2, rfl, HO, HB⟩ := hrel
    by_cases hx3 : x ≤ 3
    · have hx3' : (x : Int) ≤ 3 := by omega
      go_wp2
      go_loopw [1, 3] (fun v a W => ∃ y : Nat, x ≤ y ∧ y ≤ 4 ∧ a = .int .i64 y ∧ Hid (OwnR 23 2 W w.heap.size v (six.take (ahead x + (y - x))).length (cellsS (six.take (ahead x + (y - x))))) ∧ Hid (Below w.heap.size w W)) (fun _ a _ => (4 - intOf a).toNat)
      case atStart => exact ⟨x, by omega, by omega, rfl, by rw [Nat.sub_self, Nat.add_zero]; exact HO, HB⟩
      case round =>
        obtain ⟨y, hy1, hy2, rfl, HO', HB'⟩ := hrel
        by_cases hy3 : y ≤ 3
        · have hy3' : (y : Int) ≤ 3 := by omega
          obtain ⟨hn, hl⟩ := six_next x y hx1 hy1 hy3
          have HN := Hid.mk' hn
          have hsz := HB'.out.size
          generalize six.take (ahead x + (y - x)) = l at HN hl HO'
          clear hn
          go_wp2_with (at_builtin; refine wpList_own1 rfl (.tmp 13) (.tmp 17) 24 rfl 23 _ 2 16 Tryd.underlying24 infoS rfl (by decide) w.heap.size _ l.length (cellsS l) rfl HO'.out hsz #[.int .i64 x, .int .i64 y] 23 rfl rfl (by simp [Value.oneCell']) (by simp only [maxLen]; omega) (by omega) ?_)
          intro v' w' hO hb
          have HO2 := Hid.mk' hO
          have HB2 := Hid.mk' (HB'.out.trans hb)
          clear hO hb
          go_wp2
          go_roundw
          case rel => exact ⟨y + 1, by omega, by omega, by go_num, by
            rw [HN.out, List.length_append, cellsS_append]
            exact HO2.out, HB2⟩
          case measure => simp [intOf]; omega
        · obtain rfl : y = 4 := by omega
          go_wp2
          go_roundw
          case rel => exact ⟨x + 1, by omega, by omega, by go_num, by rw [← ahead_next x hx1 hx3]; exact HO', HB'⟩
          case measure => simp [intOf]; omega
    · obtain rfl : x = 4 := by omega
      obtain ⟨p, c, rfl, hs⟩ := OwnR.spans (l := six) HO.out six_wf
      have HS := Hid.mk' hs
      clear hs HO
      go_wp2
      go_ret
      exact ⟨p, c, rfl, HS.out, HB.out⟩

theorem txt_inj {a b c d : Int} (h : okS a b = true) (h' : okS c d = true) (e : txt a b = txt c d) : a = c ∧ b = d := by
  have h1 := okS_yes h
  have h2 := okS_yes h'
  have x1 : (a = 1 ∧ b = 1) ∨ (a = 1 ∧ b = 2) ∨ (a = 1 ∧ b = 3) ∨ (a = 2 ∧ b = 2) ∨ (a = 2 ∧ b = 3) ∨ (a = 3 ∧ b = 3) := by omega
  have x2 : (c = 1 ∧ d = 1) ∨ (c = 1 ∧ d = 2) ∨ (c = 1 ∧ d = 3) ∨ (c = 2 ∧ d = 2) ∨ (c = 2 ∧ d = 3) ∨ (c = 3 ∧ d = 3) := by omega
  rcases x1 with ⟨rfl, rfl⟩ | ⟨rfl, rfl⟩ | ⟨rfl, rfl⟩ | ⟨rfl, rfl⟩ | ⟨rfl, rfl⟩ | ⟨rfl, rfl⟩ <;>
  rcases x2 with ⟨rfl, rfl⟩ | ⟨rfl, rfl⟩ | ⟨rfl, rfl⟩ | ⟨rfl, rfl⟩ | ⟨rfl, rfl⟩ | ⟨rfl, rfl⟩ <;> first | exact ⟨rfl, rfl⟩ | exact absurd e (by decide)

theorem six_ok : ∀ x ∈ six, okS x.1 x.2 = true := by decide

theorem six_mem {a b : Int} (h : okS a b = true) : (a, b) ∈ six := by
  have h1 := okS_yes h
  have x1 : (a = 1 ∧ b = 1) ∨ (a = 1 ∧ b = 2) ∨ (a = 1 ∧ b = 3) ∨ (a = 2 ∧ b = 2) ∨ (a = 2 ∧ b = 3) ∨ (a = 3 ∧ b = 3) := by omega
  rcases x1 with ⟨rfl, rfl⟩ | ⟨rfl, rfl⟩ | ⟨rfl, rfl⟩ | ⟨rfl, rfl⟩ | ⟨rfl, rfl⟩ | ⟨rfl, rfl⟩ <;> decide

theorem str_eq (a b : ByteArray) : (a.toList == b.toList) = decide (a = b) := by
  rw [ByteArray.toList_eq, ByteArray.toList_eq, Bool.eq_iff_iff]
  simp
  constructor
  · intro h
    cases a; cases b
    simp at h
    rw [h]
  · rintro rfl; rfl

/-- While a text is looked for: the result's place, and all that is old. -/
structure InP (w W : World) : Prop where
  res : W.heap[w.heap.size]? = some (.cells #[.int .i64 0, .int .i64 0] 23 (0, 0))
  below : Below w.heap.size w W

theorem InP.on {w W W' : World} (h : InP w W) (k : Below W.heap.size W W') : InP w W' :=
  ⟨by rw [k.block _ (Array.getElem?_eq_some_iff.1 h.res).1]; exact h.res, h.below.trans (k.mono h.below.size)⟩

set_option maxHeartbeats 3200000 in
theorem parse_any (t : ByteArray) (w : World) (r : Int × Int × Int) (hr : (∃ s ∈ six, txt s.1 s.2 = t ∧ r = (s.1, s.2, 0)) ∨ ((∀ s ∈ six, txt s.1 s.2 ≠ t) ∧ r = (0, 0, 4))) :
    Calls Tryd.prog 18 #[.string t] w fun e w' => e = .returned (.tuple #[.agg #[.int .i64 r.1, .int .i64 r.2.1], .int .i64 r.2.2]) ∧ Below w.heap.size w w' := by
  have HR := Hid.mk' hr
  have A := all_any (w.alloc (.cells #[.int .i64 0, .int .i64 0] 23))
  clear hr
  go_enter Tryd.func18, Tryd.ntmps18
  go_wp2_with fail
  refine A.mono ?_
  rintro e w1 ⟨p, c, rfl, hs, hb⟩
  have HI : Hid (InP w w1) := InP.on ⟨heap_alloc_new _ _, (Below.refl _ _).alloc (Nat.le_refl _) _⟩ hb
  have HS := Hid.mk' hs
  clear hs hb A
  go_wp2
  go_loopw [8] (fun i W => ∃ k : Nat, k ≤ 6 ∧ i = .int .i64 k ∧ Hid (∀ s ∈ six.take k, txt s.1 s.2 ≠ t) ∧ Hid (InP w W) ∧ Hid (SIn W p six)) (fun i _ => 6 - (intOf i).toNat)
  case atStart => exact ⟨0, by omega, rfl, fun s hs => by simp at hs, HI, HS⟩
  case round =>
    obtain ⟨k, hk, rfl, HT, HI, HS⟩ := hrel
    by_cases q : k < 6
    · have hq6 : k < six.length := q
      obtain ⟨b, o, rfl, hc⟩ := HS.out.at (by decide)
      obtain ⟨e0, e1⟩ := hc k hq6
      have hbl : b < wr.heap.size := lt_of_cell e0
      have hm : six.getD k (0, 0) ∈ six := by simp [List.getD, hq6]
      have ht : six.take (k + 1) = six.take k ++ [six.getD k (0, 0)] := by rw [List.take_succ_eq_append_getElem hq6]; simp [List.getD, hq6]
      generalize six.getD k (0, 0) = y at e0 e1 hm ht
      have hy := six_ok y hm
      have T := text_yes y.1 y.2 (wr.alloc (.cells #[.int .i64 y.1, .int .i64 y.2] 23)) hy
      have HM := Hid.mk' hm
      have HU := Hid.mk' ht
      have hqi : (k : Int) < 6 := by omega
      have HI2 := Hid.mk' (HI.out.on ((Below.refl wr.heap.size wr).alloc (Nat.le_refl _) (.cells #[.int .i64 y.1, .int .i64 y.2] 23)))
      have HS2 := Hid.mk' (HS.out.below ((Below.refl wr.heap.size wr).alloc (Nat.le_refl _) (.cells #[.int .i64 y.1, .int .i64 y.2] 23)))
      have hw : ∃ x, txt y.1 y.2 = x := ⟨_, rfl⟩
      obtain ⟨x, hx⟩ := hw
      rw [hx] at T
      have HX := Hid.mk' hx
      have hte := str_eq x t
      clear hm ht hx HI HS hc
      by_cases g : x = t
      · rw [decide_eq_true g] at hte
        have HG := Hid.mk' g
        clear g
        go_wp2_with fail
        refine T.mono ?_
        rintro e w2 ⟨rfl, hb2⟩
        have HI3 := HI2.out.on hb2
        obtain ⟨Q0, Q1⟩ := res_cells HI3.res (.int .i64 y.1) (.int .i64 y.2)
        obtain ⟨c0, c1, f0, f1⟩ := two_cells HI3.res
        obtain ⟨hcell, hfr⟩ := bcell hb2
        have HB := Hid.mk' HI3.below
        clear HI3 HI2 hb2 T
        go_wp2
        have hr : r = (y.1, y.2, 0) := by
          rcases HR.out with ⟨s, hs, h1, h2⟩ | ⟨h1, _⟩
          · obtain ⟨u1, u2⟩ := txt_inj (six_ok s hs) hy (by rw [h1, HX.out, HG.out])
            rw [h2, u1, u2]
          · exact absurd (by rw [HX.out, HG.out]) (h1 y HM.out)
        rw [hr]
        exact bodyPost_ret (v := .tuple #[.agg #[.int .i64 y.1, .int .i64 y.2], .int .i64 0]) (by simp [results, Tryd.results18, go_sem, Q0, Q1]) rfl ⟨rfl, (HB.out.setCell (by simp) _).setCell (by simp) _⟩
      · rw [decide_eq_false g] at hte
        have HG := Hid.mk' g
        clear g
        go_wp2_with fail
        refine T.mono ?_
        rintro e w2 ⟨rfl, hb2⟩
        have HI3 := Hid.mk' (HI2.out.on hb2)
        have HS3 := Hid.mk' (HS2.out.below hb2)
        clear HI2 HS2 hb2 T
        go_wp2
        go_roundw
        case rel => exact ⟨k + 1, by omega, by go_num, fun s hs => by
          rw [HU.out] at hs
          rcases List.mem_append.1 hs with q | q
          · exact HT.out s q
          · obtain rfl : s = y := by simpa using q
            rw [HX.out]
            exact HG.out, HI3, HS3⟩
        case measure => simp [intOf]; omega
    · obtain rfl : k = 6 := by omega
      obtain ⟨Q0, Q1⟩ := res_cells HI.out.res (.int .i64 0) (.int .i64 0)
      obtain ⟨c0, c1, f0, f1⟩ := two_cells HI.out.res
      go_wp2
      have hr : r = (0, 0, 4) := by
        rcases HR.out with ⟨s, hs, h1, h2⟩ | ⟨_, h1⟩
        · exact absurd h1 (HT.out s hs)
        · exact h1
      rw [hr]
      refine bodyPost_ret (v := .tuple #[.agg #[.int .i64 0, .int .i64 0], .int .i64 4]) (by simp [results, Tryd.results18, go_sem, Q0, Q1]) rfl ⟨rfl, ?_⟩
      exact (HI.out.below.setCell (by simp) _).setCell (by simp) _

set_option maxHeartbeats 1600000 in
theorem awake5_any (w : World) : Calls Tryd.prog 13 #[] w fun e w' => e = .returned (.bool true) ∧ Below w.heap.size w w' := by
  have M := fun w => meet_any (1, 2) (2, 3) w ⟨rfl, rfl⟩ ⟨rfl, rfl⟩
  rw [show com [(1, 2), (2, 3)] = (2, 2) from by decide] at M
  have P := fun w => parse_any ⟨#[51, 45, 49]⟩ w (0, 0, 4) (.inr ⟨by decide, rfl⟩)
  have C := fun w => code_yes 1 3 w (by decide)
  go_enter Tryd.func13, Tryd.ntmps13
  go_wp2_with fail
  refine (M _).mono ?_
  rintro e w1 ⟨rfl, hb1⟩
  have HB1 := Hid.mk' (hb1.alloc hb1.size (.cells #[.int .i64 2, .int .i64 2] 23))
  clear hb1
  go_wp2_with fail
  refine (P _).mono ?_
  rintro e w2 ⟨rfl, hb2⟩
  obtain ⟨hc, hf⟩ := bcell hb2
  have hz2 : w1.heap.size < w2.heap.size := by have := hb2.size; simp at this; omega
  have h12 := HB1.out.trans (hb2.mono HB1.out.size)
  have HB2 := Hid.mk' (h12.alloc h12.size (.cells #[.int .i64 0, .int .i64 0] 23))
  clear hb2 h12
  go_wp2_with fail
  refine (C _).mono ?_
  rintro e w3 ⟨rfl, hb3⟩
  have HB3 := Hid.mk' (HB2.out.trans (hb3.mono HB2.out.size))
  clear hb3
  go_wp2
  go_ret
  exact ⟨rfl, HB3.out⟩
end Go.Proofs.YtgjnbcbbkabljaaDoor
