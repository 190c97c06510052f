/-
  Package bag: Get, slices.Grow, slices.Concat, Put.
-/
import Derived.Test.YtecdagmeobiahaaBagR
import Derived.Lib.AppendZerosOnto
import Derived.Lib.Walk
namespace Go.Proofs.Ytecdagmeobiahaa
open Go.RowKit
set_option linter.unusedSimpArgs false
set_option linter.unusedVariables false

/-- The bytes of the first field with a tag. -/
def getK (v : Int) : List Key → Option (List Int)
  | [] => none
  | x :: t => if x.1 = v then some x.2 else getK v t

def GetPost (w : World) : Option (List Int) → Ending → World → Prop
  | some d, e, w' => ∃ g, e = .returned (.tuple #[.slice (some ⟨g, 0, none⟩) d.length d.length, .bool true]) ∧ w'.heap[g]? = some (.cells (cellsB d) 5 (0, 0)) ∧ w.heap.size ≤ g ∧ isB d ∧ Below w.heap.size w w'
  | none, e, w' => e = .returned (.tuple #[.slice none 0 0, .bool false]) ∧ Below w.heap.size w w'

set_option maxHeartbeats 1600000 in
theorem get_any (p : Option Addr) (c : Nat) (l : List Fd) (v : Int) (w : World) (hp : FIn w p l) (hn : l.length ≤ maxLen) :
    Calls Try.prog 23 #[.slice p l.length c, .int .i64 v] w (GetPost w (getK v (kys l))) := by
  simp only [maxLen] at hn
  obtain ⟨r, hr⟩ : ∃ r, getK v (kys l) = r := ⟨_, rfl⟩
  rw [hr]
  go_enter Try.func23, Try.ntmps23
  go_wp2
  go_loopw [10] (fun i W => ∃ k : Nat, k ≤ l.length ∧ i = .int .i64 k ∧ r = getK v (kys (l.drop k)) ∧ Below w.heap.size w W) (fun i _ => l.length - (intOf i).toNat)
  case atStart => exact ⟨0, by omega, rfl, hr.symm, Below.refl _ _⟩
  case round =>
    obtain ⟨k, hk, rfl, ht, hb⟩ := hrel
    by_cases t : k < l.length
    · obtain ⟨b, o, rfl, hc⟩ := (hp.below hb).at (by omega)
      obtain ⟨e0, e1, hx⟩ := hc k t
      rw [drop_next l k t] at ht
      simp only [kys, List.map_cons, getK, ky] at ht
      generalize l.getD k zf = y at ht e0 e1 hx
      have hB := (Below.refl wr.heap.size wr).alloc (Nat.le_refl _) (.cells #[.int .i64 y.tag, .slice y.p y.d.length y.cap] 32)
      have HT := Hid.mk' ht
      have HB := Hid.mk' (hb.trans (hB.mono hb.size))
      have N := bown_any y.p y.cap y.d _ (hx.below hB).bin hx.few
      have hisb := hx.isb
      clear hc ht hb hB hx
      by_cases t1 : y.tag = v
      · obtain rfl : r = some y.d := by rw [HT.out]; simp [t1]
        clear HT hr
        subst t1
        go_wp2_with fail
        refine N.mono ?_
        rintro e w3 ⟨rfl, hnew, hb3⟩
        have HN := Hid.mk' hnew
        have HB3 := Hid.mk' (HB.out.trans (hb3.mono HB.out.size))
        clear hnew hb3
        go_wp2_with fail
        try rw [Exit.noGoto_ret]
        exact bodyPost_ret (v := .tuple #[_, .bool true]) (by simp [results, Try.results23, go_sem]) rfl ⟨_, rfl, HN.out, HB.out.size, hisb, HB3.out⟩
      · have d1 : (y.tag == v) = false := by simpa using t1
        clear N
        go_wp2_with fail
        go_roundw
        case rel => exact ⟨k + 1, by omega, by go_num, by rw [HT.out, if_neg t1]; rfl, HB.out⟩
        case measure => simp [intOf]; omega
    · obtain rfl : k = l.length := by omega
      rw [List.drop_of_length_le (Nat.le_refl _)] at ht
      obtain rfl : r = none := ht
      go_wp2_with fail
      exact bodyPost_ret (v := .tuple #[.slice none 0 0, .bool false]) (by simp [results, Try.results23, go_sem]) rfl ⟨rfl, hb⟩

set_option maxHeartbeats 4000000 in
theorem grow_any (n : Nat) (w : World) (hn : n ≤ 1099511627776) :
    Calls Try.prog 46 #[.slice none 0 0, .int .i64 n] w fun e w' => ∃ v, e = .returned v ∧ OwnR 32 2 w' w.heap.size v 0 [] ∧ Below w.heap.size w w' := by
  by_cases t : n = 0
  · subst t
    go_enter Try.func46, Try.ntmps46
    go_wp2_with fail
    go_ret
    exact ⟨_, rfl, OwnR.nil _ _ _ _, Below.refl _ _⟩
  · obtain ⟨i0, hi, hz0, hz1, hz2⟩ := info_parts infoF
    have hrz : ∀ ty, (Builtin.append_ #[22, 3] ty #[.slice none 0 0, .int .i64 (n : Int)]).run Try.prog w =
        .ok (.slice (some ⟨w.heap.size, 0, none⟩) n (grownCap w n 0 32)) (w.drew.alloc (.cells (Builtin.zeroCells #[Value.int .i64 0, Value.slice none 0 0] n ++ Builtin.zeroCells #[Value.int .i64 0, Value.slice none 0 0] (grownCap w n 0 32 - n)) 32)) := fun ty => by
      have h := Lib.run_append_grow_zeros (P := Try.prog) w 22 3 ty 32 i0 _ .i64 .i64 Try.underlying22 Try.underlying3 hi hz0 none 0 0 [] (run_firstCells_none w.drew i0.size 0 0 0) n (by omega) (by omega) (by omega) (by omega) (by rw [hz2]; omega) (by rw [hz2]; exact growslice_fits (by omega) (by omega))
      rw [show (Value.agg #[.int .i64 0, .slice none 0 0]).cells = #[Value.int .i64 0, Value.slice none 0 0] from rfl] at h
      simpa using h
    have hGn : n ≤ grownCap w n 0 32 := grownCap_ge w _ _ _
    have hG63 := grownCap_le_maxLen w n 0 32 (by unfold maxLen; omega)
    generalize grownCap w n 0 32 = G at hrz hGn hG63
    unfold maxLen at hG63
    have hpos : (0 : Int) < (n : Int) := by omega
    have hnn : ¬ ((n : Int) < 0) := by omega
    clear hi hz0 hz1 hz2
    go_enter Try.func46, Try.ntmps46
    go_wp2_with (refine Lib.wpList_append_run _ rfl _ _ _ _ rfl _ _ rfl rfl _ _ (hrz _) ?_)
    go_ret
    refine ⟨_, rfl, ⟨⟨rfl, .inr ⟨_, G, _, rfl, Nat.zero_le _, heap_alloc_new w.drew _, Nat.zero_le _, hG63, ?_, by simp⟩⟩, fun k hk => by cases hk; exact Nat.le_refl _⟩, (Below.refl _ _).drew.alloc (Nat.le_refl _) _⟩
    simp [Builtin.zeroCells]
    omega

theorem flat_one (l : List Fd) : ∀ u ∈ l.flatMap Fd.cells, u.oneCell' = true := by
  intro u hu
  simp only [List.mem_flatMap, Fd.cells, List.mem_cons, List.not_mem_nil, or_false] at hu
  obtain ⟨f, _, rfl | rfl⟩ := hu <;> rfl

theorem FIn.news {w : World} {p : Option Addr} {l : List Fd} (h : FIn w p l) : 0 < l.length → ∃ a, p = some a ∧ ∀ j u, (l.flatMap Fd.cells)[j]? = some u → w.cell? (a.add j) = some u := fun hl => by
  obtain ⟨b, o, rfl, hc⟩ := h.at hl
  refine ⟨_, rfl, fun j u hj => ?_⟩
  have hlt : j < l.length * 2 := by rw [← flat_len]; exact (List.getElem?_eq_some_iff.1 hj).1
  obtain ⟨h1, h2, _⟩ := hc (j / 2) (by omega)
  obtain ⟨g1, g2⟩ := flat_get l (j / 2)
  have hl2 : j / 2 < l.length := by omega
  rw [Go.WideShapes.add_plain]
  rcases Nat.mod_two_eq_zero_or_one j with q | q
  · have e : j = j / 2 * 2 := by omega
    rw [e] at hj ⊢
    rw [g1] at hj
    rw [h1, ← hj]
    simp [List.getD, hl2]
  · have e : j = j / 2 * 2 + 1 := by omega
    rw [e] at hj ⊢
    rw [g2] at hj
    rw [← Nat.add_assoc, h2, ← hj]
    simp [List.getD, hl2]

/-- A row that is owned, as fields. -/
theorem own_fin {w : World} {B : Nat} {v : Value} {n : Nat} {l : List Fd} (h : OwnR 32 2 w B v n (l.flatMap Fd.cells)) (hok : ∀ f ∈ l, FOk w f) : ∃ p c, v = .slice p l.length c ∧ FIn w p l ∧ (p = none → c = 0) ∧ l.length ≤ c ∧ c ≤ maxLen := by
  have hn : n = l.length := by have := h.owns.1; rw [flat_len] at this; omega
  subst hn
  obtain ⟨p, c, rfl, h1, h2, h3, h4⟩ := h.slice
  refine ⟨p, c, rfl, fun hl => ?_, h1, h2, h3⟩
  obtain ⟨g, rfl, _, hc⟩ := h4 hl
  refine FIn.of (fun i hi => ?_) hl
  obtain ⟨g1, g2⟩ := flat_get l i
  refine ⟨?_, ?_, hok _ (by simp [List.getD, hi])⟩
  · rw [Nat.zero_add]; exact hc _ _ (by rw [g1]; simp [List.getD, hi])
  · rw [Nat.zero_add]; exact hc _ _ (by rw [g2]; simp [List.getD, hi])

/-- Bags in a slice: where each lies. -/
structure Pt where
  p : Option Addr
  c : Nat
  l : List Fd
def zp : Pt := ⟨none, 0, []⟩
structure PIn (w : World) (b : Nat) (ps : List Pt) : Prop where
  cell : ∀ i, i < ps.length → w.cell? ⟨b, i, none⟩ = some (.slice (ps.getD i zp).p (ps.getD i zp).l.length (ps.getD i zp).c)
  fin : ∀ x ∈ ps, FIn w x.p x.l
  nil : ∀ x ∈ ps, x.p = none → x.c = 0

theorem PIn.below {w w' : World} {b : Nat} {ps : List Pt} (h : PIn w b ps) (k : Below w.heap.size w w') : PIn w' b ps :=
  ⟨fun i hi => by rw [k.cell (p := ⟨b, i, none⟩) (lt_of_cell (h.cell i hi))]; exact h.cell i hi, fun x hx => (h.fin x hx).below k, h.nil⟩

def allP (ps : List Pt) : List Fd := ps.flatMap Pt.l
theorem allP_next (ps : List Pt) (k : Nat) (h : k < ps.length) : allP (ps.take (k + 1)) = allP (ps.take k) ++ (ps.getD k zp).l := by
  unfold allP
  rw [List.take_succ_eq_append_getElem h, List.flatMap_append]; simp [List.getD, h]
theorem allP_le (ps : List Pt) (k : Nat) : (allP (ps.take k)).length ≤ (allP ps).length := by
  have : allP ps = allP (ps.take k) ++ allP (ps.drop k) := by simp only [allP]; rw [← List.flatMap_append, List.take_append_drop]
  rw [this, List.length_append]; omega

theorem flatF_append (a b : List Fd) : (a ++ b).flatMap Fd.cells = a.flatMap Fd.cells ++ b.flatMap Fd.cells := List.flatMap_append

set_option maxHeartbeats 4000000 in
theorem concat_any (b : Nat) (ps : List Pt) (w : World) (hp : PIn w b ps) (hn : ps.length ≤ 1000) (hl : (allP ps).length ≤ 1099511627776) :
    Calls Try.prog 36 #[.slice (some ⟨b, 0, none⟩) ps.length ps.length] w fun e w' => ∃ v, e = .returned v ∧ OwnR 32 2 w' w.heap.size v (allP ps).length ((allP ps).flatMap Fd.cells) ∧ Below w.heap.size w w' := by
  go_enter Try.func36, Try.ntmps36
  go_wp2
  go_loop [3, 11] (fun z i => ∃ k : Nat, k ≤ ps.length ∧ i = .int .i64 k ∧ z = .int .i64 ((allP (ps.take k)).length : Nat)) (fun _ i => ps.length - (intOf i).toNat)
  case atStart => exact ⟨0, by omega, rfl, rfl⟩
  case round =>
    obtain ⟨k, hk, rfl, rfl⟩ := hrel
    by_cases t : k < ps.length
    · have e0 := hp.cell k t
      have HN := Hid.mk' (allP_next ps k t)
      have hle := allP_le ps (k + 1)
      rw [HN.out, List.length_append] at hle
      generalize ps.getD k zp = y at HN e0 hle
      have HL := Hid.mk' (show ((allP (ps.take (k + 1))).length : Nat) = (allP (ps.take k)).length + y.l.length by rw [HN.out, List.length_append])
      generalize (allP (ps.take k)).length = z at HL hle ⊢
      go_wp2
      go_round
      case rel => exact ⟨k + 1, by omega, by go_num, by rw [HL.out]; go_num⟩
      case measure => simp [intOf]; omega
    · obtain rfl : k = ps.length := by omega
      rw [List.take_of_length_le (Nat.le_refl _)]
      have N := grow_any (allP ps).length w hl
      go_wp2_with fail
      refine N.mono ?_
      rintro e w1 ⟨v1, rfl, hO1, hb1⟩
      have HO1 := Hid.mk' hO1
      have HB1 := Hid.mk' hb1
      clear hO1 hb1 N
      go_wp2_with fail
      go_loopw [6, 27] (fun v i W => ∃ k : Nat, k ≤ ps.length ∧ i = .int .i64 k ∧ Hid (OwnR 32 2 W w.heap.size v (allP (ps.take k)).length ((allP (ps.take k)).flatMap Fd.cells)) ∧ Hid (Below w.heap.size w W)) (fun _ i _ => ps.length - (intOf i).toNat)
      case atStart => exact ⟨0, by omega, rfl, HO1.out, HB1.out⟩
      case round =>
        obtain ⟨k, hk, rfl, HO, HB⟩ := hrel
        by_cases t : k < ps.length
        · have hpk := hp.below HB.out
          have e0 := hpk.cell k t
          have hmem : ps.getD k zp ∈ ps := by simp [List.getD, t]
          have hfi := hpk.fin _ hmem
          have hni := hpk.nil _ hmem
          have HN := Hid.mk' (allP_next ps k t)
          have hle := allP_le ps (k + 1)
          rw [HN.out, List.length_append] at hle
          generalize ps.getD k zp = y at HN e0 hle hfi hni
          have HLE := Hid.mk' hle
          clear hpk hmem hle
          go_wp2_with (refine wpList_own rfl (.tmp 31) (.tmp 32) 22 rfl 32 (.agg #[.int .i64 0, .slice none 0 0]) 2 32 Try.underlying22 infoF rfl (by decide) w.heap.size _ _ _ rfl HO.out HB.out.size y.p y.l.length y.c (y.l.flatMap Fd.cells) rfl hni (flat_len _) hfi.news (flat_one _) (by have := HLE.out; unfold maxLen; omega) (by have := HLE.out; omega) ?_)
          intro v2 w2 hO2 hb2
          have HO2 := Hid.mk' hO2
          have HB2 := Hid.mk' (HB.out.trans hb2)
          clear hO2 hb2 HO HB
          go_wp2
          go_roundw
          case rel => exact ⟨k + 1, by omega, by go_num, by rw [HN.out, flatF_append, List.length_append]; exact HO2.out, HB2.out⟩
          case measure => simp [intOf]; omega
        · obtain rfl : k = ps.length := by omega
          rw [List.take_of_length_le (Nat.le_refl _)] at HO
          go_wp2
          go_ret
          exact ⟨_, rfl, HO.out, HB.out⟩
end Go.Proofs.Ytecdagmeobiahaa
