/-
  Package known: the array of names, as the program's text lays it; Name, Tag; the statements' own 'in'.
-/
import Derived.Test.YtecdagmeobiahaaDoorKnowM
import Derived.LaidMore
import Derived.MakeChecks
import Derived.Lib.LaidTab
namespace Go.Proofs.YtecdagmeobiahaaDoor
open Go.RowKit
set_option linter.unusedSimpArgs false
set_option linter.unusedVariables false

theorem laidVars_in {P : Program} {w : World} {n : String} {d : DataW Unit} : ∀ {L : List (String × DataW Unit)} {ps : List MemPlace}, DataW.LaidVars P w L ps → (n, d) ∈ L →
    ∃ g t cs fuel p, P.globalNamed n = some g ∧ (P.globals[g]?).map (·.type) = some t ∧ w.var? P n = some cs ∧ DataW.trod (fun _ => ()) P w 0 (fun _ => true) false fuel t cs.toList = some (d, p)
  | [], _, _, hm => by cases hm
  | (m, e) :: r, ps, h, hm => by
    obtain ⟨g, t, cs, fuel, p, q, h1, h2, h3, h4, h5, _⟩ := h
    rcases List.mem_cons.1 hm with hm | hm
    · cases hm; exact ⟨g, t, cs, fuel, p, h1, h2, h3, h4⟩
    · exact laidVars_in h5 hm

/-- An array of texts that reads as these holds them, cell for cell. -/
theorem cells_of_texts {H : Type} {enc : TypeId × Value → H} {P : Program} {w : World} {base : Nat} {sp : Nat → Bool} {held : Bool} {fuel : Nat} {t e : TypeId} {n : Nat} {cs : List Value} {zs : List (List UInt8)} {p : List MemPlace}
    (ht : P.underlying t = some (.array n e)) (he : P.underlying e = some .string) (hce : P.cellsOf e = 1) (hct : P.cellsOf t = n)
    (h : DataW.trod enc P w base sp held fuel t cs = some (.agg (zs.map fun z => .lit (.string z)), p)) : cs = zs.map fun z => Value.string ⟨z.toArray⟩ := by
  cases fuel with
  | zero => simp [DataW.trod] at h
  | succ fuel =>
    simp only [DataW.trod, ht, hce, hct, Nat.mul_one] at h
    split at h
    · rename_i hl
      obtain ⟨xs, hm, hx⟩ := Option.map_eq_some_iff.1 h
      have hxs : xs.map (·.1) = zs.map fun z => (DataW.lit (.string z) : DataW H) := by
        have := congrArg Prod.fst hx
        simpa using this
      have hxl : xs.length = n := by simpa using Lib.mapM_length hm
      have hzl : zs.length = n := by
        have := congrArg List.length hxs
        simp at this
        omega
      apply List.ext_getElem?
      intro i
      by_cases hi : i < n
      · obtain ⟨b, hb, hf⟩ := Lib.mapM_at hm i i (by simp [hi])
        obtain ⟨s, hc, rfl, _⟩ := DataW.trod_string he hf
        have h1 : cs[i]? = some (.string s) := by
          have := congrArg (·[0]?) hc
          simpa [List.getElem?_take, List.getElem?_drop] using this
        have h2 : (xs.map (·.1))[i]? = some (DataW.lit (.string s.data.toList) : DataW H) := by simp [hb]
        rw [hxs] at h2
        simp only [List.getElem?_map, Option.map_eq_some_iff, DataW.lit.injEq, Lit.string.injEq] at h2
        obtain ⟨z', hz', he2⟩ := h2
        rw [h1, List.getElem?_map, hz']
        simp [he2]
      · rw [List.getElem?_eq_none (by omega), List.getElem?_eq_none (by simp; omega)]
    · cases h

abbrev zoneS : ByteArray := ⟨#[122, 111, 110, 101]⟩
abbrev loadS : ByteArray := ⟨#[108, 111, 97, 100]⟩
abbrev buildS : ByteArray := ⟨#[98, 117, 105, 108, 100]⟩

/-- The array of names. -/
structure Nm (w : World) : Prop where
  zone : w.cell? ⟨0, 0, none⟩ = some (.string zoneS)
  load : w.cell? ⟨0, 1, none⟩ = some (.string loadS)
  build : w.cell? ⟨0, 2, none⟩ = some (.string buildS)

theorem Nm.below {w w' : World} (h : Nm w) (k : Below w.heap.size w w') : Nm w' :=
  ⟨by rw [k.cell (lt_of_cell h.zone)]; exact h.zone, by rw [k.cell (lt_of_cell h.load)]; exact h.load, by rw [k.cell (lt_of_cell h.build)]; exact h.build⟩

/-- What the listed variable reads as is the array of names. -/
theorem nm_of_laid {L : List (String × DataW Unit)} (hp : (L.all fun x => x.2.handleName?.isNone) = true) (hm : ("polyglot/known.names", Rows.laid_polyglot_known_names) ∈ L) {W : World} (h : laidMetH Tryd.prog L W) : Nm W := by
  rw [MakeChecks.laidMetH_plain _ _ _ hp] at h
  obtain ⟨ps, hL, _, _⟩ := h
  obtain ⟨g, t, cs, fuel, p, hg, ht, hv, hd⟩ := laidVars_in hL hm
  obtain rfl := Option.some.inj ((show Tryd.prog.globalNamed "polyglot/known.names" = some 0 by kernel_rfl).symm.trans hg)
  obtain rfl := Option.some.inj ((show (Tryd.prog.globals[0]?).map (·.type) = some 58 by kernel_rfl).symm.trans ht)
  have hc := cells_of_texts (zs := [[122, 111, 110, 101], [108, 111, 97, 100], [98, 117, 105, 108, 100]]) Tryd.underlying58 Tryd.underlying9 (by kernel_rfl) (by kernel_rfl) hd
  have hat : ∀ i, W.cell? ⟨0, i, none⟩ = cs.toList[i]? := fun i => by
    rw [World.var?_cell hg hv i, Array.getElem?_toList]
  refine ⟨?_, ?_, ?_⟩
  · rw [hat, hc]; rfl
  · rw [hat, hc]; rfl
  · rw [hat, hc]; rfl

def nameS (t : Int) : ByteArray := if t = 32 then zoneS else if t = 33 then loadS else if t = 34 then buildS else ⟨#[]⟩

set_option maxHeartbeats 1600000 in
theorem name_any (t : Int) (w : World) (hN : Nm w) (hwf : (Lit.int .i64 t).wf = true) :
    Calls Tryd.prog 19 #[.int .i64 t] w fun e w' => e = .returned (.string (nameS t)) ∧ w = w' := by
  obtain ⟨n0, n1, n2⟩ := hN
  have hb := bounds_i64 hwf
  clear hwf
  by_cases t0 : t < 32
  · rw [show nameS t = ⟨#[]⟩ by unfold nameS; rw [if_neg (by omega), if_neg (by omega), if_neg (by omega)]]
    go_enter Tryd.func19, Tryd.ntmps19
    go_wp2
    go_ret
    exact ⟨rfl, rfl⟩
  by_cases t1 : 34 < t
  · rw [show nameS t = ⟨#[]⟩ by unfold nameS; rw [if_neg (by omega), if_neg (by omega), if_neg (by omega)]]
    go_enter Tryd.func19, Tryd.ntmps19
    go_wp2
    go_ret
    exact ⟨rfl, rfl⟩
  have ht : t = 32 ∨ t = 33 ∨ t = 34 := by omega
  clear t0 t1 hb
  rcases ht with rfl | rfl | rfl
  all_goals
    go_enter Tryd.func19, Tryd.ntmps19
    go_wp2
    go_ret
    exact ⟨rfl, rfl⟩

theorem text_eq (a b : ByteArray) : (a.toList == b.toList) = decide (a = b) := by
  rw [ByteArray.toList_eq, ByteArray.toList_eq, Bool.eq_iff_iff]
  simp
  constructor
  · intro h
    cases a; cases b
    simp at h
    rw [h]
  · rintro rfl; rfl

theorem zone_eq (s : ByteArray) : (([122, 111, 110, 101] : List UInt8) == s.toList) = decide (zoneS = s) := by have h := text_eq zoneS s; rw [ByteArray.toList_eq] at h; exact h
theorem load_eq (s : ByteArray) : (([108, 111, 97, 100] : List UInt8) == s.toList) = decide (loadS = s) := by have h := text_eq loadS s; rw [ByteArray.toList_eq] at h; exact h
theorem build_eq (s : ByteArray) : (([98, 117, 105, 108, 100] : List UInt8) == s.toList) = decide (buildS = s) := by have h := text_eq buildS s; rw [ByteArray.toList_eq] at h; exact h

def tagS (s : ByteArray) : Int × Bool := if zoneS = s then (32, true) else if loadS = s then (33, true) else if buildS = s then (34, true) else (0, false)

set_option maxHeartbeats 1600000 in
theorem tag_any (s : ByteArray) (w : World) (hN : Nm w) :
    Calls Tryd.prog 20 #[.string s] w fun e w' => e = .returned (.tuple #[.int .i64 (tagS s).1, .bool (tagS s).2]) ∧ w = w' := by
  obtain ⟨n0, n1, n2⟩ := hN
  have e0 := zone_eq s
  have e1 := load_eq s
  have e2 := build_eq s
  have HT := Hid.mk' (show tagS s = if zoneS = s then (32, true) else if loadS = s then (33, true) else if buildS = s then (34, true) else (0, false) from rfl)
  generalize tagS s = r at HT ⊢
  have x0 : ∀ w, (Instr.index 58 (.agg #[.string zoneS, .string loadS, .string buildS]) (.int .i64 0)).run Tryd.prog w = .ok (.string zoneS) w := fun w => rfl
  have x1 : ∀ w, (Instr.index 58 (.agg #[.string zoneS, .string loadS, .string buildS]) (.int .i64 1)).run Tryd.prog w = .ok (.string loadS) w := fun w => rfl
  have x2 : ∀ w, (Instr.index 58 (.agg #[.string zoneS, .string loadS, .string buildS]) (.int .i64 2)).run Tryd.prog w = .ok (.string buildS) w := fun w => rfl
  by_cases q0 : zoneS = s
  · rw [decide_eq_true q0] at e0
    obtain rfl : r = (32, true) := by rw [HT.out, if_pos q0]
    clear q0 HT e1 e2
    go_enter Tryd.func20, Tryd.ntmps20
    go_wp2
    refine wp_loop_rounds 1 ?_
    rw [rounds_succ]
    go_wp2
    try rw [Exit.noGoto_ret]
    exact bodyPost_ret (v := .tuple #[.int .i64 32, .bool true]) (by simp [results, Tryd.results20, go_sem]) rfl ⟨rfl, rfl⟩
  rw [decide_eq_false q0] at e0
  by_cases q1 : loadS = s
  · rw [decide_eq_true q1] at e1
    obtain rfl : r = (33, true) := by rw [HT.out, if_neg q0, if_pos q1]
    clear q0 q1 HT e2
    go_enter Tryd.func20, Tryd.ntmps20
    go_wp2
    refine wp_loop_rounds 2 ?_
    rw [rounds_succ]
    go_wp2
    rw [rounds_succ]
    go_wp2
    try rw [Exit.noGoto_ret]
    exact bodyPost_ret (v := .tuple #[.int .i64 33, .bool true]) (by simp [results, Tryd.results20, go_sem]) rfl ⟨rfl, rfl⟩
  rw [decide_eq_false q1] at e1
  by_cases q2 : buildS = s
  · rw [decide_eq_true q2] at e2
    obtain rfl : r = (34, true) := by rw [HT.out, if_neg q0, if_neg q1, if_pos q2]
    clear q0 q1 q2 HT
    go_enter Tryd.func20, Tryd.ntmps20
    go_wp2
    refine wp_loop_rounds 3 ?_
    rw [rounds_succ]
    go_wp2
    rw [rounds_succ]
    go_wp2
    rw [rounds_succ]
    go_wp2
    try rw [Exit.noGoto_ret]
    exact bodyPost_ret (v := .tuple #[.int .i64 34, .bool true]) (by simp [results, Tryd.results20, go_sem]) rfl ⟨rfl, rfl⟩
  rw [decide_eq_false q2] at e2
  obtain rfl : r = (0, false) := by rw [HT.out, if_neg q0, if_neg q1, if_neg q2]
  clear q0 q1 q2 HT
  go_enter Tryd.func20, Tryd.ntmps20
  go_wp2
  refine wp_loop_rounds 4 ?_
  rw [rounds_succ]
  go_wp2
  rw [rounds_succ]
  go_wp2
  rw [rounds_succ]
  go_wp2
  rw [rounds_succ]
  go_wp2
  exact bodyPost_ret (v := .tuple #[.int .i64 0, .bool false]) (by simp [results, Tryd.results20, go_sem]) rfl ⟨rfl, rfl⟩

set_option maxHeartbeats 1600000 in
theorem in_any (v t : Int) (w : World) :
    Calls Tryd.prog 18 #[.int .i64 v, .int .i64 t] w fun e w' => e = .returned (.bool (knowsK v t)) ∧ w = w' := by
  have HM := Hid.mk' (show knowsK v t = ((decide (v = 2) || decide (v = 3)) && (decide (t = 32) || decide (t = 33)) || decide (v = 3) && decide (t = 34)) from rfl)
  generalize knowsK v t = r at HM ⊢
  by_cases a1 : v = 3 <;> by_cases a2 : v = 2 <;> by_cases b1 : t = 32 <;> by_cases b2 : t = 33 <;> by_cases b3 : t = 34 <;> first | (exfalso; omega) | skip
  all_goals
    obtain ⟨q, hq⟩ : ∃ q, ((decide (v = 2) || decide (v = 3)) && (decide (t = 32) || decide (t = 33)) || decide (v = 3) && decide (t = 34)) = q := ⟨_, rfl⟩
    have HQ := Hid.mk' (HM.out.trans hq)
    simp [a1, a2, b1, b2, b3] at hq
    subst hq
    obtain rfl := HQ.out
    clear HQ HM
    have c1 : (v == 3) = decide (v = 3) := rfl
    have c2 : (v == 2) = decide (v = 2) := rfl
    have d1 : (t == 32) = decide (t = 32) := rfl
    have d2 : (t == 33) = decide (t = 33) := rfl
    have d3 : (t == 34) = decide (t = 34) := rfl
    simp only [a1, a2, b1, b2, b3, decide_true, decide_false] at c1 c2 d1 d2 d3
    try subst a1
    try subst a2
    try subst b1
    try subst b2
    try subst b3
    go_enter Tryd.func18, Tryd.ntmps18
    go_wp2
    go_ret
    exact ⟨rfl, rfl⟩
end Go.Proofs.YtecdagmeobiahaaDoor
