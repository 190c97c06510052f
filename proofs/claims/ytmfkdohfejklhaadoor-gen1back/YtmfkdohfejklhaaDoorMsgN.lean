/-
  Package msg: the table of kinds, as the program's text lays it; within, isKind, isPart, Has, Greets, Name, Kind.
-/
import Derived.Test.YtmfkdohfejklhaaDoorMsgM
import Derived.LaidMore
import Derived.MakeChecks
import Derived.Lib.LaidTab
namespace Go.Proofs.YtmfkdohfejklhaaDoor
open Go.RowKit
set_option linter.unusedSimpArgs false
set_option linter.unusedVariables false
set_option maxRecDepth 10000
set_option synthInstance.maxSize 2000

theorem laidVars_in {P : Program} {w : World} {n : String} {d : DataW Unit} : ∀ {L : List (String × DataW Unit)} {ps : List MemPlace}, DataW.LaidVars P w L ps → (n, d) ∈ L →
    ∃ g t cs fuel p, P.globalNamed n = some g ∧ (P.globals[g]?).map (·.type) = some t ∧ w.var? P n = some cs ∧ DataW.trod (fun _ => ()) P w 0 (fun _ => true) false fuel t cs.toList = some (d, p)
  | [], _, _, hm => by cases hm
  | (m, e) :: r, ps, h, hm => by
    obtain ⟨g, t, cs, fuel, p, q, h1, h2, h3, h4, h5, _⟩ := h
    rcases List.mem_cons.1 hm with hm | hm
    · cases hm; exact ⟨g, t, cs, fuel, p, h1, h2, h3, h4⟩
    · exact laidVars_in h5 hm

/-- What a row of the table holds. -/
structure KRow where
  name : ByteArray
  h0 : Bool
  h1 : Bool
  h2 : Bool
  h3 : Bool
  h4 : Bool
def KRow.cells (r : KRow) : List Value := [.string r.name, .bool r.h0, .bool r.h1, .bool r.h2, .bool r.h3, .bool r.h4]
def KRow.data {H : Type} (r : KRow) : DataW H := .agg [.lit (.string r.name.data.toList), .agg [.lit (.bool r.h0), .lit (.bool r.h1), .lit (.bool r.h2), .lit (.bool r.h3), .lit (.bool r.h4)]]

theorem bytes_eq {a b : ByteArray} (h : a.data.toList = b.data.toList) : a = b := by
  cases a; cases b; simp at h; rw [h]

theorem row_cells {H : Type} {enc : TypeId × Value → H} {w : World} {base : Nat} {sp : Nat → Bool} {held : Bool} {fuel : Nat} {cs : List Value} {p : List MemPlace} (r : KRow)
    (h : DataW.trod enc Tryd.prog w base sp held fuel 90 cs = some (r.data, p)) : cs = r.cells := by
  obtain ⟨y0, y1, n, hx, hl, h0, h1⟩ := Go.ChangeShapes.trod_struct2 Tryd.underlying90 h
  have kr : Tryd.prog.cellsOf 90 = 6 := by kernel_rfl
  have ks : Tryd.prog.cellsOf 9 = 1 := by kernel_rfl
  have kp : Tryd.prog.cellsOf 88 = 5 := by kernel_rfl
  have kb : Tryd.prog.cellsOf 4 = 1 := by kernel_rfl
  rw [kr] at hl
  match cs, hl with
  | [v0, v1, v2, v3, v4, v5], _ =>
    replace h0 : DataW.trod enc Tryd.prog w base sp held n 9 ((List.drop 0 [v0, v1, v2, v3, v4, v5]).take (Tryd.prog.cellsOf 9)) = some y0 := h0
    replace h1 : DataW.trod enc Tryd.prog w base sp held n 88 ((List.drop 1 [v0, v1, v2, v3, v4, v5]).take (Tryd.prog.cellsOf 88)) = some y1 := h1
    rw [ks] at h0
    rw [kp] at h1
    simp only [List.drop_zero, List.drop_succ_cons, List.take_succ_cons, List.take_zero] at h0 h1
    obtain ⟨s, e0, rfl, _⟩ := DataW.trod_string Tryd.underlying9 h0
    obtain ⟨xs, m, _, rfl, _, hxl, hxs⟩ := DataW.trod_array Tryd.underlying88 h1
    match xs, hxl with
    | [z0, z1, z2, z3, z4], _ =>
      have b0 : DataW.trod enc Tryd.prog w base sp held m 4 ((List.drop (0 * Tryd.prog.cellsOf 4) [v1, v2, v3, v4, v5]).take (Tryd.prog.cellsOf 4)) = some z0 := hxs 0 (by decide)
      have b1 : DataW.trod enc Tryd.prog w base sp held m 4 ((List.drop (1 * Tryd.prog.cellsOf 4) [v1, v2, v3, v4, v5]).take (Tryd.prog.cellsOf 4)) = some z1 := hxs 1 (by decide)
      have b2 : DataW.trod enc Tryd.prog w base sp held m 4 ((List.drop (2 * Tryd.prog.cellsOf 4) [v1, v2, v3, v4, v5]).take (Tryd.prog.cellsOf 4)) = some z2 := hxs 2 (by decide)
      have b3 : DataW.trod enc Tryd.prog w base sp held m 4 ((List.drop (3 * Tryd.prog.cellsOf 4) [v1, v2, v3, v4, v5]).take (Tryd.prog.cellsOf 4)) = some z3 := hxs 3 (by decide)
      have b4 : DataW.trod enc Tryd.prog w base sp held m 4 ((List.drop (4 * Tryd.prog.cellsOf 4) [v1, v2, v3, v4, v5]).take (Tryd.prog.cellsOf 4)) = some z4 := hxs 4 (by decide)
      rw [kb] at b0 b1 b2 b3 b4
      simp only [List.drop_zero, List.drop_succ_cons, List.take_succ_cons, List.take_zero, Nat.zero_mul, Nat.one_mul, Nat.mul_one] at b0 b1 b2 b3 b4
      obtain ⟨c0, f0, rfl⟩ := DataW.trod_bool Tryd.underlying4 b0
      obtain ⟨c1, f1, rfl⟩ := DataW.trod_bool Tryd.underlying4 b1
      obtain ⟨c2, f2, rfl⟩ := DataW.trod_bool Tryd.underlying4 b2
      obtain ⟨c3, f3, rfl⟩ := DataW.trod_bool Tryd.underlying4 b3
      obtain ⟨c4, f4, rfl⟩ := DataW.trod_bool Tryd.underlying4 b4
      simp [KRow.data] at hx
      simp at e0 f0 f1 f2 f3 f4
      obtain ⟨⟨g0, g1, g2, g3, g4, g5⟩, _⟩ := hx
      subst e0 f0 f1 f2 f3 f4
      obtain rfl : r.name = s := bytes_eq (by rw [g0])
      simp [KRow.cells, g1, g2, g3, g4, g5]

abbrev helloS : ByteArray := ⟨#[104, 101, 108, 108, 111]⟩
abbrev welcomeS : ByteArray := ⟨#[119, 101, 108, 99, 111, 109, 101]⟩
abbrev rejectS : ByteArray := ⟨#[114, 101, 106, 101, 99, 116]⟩
abbrev pingS : ByteArray := ⟨#[112, 105, 110, 103]⟩
abbrev ackS : ByteArray := ⟨#[97, 99, 107]⟩
abbrev askS : ByteArray := ⟨#[97, 115, 107]⟩
abbrev pushS : ByteArray := ⟨#[112, 117, 115, 104]⟩
abbrev pullS : ByteArray := ⟨#[112, 117, 108, 108]⟩
abbrev resetS : ByteArray := ⟨#[114, 101, 115, 101, 116]⟩

/-- The table's rows. -/
def kRows : List KRow := [⟨⟨#[]⟩, false, false, false, false, false⟩, ⟨helloS, true, false, false, false, false⟩, ⟨welcomeS, true, false, false, false, false⟩, ⟨rejectS, false, true, false, false, false⟩,
  ⟨pingS, true, false, false, false, true⟩, ⟨ackS, true, false, false, false, true⟩, ⟨askS, true, true, false, false, true⟩, ⟨pushS, false, false, true, true, true⟩, ⟨pullS, false, false, true, false, true⟩, ⟨resetS, false, false, true, false, false⟩]
def rowK (k : Nat) : KRow := kRows.getD k ⟨⟨#[]⟩, false, false, false, false, false⟩
def nameK (k : Nat) : ByteArray := (rowK k).name

/-- The table of kinds. -/
def Kd (w : World) : Prop := ∀ k, k < 10 → ∀ j, j < 6 → w.cell? ⟨0, k * 6 + j, none⟩ = (rowK k).cells[j]?

theorem Kd.lt {w : World} (h : Kd w) : 0 < w.heap.size := by
  have := h 0 (by decide) 0 (by decide)
  exact lt_of_cell (p := ⟨0, 0, none⟩) (v := .string (rowK 0).name) (by simpa [KRow.cells] using this)
theorem Kd.below {w w' : World} (h : Kd w) (k : Below w.heap.size w w') : Kd w' := fun i hi j hj => by
  rw [k.cell (p := ⟨0, i * 6 + j, none⟩) h.lt]; exact h i hi j hj

theorem laid_is {H : Type} : (Rows.laid_polyglot_msg_kinds : DataW H) = .agg (kRows.map KRow.data) := rfl

/-- What the listed variable reads as is the table of kinds. -/
theorem kd_of_laid {L : List (String × DataW Unit)} (hp : (L.all fun x => x.2.handleName?.isNone) = true) (hm : ("polyglot/msg.kinds", Rows.laid_polyglot_msg_kinds) ∈ L) {W : World} (h : laidMetH Tryd.prog L W) : Kd W := by
  rw [MakeChecks.laidMetH_plain _ _ _ hp] at h
  obtain ⟨ps, hL, _, _⟩ := h
  obtain ⟨g, t, cs, fuel, p, hg, ht, hv, hd⟩ := laidVars_in hL hm
  obtain rfl := Option.some.inj ((show Tryd.prog.globalNamed "polyglot/msg.kinds" = some 0 by kernel_rfl).symm.trans hg)
  obtain rfl := Option.some.inj ((show (Tryd.prog.globals[0]?).map (·.type) = some 91 by kernel_rfl).symm.trans ht)
  have hat : ∀ i, W.cell? ⟨0, i, none⟩ = cs.toList[i]? := fun i => by
    rw [World.var?_cell hg hv i, Array.getElem?_toList]
  obtain ⟨xs, m, _, hx, hl, hxl, hxs⟩ := DataW.trod_array Tryd.underlying91 hd
  have kr : Tryd.prog.cellsOf 90 = 6 := by kernel_rfl
  rw [laid_is] at hx
  have hx1 : xs.map (·.1) = kRows.map KRow.data := by
    have := congrArg Prod.fst hx
    simpa using this.symm
  intro k hk j hj
  rw [hat]
  have h1 := hxs k hk
  rw [kr] at h1
  have hk' : k < xs.length := by omega
  rw [List.getElem?_eq_getElem hk'] at h1
  have hkr : k < kRows.length := hk
  have e1 : (xs[k]).1 = (rowK k).data := by
    have := congrArg (·[k]?) hx1
    simp only [List.getElem?_map, List.getElem?_eq_getElem hk', List.getElem?_eq_getElem hkr, Option.map_some, Option.some.injEq] at this
    rw [this, rowK, List.getD, List.getElem?_eq_getElem hkr]; rfl
  have h2 := row_cells (rowK k) (cs := (cs.toList.drop (k * 6)).take 6) (p := (xs[k]).2) (by rw [h1]; exact congrArg some (Prod.ext e1 rfl))
  rw [← h2, List.getElem?_take, if_pos hj, List.getElem?_drop]

theorem Kd.name {w : World} (h : Kd w) (k : Nat) (hk : k < 10) : w.cell? ⟨0, k * 6, none⟩ = some (.string (nameK k)) := by
  simpa [KRow.cells, nameK] using h k hk 0 (by decide)
theorem Kd.has {w : World} (h : Kd w) (k j : Nat) (hk : k < 10) (h1 : 1 ≤ k) (hj : j < 5) : w.cell? ⟨0, k * 6 + 1 + j, none⟩ = some (.bool (hasB k j)) := by
  have := h k hk (1 + j) (by omega)
  rw [show k * 6 + 1 + j = k * 6 + (1 + j) by omega, this]
  have hk9 : k = 1 ∨ k = 2 ∨ k = 3 ∨ k = 4 ∨ k = 5 ∨ k = 6 ∨ k = 7 ∨ k = 8 ∨ k = 9 := by omega
  have hj5 : j = 0 ∨ j = 1 ∨ j = 2 ∨ j = 3 ∨ j = 4 := by omega
  rcases hk9 with rfl | rfl | rfl | rfl | rfl | rfl | rfl | rfl | rfl <;> rcases hj5 with rfl | rfl | rfl | rfl | rfl <;> rfl

set_option maxHeartbeats 800000 in
theorem mwithin_any (n a b : Int) (w : World) : Calls Tryd.prog 39 #[.int .i64 n, .int .i64 a, .int .i64 b] w fun e w' => e = .returned (.bool (decide (a ≤ n ∧ n ≤ b))) ∧ w = w' := by
  by_cases t1 : a ≤ n
  · by_cases t2 : n ≤ b
    · go_enter Tryd.func39, Tryd.ntmps39
      go_wp2
      go_ret
      exact ⟨by simp [t1, t2], rfl⟩
    · go_enter Tryd.func39, Tryd.ntmps39
      go_wp2
      go_ret
      exact ⟨by simp [t1, t2] <;> omega, rfl⟩
  · go_enter Tryd.func39, Tryd.ntmps39
    go_wp2
    go_ret
    exact ⟨by simp; intro; omega, rfl⟩

theorem isKind_any (k : Int) (w : World) : Calls Tryd.prog 20 #[.int .i64 k] w fun e w' => e = .returned (.bool (decide (1 ≤ k ∧ k ≤ 9))) ∧ w = w' := by
  have C := fun X => mwithin_any k 1 9 X
  generalize decide (1 ≤ k ∧ k ≤ 9) = b at C ⊢
  go_enter Tryd.func20, Tryd.ntmps20
  go_wp2_with fail
  refine (C _).mono ?_
  rintro e w1 ⟨rfl, rfl⟩
  go_wp2_with fail
  go_ret
  exact ⟨rfl, rfl⟩


theorem isPart_any (p : Int) (w : World) : Calls Tryd.prog 41 #[.int .i64 p] w fun e w' => e = .returned (.bool (decide (0 ≤ p ∧ p ≤ 4))) ∧ w = w' := by
  by_cases t1 : 0 ≤ p
  · by_cases t2 : p ≤ 4
    · go_enter Tryd.func41, Tryd.ntmps41
      go_wp2
      go_ret
      exact ⟨by simp [t1, t2], rfl⟩
    · go_enter Tryd.func41, Tryd.ntmps41
      go_wp2
      go_ret
      exact ⟨by simp [t1, t2] <;> omega, rfl⟩
  · go_enter Tryd.func41, Tryd.ntmps41
    go_wp2
    go_ret
    exact ⟨by simp; intro; omega, rfl⟩

def hasM (k p : Int) : Bool := decide (1 ≤ k ∧ k ≤ 9) && decide (0 ≤ p ∧ p ≤ 4) && hasB k p
theorem hasM_kind {k p : Int} (h : 1 ≤ k ∧ k ≤ 9) (hp : 0 ≤ p ∧ p ≤ 4) : hasM k p = hasB k p := by simp [hasM, h, hp]

set_option maxHeartbeats 1600000 in
theorem mhas_any (k p : Int) (w : World) (hK : Kd w) : Calls Tryd.prog 42 #[.int .i64 k, .int .i64 p] w fun e w' => e = .returned (.bool (hasM k p)) ∧ w = w' := by
  have C := fun X => isKind_any k X
  have D := fun X => isPart_any p X
  by_cases t1 : 1 ≤ k ∧ k ≤ 9
  · by_cases t2 : 0 ≤ p ∧ p ≤ 4
    · rw [hasM_kind t1 t2]
      rw [decide_eq_true t1] at C
      rw [decide_eq_true t2] at D
      obtain ⟨k, rfl⟩ : ∃ n : Nat, k = n := ⟨k.toNat, by omega⟩
      obtain ⟨p, rfl⟩ : ∃ n : Nat, p = n := ⟨p.toNat, by omega⟩
      have c := hK.has k p (by omega) (by omega) (by omega)
      have q1 : k < 10 := by omega
      have q2 : p < 5 := by omega
      generalize hasB (k : Int) (p : Int) = b at c ⊢
      clear hK
      go_enter Tryd.func42, Tryd.ntmps42
      go_wp2_with fail
      refine (C _).mono ?_
      rintro e w1 ⟨rfl, rfl⟩
      go_wp2_with fail
      refine (D _).mono ?_
      rintro e w1 ⟨rfl, rfl⟩
      go_wp2_with fail
      go_ret
      exact ⟨rfl, rfl⟩
    · rw [show hasM k p = false by simp [hasM, t2]]
      rw [decide_eq_true t1] at C
      rw [decide_eq_false t2] at D
      go_enter Tryd.func42, Tryd.ntmps42
      go_wp2_with fail
      refine (C _).mono ?_
      rintro e w1 ⟨rfl, rfl⟩
      go_wp2_with fail
      refine (D _).mono ?_
      rintro e w1 ⟨rfl, rfl⟩
      go_wp2_with fail
      go_ret
      exact ⟨rfl, rfl⟩
  · rw [show hasM k p = false by simp [hasM]; intros; omega]
    rw [decide_eq_false t1] at C
    go_enter Tryd.func42, Tryd.ntmps42
    go_wp2_with fail
    refine (C _).mono ?_
    rintro e w1 ⟨rfl, rfl⟩
    go_wp2_with fail
    go_ret
    exact ⟨rfl, rfl⟩

/-- The name of a number. -/
def nameM (k : Int) : ByteArray := if 1 ≤ k ∧ k ≤ 9 then nameK k.toNat else ⟨#[]⟩


theorem mtext_eq (a b : ByteArray) : (a.toList == b.toList) = decide (a = b) := by
  rw [ByteArray.toList_eq, ByteArray.toList_eq, Bool.eq_iff_iff]
  simp
  constructor
  · intro h
    cases a; cases b
    simp at h
    rw [h]
  · rintro rfl; rfl

/-- The kind of a name, n rows ahead of the table's end. -/
def kindR (s : ByteArray) : Nat → Int × Bool
  | 0 => (0, false)
  | n + 1 => if 1 ≤ 9 - n ∧ nameK (9 - n) = s then (((9 - n : Nat) : Int), true) else kindR s n
def kindM (s : ByteArray) : Int × Bool := kindR s 10

/-- The row as a value. -/
def rowV (k : Nat) : Value := .agg #[.string (rowK k).name, .bool (rowK k).h0, .bool (rowK k).h1, .bool (rowK k).h2, .bool (rowK k).h3, .bool (rowK k).h4]
/-- The table as a value. -/
def tabV : Value := .agg ((kRows.flatMap KRow.cells).toArray)
theorem tab_row (k : Nat) (hk : k < 10) (w : World) : (Instr.index 91 tabV (.int .i64 k)).run Tryd.prog w = .ok (rowV k) w := by
  have h : k = 0 ∨ k = 1 ∨ k = 2 ∨ k = 3 ∨ k = 4 ∨ k = 5 ∨ k = 6 ∨ k = 7 ∨ k = 8 ∨ k = 9 := by omega
  rcases h with rfl | rfl | rfl | rfl | rfl | rfl | rfl | rfl | rfl | rfl <;> rfl
end Go.Proofs.YtmfkdohfejklhaaDoor
