/-
  Package bag: Drop, with slices.IndexFunc and slices.DeleteFunc over its closure.
-/
import Derived.Test.YtecdagmeobiahaaBagR
import Derived.Laws.IdiomCopy
import Derived.Lib.SliceRun
namespace Go.Proofs.Ytecdagmeobiahaa
open Go.RowKit
set_option linter.unusedSimpArgs false
set_option linter.unusedVariables false

set_option maxHeartbeats 1600000 in
theorem drop1_any (x : Fd) (bt : Nat) (v : Int) (w : World) (hc : w.cell? ⟨bt, 0, none⟩ = some (.int .i64 v)) :
    Calls Try.prog 38 #[.agg #[.int .i64 x.tag, .slice x.p x.d.length x.cap], .pointer (some ⟨bt, 0, none⟩)] w fun e w' => e = .returned (.bool (decide (x.tag = v))) ∧ Below w.heap.size w w' := by
  have hb : bt < w.heap.size := lt_of_cell hc
  go_enter Try.func38, Try.ntmps38
  by_cases t : x.tag = v
  · have d : (x.tag == v) = true := by simpa using t
    go_wp2_with fail
    go_ret
    exact ⟨by simp [t], (Below.refl _ _).alloc (Nat.le_refl _) _⟩
  · have d : (x.tag == v) = false := by simpa using t
    go_wp2_with fail
    go_ret
    exact ⟨by simp [t], (Below.refl _ _).alloc (Nat.le_refl _) _⟩

/-- A row at block g, of fields whose bytes lie elsewhere, and the closure's variable at block bt. -/
structure InDel (B : Nat) (w0 : World) (g bt : Nat) (v : Int) (L : List Fd) (X : World) : Prop where
  row : X.heap[g]? = some (.cells (cellsF L) 32 (0, 0))
  box : X.cell? ⟨bt, 0, none⟩ = some (.int .i64 v)
  ne : bt ≠ g
  oks : ∀ f ∈ L, FOkN g X f
  low : B ≤ g
  below : Below B w0 X

section
variable {B : Nat} {w0 : World} {g bt : Nat} {v : Int} {L : List Fd} {X X' : World}

theorem InDel.lt (h : InDel B w0 g bt v L X) : g < X.heap.size := (Array.getElem?_eq_some_iff.1 h.row).1

theorem InDel.on (h : InDel B w0 g bt v L X) (k : Below X.heap.size X X') : InDel B w0 g bt v L X' :=
  ⟨by rw [k.block _ h.lt]; exact h.row, by rw [k.cell (p := ⟨bt, 0, none⟩) (lt_of_cell h.box)]; exact h.box, h.ne, fun f hf => (h.oks f hf).below k, h.low, h.below.trans (k.mono (by have := h.lt; have := h.low; omega))⟩

theorem InDel.set (h : InDel B w0 g bt v L X) (i : Nat) (f : Fd) (hf : f ∈ L) : InDel B w0 g bt v (L.set i f) ((X.setCell ⟨g, i * 2, none⟩ (.int .i64 f.tag)).setCell ⟨g, i * 2 + 1, none⟩ (.slice f.p f.d.length f.cap)) := by
  have hfr : Fr (fun k => k = g) X ((X.setCell ⟨g, i * 2, none⟩ (.int .i64 f.tag)).setCell ⟨g, i * 2 + 1, none⟩ (.slice f.p f.d.length f.cap)) := Fr.setCell (p := ⟨g, i * 2 + 1, none⟩) (Fr.setCell (p := ⟨g, i * 2, none⟩) (Fr.refl (fun k => k = g) _) (.inl rfl) _) (.inl rfl) _
  refine ⟨?_, ?_, h.ne, fun x hx => ?_, h.low, (h.below.setCell (p := ⟨g, i * 2, none⟩) h.low _).setCell (p := ⟨g, i * 2 + 1, none⟩) h.low _⟩
  · have h1 := fset_at (fset_at h.row (i := i * 2) (.int .i64 f.tag)) (i := i * 2 + 1) (.slice f.p f.d.length f.cap)
    rw [h1, cellsF_set]
  · rw [hfr.cell (p := ⟨bt, 0, none⟩) (lt_of_cell h.box) h.ne]; exact h.box
  · rcases List.mem_or_eq_of_mem_set hx with q | rfl
    · exact (h.oks x q).fr hfr
    · exact (h.oks x hf).fr hfr
end

set_option maxHeartbeats 4000000 in
theorem indexFunc_any (B : Nat) (w0 : World) (g bt c : Nat) (v : Int) (L : List Fd) (w : World) (hI : InDel B w0 g bt v L w) (hn : L.length ≤ 1099511627776) :
    Calls Try.prog 47 #[.slice (some ⟨g, 0, none⟩) L.length c, .func (.func 38) #[] #[.pointer (some ⟨bt, 0, none⟩)]] w
      fun e w' => (∃ r : Int, e = .returned (.int .i64 r) ∧ ((r = -1 ∧ ∀ x ∈ L, x.tag ≠ v) ∨ ∃ k : Nat, k < L.length ∧ r = k ∧ (L.getD k zf).tag = v ∧ ∀ x ∈ L.take k, x.tag ≠ v)) ∧ Below w.heap.size w w' := by
  go_enter Try.func47, Try.ntmps47
  go_wp2
  go_loopw [8] (fun i W => ∃ k : Nat, k ≤ L.length ∧ i = .int .i64 k ∧ Hid (∀ x ∈ L.take k, x.tag ≠ v) ∧ Below w.heap.size w W) (fun i _ => L.length - (intOf i).toNat)
  case atStart => exact ⟨0, by omega, rfl, fun f hf => by simp at hf, Below.refl _ _⟩
  case round =>
    obtain ⟨k, hk, rfl, HT, hb⟩ := hrel
    have hI2 := hI.on hb
    by_cases t : k < L.length
    · obtain ⟨e0, e1, _, _⟩ := cellsF_at hI2.row k t
      obtain ⟨y, hy⟩ : ∃ y, L.getD k zf = y := ⟨_, rfl⟩
      rw [hy] at e0 e1
      have HY := Hid.mk' hy
      have HB := Hid.mk' hb
      have N := drop1_any y bt v wr hI2.box
      clear hy hb hI2
      go_wp2_with fail
      refine N.mono ?_
      rintro e w3 ⟨rfl, hb3⟩
      have HB3 := Hid.mk' (HB.out.trans (hb3.mono HB.out.size))
      clear hb3 N
      by_cases t1 : y.tag = v
      · rw [decide_eq_true t1]
        have HV := Hid.mk' t1
        clear t1
        go_wp2_with fail
        try rw [Exit.noGoto_ret]
        go_ret
        exact ⟨⟨k, rfl, .inr ⟨k, t, rfl, by rw [HY.out]; exact HV.out, HT.out⟩⟩, HB3.out⟩
      · rw [decide_eq_false t1]
        have HV := Hid.mk' t1
        clear t1
        go_wp2_with fail
        go_roundw
        case rel =>
          refine ⟨k + 1, by omega, by go_num, fun f hf => ?_, HB3.out⟩
          rw [take_next L k t, HY.out] at hf
          rcases List.mem_append.1 hf with q | q
          · exact HT.out f q
          · simp at q; subst q; exact HV.out
        case measure => simp [intOf]; omega
    · obtain rfl : k = L.length := by omega
      rw [List.take_of_length_le (Nat.le_refl _)] at HT
      go_wp2
      go_ret
      exact ⟨⟨-1, rfl, .inl ⟨rfl, HT.out⟩⟩, hb⟩

theorem cellsF_some {w : World} {g : Nat} {l : List Fd} {t : TypeId} (h : w.heap[g]? = some (.cells (cellsF l) t (0, 0))) (o : Nat) (ho : o < l.length * 2) :
    (w.cell? ⟨g, o, none⟩).isSome = true ∧ w.frozen? ⟨g, o, none⟩ = false := by
  have : o < (cellsF l).size := by rw [cellsF_size]; exact ho
  simp [World.cell?, World.frozen?, h, this]

theorem Fr.setCells (g : Nat) : ∀ (vs : List Value) (o : Nat) (w : World), Fr (fun k => k = g) w (w.setCells g o vs)
  | [], _, w => Fr.refl _ _
  | v :: r, o, w => by
    rw [World.setCells]
    exact (Fr.setCell (p := ⟨g, o, none⟩) (Fr.refl (fun k => k = g) w) (.inl rfl) v).trans (Fr.setCells g r (o + 1) _) fun i q => .inl q

/-- 'clear(s)' of n > 0 fields. -/
theorem run_clearF (w : World) (b o n c : Nat) (hn : 0 < n) (hc : ∀ j, j < n * 2 → (w.cell? ⟨b, o + j, none⟩).isSome = true) (hf : ∀ j, j < n * 2 → w.frozen? ⟨b, o + j, none⟩ = false) :
    ∃ vs : List Value, vs.length = n * 2 ∧ ∀ ty, (Builtin.clear_ #[22] ty #[.slice (some ⟨b, o, none⟩) n c]).run Try.prog w = .ok (.tuple #[]) (w.setCells b o vs) := by
  have hv : ∀ w, (zeroValue 32).run Try.prog w = .ok (.agg #[.int .i64 0, .slice none 0 0]) w := fun w => rfl
  have hl : (Builtin.zeroCells #[Value.int .i64 0, Value.slice none 0 0] n).toList.length = n * 2 := by simp [Builtin.zeroCells]
  have h1 : ∀ v ∈ (Builtin.zeroCells #[Value.int .i64 0, Value.slice none 0 0] n).toList, v.oneCell' = true := by
    intro v hv
    simp [Builtin.zeroCells] at hv
    obtain ⟨i, hi, rfl⟩ := hv
    rcases Nat.mod_two_eq_zero_or_one i with q | q <;> simp [q] <;> rfl
  have hst := run_storeCells_cells (P := Try.prog) b o (Builtin.zeroCells #[Value.int .i64 0, Value.slice none 0 0] n).toList 0 w (by rw [hl]; simpa using hc) (by rw [hl]; simpa using hf) h1
  simp only [Nat.add_zero] at hst
  refine ⟨(Builtin.zeroCells #[Value.int .i64 0, Value.slice none 0 0] n).toList, hl, fun ty => ?_⟩
  obtain ⟨m, rfl⟩ : ∃ m, n = m + 1 := ⟨n - 1, by omega⟩
  have hcl : (Value.agg #[.int .i64 0, .slice none 0 0]).cells = #[Value.int .i64 0, Value.slice none 0 0] := rfl
  simp [Builtin.clear_, run_underlying Try.underlying22, hv, hcl, hst]

def keepF (v : Int) (l : List Fd) : List Fd := l.filter fun x => decide (x.tag ≠ v)
theorem keepF_all {v : Int} {l : List Fd} (h : ∀ x ∈ l, x.tag ≠ v) : keepF v l = l := by
  unfold keepF; rw [List.filter_eq_self]; intro x hx; simpa using h x hx
theorem keepF_one {v : Int} {x : Fd} (h : x.tag = v) : keepF v [x] = [] := by simp [keepF, h]
theorem keepF_append (v : Int) (a b : List Fd) : keepF v (a ++ b) = keepF v a ++ keepF v b := by simp [keepF]
theorem keepF_kys (v : Int) (l : List Fd) : kys (keepF v l) = (kys l).filter (fun x => decide (x.1 ≠ v)) := by
  unfold keepF kys
  rw [List.filter_map]
  rfl

/-- In the midst: i is where the next is written, j the next that is looked at. -/
structure InMid (L M : List Fd) (v : Int) (i j : Nat) : Prop where
  len : M.length = L.length
  lt : i < j
  le : j ≤ L.length
  kept : M.take i = keepF v (L.take j)
  rest : M.drop j = L.drop j

theorem InMid.at {L M : List Fd} {v : Int} {i j : Nat} (h : InMid L M v i j) (hj : j < L.length) : M.getD j zf = L.getD j zf := by
  have h1 := drop_next M j (by rw [h.len]; exact hj)
  rw [h.rest, drop_next L j hj] at h1
  simp only [List.cons.injEq] at h1
  exact h1.1.symm

theorem InMid.skip {L M : List Fd} {v : Int} {i j : Nat} (h : InMid L M v i j) (hj : j < L.length) (ht : (L.getD j zf).tag = v) : InMid L M v i (j + 1) :=
  ⟨h.len, by have := h.lt; omega, by omega, by rw [take_next L j hj, keepF_append, h.kept, keepF_one ht, List.append_nil], by rw [← List.drop_drop, h.rest, List.drop_drop]⟩

theorem InMid.take {L M : List Fd} {v : Int} {i j : Nat} (h : InMid L M v i j) (hj : j < L.length) (ht : (L.getD j zf).tag ≠ v) : InMid L (M.set i (L.getD j zf)) v (i + 1) (j + 1) := by
  have := h.lt
  have := h.len
  refine ⟨by simp [h.len], by omega, by omega, ?_, ?_⟩
  · rw [take_next _ i (by simp; omega), take_next L j hj, keepF_append, ← h.kept, List.take_set_of_le (Nat.le_refl _)]
    have e : keepF v [L.getD j zf] = [L.getD j zf] := keepF_all (by simpa using ht)
    rw [e]
    congr 2
    simp [List.getD, show i < M.length by omega]
  · rw [List.drop_set, if_pos (by omega), ← List.drop_drop, h.rest, List.drop_drop]

set_option maxHeartbeats 4000000 in
theorem deleteFunc_any (B : Nat) (w0 : World) (g bt : Nat) (v : Int) (L : List Fd) (w : World) (hI : InDel B w0 g bt v L w) (hn : L.length ≤ 1099511627776) :
    Calls Try.prog 37 #[.slice (some ⟨g, 0, none⟩) L.length L.length, .func (.func 38) #[] #[.pointer (some ⟨bt, 0, none⟩)]] w
      fun e w' => (∃ l' : List Fd, e = .returned (.slice (some ⟨g, 0, none⟩) l'.length L.length) ∧ kys l' = (kys L).filter (fun x => decide (x.1 ≠ v)) ∧ l'.length ≤ L.length ∧ FIn w' (some ⟨g, 0, none⟩) l') ∧ Below B w0 w' := by
  have N0 := indexFunc_any B w0 g bt L.length v L w hI hn
  go_enter Try.func37, Try.ntmps37
  go_wp2_with fail
  refine N0.mono ?_
  rintro e w1 ⟨⟨r, rfl, hr⟩, hb1⟩
  have HI1 := Hid.mk' (hI.on hb1)
  clear N0 hb1 hI
  rcases hr with ⟨rfl, hno⟩ | ⟨k, hk, rfl, hat, hno⟩
  · have HNo := Hid.mk' hno
    clear hno
    go_wp2_with fail
    go_ret
    exact ⟨⟨L, rfl, by rw [← keepF_kys, keepF_all HNo.out], Nat.le_refl _, FIn.of_row HI1.out.row fun x hx => (HI1.out.oks x hx).ok⟩, HI1.out.below⟩
  · have HM := Hid.mk' (show InMid L L v k (k + 1) from ⟨rfl, by omega, by omega, by rw [take_next L k hk, keepF_append, keepF_all hno, keepF_one hat, List.append_nil], rfl⟩)
    clear hno hat
    have hkne : ((k : Int) == -1) = false := by simp
    go_wp2_with fail
    go_loopw [5, 6] (fun i' j' W => ∃ (i j : Nat) (M : List Fd), i' = .int .i64 i ∧ j' = .int .i64 j ∧ Hid (InMid L M v i j) ∧ Hid (InDel B w0 g bt v M W)) (fun _ j' _ => L.length - (intOf j').toNat)
    case atStart => exact ⟨k, k + 1, L, rfl, by go_num, HM.out, HI1.out⟩
    case round =>
      obtain ⟨i, j, M, rfl, rfl, HM, HI⟩ := hrel
      have hij := HM.out.lt
      have hjl := HM.out.le
      have hml := HM.out.len
      by_cases t : j < L.length
      · obtain ⟨e0, e1, _, _⟩ := cellsF_at HI.out.row j (by omega)
        rw [HM.out.at t] at e0 e1
        have HSk := Hid.mk' (fun h => HM.out.skip t h)
        have HTk := Hid.mk' (fun h => HM.out.take t h)
        have hmem : L.getD j zf ∈ M := by rw [← HM.out.at t]; simp [List.getD, show j < M.length by omega]
        generalize L.getD j zf = y at e0 e1 HSk HTk hmem
        have hB := (Below.refl wr.heap.size wr).alloc (Nat.le_refl _) (.cells #[.int .i64 y.tag, .slice y.p y.d.length y.cap] 32)
        have hI2 := HI.out.on hB
        have N := drop1_any y bt v _ hI2.box
        have HI2 := Hid.mk' hI2
        clear HI HM hI2 hB
        go_wp2_with fail
        refine N.mono ?_
        rintro e w3 ⟨rfl, hb3⟩
        have HI3 := Hid.mk' (HI2.out.on hb3)
        have hbx : w3.heap[wr.heap.size]? = some (.cells #[.int .i64 y.tag, .slice y.p y.d.length y.cap] 32 (0, 0)) := by rw [hb3.block _ (by simp)]; exact heap_alloc_new _ _
        obtain ⟨q0, q1, _, _⟩ := two_cells hbx
        clear N HI2 hb3 hbx
        by_cases t1 : y.tag = v
        · rw [decide_eq_true t1]
          have HV := Hid.mk' t1
          clear t1 q0 q1
          go_wp2_with fail
          go_roundw
          case rel => exact ⟨i, j + 1, M, rfl, by go_num, HSk.out HV.out, HI3.out⟩
          case measure => simp [intOf]; omega
        · rw [decide_eq_false t1]
          have HV := Hid.mk' t1
          obtain ⟨s0, s1, s2, s3⟩ := cellsF_at HI3.out.row i (by omega)
          have HI4 := Hid.mk' (HI3.out.set i y hmem)
          generalize M.getD i zf = z at s0 s1
          have hiL : (i : Int) < (L.length : Int) := by omega
          clear t1 HI3
          go_wp2_with fail
          go_roundw
          case rel => exact ⟨i + 1, j + 1, _, by go_num, by go_num, HTk.out HV.out, HI4.out⟩
          case measure => simp [intOf]; omega
      · obtain rfl : j = L.length := by omega
        have hki := HM.out.kept
        rw [List.take_of_length_le (Nat.le_refl _)] at hki
        have HK := Hid.mk' hki
        obtain ⟨vs, hvs, hcl⟩ := run_clearF wr g (i * 2) (L.length - i) (L.length - i) (by omega) (fun q hq => (cellsF_some HI.out.row _ (by rw [hml]; omega)).1) (fun q hq => (cellsF_some HI.out.row _ (by rw [hml]; omega)).2)
        have hfr := Fr.setCells g vs (i * 2) wr
        have hB := Fr.below hfr (B := B) (fun k q => by subst q; exact HI.out.low) (by have := HI.out.lt; have := HI.out.low; omega)
        have HB := Hid.mk' (HI.out.below.trans hB)
        have HF := Hid.mk' (show FIn (wr.setCells g (i * 2) vs) (some ⟨g, 0, none⟩) (M.take i) from by
          refine FIn.of fun q hq => ?_
          simp at hq
          obtain ⟨a0, a1, _, _⟩ := cellsF_at HI.out.row q (by omega)
          have eM : (M.take i).getD q zf = M.getD q zf := by simp [List.getD, List.getElem?_take, show q < i by omega]
          rw [eM, Nat.zero_add]
          refine ⟨?_, ?_, ?_⟩
          · rw [World.cell?_setCells_out g vs (i * 2) wr ⟨g, q * 2, none⟩ (fun _ _ => .inl (by simp; omega))]; exact a0
          · rw [World.cell?_setCells_out g vs (i * 2) wr ⟨g, q * 2 + 1, none⟩ (fun _ _ => .inl (by simp; omega))]; exact a1
          · have hm : M.getD q zf ∈ M := by simp [List.getD, show q < M.length by omega]
            exact ((HI.out.oks _ hm).fr hfr).ok)
        have HLn := Hid.mk' (show i = (M.take i).length by simp; omega)
        have HKy := Hid.mk' (show kys (M.take i) = (kys L).filter (fun x => decide (x.1 ≠ v)) by rw [HK.out, keepF_kys])
        have hiL : ¬ (L.length : Int) = (i : Int) := by omega
        have hiL2 : ¬ L.length = i := by omega
        clear hki hfr hB HI HM HK hjl hvs
        generalize wr.setCells g (i * 2) vs = wz at hcl HB HF
        go_wp2_with fail
        go_ret
        refine ⟨⟨M.take i, ?_, HKy.out, by rw [← HLn.out]; omega, HF.out⟩, HB.out⟩
        rw [← HLn.out]
        rfl

set_option maxHeartbeats 4000000 in
theorem drop_any (p : Option Addr) (c : Nat) (l : List Fd) (v : Int) (w : World) (hp : FIn w p l) (hn : l.length ≤ 1099511627776) :
    Calls Try.prog 22 #[.slice p l.length c, .int .i64 v] w
      fun e w' => ∃ g l', e = .returned (.slice (some ⟨g, 0, none⟩) l'.length l.length) ∧ kys l' = (kys l).filter (fun x => decide (x.1 ≠ v)) ∧ l'.length ≤ l.length ∧ FIn w' (some ⟨g, 0, none⟩) l' ∧ Below w.heap.size w w' := by
  have hmf : ∀ (fn : Fn) (first cap : Array Value) (w : World), (Instr.makeFunc fn first cap).run Try.prog w = .ok (.func fn first cap) w := fun _ _ _ _ => rfl
  have hB := (Below.refl w.heap.size w).alloc (Nat.le_refl _) (.cells #[.int .i64 v] 3)
  have hbox := heap_alloc_new w (.cells #[.int .i64 v] 3)
  have hsz : (w.alloc (.cells #[.int .i64 v] 3)).heap.size = w.heap.size + 1 := by simp
  have C := copy_any p c l _ (hp.below hB) hn
  go_enter Try.func22, Try.ntmps22
  go_wp2_with fail
  refine C.mono ?_
  rintro e w2 ⟨rfl, L, hkl, hrow, hok, hb2⟩
  rw [hsz] at hrow hok
  have hlen : L.length = l.length := by rw [← kys_len, hkl, kys_len]
  have hI : InDel w.heap.size w (w.heap.size + 1) w.heap.size v L w2 := by
    refine ⟨hrow, ?_, by omega, hok, by omega, hB.trans (hb2.mono hB.size)⟩
    have : w2.heap[w.heap.size]? = some (.cells #[.int .i64 v] 3 (0, 0)) := by rw [hb2.block _ (by simp)]; exact hbox
    simp [World.cell?, this]
  have D := deleteFunc_any w.heap.size w (w.heap.size + 1) w.heap.size v L w2 hI (by omega)
  rw [hlen, hkl] at D
  clear C hI hrow hok hb2 hbox hB hkl hsz
  go_wp2_with fail
  refine D.mono ?_
  rintro e w3 ⟨⟨l', rfl, h1, h2, h3⟩, hb3⟩
  have H1 := Hid.mk' h1
  have H3 := Hid.mk' h3
  clear h1 h3 D
  go_wp2_with fail
  go_ret
  exact ⟨_, l', rfl, H1.out, h2, H3.out, hb3⟩
end Go.Proofs.Ytecdagmeobiahaa
