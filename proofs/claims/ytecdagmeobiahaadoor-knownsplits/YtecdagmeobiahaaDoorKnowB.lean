/-
  Package known: numbered, made, Make; the statements' own example.
-/
import Derived.Test.YtecdagmeobiahaaDoorKnowM
import Derived.Deep.DeepCutAuto
import Derived.Laws.IdiomStrings
namespace Go.Proofs.YtecdagmeobiahaaDoor
open Go.RowKit
set_option linter.unusedSimpArgs false
set_option linter.unusedVariables false

/-- v owns a row of the fields L, whose bytes lie elsewhere. -/
structure OwnF (B : Nat) (W : World) (v : Value) (L : List Fd) : Prop where
  own : OwnR 39 2 W B v L.length (L.flatMap Fd.cells)
  oks : ∀ f ∈ L, FOk W f
  off : ∀ f ∈ L, 0 < f.d.length → ∀ a, f.p = some a → v.ownBlock ≠ some a.block

theorem OwnF.nil (B : Nat) (W : World) : OwnF B W (.slice none 0 0) [] := ⟨OwnR.nil _ _ _ _, fun f hf => (by simp at hf), fun f hf => (by simp at hf)⟩

theorem OwnF.on {B : Nat} {W W' : World} {v : Value} {L : List Fd} (h : OwnF B W v L) (k : Below W.heap.size W W') : OwnF B W' v L :=
  ⟨h.own.below k, fun f hf => (h.oks f hf).below k, h.off⟩

theorem FOk.lt {W : World} {f : Fd} (h : FOk W f) (hl : 0 < f.d.length) (a : Addr) (ha : f.p = some a) : a.block < W.heap.size := by
  obtain ⟨b, o, e, hc⟩ := h.bin hl
  rw [ha] at e
  cases e
  exact lt_of_cell (hc 0 hl)

theorem OwnF.add {B : Nat} {W W' : World} {v v' : Value} {L : List Fd} {f : Fd} (h : OwnF B W v L) (hB : B ≤ W.heap.size) (hf : FOk W f) (ho : 0 < f.d.length → ∀ a, f.p = some a → v.ownBlock ≠ some a.block)
    (hA : Appended W 39 2 v L.length (L.flatMap Fd.cells) 1 ([f].flatMap Fd.cells) v' W') : OwnF B W' v' (L ++ [f]) ∧ Below B W W' := by
  obtain ⟨h1, h2⟩ := h.own.next hB hA
  have hall : ∀ g ∈ L ++ [f], FOk W g ∧ (0 < g.d.length → ∀ a, g.p = some a → v.ownBlock ≠ some a.block) := fun g hg => by
    rcases List.mem_append.1 hg with q | q
    · exact ⟨h.oks g q, h.off g q⟩
    · simp at q; subst q; exact ⟨hf, ho⟩
  refine ⟨⟨by rw [List.length_append, flatF_append]; exact h1, fun g hg => (hall g hg).1.fr hA.fr fun hl a ha => (hall g hg).2 hl a ha, fun g hg hl a ha => ?_⟩, h2⟩
  rcases hA.moved with q | ⟨k, hk, hk2⟩
  · rw [q]; exact (hall g hg).2 hl a ha
  · rw [hk]
    have := (hall g hg).1.lt hl a ha
    simp
    omega

/-- 'append(v, y)' of one field that was laid for it. -/
theorem wpList_addN {W : World} {ops : Array Oper} {rest : List Oper} {o : Oper} {ac : Act} {Q : Exit → Act → World → Prop} (hgd : o.guard = none) (s x : Operand)
    (ho : o.op = .call { callee := .builtin .append, args := #[s, x], argTypes := #[35, 35] })
    {B : Nat} {v : Value} {L : List Fd} (hs : ac.eval s = v) (h3 : OwnF B W v L) (hB : B ≤ W.heap.size) (tg : Int) (p : Option Addr) (n cp : Nat) (d : List Int) (hn : d.length = n) (hy : FOk W ⟨tg, p, cp, d⟩) (hoff : 0 < d.length → ∀ a, p = some a → v.ownBlock ≠ some a.block) (hx : ac.eval x = .slice (some ⟨W.heap.size, 0, none⟩) 1 1) (hl : L.length ≤ 1000)
    (h : ∀ v' w', OwnF B w' v' (L ++ [⟨tg, p, cp, d⟩]) → Below B W w' → wpList Tryd.prog ops Q rest (ac.put o.dst v') w') : wpList Tryd.prog ops Q (o :: rest) ac (W.alloc (.cells #[.int .i64 tg, .slice p n cp] 39)) := by
  subst hn
  obtain ⟨y, hyy⟩ : ∃ y : Fd, y = ⟨tg, p, cp, d⟩ := ⟨_, rfl⟩
  rw [← hyy] at hy h
  rw [show W.alloc (.cells #[.int .i64 tg, .slice p d.length cp] 39) = W.alloc (.cells #[.int .i64 y.tag, .slice y.p y.d.length y.cap] 39) by rw [hyy]]
  obtain ⟨i0, hi, hz0, hz1, hz2⟩ := info_parts infoF
  have hb : Below W.heap.size W (W.alloc (.cells #[.int .i64 y.tag, .slice y.p y.d.length y.cap] 39)) := (Below.refl _ _).alloc (Nat.le_refl _) _
  refine wpList_append_fr hgd s x 35 ho 39 i0 _ 2 32 Tryd.underlying35 hi hz0 hz1 hz2 rfl (by decide) v L.length _ hs (h3.on hb).own.owns (some ⟨W.heap.size, 0, none⟩) 1 1 ([y].flatMap Fd.cells) hx (by simp) (by simp [Fd.cells]) (fun _ => ?_) (flat_one _) (by unfold maxLen; omega) (by omega) fun v' w' hA => ?_
  · refine ⟨_, rfl, fun j u hj => ?_⟩
    have hg := heap_alloc_new W (.cells #[.int .i64 y.tag, .slice y.p y.d.length y.cap] 39)
    rw [Go.WideShapes.add_plain]
    generalize W.alloc (.cells #[.int .i64 y.tag, .slice y.p y.d.length y.cap] 39) = X at hg ⊢
    simp [World.cell?, hg]
    simpa [Fd.cells] using hj
  · obtain ⟨k1, k2⟩ := (h3.on hb).add (f := y) (Nat.le_trans hB hb.size) (hy.below hb) (by rw [hyy]; exact hoff) hA
    exact h v' w' k1 ((hb.mono hB).trans k2)

theorem two_set {w : World} {b : Nat} {x y : Value} {t : TypeId} (h : w.heap[b]? = some (.cells #[x, y] t (0, 0))) (u v : Value) :
    ((w.setCell ⟨b, 0, none⟩ u).setCell ⟨b, 1, none⟩ v).cell? ⟨b, 0, none⟩ = some u ∧ ((w.setCell ⟨b, 0, none⟩ u).setCell ⟨b, 1, none⟩ v).cell? ⟨b, 1, none⟩ = some v := by
  obtain ⟨h0, h1, _, _⟩ := two_cells (set_second (set_first h u) v)
  exact ⟨h0, h1⟩

theorem own_ne {e : TypeId} {size : Nat} {W : World} {B : Nat} {v : Value} {n : Nat} {xs : List Value} (h : OwnR e size W B v n xs) (g : Nat) (hg : W.heap.size ≤ g) : v.ownBlock ≠ some g := fun q => by
  have := (h.owns.lt g q).2
  omega

set_option maxHeartbeats 800000 in
theorem numbered_any (t : Int) (n : Nat) (v : Int) (w : World) (h1 : 1 ≤ n) (h7 : n ≤ 7) (hv : 0 ≤ v) (hv2 : v < 256 ^ n) (hv3 : v ≤ 9223372036854775807) :
    Calls Tryd.prog 49 #[.int .i64 t, .int .i64 n, .int .i64 v] w fun e w' => ∃ g, e = .returned (.agg #[.int .i64 t, .slice (some ⟨g, 0, none⟩) n n]) ∧ w.heap.size ≤ g ∧ BIn w' (some ⟨g, 0, none⟩) (digB n v) ∧ Below w.heap.size w w' := by
  have hb0 : Below w.heap.size w (w.alloc (.cells #[.int .i64 0, .slice none 0 0] 39)) := (Below.refl _ _).alloc (Nat.le_refl _) _
  have hn0 := heap_alloc_new w (.cells #[.int .i64 0, .slice none 0 0] 39)
  have W0 := writeB (w.alloc (.cells #[.int .i64 0, .slice none 0 0] 39))
  have HV := Hid.mk' hv2
  clear hv2
  go_enter Tryd.func49, Tryd.ntmps49
  go_wp2_with fail
  generalize hw0 : w.alloc (.cells #[.int .i64 0, .slice none 0 0] 39) = w0 at hb0 hn0 W0 ⊢
  have hlt : w.heap.size < w0.heap.size := (Array.getElem?_eq_some_iff.1 hn0).1
  have HLT := Hid.mk' hlt
  have HB0 := Hid.mk' hb0
  have HN0 := Hid.mk' hn0
  clear hw0 hlt hb0 hn0
  refine W0.mono ?_
  rintro e w1 ⟨rfl, hW1, hb1⟩
  have N1 := numB_ok _ _ [] n v w1 hW1 h1 h7 hv HV.out hv3 (by simp)
  have HB1 := Hid.mk' hb1
  clear hW1 hb1 W0
  go_wp2_with fail
  refine N1.mono ?_
  rintro e w2 ⟨rfl, hW2, hb2⟩
  rw [List.nil_append] at hW2
  have Y := bytesB _ _ _ w2 hW2 (by rw [digB_len]; omega)
  rw [digB_len] at Y
  have HB2 := Hid.mk' (HB1.out.trans hb2)
  clear hW2 hb2 N1 HB1
  go_wp2_with fail
  refine Y.mono ?_
  rintro e w3 ⟨rfl, hB3, hb3⟩
  have hb03 : Below w0.heap.size w0 w3 := HB2.out.trans (hb3.mono HB2.out.size)
  have hbox : w3.heap[w.heap.size]? = some (.cells #[.int .i64 0, .slice none 0 0] 39 (0, 0)) := by rw [hb03.block _ HLT.out]; exact HN0.out
  obtain ⟨c0, c1, f0, f1⟩ := two_cells hbox
  have HBX := Hid.mk' hbox
  have HB3 := Hid.mk' hB3
  have HB03 := Hid.mk' (HB0.out.trans (hb03.mono HB0.out.size))
  have HG := Hid.mk' (Nat.le_trans (Nat.le_of_lt HLT.out) HB2.out.size)
  have HGG := Hid.mk' (Nat.lt_of_lt_of_le HLT.out HB2.out.size)
  clear hB3 hb3 hb03 hbox Y HB2
  obtain ⟨Q0, Q1⟩ := two_set HBX.out (.int .i64 t) (.slice (some ⟨w2.heap.size, 0, none⟩) n n)
  have HQ0 := Hid.mk' Q0
  have HQ1 := Hid.mk' Q1
  clear Q0 Q1
  go_wp2
  have f : Fr (fun k => k = w.heap.size) w3 ((w3.setCell ⟨w.heap.size, 0, none⟩ (.int .i64 t)).setCell ⟨w.heap.size, 1, none⟩ (.slice (some ⟨w2.heap.size, 0, none⟩) n n)) :=
    Fr.setCell (S := fun k => k = w.heap.size) (p := ⟨w.heap.size, 1, none⟩) (Fr.setCell (S := fun k => k = w.heap.size) (p := ⟨w.heap.size, 0, none⟩) (Fr.refl _ _) (.inl rfl) _) (.inl rfl) _
  exact bodyPost_ret (v := .agg #[.int .i64 t, .slice (some ⟨w2.heap.size, 0, none⟩) n n]) (by have q0 := HQ0.out; have q1 := HQ1.out; simp [results, Tryd.results49, go_sem, q0, q1]) rfl
    ⟨_, rfl, HG.out, HB3.out.fr f (fun a ha _ q => by cases ha; have := HGG.out; simp at q; omega), HB03.out.trans (f.below (fun i q => by omega) HB03.out.size)⟩

/-- The fields of a zone, a load and a build. -/
def madeK (z l : Int) (b : List Int) : List Key :=
  (if z = -1 then [] else [(32, digB 1 z)]) ++ (if l = -1 then [] else [(33, digB 2 l)]) ++ (if b = [] then [] else [(34, b)])

theorem Str.empty {s : ByteArray} {l : List Int} (h : Str s l) : s.toList.isEmpty = decide (l = []) := by
  rw [h.str, ByteArray.toList_eq, strOfNums_data]
  cases l <;> simp

/-- A field whose bytes were laid in a new block. -/
theorem FOk.new {W : World} {tg : Int} {g n : Nat} {d : List Int} (ht : (Lit.int .i64 tg).wf = true) (hB : BIn W (some ⟨g, 0, none⟩) d) (hn : d.length = n) (hs : n ≤ 1000) (hb : isB d) : FOk W ⟨tg, some ⟨g, 0, none⟩, n, d⟩ :=
  ⟨ht, by simp [hn], by simp only [maxLen]; omega, by simp, hB, hb, by simp only [hn]; omega⟩

theorem bytesRow_cells (s : ByteArray) (b : List Int) (hs : Str s b) (cap : Nat) : ∃ rest : List Value, bytesRow s cap = (b.map (Value.int .u8) ++ rest).toArray := by
  refine ⟨(Array.replicate (cap - s.size) (Value.int .u8 0)).toList, ?_⟩
  have e : b = numsOf s := by
    have h := hs.uniq (Str.all s)
    simpa using h
  rw [e]
  apply Array.ext'
  simp [bytesRow, numsOf]

set_option maxHeartbeats 4000000 in
theorem made_any (z l : Int) (s : ByteArray) (b : List Int) (w : World) (hs : Str s b) (hm : b.length ≤ 1000) (hz : -1 ≤ z) (hz2 : z ≤ 255) (hl : -1 ≤ l) (hl2 : l ≤ 65535) :
    Calls Tryd.prog 41 #[.int .i64 z, .int .i64 l, .string s] w fun e w' => ∃ v L, e = .returned v ∧ kys L = madeK z l b ∧ OwnF w.heap.size w' v L ∧ Below w.heap.size w w' := by
  go_enter Tryd.func41, Tryd.ntmps41
  go_upto_if 9 with fail
  go_cut [7] (fun v wx => ∃ L, Hid (kys L = (if z = -1 then [] else [(32, digB 1 z)])) ∧ L.length ≤ 1 ∧ Hid (OwnF w.heap.size wx v L) ∧ Hid (Below w.heap.size w wx))
  case first =>
    by_cases t : z = -1
    · have d : (z != -1) = false := by simp [t]
      go_wp2_with fail
      go_meet
      exact ⟨[], by rw [if_pos t]; rfl, by simp, OwnF.nil _ _, Below.refl _ _⟩
    · have d : (z != -1) = true := by simp [t]
      have N := numbered_any 32 1 z w (by omega) (by omega) (by omega) (by omega) (by omega)
      go_wp2_with fail
      refine N.mono ?_
      rintro e w1 ⟨g, rfl, hg, hB, hb⟩
      have HB := Hid.mk' hb
      have HF := Hid.mk' (FOk.new (tg := 32) (by decide) hB (digB_len _ _) (by omega) (digB_isB _ _))
      clear hB hg hb N
      go_wp2_with (at_builtin; refine wpList_addN (by rfl) (.tmp 10) (.tmp 13) (by rfl) (by rfl) (by exact OwnF.nil w.heap.size w1) (by exact HB.out.size) 32 (some ⟨g, 0, none⟩) 1 1 (digB 1 z) (by exact digB_len _ _) (by exact HF.out) (by intro _ a _ q; cases q) (by rfl) (by simp) ?_)
      intro v' w' ho hbw
      have HO := Hid.mk' ho
      have HB' := Hid.mk' (HB.out.trans hbw)
      clear ho hbw HB HF
      go_wp2_with fail
      go_meet
      exact ⟨_, by rw [if_neg t]; rfl, by simp, HO, HB'⟩
  case rest =>
    obtain ⟨L1, HK1, hL1, HO1, HB1⟩ := hcut
    go_upto_if 16 with fail
    go_cut [7] (fun v wx => ∃ L, Hid (kys L = (if z = -1 then [] else [(32, digB 1 z)]) ++ (if l = -1 then [] else [(33, digB 2 l)])) ∧ L.length ≤ 2 ∧ Hid (OwnF w.heap.size wx v L) ∧ Hid (Below w.heap.size w wx))
    case first =>
      by_cases t : l = -1
      · have d : (l != -1) = false := by simp [t]
        go_wp2_with fail
        go_meet
        exact ⟨L1, by rw [if_pos t, List.append_nil]; exact HK1.out, by omega, HO1, HB1⟩
      · have d : (l != -1) = true := by simp [t]
        have N := numbered_any 33 2 l wc (by omega) (by omega) (by omega) (by omega) (by omega)
        go_wp2_with fail
        refine N.mono ?_
        rintro e w1 ⟨g, rfl, hg, hB, hb⟩
        have HB := Hid.mk' (HB1.out.trans (hb.mono HB1.out.size))
        have HO := Hid.mk' (HO1.out.on hb)
        have HF := Hid.mk' (FOk.new (tg := 33) (by decide) hB (digB_len _ _) (by omega) (digB_isB _ _))
        have HN := Hid.mk' (own_ne HO1.out.own g hg)
        clear hB hg hb N HO1 HB1
        go_wp2_with (at_builtin; refine wpList_addN (by rfl) (.tmp 17) (.tmp 20) (by rfl) (by rfl) (by exact HO.out) (by exact HB.out.size) 33 (some ⟨g, 0, none⟩) 2 2 (digB 2 l) (by exact digB_len _ _) (by exact HF.out) (by intro _ a ha; cases ha; exact HN.out) (by rfl) (by omega) ?_)
        intro v' w' ho hbw
        have HO' := Hid.mk' ho
        have HB' := Hid.mk' (HB.out.trans hbw)
        clear ho hbw HB HF HO HN
        go_wp2_with fail
        go_meet
        exact ⟨_, by rw [if_neg t, kys_append, HK1.out]; rfl, by simp; omega, HO', HB'⟩
    case rest =>
      obtain ⟨L2, HK2, hL2, HO2, HB2⟩ := hcut
      clear HK1 hL1 HO1 HB1 L1
      have he := hs.empty
      by_cases t : b = []
      · rw [decide_eq_true t] at he
        go_wp2_with fail
        go_ret
        exact ⟨_, _, rfl, by rw [madeK, if_pos t, List.append_nil]; exact HK2.out, HO2.out, HB2.out⟩
      · rw [decide_eq_false t] at he
        have hcv := run_bytes_of_string (P := Tryd.prog) wc 9 22 5 s Tryd.underlying9 Tryd.underlying22 Tryd.underlying5
        have hge := grownCap_ge wc s.size 0 5
        have hle := grownCap_le_maxLen wc s.size 0 5 (by rw [hs.len]; unfold maxLen; omega)
        generalize grownCap wc s.size 0 5 = C at hcv hge hle
        obtain ⟨rest, hrow⟩ := bytesRow_cells s b hs C
        rw [hrow] at hcv
        have hb1 : Below wc.heap.size wc (wc.drew.alloc (.cells (b.map (Value.int .u8) ++ rest).toArray 5 ((b.map (Value.int .u8) ++ rest).toArray.size, (b.map (Value.int .u8) ++ rest).toArray.size + 1))) := (Below.refl _ _).drew.alloc (Nat.le_refl _) _
        have hnew := heap_alloc_new wc.drew (.cells (b.map (Value.int .u8) ++ rest).toArray 5 ((b.map (Value.int .u8) ++ rest).toArray.size, (b.map (Value.int .u8) ++ rest).toArray.size + 1))
        generalize wc.drew.alloc (.cells (b.map (Value.int .u8) ++ rest).toArray 5 ((b.map (Value.int .u8) ++ rest).toArray.size, (b.map (Value.int .u8) ++ rest).toArray.size + 1)) = w1 at hcv hb1 hnew
        have HF := Hid.mk' (show FOk w1 ⟨34, some ⟨wc.heap.size, 0, none⟩, C, b⟩ from ⟨(show (Lit.int .i64 34).wf = true by decide), by simp only; rw [← hs.len]; exact hge, hle, by simp, BIn.of_block hnew, hs.isb, by simp only; omega⟩)
        have HB := Hid.mk' (HB2.out.trans (hb1.mono HB2.out.size))
        have HO := Hid.mk' (HO2.out.on hb1)
        have HN := Hid.mk' (own_ne HO2.out.own wc.heap.size (Nat.le_refl _))
        have HLN := Hid.mk' hs.len
        clear hb1 hnew hrow hge hle HO2 HB2 hs
        go_wp2_with (at_builtin; refine wpList_addN (by rfl) (.tmp 24) (.tmp 28) (by rfl) (by rfl) (by exact HO.out) (by exact HB.out.size) 34 (some ⟨wc.heap.size, 0, none⟩) s.size C b (by exact HLN.out.symm) (by exact HF.out) (by intro _ a ha; cases ha; exact HN.out) (by rfl) (by omega) ?_)
        intro v' w' ho hbw
        have HO' := Hid.mk' ho
        have HB' := Hid.mk' (HB.out.trans hbw)
        clear ho hbw HB HF HO HN
        go_wp2_with fail
        go_ret
        exact ⟨_, _, rfl, by rw [madeK, if_neg t, kys_append, HK2.out]; rfl, HO'.out, HB'.out⟩

/-- What 'Make' answers: why not, or the fields. -/
def makeK (z l : Int) (b : List Int) : Int × List Key :=
  if z < -1 ∨ 255 < z ∨ l < -1 ∨ 65535 < l then (5, []) else if plainL b then (0, madeK z l b) else (4, [])

def MakeP (w : World) (r : Int × List Key) (e : Ending) (w' : World) : Prop := ∃ v L, e = .returned (.tuple #[v, .int .i64 r.1]) ∧ kys L = r.2 ∧ OwnF w.heap.size w' v L ∧ Below w.heap.size w w'

theorem make_no {z l : Int} {b : List Int} (h : z < -1 ∨ 255 < z ∨ l < -1 ∨ 65535 < l) : makeK z l b = (5, []) := if_pos h

set_option maxHeartbeats 4000000 in
theorem make_any (z l : Int) (s : ByteArray) (b : List Int) (w : World) (hs : Str s b) (hm : b.length ≤ 1000) :
    Calls Tryd.prog 29 #[.int .i64 z, .int .i64 l, .string s] w (MakeP w (makeK z l b)) := by
  have E : ∀ r, makeK z l b = (r, []) → ∀ (e : Ending), e = .returned (.tuple #[.slice none 0 0, .int .i64 r]) → MakeP w (makeK z l b) e w :=
    fun r hr e he => ⟨_, [], by rw [hr]; exact he, by rw [hr]; rfl, OwnF.nil _ _, Below.refl _ _⟩
  by_cases t : z < -1 ∨ 255 < z ∨ l < -1 ∨ 65535 < l
  · have HE := Hid.mk' (E 5 (make_no t))
    clear E
    by_cases t1 : z < -1 <;> by_cases t2 : 255 < z <;> by_cases t3 : l < -1 <;> by_cases t4 : 65535 < l <;> first | (exfalso; omega) | skip
    all_goals
      clear t
      go_enter Tryd.func29, Tryd.ntmps29
      go_wp2
      exact bodyPost_ret (v := .tuple #[.slice none 0 0, .int .i64 5]) (by simp [results, Tryd.results29, go_sem]) rfl (HE.out _ rfl)
  have HT := Hid.mk' t
  have t1 : ¬ z < -1 := by omega
  have t2 : ¬ 255 < z := by omega
  have t3 : ¬ l < -1 := by omega
  have t4 : ¬ 65535 < l := by omega
  have e1 : makeK z l b = if plainL b then (0, madeK z l b) else (4, []) := if_neg t
  clear t
  have he := hs.empty
  have I := isBuild_any s b w hs (by rw [hs.len]; unfold maxLen; omega)
  rw [plain_bd] at I
  have M := made_any z l s b w hs hm (by omega) (by omega) (by omega) (by omega)
  by_cases t : b = []
  · rw [decide_eq_true t] at he
    have HR := Hid.mk' (show makeK z l b = (0, madeK z l b) by rw [e1, t]; rfl)
    clear e1 E I hs
    go_enter Tryd.func29, Tryd.ntmps29
    go_wp2_with fail
    refine M.mono ?_
    rintro e w1 ⟨v, L, rfl, hk, hO, hb⟩
    go_wp2_with fail
    exact bodyPost_ret (v := .tuple #[v, .int .i64 0]) (by simp [results, Tryd.results29, go_sem]) rfl ⟨v, L, by rw [HR.out], by rw [HR.out]; exact hk, hO, hb⟩
  · rw [decide_eq_false t] at he
    rw [decide_eq_true t, Bool.true_and] at I
    cases hp : plainL b
    · rw [hp] at I
      have HE := Hid.mk' (E 4 (by rw [e1, hp]; rfl))
      clear e1 E hs M
      go_enter Tryd.func29, Tryd.ntmps29
      go_wp2_with fail
      refine I.mono ?_
      rintro e w1 ⟨rfl, rfl⟩
      go_wp2_with fail
      exact bodyPost_ret (v := .tuple #[.slice none 0 0, .int .i64 4]) (by simp [results, Tryd.results29, go_sem]) rfl (HE.out _ rfl)
    · rw [hp] at I
      have HR := Hid.mk' (show makeK z l b = (0, madeK z l b) by rw [e1, hp]; rfl)
      clear e1 E hs
      go_enter Tryd.func29, Tryd.ntmps29
      go_wp2_with fail
      refine I.mono ?_
      rintro e w1 ⟨rfl, rfl⟩
      go_wp2_with fail
      refine M.mono ?_
      rintro e w1 ⟨v, L, rfl, hk, hO, hb⟩
      go_wp2_with fail
      exact bodyPost_ret (v := .tuple #[v, .int .i64 0]) (by simp [results, Tryd.results29, go_sem]) rfl ⟨v, L, by rw [HR.out], by rw [HR.out]; exact hk, hO, hb⟩

end Go.Proofs.YtecdagmeobiahaaDoor
