/-
  Package gen1: the reader's numbers through a method value; head, record.
-/
import Derived.Test.YtmfkdohfejklhaaDoorGen1W
import Derived.Test.YtmfkdohfejklhaaDoorGen1S
namespace Go.Proofs.YtmfkdohfejklhaaDoor
open Go.RowKit
set_option linter.unusedSimpArgs false
set_option linter.unusedVariables false
set_option maxRecDepth 10000
set_option synthInstance.maxSize 2000

/-- At block b lies a reader with s left; all its memory lies below B. -/
structure RS (B : Nat) (w : World) (b : Nat) (s : St) : Prop where
  lt : b < B
  le : B ≤ w.heap.size
  good : ∀ l, s = some l → RdQ (fun k => k < B) w b l false
  bad : s = none → Rd w b [] true

theorem RS.low {B : Nat} {w w' : World} {b : Nat} {s : St} (h : RS B w b s) (k : Below B w w') : RS B w' b s := by
  refine ⟨h.lt, Nat.le_trans h.le k.size, fun l e => (h.good l e).low h.lt h.le k, fun e => ?_⟩
  obtain ⟨p, c, h1, h2, h3, h4, h5, h6, h7⟩ := h.bad e
  exact ⟨p, c, by rw [k.block b h.lt]; exact h1, h2, h3, h4, BIn.empty _ _, h6, h7⟩
theorem RS.on {B : Nat} {w w' : World} {b : Nat} {s : St} (h : RS B w b s) (k : Below w.heap.size w w') : RS B w' b s := h.low (k.mono h.le)
theorem RS.stB {B : Nat} {w : World} {b : Nat} {s : St} (h : RS B w b s) : stB s := fun l e => by
  obtain ⟨p, c, h1, h2, h3, h4, _⟩ := h.good l e
  exact h4

theorem gnum_any (B b : Nat) (k : Nat) (s : St) (w : World) (h : RS B w b s) (h1 : 1 ≤ k) (h7 : k ≤ 7) :
    Calls Tryd.prog 25 #[.pointer (some ⟨b, 0, none⟩), .int .i64 k] w fun e w' => e = .returned (.int .i64 (nV k s)) ∧ RS B w' b (nS k s) ∧ Fr (fun i => i = b) w w' := by
  cases s with
  | none =>
    refine (num_no b [] true k w (h.bad rfl) (.inl rfl)).mono ?_
    rintro e w' ⟨rfl, h1, h2⟩
    exact ⟨rfl, ⟨h.lt, Nat.le_trans h.le h2.size, fun l e => (by cases e), fun _ => h1⟩, h2⟩
  | some l =>
    by_cases q : k ≤ l.length
    · refine (num_ok b l k w (h.good l rfl) q h1 h7).mono ?_
      rintro e w' ⟨rfl, h1, h2, _⟩
      rw [nV_some q, nS_some q]
      exact ⟨rfl, ⟨h.lt, Nat.le_trans h.le h2.size, fun l e => (by cases e; exact h1), fun e => (by cases e)⟩, h2⟩
    · refine (num_no b l false k w (h.good l rfl) (.inr (.inr (.inr (by omega))))).mono ?_
      rintro e w' ⟨rfl, h1, h2⟩
      rw [nS_short (by omega), show nV k (some l) = 0 by simp [nV, q]]
      exact ⟨rfl, ⟨h.lt, Nat.le_trans h.le h2.size, fun l e => (by cases e), fun _ => h1⟩, h2⟩

/-- The reader, and what stands beside it, behind a number. -/
theorem fr_on {b : Nat} {w X X' : World} (h : Fr (fun i => i = b) w X) (k : Fr (fun i => i = b) X X') : Fr (fun i => i = b) w X' := h.trans k fun _ q => .inl q
theorem fr_bel {b : Nat} {w X X' : World} (h : Fr (fun i => i = b) w X) (k : Below X.heap.size X X') : Fr (fun i => i = b) w X' := h.trans (Fr.of_below k fun _ => False) fun _ q => q.elim
theorem fr_bel0 {b : Nat} {w X X' : World} (h : Fr (fun i => i = b) w X) (k : Below w.heap.size X X') : Fr (fun i => i = b) w X' :=
  h.trans (S' := fun i => w.heap.size ≤ i) ⟨k.os, k.tape, k.output, k.size, fun i _ hn => k.block i (by omega)⟩ fun _ q => .inr q
theorem box_on {b g : Nat} {X X' : World} {o : Obj} (h : X.heap[g]? = some o) (k : Fr (fun i => i = b) X X') (hn : g ≠ b) : X'.heap[g]? = some o := by
  rw [k.block g (Array.getElem?_eq_some_iff.1 h).1 hn]; exact h
theorem box_bel {g : Nat} {X X' : World} {o : Obj} (h : X.heap[g]? = some o) (k : Below X.heap.size X X') : X'.heap[g]? = some o := by
  rw [k.block g (Array.getElem?_eq_some_iff.1 h).1]; exact h
theorem box_lt {g : Nat} {X : World} {o : Obj} (h : X.heap[g]? = some o) : g < X.heap.size := (Array.getElem?_eq_some_iff.1 h).1

/-- A whole store, as one step of a region that draws its order. -/
theorem step_store_row {P : Program} {ops : Array Oper} {o : Oper} {a : Act} {w : World} {K : Act → World → Prop} {Q : Exit → Act → World → Prop} {E : Prop} (hgd : o.guard = none) (ty : TypeId) (x y : Operand) (ho : o.op = .store ty x y)
    (g : Nat) (cells : Array Value) (hx : a.eval x = .pointer (some ⟨g, 0, none⟩)) (hy : a.eval y = .agg cells)
    (t : TypeId) (old : Array Value) (hg : w.heap[g]? = some (.cells old t (0, 0))) (hi : (P.info? ty).map (·.size) = some cells.size)
    (hold : old.size = cells.size) (h1 : cells.all (·.oneCell') = true)
    (h : K (a.put o.dst undef) (w.setRow g cells)) : if Region.wanted o (yielded ops a.tmps) = true then Oper.wp P o a w K Q else E := by
  have hw : Region.wanted o (yielded ops a.tmps) = true := by simp [Region.wanted, hgd]
  rw [if_pos hw]
  exact wp_store_row ty x y ho g cells hx hy t old hg hi hold h1 h

theorem gof_any (c : Int) (w : World) (hc : (Lit.int .i64 c).wf = true) :
    Calls Tryd.prog 48 #[.int .i64 c] w fun e w' => ∃ t : Bool, e = .returned (.tuple #[.agg #[.int .i64 (spO c).1, .int .i64 (spO c).2], .bool t]) ∧ Below w.heap.size w w' := by
  unfold spO
  by_cases h : okS (ofLo c) (ofHi c) = true
  · rw [if_pos h]
    exact (of_yes c w hc h).mono fun e w' ⟨h1, h2⟩ => ⟨true, h1, h2⟩
  · rw [if_neg h]
    exact (of_no c w hc (by simpa using h)).mono fun e w' ⟨h1, h2⟩ => ⟨false, h1, h2⟩

set_option maxHeartbeats 4000000 in
theorem head_any (B b : Nat) (s : St) (w : World) (h : RS B w b s) :
    Calls Tryd.prog 26 #[.func (.func 25) #[.pointer (some ⟨b, 0, none⟩)] #[]] w fun e w' =>
      e = .returned (.agg #[.int .i64 (hdM s).kind, .int .i64 (hdM s).frm, .int .i64 (hdM s).inc, .int .i64 (hdM s).lo, .int .i64 (hdM s).hi, .int .i64 (hdM s).seq, .int .i64 (hdM s).tgt, .int .i64 0, .int .i64 0, .int .i64 0, .slice none 0 0]) ∧ RS B w' b (hd6 s) ∧ Fr (fun i => i = b) w w' := by
  have hs := h.stB
  have hs3 : stB (hd3 s) := ((hs.nS 1).nS 2).nS 6
  have hc3 := nV1 hs3
  have HWF := Hid.mk' (small_wf hc3.1 (by omega))
  have hbw : b < w.heap.size := Nat.lt_of_lt_of_le h.lt h.le
  have B1 := (Below.refl w.heap.size w).alloc (Nat.le_refl _) (.cells #[.int .i64 0, .int .i64 0, .int .i64 0, .int .i64 0, .int .i64 0, .int .i64 0, .int .i64 0, .int .i64 0, .int .i64 0, .int .i64 0, .slice none 0 0] 26)
  have HG0 := Hid.mk' (heap_alloc_new w (.cells #[.int .i64 0, .int .i64 0, .int .i64 0, .int .i64 0, .int .i64 0, .int .i64 0, .int .i64 0, .int .i64 0, .int .i64 0, .int .i64 0, .slice none 0 0] 26))
  have HR0 := Hid.mk' (h.on B1)
  have HF0 := Hid.mk' (Fr.of_below B1 fun i => i = b)
  have HN := Hid.mk' (show w.heap.size ≠ b by omega)
  have HLE := Hid.mk' h.le
  obtain ⟨x0, hx0⟩ : ∃ x, nV 1 s = x := ⟨_, rfl⟩
  obtain ⟨x1, hx1⟩ : ∃ x, nV 2 (hd1 s) = x := ⟨_, rfl⟩
  obtain ⟨x2, hx2⟩ : ∃ x, nV 6 (hd2 s) = x := ⟨_, rfl⟩
  obtain ⟨x3, hx3⟩ : ∃ x, nV 1 (hd3 s) = x := ⟨_, rfl⟩
  obtain ⟨x5, hx5⟩ : ∃ x, nV 2 (hd4 s) = x := ⟨_, rfl⟩
  obtain ⟨x6, hx6⟩ : ∃ x, nV 2 (hd5 s) = x := ⟨_, rfl⟩
  have HM := Hid.mk' (show hdM s = ⟨x0, x1, x2, (spO x3).1, (spO x3).2, x5, x6, 0, 0, 0, none, 0, []⟩ by rw [hdM, hx0, hx1, hx2, hx3, hx5, hx6])
  rw [hx3] at HWF
  have N1 := gnum_any B b 1 s _ HR0.out (by omega) (by omega)
  rw [hx0] at N1
  have N2 := Hid.mk' (fun X (q : RS B X b (hd1 s)) => gnum_any B b 2 (hd1 s) X q (by omega) (by omega))
  have N3 := Hid.mk' (fun X (q : RS B X b (hd2 s)) => gnum_any B b 6 (hd2 s) X q (by omega) (by omega))
  have N4 := Hid.mk' (fun X (q : RS B X b (hd3 s)) => gnum_any B b 1 (hd3 s) X q (by omega) (by omega))
  have N5 := Hid.mk' (fun X (q : RS B X b (hd4 s)) => gnum_any B b 2 (hd4 s) X q (by omega) (by omega))
  have N6 := Hid.mk' (fun X (q : RS B X b (hd5 s)) => gnum_any B b 2 (hd5 s) X q (by omega) (by omega))
  rw [hx1] at N2
  rw [hx2] at N3
  rw [hx3] at N4
  rw [hx5] at N5
  rw [hx6] at N6
  have HO := Hid.mk' (fun X => gof_any x3 X HWF.out)
  obtain ⟨y1, hy1⟩ : ∃ y, (spO x3).1 = y := ⟨_, rfl⟩
  obtain ⟨y2, hy2⟩ : ∃ y, (spO x3).2 = y := ⟨_, rfl⟩
  rw [hy1, hy2] at HO HM
  clear h hs hs3 hc3 hx0 hx1 hx2 hx3 hx5 hx6 hy1 hy2 B1 HWF hbw
  go_enter Tryd.func26, Tryd.ntmps26
  go_wp2_with fail
  refine N1.mono ?_
  rintro e w1 ⟨rfl, hr1, hf1⟩
  have HG1 := Hid.mk' (box_on HG0.out hf1 HN.out)
  have HF1 := Hid.mk' (fr_on HF0.out hf1)
  have HR1 := Hid.mk' hr1
  clear hr1 hf1 HG0 HF0 HR0 N1
  go_wp2_with fail
  refine (N2.out w1 HR1.out).mono ?_
  rintro e w2 ⟨rfl, hr2, hf2⟩
  have HG2 := Hid.mk' (box_on HG1.out hf2 HN.out)
  have HF2 := Hid.mk' (fr_on HF1.out hf2)
  have HR2 := Hid.mk' hr2
  clear hr2 hf2 HG1 HF1 HR1 N2
  go_wp2_with fail
  refine (N3.out w2 HR2.out).mono ?_
  rintro e w3 ⟨rfl, hr3, hf3⟩
  have HG3 := Hid.mk' (box_on HG2.out hf3 HN.out)
  have HF3 := Hid.mk' (fr_on HF2.out hf3)
  have HR3 := Hid.mk' hr3
  clear hr3 hf3 HG2 HF2 HR2 N3
  have hba := (Below.refl w3.heap.size w3).alloc (Nat.le_refl _) (.cells #[.int .i64 x0, .int .i64 x1, .int .i64 x2, .int .i64 0, .int .i64 0, .int .i64 0, .int .i64 0, .int .i64 0, .int .i64 0, .int .i64 0, .slice none 0 0] 26)
  have HN2 := Hid.mk' (show w3.heap.size ≠ b by have := HR3.out.lt; have := HR3.out.le; omega)
  have HNN := Hid.mk' (show w.heap.size < w3.heap.size ∧ B ≤ w3.heap.size from ⟨box_lt HG3.out, HR3.out.le⟩)
  have HR4 := Hid.mk' (HR3.out.on hba)
  have HF4 := Hid.mk' (fr_bel HF3.out hba)
  have HG4 := Hid.mk' (box_bel HG3.out hba)
  have HB4 := Hid.mk' (heap_alloc_new w3 (.cells #[.int .i64 x0, .int .i64 x1, .int .i64 x2, .int .i64 0, .int .i64 0, .int .i64 0, .int .i64 0, .int .i64 0, .int .i64 0, .int .i64 0, .slice none 0 0] 26))
  clear hba HG3 HF3 HR3
  go_wp2_with fail
  refine (N4.out _ HR4.out).mono ?_
  rintro e w5 ⟨rfl, hr5, hf5⟩
  have HG5 := Hid.mk' (box_on HG4.out hf5 HN.out)
  have HB5 := Hid.mk' (box_on HB4.out hf5 HN2.out)
  have HF5 := Hid.mk' (fr_on HF4.out hf5)
  have HR5 := Hid.mk' hr5
  clear hr5 hf5 HG4 HF4 HR4 HB4 N4
  go_wp2_with fail
  refine (HO.out w5).mono ?_
  rintro e w6 ⟨t, rfl, hb6⟩
  have HG6 := Hid.mk' (box_bel HG5.out hb6)
  have HB6 := Hid.mk' (box_bel HB5.out hb6)
  have HF6 := Hid.mk' (fr_bel HF5.out hb6)
  have HR6 := Hid.mk' (HR5.out.on hb6)
  clear hb6 HG5 HB5 HF5 HR5 HO
  generalize hg : w3.heap.size = g at HN2 HNN HB6 ⊢
  clear hg
  have fz := fun j => (show w6.frozen? ⟨g, j, none⟩ = false by simp [World.frozen?, HB6.out])
  have fz3 := fz 3
  have fz4 := fz 4
  clear fz
  obtain ⟨c0, c1, c2, c3, c4, c5, c6, c7, c8, c9, c10⟩ := mbox_cells (m := ⟨x0, x1, x2, 0, 0, 0, 0, 0, 0, 0, none, 0, []⟩) HB6.out
  go_wp2_with fail
  have hb7 : ((w6.setCell ⟨g, 3, none⟩ (.int .i64 y1)).setCell ⟨g, 4, none⟩ (.int .i64 y2)).heap[g]? = some (.cells #[.int .i64 x0, .int .i64 x1, .int .i64 x2, .int .i64 y1, .int .i64 y2, .int .i64 0, .int .i64 0, .int .i64 0, .int .i64 0, .int .i64 0, .slice none 0 0] 26 (0, 0)) := by simp [World.setCell, Array.getElem?_modify, HB6.out]
  have hl7 : Below g w6 ((w6.setCell ⟨g, 3, none⟩ (.int .i64 y1)).setCell ⟨g, 4, none⟩ (.int .i64 y2)) := ((Below.refl g w6).setCell (p := ⟨g, 3, none⟩) (Nat.le_refl _) _).setCell (p := ⟨g, 4, none⟩) (Nat.le_refl _) _
  have HB7 := Hid.mk' hb7
  have HG7 := Hid.mk' ((hl7.block w.heap.size HNN.out.1).trans HG6.out)
  have HF7 := Hid.mk' (fr_bel0 HF6.out (hl7.mono (Nat.le_of_lt HNN.out.1)))
  have HR7 := Hid.mk' (HR6.out.low (hl7.mono HNN.out.2))
  clear hb7 hl7 HB6 HG6 HF6 HR6 c0 c1 c2 c3 c4 c5 c6 c7 c8 c9 c10 fz3 fz4
  generalize (w6.setCell ⟨g, 3, none⟩ (.int .i64 y1)).setCell ⟨g, 4, none⟩ (.int .i64 y2) = w7 at HB7 HG7 HF7 HR7 ⊢
  refine (N5.out w7 HR7.out).mono ?_
  rintro e w8 ⟨rfl, hr8, hf8⟩
  have HG8 := Hid.mk' (box_on HG7.out hf8 HN.out)
  have HB8 := Hid.mk' (box_on HB7.out hf8 HN2.out)
  have HF8 := Hid.mk' (fr_on HF7.out hf8)
  have HR8 := Hid.mk' hr8
  clear hr8 hf8 HG7 HB7 HF7 HR7 N5
  go_wp2_with fail
  refine (N6.out w8 HR8.out).mono ?_
  rintro e w9 ⟨rfl, hr9, hf9⟩
  have HG9 := Hid.mk' (box_on HG8.out hf9 HN.out)
  have HB9 := Hid.mk' (box_on HB8.out hf9 HN2.out)
  have HF9 := Hid.mk' (fr_on HF8.out hf9)
  have HR9 := Hid.mk' hr9
  clear hr9 hf9 HG8 HB8 HF8 HR8 N6
  have fz := fun j => (show w9.frozen? ⟨g, j, none⟩ = false by simp [World.frozen?, HB9.out])
  have fz5 := fz 5
  have fz6 := fz 6
  clear fz
  obtain ⟨c0, c1, c2, c3, c4, c5, c6, c7, c8, c9, c10⟩ := mbox_cells (m := ⟨x0, x1, x2, y1, y2, 0, 0, 0, 0, 0, none, 0, []⟩) HB9.out
  have hb10 : ((w9.setCell ⟨g, 5, none⟩ (.int .i64 x5)).setCell ⟨g, 6, none⟩ (.int .i64 x6)).heap[g]? = some (.cells #[.int .i64 x0, .int .i64 x1, .int .i64 x2, .int .i64 y1, .int .i64 y2, .int .i64 x5, .int .i64 x6, .int .i64 0, .int .i64 0, .int .i64 0, .slice none 0 0] 26 (0, 0)) := by simp [World.setCell, Array.getElem?_modify, HB9.out]
  have hl10 : Below g w9 ((w9.setCell ⟨g, 5, none⟩ (.int .i64 x5)).setCell ⟨g, 6, none⟩ (.int .i64 x6)) := ((Below.refl g w9).setCell (p := ⟨g, 5, none⟩) (Nat.le_refl _) _).setCell (p := ⟨g, 6, none⟩) (Nat.le_refl _) _
  have hres := (hl10.block w.heap.size HNN.out.1).trans HG9.out
  have HRES := Hid.mk' hres
  have HF10 := Hid.mk' (fr_bel0 HF9.out (hl10.mono (Nat.le_of_lt HNN.out.1)))
  have HR10 := Hid.mk' (HR9.out.low (hl10.mono HNN.out.2))
  have HNB := Hid.mk' HR9.out.le
  clear hl10 HG9 HF9 HR9 hb10 hres
  go_wp2_with (refine wpList_store_row rfl 26 (.tmp 2) (.tmp 24) rfl w.heap.size #[.int .i64 x0, .int .i64 x1, .int .i64 x2, .int .i64 y1, .int .i64 y2, .int .i64 x5, .int .i64 x6, .int .i64 0, .int .i64 0, .int .i64 0, .slice none 0 0] rfl rfl 26 #[.int .i64 0, .int .i64 0, .int .i64 0, .int .i64 0, .int .i64 0, .int .i64 0, .int .i64 0, .int .i64 0, .int .i64 0, .int .i64 0, .slice none 0 0] HRES.out (by kernel_rfl) rfl (by simp [Value.oneCell']) ?_)
  generalize (w9.setCell ⟨g, 5, none⟩ (.int .i64 x5)).setCell ⟨g, 6, none⟩ (.int .i64 x6) = w10 at HRES HF10 HR10 ⊢
  clear c0 c1 c2 c3 c4 c5 c6 c7 c8 c9 c10 fz5 fz6
  obtain ⟨r0, r1, r2, r3, r4, r5, r6, r7, r8, r9, r10⟩ := mbox_cells (m := ⟨x0, x1, x2, y1, y2, x5, x6, 0, 0, 0, none, 0, []⟩) (setRow_heap _ _ _ #[.int .i64 x0, .int .i64 x1, .int .i64 x2, .int .i64 y1, .int .i64 y2, .int .i64 x5, .int .i64 x6, .int .i64 0, .int .i64 0, .int .i64 0, .slice none 0 0] _ _ HRES.out)
  simp only [List.length_nil] at r10
  exact bodyPost_ret (v := .agg #[.int .i64 x0, .int .i64 x1, .int .i64 x2, .int .i64 y1, .int .i64 y2, .int .i64 x5, .int .i64 x6, .int .i64 0, .int .i64 0, .int .i64 0, .slice none 0 0]) (by simp [results, Tryd.results26, go_sem, r0, r1, r2, r3, r4, r5, r6, r7, r8, r9, r10]) rfl ⟨by rw [HM.out], HR10.out.low (below_setRow (Below.refl B _) HLE.out _), fr_bel0 HF10.out (below_setRow (Below.refl _ _) (Nat.le_refl _) _)⟩

set_option maxHeartbeats 8000000 in
theorem record_any (B b : Nat) (s : St) (w : World) (h : RS B w b s) :
    Calls Tryd.prog 49 #[.func (.func 25) #[.pointer (some ⟨b, 0, none⟩)] #[]] w fun e w' =>
      e = .returned (.tuple #[.agg #[.int .i64 (rcOf s).id, .int .i64 (rcOf s).inc, .int .i64 (rcOf s).st, .int .i64 (rcOf s).lo, .int .i64 (rcOf s).hi, .bool (rcOf s).cut, .slice none 0 0], .bool (okR s)]) ∧ RS B w' b (rcS s) ∧ Fr (fun i => i = b) w w' := by
  have hs := h.stB
  have hs3 : 0 ≤ rcN s ∧ rcN s ≤ 255 := nV1 ((hs.nS 2).nS 2)
  have B1 := (Below.refl w.heap.size w).alloc (Nat.le_refl _) (.cells #[.int .i64 0, .int .i64 0, .int .i64 0, .int .i64 0, .int .i64 0, .bool false, .slice none 0 0] 43)
  have HG0 := Hid.mk' (heap_alloc_new w (.cells #[.int .i64 0, .int .i64 0, .int .i64 0, .int .i64 0, .int .i64 0, .bool false, .slice none 0 0] 43))
  have HR0 := Hid.mk' (h.on B1)
  have HF0 := Hid.mk' (Fr.of_below B1 fun i => i = b)
  have HN := Hid.mk' (show w.heap.size ≠ b by have := h.lt; have := h.le; omega)
  have HLE := Hid.mk' h.le
  obtain ⟨x0, hx0⟩ : ∃ x, nV 2 s = x := ⟨_, rfl⟩
  obtain ⟨x1, hx1⟩ : ∃ x, nV 2 (nS 2 s) = x := ⟨_, rfl⟩
  obtain ⟨n, hx2⟩ : ∃ x, rcN s = x := ⟨_, rfl⟩
  have HM := Hid.mk' (show rcOf s = ⟨x0, x1, n % 4, n % 16 / 4, n % 64 / 16, n / 64 == 1, none, 0, []⟩ by rw [rcOf, hx0, hx1, hx2])
  have HK := Hid.mk' (show okR s = (lastB (rk ⟨x0, x1, n % 4, n % 16 / 4, n % 64 / 16, n / 64 == 1, none, 0, []⟩) == n) by rw [okR, HM.out, hx2])
  rw [hx2] at hs3
  have N1 := gnum_any B b 2 s _ HR0.out (by omega) (by omega)
  rw [hx0] at N1
  have N2 := Hid.mk' (fun X (q : RS B X b (nS 2 s)) => gnum_any B b 2 (nS 2 s) X q (by omega) (by omega))
  have N3 := Hid.mk' (fun X (q : RS B X b (nS 2 (nS 2 s))) => gnum_any B b 1 (nS 2 (nS 2 s)) X q (by omega) (by omega))
  rw [hx1] at N2
  rw [show nV 1 (nS 2 (nS 2 s)) = n from hx2] at N3
  obtain ⟨hn0, hn1⟩ := hs3
  have MK := fun X => mark_any ⟨x0, x1, n % 4, n % 16 / 4, n % 64 / 16, n / 64 == 1, none, 0, []⟩ X (show 0 ≤ n % 4 ∧ n % 4 ≤ 3 by omega) (show 0 ≤ n % 16 / 4 ∧ n % 16 / 4 ≤ 3 by omega) (show 0 ≤ n % 64 / 16 ∧ n % 64 / 16 ≤ 3 by omega)
  obtain ⟨lb, hlb⟩ : ∃ lb, lastB (rk ⟨x0, x1, n % 4, n % 16 / 4, n % 64 / 16, n / 64 == 1, none, 0, []⟩) = lb := ⟨_, rfl⟩
  rw [hlb] at MK HK
  simp only [List.length_nil] at MK
  have MK := Hid.mk' MK
  clear h hs hx0 hx1 hx2 B1 hlb
  go_enter Tryd.func49, Tryd.ntmps49
  go_wp2_with fail
  refine N1.mono ?_
  rintro e w1 ⟨rfl, hr1, hf1⟩
  have HG1 := Hid.mk' (box_on HG0.out hf1 HN.out)
  have HF1 := Hid.mk' (fr_on HF0.out hf1)
  have HR1 := Hid.mk' hr1
  clear hr1 hf1 HG0 HF0 HR0 N1
  go_wp2_with fail
  refine (N2.out w1 HR1.out).mono ?_
  rintro e w2 ⟨rfl, hr2, hf2⟩
  have HG2 := Hid.mk' (box_on HG1.out hf2 HN.out)
  have HF2 := Hid.mk' (fr_on HF1.out hf2)
  have HR2 := Hid.mk' hr2
  clear hr2 hf2 HG1 HF1 HR1 N2
  have hba := (Below.refl w2.heap.size w2).alloc (Nat.le_refl _) (.cells #[.int .i64 x0, .int .i64 x1, .int .i64 0, .int .i64 0, .int .i64 0, .bool false, .slice none 0 0] 43)
  have HN2 := Hid.mk' (show w2.heap.size ≠ b by have := HR2.out.lt; have := HR2.out.le; omega)
  have HNN := Hid.mk' (show w.heap.size < w2.heap.size ∧ B ≤ w2.heap.size from ⟨box_lt HG2.out, HR2.out.le⟩)
  have HR4 := Hid.mk' (HR2.out.on hba)
  have HF4 := Hid.mk' (fr_bel HF2.out hba)
  have HG4 := Hid.mk' (box_bel HG2.out hba)
  have HB4 := Hid.mk' (heap_alloc_new w2 (.cells #[.int .i64 x0, .int .i64 x1, .int .i64 0, .int .i64 0, .int .i64 0, .bool false, .slice none 0 0] 43))
  clear hba HG2 HF2 HR2
  go_wp2_with fail
  refine (N3.out _ HR4.out).mono ?_
  rintro e w3 ⟨rfl, hr5, hf5⟩
  have HG5 := Hid.mk' (box_on HG4.out hf5 HN.out)
  have HB5 := Hid.mk' (box_on HB4.out hf5 HN2.out)
  have HF5 := Hid.mk' (fr_on HF4.out hf5)
  have HR5 := Hid.mk' (show RS B w3 b (rcS s) from hr5)
  clear hr5 hf5 HG4 HF4 HR4 HB4 N3
  generalize hg : w2.heap.size = g at HN2 HNN HB5 ⊢
  clear hg
  have fz := fun j => (show w3.frozen? ⟨g, j, none⟩ = false by simp [World.frozen?, HB5.out])
  have fz2 := fz 2
  have fz3 := fz 3
  have fz4 := fz 4
  have fz5 := fz 5
  clear fz
  obtain ⟨c0, c1, c2, c3, c4, c5, c6⟩ := box_cells (r := ⟨x0, x1, 0, 0, 0, false, none, 0, []⟩) HB5.out
  go_wp2_with fail
  have hb4 : ((((w3.setCell ⟨g, 2, none⟩ (.int .i64 (n % 4))).setCell ⟨g, 3, none⟩ (.int .i64 (n % 16 / 4))).setCell ⟨g, 4, none⟩ (.int .i64 (n % 64 / 16))).setCell ⟨g, 5, none⟩ (.bool (n / 64 == 1))).heap[g]? = some (.cells #[.int .i64 x0, .int .i64 x1, .int .i64 (n % 4), .int .i64 (n % 16 / 4), .int .i64 (n % 64 / 16), .bool (n / 64 == 1), .slice none 0 0] 43 (0, 0)) := by simp [World.setCell, Array.getElem?_modify, HB5.out]
  have hl4 : Below g w3 ((((w3.setCell ⟨g, 2, none⟩ (.int .i64 (n % 4))).setCell ⟨g, 3, none⟩ (.int .i64 (n % 16 / 4))).setCell ⟨g, 4, none⟩ (.int .i64 (n % 64 / 16))).setCell ⟨g, 5, none⟩ (.bool (n / 64 == 1))) := ((((Below.refl g w3).setCell (p := ⟨g, 2, none⟩) (Nat.le_refl _) _).setCell (p := ⟨g, 3, none⟩) (Nat.le_refl _) _).setCell (p := ⟨g, 4, none⟩) (Nat.le_refl _) _).setCell (p := ⟨g, 5, none⟩) (Nat.le_refl _) _
  have HB6 := Hid.mk' hb4
  have HG6 := Hid.mk' ((hl4.block w.heap.size HNN.out.1).trans HG5.out)
  have HF6 := Hid.mk' (fr_bel0 HF5.out (hl4.mono (Nat.le_of_lt HNN.out.1)))
  have HR6 := Hid.mk' (HR5.out.low (hl4.mono HNN.out.2))
  clear hb4 hl4 HB5 HG5 HF5 HR5 c0 c1 c2 c3 c4 c5 c6 fz2 fz3 fz4 fz5
  generalize ((((w3.setCell ⟨g, 2, none⟩ (.int .i64 (n % 4))).setCell ⟨g, 3, none⟩ (.int .i64 (n % 16 / 4))).setCell ⟨g, 4, none⟩ (.int .i64 (n % 64 / 16))).setCell ⟨g, 5, none⟩ (.bool (n / 64 == 1))) = w4 at HB6 HG6 HF6 HR6 ⊢
  have HRES : Hid (w4.drew.heap[w.heap.size]? = some (.cells #[.int .i64 0, .int .i64 0, .int .i64 0, .int .i64 0, .int .i64 0, .bool false, .slice none 0 0] 43 (0, 0))) := HG6.out
  have HBX : Hid (w4.drew.heap[g]? = some (.cells #[.int .i64 x0, .int .i64 x1, .int .i64 (n % 4), .int .i64 (n % 16 / 4), .int .i64 (n % 64 / 16), .bool (n / 64 == 1), .slice none 0 0] 43 (0, 0))) := HB6.out
  have HFR := Hid.mk' (HF6.out.drew)
  have HRR := Hid.mk' (HR6.out.on (Below.refl _ _).drew)
  have hS0 : _ ∧ Hid (w4.drew.heap[g]? = some (.cells #[.int .i64 x0, .int .i64 x1, .int .i64 (n % 4), .int .i64 (n % 16 / 4), .int .i64 (n % 64 / 16), .bool (n / 64 == 1), .slice none 0 0] 43 (0, 0))) := ⟨rec_seven (r := ⟨x0, x1, n % 4, n % 16 / 4, n % 64 / 16, n / 64 == 1, none, 0, []⟩) HBX.out, HBX⟩
  dsimp only [List.length_nil] at hS0
  clear HB6 HG6 HF6 HR6 HBX
  refine wp_region_held_drew (S := fun X => (X.cell? ⟨g, 0, none⟩ = some (.int .i64 x0) ∧ X.cell? ⟨g, 1, none⟩ = some (.int .i64 x1) ∧ X.cell? ⟨g, 2, none⟩ = some (.int .i64 (n % 4)) ∧ X.cell? ⟨g, 3, none⟩ = some (.int .i64 (n % 16 / 4)) ∧ X.cell? ⟨g, 4, none⟩ = some (.int .i64 (n % 64 / 16)) ∧ X.cell? ⟨g, 5, none⟩ = some (.bool (n / 64 == 1)) ∧ X.cell? ⟨g, 6, none⟩ = some (.slice none 0 0)) ∧ Hid (X.heap[g]? = some (.cells #[.int .i64 x0, .int .i64 x1, .int .i64 (n % 4), .int .i64 (n % 16 / 4), .int .i64 (n % 64 / 16), .bool (n / 64 == 1), .slice none 0 0] 43 (0, 0)))) (by kernel_rfl) hS0 (fun hS => ?_)
  clear hS0
  generalize w4.drew = wd at HRES HFR HRR hS ⊢
  refine wpAnyH_take (i := 0) (v := ?v0_107) rfl (by kernel_rfl) (by kernel_rfl) (by kernel_rfl) (fun _ _ _ h => h) (Or.inl ⟨by rfl, ?hy0_107⟩) (by assumption) ?rest0_107
  case hy0_107 => (intro w hSw; (try dsimp only at hSw); go_simp; try (with_reducible rfl))
  simp only [Act.put, List.getElem_toArray, List.getElem_cons_zero, List.getElem_cons_succ, List.setIfInBounds_toArray, List.set_cons_zero, List.set_cons_succ]
  refine wpAnyH_take (i := 1) (v := ?v1_108) rfl (by kernel_rfl) (by kernel_rfl) (by kernel_rfl) (fun _ _ _ h => h) (Or.inl ⟨by rfl, ?hy1_108⟩) (by assumption) ?rest1_108
  case hy1_108 => (intro w hSw; (try dsimp only at hSw); go_simp; try (with_reducible rfl))
  simp only [Act.put, List.getElem_toArray, List.getElem_cons_zero, List.getElem_cons_succ, List.setIfInBounds_toArray, List.set_cons_zero, List.set_cons_succ]
  refine wpAnyH_take (i := 3) (v := ?v3_109) rfl (by kernel_rfl) (by kernel_rfl) (by kernel_rfl) (fun _ _ _ h => h) (Or.inl ⟨by rfl, ?hy3_109⟩) (by assumption) ?rest3_109
  case hy3_109 => (intro w hSw; (try dsimp only at hSw); go_simp; try (with_reducible rfl))
  simp only [Act.put, List.getElem_toArray, List.getElem_cons_zero, List.getElem_cons_succ, List.setIfInBounds_toArray, List.set_cons_zero, List.set_cons_succ]
  refine wpAnyH_ready (rs := [2]) (by kernel_rfl) (by simp) ?_
  refine (AllReadyH.cons rfl (fun K hK => ?_) AllReadyH.nil)
  go_simp
  refine (MK.out wd).mono ?_
  rintro e x2 ⟨rfl, hb2⟩
  have HRES2 := Hid.mk' (box_bel HRES.out hb2)
  have HBX2 := Hid.mk' (box_bel hS.2.out hb2)
  have HFR2 := Hid.mk' (fr_bel HFR.out hb2)
  have HRR2 := Hid.mk' (HRR.out.on hb2)
  clear hb2 HRES HFR HRR
  go_wp2_with fail
  refine hK.out _ _ ?_ (fun hS' => ?_)
  · exact ⟨rec_seven (r := ⟨x0, x1, n % 4, n % 16 / 4, n % 64 / 16, n / 64 == 1, none, 0, []⟩) HBX2.out, HBX2⟩
  clear hK K
  try simp only [Act.put, List.getElem_toArray, List.getElem_cons_zero, List.getElem_cons_succ, List.setIfInBounds_toArray, List.set_cons_zero, List.set_cons_succ]
  replace hS := hS'
  clear hS'
  refine wpAnyH_take (i := 4) (v := ?v4_110) rfl (by kernel_rfl) (by kernel_rfl) (by kernel_rfl) (fun _ _ _ h => h) (Or.inl ⟨by rfl, ?hy4_110⟩) (by assumption) ?rest4_110
  case hy4_110 => (intro w hSw; (try dsimp only at hSw); go_simp; try (with_reducible rfl))
  simp only [Act.put, List.getElem_toArray, List.getElem_cons_zero, List.getElem_cons_succ, List.setIfInBounds_toArray, List.set_cons_zero, List.set_cons_succ]
  refine wpAnyH_ready (rs := [5]) (by kernel_rfl) (by simp) ?_
  refine (AllReadyH.cons rfl (fun K hK => ?_) AllReadyH.nil)
  refine step_store_row (by rfl) 43 (.tmp 2) (.tmp 28) (by rfl) w.heap.size #[.int .i64 x0, .int .i64 x1, .int .i64 (n % 4), .int .i64 (n % 16 / 4), .int .i64 (n % 64 / 16), .bool (n / 64 == 1), .slice none 0 0] (by rfl) (by rfl) 43 #[.int .i64 0, .int .i64 0, .int .i64 0, .int .i64 0, .int .i64 0, .bool false, .slice none 0 0] HRES2.out (by kernel_rfl) rfl (by simp [Value.oneCell']) ?_
  have HRES3 := Hid.mk' (setRow_heap _ _ _ #[.int .i64 x0, .int .i64 x1, .int .i64 (n % 4), .int .i64 (n % 16 / 4), .int .i64 (n % 64 / 16), .bool (n / 64 == 1), .slice none 0 0] _ _ HRES2.out)
  have hl3 : Below w.heap.size x2 (x2.setRow w.heap.size #[.int .i64 x0, .int .i64 x1, .int .i64 (n % 4), .int .i64 (n % 16 / 4), .int .i64 (n % 64 / 16), .bool (n / 64 == 1), .slice none 0 0]) := below_setRow (Below.refl _ _) (Nat.le_refl _) _
  have HBX3 : Hid ((x2.setRow w.heap.size #[.int .i64 x0, .int .i64 x1, .int .i64 (n % 4), .int .i64 (n % 16 / 4), .int .i64 (n % 64 / 16), .bool (n / 64 == 1), .slice none 0 0]).heap[g]? = some (.cells #[.int .i64 x0, .int .i64 x1, .int .i64 (n % 4), .int .i64 (n % 16 / 4), .int .i64 (n % 64 / 16), .bool (n / 64 == 1), .slice none 0 0] 43 (0, 0))) := (setRow_other _ _ _ _ (by have := HNN.out.1; omega)).trans HBX2.out
  have HFR3 := Hid.mk' (fr_bel0 HFR2.out hl3)
  have HRR3 := Hid.mk' (HRR2.out.low (hl3.mono HLE.out))
  clear hl3 HRES2 HBX2 HFR2 HRR2
  go_simp
  refine hK.out _ _ ?_ (fun hS' => ?_)
  · exact ⟨rec_seven (r := ⟨x0, x1, n % 4, n % 16 / 4, n % 64 / 16, n / 64 == 1, none, 0, []⟩) HBX3.out, HBX3⟩
  clear hK K
  try simp only [Act.put, List.getElem_toArray, List.getElem_cons_zero, List.getElem_cons_succ, List.setIfInBounds_toArray, List.set_cons_zero, List.set_cons_succ]
  replace hS := hS'
  clear hS'
  refine wpAnyH_ready (rs := [6]) (by kernel_rfl) (by simp) ?_
  refine (AllReadyH.cons rfl (fun K hK => ?_) AllReadyH.nil)
  go_simp
  refine hK.out _ _ ?_ (fun hS' => ?_)
  · exact hS
  clear hK K
  try simp only [Act.put, List.getElem_toArray, List.getElem_cons_zero, List.getElem_cons_succ, List.setIfInBounds_toArray, List.set_cons_zero, List.set_cons_succ]
  replace hS := hS'
  clear hS'
  refine wpAnyH_done (by kernel_rfl) ?_ _
  clear hS
  obtain ⟨r0, r1, r2, r3, r4, r5, r6⟩ := box_cells (r := ⟨x0, x1, n % 4, n % 16 / 4, n % 64 / 16, n / 64 == 1, none, 0, []⟩) HRES3.out
  simp only [List.length_nil] at r6
  go_wp2_with fail
  exact bodyPost_ret (v := .tuple #[.agg #[.int .i64 x0, .int .i64 x1, .int .i64 (n % 4), .int .i64 (n % 16 / 4), .int .i64 (n % 64 / 16), .bool (n / 64 == 1), .slice none 0 0], .bool (lb == n)]) (by simp [results, Tryd.results49, go_sem, r0, r1, r2, r3, r4, r5, r6]) rfl ⟨by rw [HM.out, HK.out], HRR3.out, HFR3.out⟩
end Go.Proofs.YtmfkdohfejklhaaDoor
