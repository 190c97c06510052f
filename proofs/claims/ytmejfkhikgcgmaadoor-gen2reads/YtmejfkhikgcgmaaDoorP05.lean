/-
  Stage 13: the statements' own functions: record.
  Stage 13: what Message comes to, item by item, as plain Lean; the tags that it asks for.
-/
import Derived.Test.YtmejfkhikgcgmaaDoorP04
import Derived.Deep.RegionHeld3
import Derived.RegionCalls
namespace Go.Proofs.YtmejfkhikgcgmaaDoor
open Go.RowKit
set_option linter.unusedSimpArgs false
set_option linter.unusedVariables false
set_option maxRecDepth 10000
set_option synthInstance.maxSize 2000

/-- What record answers. -/
def Rec2P (w : World) (d : List Int) (e : Ending) (w' : World) : Prop :=
  ∃ r : Rc, ∃ ok : Bool, e = .returned (.tuple #[.agg #[.int .i64 r.id, .int .i64 r.inc, .int .i64 r.st, .int .i64 r.lo, .int .i64 r.hi, .bool r.cut, .slice r.p r.bag.length r.cap], .bool ok]) ∧ ROk w' r ∧ (∀ i, RMem r i → w.heap.size ≤ i) ∧ szK (kys r.bag) ≤ 4611686018427387904 ∧ Below w.heap.size w w' ∧ ((ok = true ∧ unrec d = some (rk r)) ∨ (ok = false ∧ unrec d = none))

theorem unrec_no {d : List Int} (h : ∀ l, splitB d = some l → rowsOk inT l = false) : unrec d = none := by
  unfold unrec
  cases hs : splitB d with
  | none => rfl
  | some l => simp [h l hs]
theorem unrec_yes {d : List Int} {l : List Key} (hs : splitB d = some l) (h : rowsOk inT l = true) : unrec d = if mayR (unR l) = true then some (unR l) else none := by
  unfold unrec
  rw [hs]
  simp only [h, true_and]
theorem rows_in {L : List Fd} (h : rowsOk inT (kys L) = true) : 4 ≤ L.length ∧ (L.getD 0 zf).d.length = 2 ∧ (L.getD 1 zf).d.length = 4 ∧ (L.getD 2 zf).d.length = 1 ∧ (L.getD 3 zf).d.length = 1 := by
  match L, h with
  | a :: b :: c :: e :: t, h =>
    simp only [inT, kys, List.map_cons, rowsOk, ky, Bool.and_eq_true, decide_eq_true_eq] at h
    obtain ⟨⟨_, n0⟩, ⟨_, n1⟩, ⟨_, n2⟩, ⟨_, n3⟩, _⟩ := h
    exact ⟨by simp, n0, n1, n2, n3⟩
  | [], h => simp [inT, kys, rowsOk] at h
  | [_], h => simp [inT, kys, rowsOk] at h
  | [_, _], h => simp [inT, kys, rowsOk] at h
  | [_, _, _], h => simp [inT, kys, rowsOk] at h
theorem atK_kys (L : List Fd) (i : Nat) : atK (kys L) i = (L.getD i zf).d := by
  unfold atK kys
  by_cases h : i < L.length
  · simp [List.getD, h, ky]
  · simp [List.getD, h, zf]
theorem ints_new {W : World} {l : List Int} {t : TypeId} {cs : Array Value} (h : cs = (l.map (Value.int .i64)).toArray) : NIn (W.alloc (.cells cs t)) (some ⟨W.heap.size, 0, none⟩) l := by
  subst h
  exact NIn.of_block (rest := []) (e := t) (f := (0, 0)) (by rw [heap_alloc_new]; simp)

theorem OwnF.frS {B : Nat} {S : Nat → Prop} {W W' : World} {v : Value} {L : List Fd} (h : OwnF B W v L) (k : Fr S W W') (h1 : ∀ g, v.ownBlock = some g → ¬ S g) (h2 : ∀ f ∈ L, 0 < f.d.length → ∀ a, f.p = some a → ¬ S a.block) : OwnF B W' v L :=
  ⟨h.own.fr k h1, fun f hf => (h.oks f hf).fr k (h2 f hf), h.off⟩
theorem drop4_next (L : List Fd) (k : Nat) (h4 : 4 ≤ k) (h : k < L.length) : (L.take (k + 1)).drop 4 = (L.take k).drop 4 ++ [L.getD k zf] := by
  rw [take_next L k h, List.drop_append_of_le_length (by rw [List.length_take]; omega)]

set_option maxHeartbeats 8000000 in
theorem lrecord2_any (p : Option Addr) (c : Nat) (d : List Int) (w : World) (hp : BIn w p d) (hd : isB d) (hl : d.length ≤ 100000) :
    Calls Tryd.prog 31 #[.slice p d.length c] w fun e w' => Rec2P w d e w' := by
  have HY := Hid.mk' (show ∀ r w', ROk w' r → (∀ i, RMem r i → w.heap.size ≤ i) → szK (kys r.bag) ≤ 4611686018427387904 → Below w.heap.size w w' → unrec d = some (rk r) → Rec2P w d (.returned (.tuple #[.agg #[.int .i64 r.id, .int .i64 r.inc, .int .i64 r.st, .int .i64 r.lo, .int .i64 r.hi, .bool r.cut, .slice r.p r.bag.length r.cap], .bool true])) w' from fun r w' h1 h2 h3 h4 h5 => ⟨r, true, rfl, h1, h2, h3, h4, .inl ⟨rfl, h5⟩⟩)
  have HN := Hid.mk' (show ∀ r w', ROk w' r → (∀ i, RMem r i → w.heap.size ≤ i) → szK (kys r.bag) ≤ 4611686018427387904 → Below w.heap.size w w' → unrec d = none → Rec2P w d (.returned (.tuple #[.agg #[.int .i64 r.id, .int .i64 r.inc, .int .i64 r.st, .int .i64 r.lo, .int .i64 r.hi, .bool r.cut, .slice r.p r.bag.length r.cap], .bool false])) w' from fun r w' h1 h2 h3 h4 h5 => ⟨r, false, rfl, h1, h2, h3, h4, .inr ⟨rfl, h5⟩⟩)
  have HNO := Hid.mk' (show ∀ w', Below w.heap.size w w' → unrec d = none → Rec2P w d (.returned (.tuple #[.agg #[.int .i64 0, .int .i64 0, .int .i64 0, .int .i64 0, .int .i64 0, .bool false, .slice none 0 0], .bool false])) w' from fun w' h1 h2 => HN.out zr w' ⟨by decide, by decide, by decide, by decide, by decide, Nat.le_refl _, by simp [zr, maxLen], fun _ => rfl, FIn.empty _ _, by simp [zr]⟩ (fun i hi => absurd hi (RMem.of_nil rfl i)) (by simp [zr, kys, szK]) h1 h2)
  generalize Rec2P w d = Post at HY HN HNO ⊢
  have b0 := (Below.refl w.heap.size w).alloc (Nat.le_refl _) (.cells #[.int .i64 0, .int .i64 0, .int .i64 0, .int .i64 0, .int .i64 0, .bool false, .slice none 0 0] 44)
  have g0 := heap_alloc_new w (.cells #[.int .i64 0, .int .i64 0, .int .i64 0, .int .i64 0, .int .i64 0, .bool false, .slice none 0 0] 44)
  have s0 : (w.alloc (.cells #[.int .i64 0, .int .i64 0, .int .i64 0, .int .i64 0, .int .i64 0, .bool false, .slice none 0 0] 44)).heap.size = w.heap.size + 1 := by simp
  obtain ⟨x1, hx1⟩ : ∃ x, w.alloc (.cells #[.int .i64 0, .int .i64 0, .int .i64 0, .int .i64 0, .int .i64 0, .bool false, .slice none 0 0] 44) = x := ⟨_, rfl⟩
  rw [hx1] at b0 g0 s0
  have b1 := (Below.refl x1.heap.size x1).alloc (Nat.le_refl _) (.cells #[.int .i64 1, .int .i64 2, .int .i64 3, .int .i64 4] 3)
  have i1 : NIn (x1.alloc (.cells #[.int .i64 1, .int .i64 2, .int .i64 3, .int .i64 4] 3)) (some ⟨x1.heap.size, 0, none⟩) [1, 2, 3, 4] := ints_new rfl
  have s1 : (x1.alloc (.cells #[.int .i64 1, .int .i64 2, .int .i64 3, .int .i64 4] 3)).heap.size = w.heap.size + 1 + 1 := by simp [s0]
  obtain ⟨x2, hx2⟩ : ∃ x, x1.alloc (.cells #[.int .i64 1, .int .i64 2, .int .i64 3, .int .i64 4] 3) = x := ⟨_, rfl⟩
  rw [hx2] at b1 i1 s1
  have b2 := (Below.refl x2.heap.size x2).alloc (Nat.le_refl _) (.cells #[.int .i64 2, .int .i64 4, .int .i64 1, .int .i64 1] 3)
  have i2 : NIn (x2.alloc (.cells #[.int .i64 2, .int .i64 4, .int .i64 1, .int .i64 1] 3)) (some ⟨x2.heap.size, 0, none⟩) [2, 4, 1, 1] := ints_new rfl
  obtain ⟨x3, hx3⟩ : ∃ x, x2.alloc (.cells #[.int .i64 2, .int .i64 4, .int .i64 1, .int .i64 1] 3) = x := ⟨_, rfl⟩
  rw [hx3] at b2 i2
  rw [s0] at i1
  rw [s1] at i2
  have HB3 := Hid.mk' ((b0.trans (b1.mono b0.size)).trans (b2.mono (Nat.le_trans b0.size b1.size)))
  have HG3 := Hid.mk' (box_bel (box_bel g0 b1) b2)
  have RW := lrows_any p c d (some ⟨w.heap.size + 1, 0, none⟩) 4 (some ⟨w.heap.size + 1 + 1, 0, none⟩) 4 inT x3 (hp.below HB3.out) hd (by omega) (i1.below b2) i2 (by decide)
  clear hp b0 g0 s0 b1 i1 s1 b2 i2
  rw [show inT.length = 4 from rfl] at RW
  go_enter Tryd.func31, Tryd.ntmps31
  subst hx1 hx2
  go_wp2_with fail
  try rw [hx3]
  clear hx3
  refine RW.mono ?_
  clear RW
  rintro e x4 ⟨hrw, hb4⟩
  have HB4 := Hid.mk' (HB3.out.trans (hb4.mono HB3.out.size))
  have HG4 := Hid.mk' (box_bel HG3.out hb4)
  rcases hrw with ⟨pL, cL, L, hsL, hrL, rfl, hown⟩ | ⟨hno, rfl⟩
  case inr =>
    have HQ := Hid.mk' (HNO.out x4 HB4.out (unrec_no hno))
    have hres := HG4.out
    clear hno hb4 HB3 HG3
    go_wp2_with (refine wpList_store_row rfl 44 (.tmp 2) (.tmp 19) rfl w.heap.size #[.int .i64 0, .int .i64 0, .int .i64 0, .int .i64 0, .int .i64 0, .bool false, .slice none 0 0] rfl rfl 44 #[.int .i64 0, .int .i64 0, .int .i64 0, .int .i64 0, .int .i64 0, .bool false, .slice none 0 0] hres (by kernel_rfl) rfl (by simp [Value.oneCell']) ?_; rw [setRow_self _ _ _ _ _ hres])
    obtain ⟨r0, r1, r2, r3, r4, r5, r6⟩ := box_cells (r := zr) hres
    simp only [zr, List.length_nil] at r0 r1 r2 r3 r4 r5 r6
    exact bodyPost_ret (v := .tuple #[.agg #[.int .i64 0, .int .i64 0, .int .i64 0, .int .i64 0, .int .i64 0, .bool false, .slice none 0 0], .bool false]) (by simp [results, Tryd.results31, go_sem, r0, r1, r2, r3, r4, r5, r6]) rfl HQ.out
  case inl =>
    obtain ⟨n4, d0, d1, d2, d3⟩ := rows_in hrL
    obtain ⟨_, jb, _⟩ := join_split d.length d (kys L) (Nat.le_refl _) hd hsL
    have jbl := joinK_len (kys L)
    rw [jb, kys_len] at jbl
    have hlL : L.length ≤ 100000 ∧ szK (kys L) ≤ 100000 := by omega
    obtain ⟨hlL, hzL⟩ := hlL
    clear jb jbl
    obtain ⟨p9, c9, e9, hfin, _, hl9, hm9⟩ := hown.own.fin
    simp only [Value.slice.injEq, true_and] at e9
    obtain ⟨rfl, rfl⟩ := e9
    obtain ⟨_, _, e9, _, _, _, hpg⟩ := hown.own.own.slice
    simp only [Value.slice.injEq, true_and] at e9
    obtain ⟨rfl, rfl⟩ := e9
    obtain ⟨g, rfl, hgB, _⟩ := hpg (by omega)
    simp only [maxLen] at hm9
    have HF := Hid.mk' hfin
    have HU := Hid.mk' (show unR (kys L) = (numB (L.getD 0 zf).d, numB (L.getD 1 zf).d, numB (L.getD 2 zf).d % 128, numB (L.getD 3 zf).d / 16, numB (L.getD 3 zf).d % 16, decide (128 ≤ numB (L.getD 2 zf).d), (kys L).drop 4) by simp only [unR, atK_kys])
    have HUN := Hid.mk' (unrec_yes hsL hrL)
    have HFX := Hid.mk' (show ∀ X, Below x4.heap.size x4 X → ∀ i, i < L.length → X.cell? ⟨g, i * 2, none⟩ = some (.int .i64 (L.getD i zf).tag) ∧ X.cell? ⟨g, i * 2 + 1, none⟩ = some (.slice (L.getD i zf).p (L.getD i zf).d.length (L.getD i zf).cap) ∧ FOk X (L.getD i zf) from fun X h i hi => by
      obtain ⟨b, o, e, hc⟩ := (HF.out.below h).at (by omega)
      cases e
      have := hc i hi
      simpa using this)
    have HFH := Hid.mk' (show ∀ f ∈ L, FOk x4 f ∧ ∀ (hl : 0 < f.d.length) a, f.p = some a → x3.heap.size ≤ a.block from fun f hf => ⟨hown.own.oks f hf, fun hl a ha => hown.hi f hf hl a ha⟩)
    have N0 := Hid.mk' (fun X h => lnum2_any (L.getD 0 zf).p (L.getD 0 zf).cap (L.getD 0 zf).d X (HFX.out X h 0 (by omega)).2.2.bin (HFX.out X h 0 (by omega)).2.2.isb (by omega))
    have N1 := Hid.mk' (fun X h => lnum2_any (L.getD 1 zf).p (L.getD 1 zf).cap (L.getD 1 zf).d X (HFX.out X h 1 (by omega)).2.2.bin (HFX.out X h 1 (by omega)).2.2.isb (by omega))
    have N2 := Hid.mk' (fun X h => lnum2_any (L.getD 2 zf).p (L.getD 2 zf).cap (L.getD 2 zf).d X (HFX.out X h 2 (by omega)).2.2.bin (HFX.out X h 2 (by omega)).2.2.isb (by omega))
    have N3 := Hid.mk' (fun X h => lnum2_any (L.getD 3 zf).p (L.getD 3 zf).cap (L.getD 3 zf).d X (HFX.out X h 3 (by omega)).2.2.bin (HFX.out X h 3 (by omega)).2.2.isb (by omega))
    have F0 := Hid.mk' (fun X h => (HFX.out X h 0 (by omega)).2.1)
    have F1 := Hid.mk' (fun X h => (HFX.out X h 1 (by omega)).2.1)
    have F2 := Hid.mk' (fun X h => (HFX.out X h 2 (by omega)).2.1)
    have F3 := Hid.mk' (fun X h => (HFX.out X h 3 (by omega)).2.1)
    have I0 := numB_bound _ (HFX.out x4 (Below.refl _ _) 0 (by omega)).2.2.isb
    have I1 := numB_bound _ (HFX.out x4 (Below.refl _ _) 1 (by omega)).2.2.isb
    have I2 := numB_bound _ (HFX.out x4 (Below.refl _ _) 2 (by omega)).2.2.isb
    have I3 := numB_bound _ (HFX.out x4 (Below.refl _ _) 3 (by omega)).2.2.isb
    rw [d0] at N0 F0 I0
    rw [d1] at N1 F1 I1
    rw [d2] at N2 F2 I2
    rw [d3] at N3 F3 I3
    generalize numB (L.getD 0 zf).d = z0 at N0 I0 HU
    generalize numB (L.getD 1 zf).d = z1 at N1 I1 HU
    generalize numB (L.getD 2 zf).d = z2 at N2 I2 HU
    generalize numB (L.getD 3 zf).d = z3 at N3 I3 HU
    generalize (L.getD 0 zf).p = p0' at N0 F0
    generalize (L.getD 1 zf).p = p1' at N1 F1
    generalize (L.getD 2 zf).p = p2' at N2 F2
    generalize (L.getD 3 zf).p = p3' at N3 F3
    generalize (L.getD 0 zf).cap = k0' at N0 F0
    generalize (L.getD 1 zf).cap = k1' at N1 F1
    generalize (L.getD 2 zf).cap = k2' at N2 F2
    generalize (L.getD 3 zf).cap = k3' at N3 F3
    have l0 : (0 : Int) < L.length := by omega
    have l1 : (1 : Int) < L.length := by omega
    have l2 : (2 : Int) < L.length := by omega
    have l3 : (3 : Int) < L.length := by omega
    have l0n : 0 < L.length := by omega
    have l1n : 1 < L.length := by omega
    have l2n : 2 < L.length := by omega
    have l3n : 3 < L.length := by omega
    have f2 := F2.out x4 (Below.refl _ _)
    have f3 := F3.out x4 (Below.refl _ _)
    simp only [Nat.reduceMul, Nat.reduceAdd] at f2 f3
    have HO := Hid.mk' hown
    have HB3s := Hid.mk' (box_lt HG3.out)
    clear d0 d1 d2 d3 hsL hrL hgB hfin hl9 hown hb4 HB3 HG3 hpg
    go_wp2_with fail
    refine (N2.out x4 (Below.refl _ _)).mono ?_
    rintro e x5 ⟨rfl, rfl⟩
    go_wp2_with fail
    refine (N3.out x4 (Below.refl _ _)).mono ?_
    rintro e x5 ⟨rfl, rfl⟩
    go_upto_region 6 with fail
    clear f2 f3 N2 N3 F2 F3
    go_cut [8] (fun t wx => t = .pointer (some ⟨x4.heap.size, 0, none⟩) ∧ Hid (Below x4.heap.size x4 wx) ∧ Hid (wx.heap[x4.heap.size]? = some (.cells #[.int .i64 z0, .int .i64 z1, .int .i64 (z2 % 128), .int .i64 (z3 / 16), .int .i64 (z3 % 16), .bool (decide (128 ≤ z2)), .slice none 0 0] 44 (0, 0))))
    case first =>
      have f0 := F0.out x4.drew (Below.refl _ _).drew
      have f1 := F1.out x4.drew (Below.refl _ _).drew
      simp only [Nat.reduceMul, Nat.reduceAdd] at f0 f1
      have hS0 : x4.drew.cell? ⟨g, 1, none⟩ = some (.slice p0' 2 k0') ∧ x4.drew.cell? ⟨g, 3, none⟩ = some (.slice p1' 4 k1') ∧ Hid (Below x4.heap.size x4 x4.drew) := ⟨f0, f1, (Below.refl _ _).drew⟩
      have hsz : x4.drew.heap.size = x4.heap.size := rfl
      have hgl : g < x4.heap.size := lt_of_cell f0
      have hGd : x4.drew.heap[x4.heap.size]? = none := by show x4.heap[x4.heap.size]? = none; simp
      clear f0 f1 F0 F1
      go_wp2_with fail
      refine wp_region_held_drew (S := fun X => X.cell? ⟨g, 1, none⟩ = some (.slice p0' 2 k0') ∧ X.cell? ⟨g, 3, none⟩ = some (.slice p1' 4 k1') ∧ Hid (Below x4.heap.size x4 X)) (by kernel_rfl) hS0 (fun hS => ?_)
      clear hS0 hGd
      generalize x4.drew = wd at hS hsz ⊢
      have m1 : z2.tmod 128 = z2 % 128 := Int.tmod_eq_emod_of_nonneg (by omega)
      have m2 : z3.tdiv 16 = z3 / 16 := Int.tdiv_eq_ediv_of_nonneg (by omega)
      have m3 : z3.tmod 16 = z3 % 16 := Int.tmod_eq_emod_of_nonneg (by omega)
      have m4 : IntKind.i64.wrap (z3 / 16) = z3 / 16 := by rw [IntKind.wrap_i64]; omega
      refine wpAnyH_take (i := 0) (v := ?v0_18) rfl (by kernel_rfl) (by kernel_rfl) (by kernel_rfl) (fun _ _ _ h => h) (Or.inl ⟨by rfl, ?hy0_18⟩) (by assumption) ?rest0_18
      case hy0_18 => (intro w hSw; (try dsimp only at hSw); go_simp; try (with_reducible rfl))
      simp only [Act.put, List.getElem_toArray, List.getElem_cons_zero, List.getElem_cons_succ, List.setIfInBounds_toArray, List.set_cons_zero, List.set_cons_succ]
      refine wpAnyH_take (i := 1) (v := ?v1_19) rfl (by kernel_rfl) (by kernel_rfl) (by kernel_rfl) (fun _ _ _ h => h) (Or.inl ⟨by rfl, ?hy1_19⟩) (by assumption) ?rest1_19
      case hy1_19 => (intro w hSw; (try dsimp only at hSw); go_simp; try (with_reducible rfl))
      simp only [Act.put, List.getElem_toArray, List.getElem_cons_zero, List.getElem_cons_succ, List.setIfInBounds_toArray, List.set_cons_zero, List.set_cons_succ]
      refine wpAnyH_take (i := 2) (v := ?v2_20) rfl (by kernel_rfl) (by kernel_rfl) (by kernel_rfl) (fun _ _ _ h => h) (Or.inl ⟨by rfl, ?hy2_20⟩) (by assumption) ?rest2_20
      case hy2_20 => (intro w hSw; (try dsimp only at hSw); go_simp; try (with_reducible rfl))
      simp only [Act.put, List.getElem_toArray, List.getElem_cons_zero, List.getElem_cons_succ, List.setIfInBounds_toArray, List.set_cons_zero, List.set_cons_succ]
      refine wpAnyH_take (i := 3) (v := ?v3_21) rfl (by kernel_rfl) (by kernel_rfl) (by kernel_rfl) (fun _ _ _ h => h) (Or.inl ⟨by rfl, ?hy3_21⟩) (by assumption) ?rest3_21
      case hy3_21 => (intro w hSw; (try dsimp only at hSw); go_simp; try (with_reducible rfl))
      simp only [Act.put, List.getElem_toArray, List.getElem_cons_zero, List.getElem_cons_succ, List.setIfInBounds_toArray, List.set_cons_zero, List.set_cons_succ]
      refine wpAnyH_take (i := 5) (v := ?v5_22) rfl (by kernel_rfl) (by kernel_rfl) (by kernel_rfl) (fun _ _ _ h => h) (Or.inl ⟨by rfl, ?hy5_22⟩) (by assumption) ?rest5_22
      case hy5_22 => (intro w hSw; (try dsimp only at hSw); go_simp; try (with_reducible rfl))
      simp only [Act.put, List.getElem_toArray, List.getElem_cons_zero, List.getElem_cons_succ, List.setIfInBounds_toArray, List.set_cons_zero, List.set_cons_succ]
      refine wpAnyH_take (i := 6) (v := ?v6_23) rfl (by kernel_rfl) (by kernel_rfl) (by kernel_rfl) (fun _ _ _ h => h) (Or.inl ⟨by rfl, ?hy6_23⟩) (by assumption) ?rest6_23
      case hy6_23 => (intro w hSw; (try dsimp only at hSw); go_simp; try (with_reducible rfl))
      simp only [Act.put, List.getElem_toArray, List.getElem_cons_zero, List.getElem_cons_succ, List.setIfInBounds_toArray, List.set_cons_zero, List.set_cons_succ]
      refine wpAnyH_take (i := 7) (v := ?v7_24) rfl (by kernel_rfl) (by kernel_rfl) (by kernel_rfl) (fun _ _ _ h => h) (Or.inl ⟨by rfl, ?hy7_24⟩) (by assumption) ?rest7_24
      case hy7_24 => (intro w hSw; (try dsimp only at hSw); go_simp; try (with_reducible rfl))
      simp only [Act.put, List.getElem_toArray, List.getElem_cons_zero, List.getElem_cons_succ, List.setIfInBounds_toArray, List.set_cons_zero, List.set_cons_succ]
      refine wpAnyH_take (i := 8) (v := ?v8_25) rfl (by kernel_rfl) (by kernel_rfl) (by kernel_rfl) (fun _ _ _ h => h) (Or.inl ⟨by rfl, ?hy8_25⟩) (by assumption) ?rest8_25
      case hy8_25 => (intro w hSw; (try dsimp only at hSw); go_simp; try (with_reducible rfl))
      simp only [Act.put, List.getElem_toArray, List.getElem_cons_zero, List.getElem_cons_succ, List.setIfInBounds_toArray, List.set_cons_zero, List.set_cons_succ]
      refine wpAnyH_take (i := 10) (v := ?v10_26) rfl (by kernel_rfl) (by kernel_rfl) (by kernel_rfl) (fun _ _ _ h => h) (Or.inl ⟨by rfl, ?hy10_26⟩) (by assumption) ?rest10_26
      case hy10_26 => (intro w hSw; (try dsimp only at hSw); go_simp; try (with_reducible rfl))
      simp only [Act.put, List.getElem_toArray, List.getElem_cons_zero, List.getElem_cons_succ, List.setIfInBounds_toArray, List.set_cons_zero, List.set_cons_succ]
      refine wpAnyH_take (i := 11) (v := ?v11_27) rfl (by kernel_rfl) (by kernel_rfl) (by kernel_rfl) (fun _ _ _ h => h) (Or.inl ⟨by rfl, ?hy11_27⟩) (by assumption) ?rest11_27
      case hy11_27 => (intro w hSw; (try dsimp only at hSw); go_simp; try (with_reducible rfl))
      simp only [Act.put, List.getElem_toArray, List.getElem_cons_zero, List.getElem_cons_succ, List.setIfInBounds_toArray, List.set_cons_zero, List.set_cons_succ]
      refine wpAnyH_take (i := 12) (v := ?v12_28) rfl (by kernel_rfl) (by kernel_rfl) (by kernel_rfl) (fun _ _ _ h => h) (Or.inl ⟨by rfl, ?hy12_28⟩) (by assumption) ?rest12_28
      case hy12_28 => (intro w hSw; (try dsimp only at hSw); go_simp; try (with_reducible rfl))
      simp only [Act.put, List.getElem_toArray, List.getElem_cons_zero, List.getElem_cons_succ, List.setIfInBounds_toArray, List.set_cons_zero, List.set_cons_succ]
      refine wpAnyH_take (i := 13) (v := ?v13_29) rfl (by kernel_rfl) (by kernel_rfl) (by kernel_rfl) (fun _ _ _ h => h) (Or.inl ⟨by rfl, ?hy13_29⟩) (by assumption) ?rest13_29
      case hy13_29 => (intro w hSw; (try dsimp only at hSw); go_simp; try (with_reducible rfl))
      simp only [Act.put, List.getElem_toArray, List.getElem_cons_zero, List.getElem_cons_succ, List.setIfInBounds_toArray, List.set_cons_zero, List.set_cons_succ]
      refine wpAnyH_take (i := 14) (v := ?v14_30) rfl (by kernel_rfl) (by kernel_rfl) (by kernel_rfl) (fun _ _ _ h => h) (Or.inl ⟨by rfl, ?hy14_30⟩) (by assumption) ?rest14_30
      case hy14_30 => (intro w hSw; (try dsimp only at hSw); go_simp; try (with_reducible rfl))
      simp only [Act.put, List.getElem_toArray, List.getElem_cons_zero, List.getElem_cons_succ, List.setIfInBounds_toArray, List.set_cons_zero, List.set_cons_succ]
      refine wpAnyH_take (i := 15) (v := ?v15_31) rfl (by kernel_rfl) (by kernel_rfl) (by kernel_rfl) (fun _ _ _ h => h) (Or.inl ⟨by rfl, ?hy15_31⟩) (by assumption) ?rest15_31
      case hy15_31 => (intro w hSw; (try dsimp only at hSw); go_simp; try (with_reducible rfl))
      simp only [Act.put, List.getElem_toArray, List.getElem_cons_zero, List.getElem_cons_succ, List.setIfInBounds_toArray, List.set_cons_zero, List.set_cons_succ]
      refine wpAnyH_take (i := 16) (v := ?v16_32) rfl (by kernel_rfl) (by kernel_rfl) (by kernel_rfl) (fun _ _ _ h => h) (Or.inl ⟨by rfl, ?hy16_32⟩) (by assumption) ?rest16_32
      case hy16_32 => (intro w hSw; (try dsimp only at hSw); go_simp; try (with_reducible rfl))
      simp only [Act.put, List.getElem_toArray, List.getElem_cons_zero, List.getElem_cons_succ, List.setIfInBounds_toArray, List.set_cons_zero, List.set_cons_succ]
      refine wpAnyH_take (i := 17) (v := ?v17_33) rfl (by kernel_rfl) (by kernel_rfl) (by kernel_rfl) (fun _ _ _ h => h) (Or.inl ⟨by rfl, ?hy17_33⟩) (by assumption) ?rest17_33
      case hy17_33 => (intro w hSw; (try dsimp only at hSw); go_simp; try (with_reducible rfl))
      simp only [Act.put, List.getElem_toArray, List.getElem_cons_zero, List.getElem_cons_succ, List.setIfInBounds_toArray, List.set_cons_zero, List.set_cons_succ]
      refine wpAnyH_take (i := 18) (v := ?v18_34) rfl (by kernel_rfl) (by kernel_rfl) (by kernel_rfl) (fun _ _ _ h => h) (Or.inl ⟨by rfl, ?hy18_34⟩) (by assumption) ?rest18_34
      case hy18_34 => (intro w hSw; (try dsimp only at hSw); go_simp; try (with_reducible rfl))
      simp only [Act.put, List.getElem_toArray, List.getElem_cons_zero, List.getElem_cons_succ, List.setIfInBounds_toArray, List.set_cons_zero, List.set_cons_succ]
      refine wpAnyH_ready (rs := [4, 20]) (by kernel_rfl) (by simp) ?_
      refine (AllReadyH.cons rfl (fun K hK => ?_) (AllReadyH.cons rfl (fun K hK => ?_) AllReadyH.nil))
      · skip
        go_simp
        refine (N0.out _ hS.2.2.out).mono ?_
        rintro e y1 ⟨rfl, rfl⟩
        go_wp2_with fail
        refine hK.out _ _ ?_ (fun hS' => ?_)
        · exact hS
        clear hK K
        try simp only [Act.put, List.getElem_toArray, List.getElem_cons_zero, List.getElem_cons_succ, List.setIfInBounds_toArray, List.set_cons_zero, List.set_cons_succ]
        replace hS := hS'
        clear hS'
        refine wpAnyH_ready (rs := [9, 20]) (by kernel_rfl) (by simp) ?_
        refine (AllReadyH.cons rfl (fun K hK => ?_) (AllReadyH.cons rfl (fun K hK => ?_) AllReadyH.nil))
        · skip
          go_simp
          refine (N1.out _ hS.2.2.out).mono ?_
          rintro e y1 ⟨rfl, rfl⟩
          go_wp2_with fail
          refine hK.out _ _ ?_ (fun hS' => ?_)
          · exact hS
          clear hK K
          try simp only [Act.put, List.getElem_toArray, List.getElem_cons_zero, List.getElem_cons_succ, List.setIfInBounds_toArray, List.set_cons_zero, List.set_cons_succ]
          replace hS := hS'
          clear hS'
          refine wpAnyH_ready (rs := [19, 20]) (by kernel_rfl) (by simp) ?_
          refine (AllReadyH.cons rfl (fun K hK => ?_) (AllReadyH.cons rfl (fun K hK => ?_) AllReadyH.nil))
          · skip
            go_simp
            refine hK.out _ _ ?_ (fun hS' => ?_)
            · exact hS
            clear hK K
            try simp only [Act.put, List.getElem_toArray, List.getElem_cons_zero, List.getElem_cons_succ, List.setIfInBounds_toArray, List.set_cons_zero, List.set_cons_succ]
            replace hS := hS'
            clear hS'
            refine wpAnyH_ready (rs := [20]) (by kernel_rfl) (by simp) ?_
            refine (AllReadyH.cons rfl (fun K hK => ?_) AllReadyH.nil)
            go_simp
            have hSold := hS
            have hal := hS.2.2.out.trans (((Below.refl wd.heap.size wd).alloc (Nat.le_refl _) (.cells #[.int .i64 0, .int .i64 0, .int .i64 0, .int .i64 0, .int .i64 0, .bool false, .slice none 0 0] 44)).mono (Nat.le_of_eq hsz.symm))
            have ha0 := hS.1
            have ha1 := hS.2.1
            refine hK.out _ _ ?_ (fun hS' => ?_)
            · exact ⟨by rw [hal.cell (p := ⟨g, 1, none⟩) hgl, ← hSold.2.2.out.cell (p := ⟨g, 1, none⟩) hgl]; exact ha0, by rw [hal.cell (p := ⟨g, 3, none⟩) hgl, ← hSold.2.2.out.cell (p := ⟨g, 3, none⟩) hgl]; exact ha1, hal⟩
            clear hK K
            try simp only [Act.put, List.getElem_toArray, List.getElem_cons_zero, List.getElem_cons_succ, List.setIfInBounds_toArray, List.set_cons_zero, List.set_cons_succ]
            replace hS := hS'
            clear hS'
            refine wpAnyH_ready (rs := [21]) (by kernel_rfl) (by simp) ?_
            refine (AllReadyH.cons rfl (fun K hK => ?_) AllReadyH.nil)
            go_simp
            have hal2 := hSold.2.2.out.trans (((Below.refl wd.heap.size wd).alloc (Nat.le_refl _) (.cells #[.int .i64 z0, .int .i64 z1, .int .i64 (z2 % 128), .int .i64 (z3 / 16), .int .i64 (z3 % 16), .bool (decide (128 ≤ z2)), .slice none 0 0] 44)).mono (Nat.le_of_eq hsz.symm))
            have hbx := heap_alloc_new wd (.cells #[.int .i64 z0, .int .i64 z1, .int .i64 (z2 % 128), .int .i64 (z3 / 16), .int .i64 (z3 % 16), .bool (decide (128 ≤ z2)), .slice none 0 0] 44)
            rw [hsz] at hbx
            refine hK.out _ _ ?_ (fun hS' => ?_)
            · exact ⟨by rw [hal2.cell (p := ⟨g, 1, none⟩) hgl, ← hSold.2.2.out.cell (p := ⟨g, 1, none⟩) hgl]; exact hSold.1, by rw [hal2.cell (p := ⟨g, 3, none⟩) hgl, ← hSold.2.2.out.cell (p := ⟨g, 3, none⟩) hgl]; exact hSold.2.1, hal2⟩
            clear hK K
            try simp only [Act.put, List.getElem_toArray, List.getElem_cons_zero, List.getElem_cons_succ, List.setIfInBounds_toArray, List.set_cons_zero, List.set_cons_succ]
            replace hS := hS'
            clear hS'
            refine wpAnyH_done (by kernel_rfl) ?_ _
            go_wp2_with fail
            go_meet
            exact ⟨by first | rfl | rw [hsz], hal2, hbx⟩
          · skip
            go_simp
            have hSold := hS
            have hal := hS.2.2.out.trans (((Below.refl wd.heap.size wd).alloc (Nat.le_refl _) (.cells #[.int .i64 0, .int .i64 0, .int .i64 0, .int .i64 0, .int .i64 0, .bool false, .slice none 0 0] 44)).mono (Nat.le_of_eq hsz.symm))
            have ha0 := hS.1
            have ha1 := hS.2.1
            refine hK.out _ _ ?_ (fun hS' => ?_)
            · exact ⟨by rw [hal.cell (p := ⟨g, 1, none⟩) hgl, ← hSold.2.2.out.cell (p := ⟨g, 1, none⟩) hgl]; exact ha0, by rw [hal.cell (p := ⟨g, 3, none⟩) hgl, ← hSold.2.2.out.cell (p := ⟨g, 3, none⟩) hgl]; exact ha1, hal⟩
            clear hK K
            try simp only [Act.put, List.getElem_toArray, List.getElem_cons_zero, List.getElem_cons_succ, List.setIfInBounds_toArray, List.set_cons_zero, List.set_cons_succ]
            replace hS := hS'
            clear hS'
            refine wpAnyH_ready (rs := [19]) (by kernel_rfl) (by simp) ?_
            refine (AllReadyH.cons rfl (fun K hK => ?_) AllReadyH.nil)
            go_simp
            refine hK.out _ _ ?_ (fun hS' => ?_)
            · exact hS
            clear hK K
            try simp only [Act.put, List.getElem_toArray, List.getElem_cons_zero, List.getElem_cons_succ, List.setIfInBounds_toArray, List.set_cons_zero, List.set_cons_succ]
            replace hS := hS'
            clear hS'
            refine wpAnyH_ready (rs := [21]) (by kernel_rfl) (by simp) ?_
            refine (AllReadyH.cons rfl (fun K hK => ?_) AllReadyH.nil)
            go_simp
            have hal2 := hSold.2.2.out.trans (((Below.refl wd.heap.size wd).alloc (Nat.le_refl _) (.cells #[.int .i64 z0, .int .i64 z1, .int .i64 (z2 % 128), .int .i64 (z3 / 16), .int .i64 (z3 % 16), .bool (decide (128 ≤ z2)), .slice none 0 0] 44)).mono (Nat.le_of_eq hsz.symm))
            have hbx := heap_alloc_new wd (.cells #[.int .i64 z0, .int .i64 z1, .int .i64 (z2 % 128), .int .i64 (z3 / 16), .int .i64 (z3 % 16), .bool (decide (128 ≤ z2)), .slice none 0 0] 44)
            rw [hsz] at hbx
            refine hK.out _ _ ?_ (fun hS' => ?_)
            · exact ⟨by rw [hal2.cell (p := ⟨g, 1, none⟩) hgl, ← hSold.2.2.out.cell (p := ⟨g, 1, none⟩) hgl]; exact hSold.1, by rw [hal2.cell (p := ⟨g, 3, none⟩) hgl, ← hSold.2.2.out.cell (p := ⟨g, 3, none⟩) hgl]; exact hSold.2.1, hal2⟩
            clear hK K
            try simp only [Act.put, List.getElem_toArray, List.getElem_cons_zero, List.getElem_cons_succ, List.setIfInBounds_toArray, List.set_cons_zero, List.set_cons_succ]
            replace hS := hS'
            clear hS'
            refine wpAnyH_done (by kernel_rfl) ?_ _
            go_wp2_with fail
            go_meet
            exact ⟨by first | rfl | rw [hsz], hal2, hbx⟩
        · skip
          go_simp
          have hSold := hS
          have hal := hS.2.2.out.trans (((Below.refl wd.heap.size wd).alloc (Nat.le_refl _) (.cells #[.int .i64 0, .int .i64 0, .int .i64 0, .int .i64 0, .int .i64 0, .bool false, .slice none 0 0] 44)).mono (Nat.le_of_eq hsz.symm))
          have ha0 := hS.1
          have ha1 := hS.2.1
          refine hK.out _ _ ?_ (fun hS' => ?_)
          · exact ⟨by rw [hal.cell (p := ⟨g, 1, none⟩) hgl, ← hSold.2.2.out.cell (p := ⟨g, 1, none⟩) hgl]; exact ha0, by rw [hal.cell (p := ⟨g, 3, none⟩) hgl, ← hSold.2.2.out.cell (p := ⟨g, 3, none⟩) hgl]; exact ha1, hal⟩
          clear hK K
          try simp only [Act.put, List.getElem_toArray, List.getElem_cons_zero, List.getElem_cons_succ, List.setIfInBounds_toArray, List.set_cons_zero, List.set_cons_succ]
          replace hS := hS'
          clear hS'
          refine wpAnyH_ready (rs := [9]) (by kernel_rfl) (by simp) ?_
          refine (AllReadyH.cons rfl (fun K hK => ?_) AllReadyH.nil)
          go_simp
          refine (N1.out _ hS.2.2.out).mono ?_
          rintro e y1 ⟨rfl, rfl⟩
          go_wp2_with fail
          refine hK.out _ _ ?_ (fun hS' => ?_)
          · exact hS
          clear hK K
          try simp only [Act.put, List.getElem_toArray, List.getElem_cons_zero, List.getElem_cons_succ, List.setIfInBounds_toArray, List.set_cons_zero, List.set_cons_succ]
          replace hS := hS'
          clear hS'
          refine wpAnyH_ready (rs := [19]) (by kernel_rfl) (by simp) ?_
          refine (AllReadyH.cons rfl (fun K hK => ?_) AllReadyH.nil)
          go_simp
          refine hK.out _ _ ?_ (fun hS' => ?_)
          · exact hS
          clear hK K
          try simp only [Act.put, List.getElem_toArray, List.getElem_cons_zero, List.getElem_cons_succ, List.setIfInBounds_toArray, List.set_cons_zero, List.set_cons_succ]
          replace hS := hS'
          clear hS'
          refine wpAnyH_ready (rs := [21]) (by kernel_rfl) (by simp) ?_
          refine (AllReadyH.cons rfl (fun K hK => ?_) AllReadyH.nil)
          go_simp
          have hal2 := hSold.2.2.out.trans (((Below.refl wd.heap.size wd).alloc (Nat.le_refl _) (.cells #[.int .i64 z0, .int .i64 z1, .int .i64 (z2 % 128), .int .i64 (z3 / 16), .int .i64 (z3 % 16), .bool (decide (128 ≤ z2)), .slice none 0 0] 44)).mono (Nat.le_of_eq hsz.symm))
          have hbx := heap_alloc_new wd (.cells #[.int .i64 z0, .int .i64 z1, .int .i64 (z2 % 128), .int .i64 (z3 / 16), .int .i64 (z3 % 16), .bool (decide (128 ≤ z2)), .slice none 0 0] 44)
          rw [hsz] at hbx
          refine hK.out _ _ ?_ (fun hS' => ?_)
          · exact ⟨by rw [hal2.cell (p := ⟨g, 1, none⟩) hgl, ← hSold.2.2.out.cell (p := ⟨g, 1, none⟩) hgl]; exact hSold.1, by rw [hal2.cell (p := ⟨g, 3, none⟩) hgl, ← hSold.2.2.out.cell (p := ⟨g, 3, none⟩) hgl]; exact hSold.2.1, hal2⟩
          clear hK K
          try simp only [Act.put, List.getElem_toArray, List.getElem_cons_zero, List.getElem_cons_succ, List.setIfInBounds_toArray, List.set_cons_zero, List.set_cons_succ]
          replace hS := hS'
          clear hS'
          refine wpAnyH_done (by kernel_rfl) ?_ _
          go_wp2_with fail
          go_meet
          exact ⟨by first | rfl | rw [hsz], hal2, hbx⟩
      · skip
        go_simp
        have hSold := hS
        have hal := hS.2.2.out.trans (((Below.refl wd.heap.size wd).alloc (Nat.le_refl _) (.cells #[.int .i64 0, .int .i64 0, .int .i64 0, .int .i64 0, .int .i64 0, .bool false, .slice none 0 0] 44)).mono (Nat.le_of_eq hsz.symm))
        have ha0 := hS.1
        have ha1 := hS.2.1
        refine hK.out _ _ ?_ (fun hS' => ?_)
        · exact ⟨by rw [hal.cell (p := ⟨g, 1, none⟩) hgl, ← hSold.2.2.out.cell (p := ⟨g, 1, none⟩) hgl]; exact ha0, by rw [hal.cell (p := ⟨g, 3, none⟩) hgl, ← hSold.2.2.out.cell (p := ⟨g, 3, none⟩) hgl]; exact ha1, hal⟩
        clear hK K
        try simp only [Act.put, List.getElem_toArray, List.getElem_cons_zero, List.getElem_cons_succ, List.setIfInBounds_toArray, List.set_cons_zero, List.set_cons_succ]
        replace hS := hS'
        clear hS'
        refine wpAnyH_ready (rs := [4]) (by kernel_rfl) (by simp) ?_
        refine (AllReadyH.cons rfl (fun K hK => ?_) AllReadyH.nil)
        go_simp
        refine (N0.out _ hS.2.2.out).mono ?_
        rintro e y1 ⟨rfl, rfl⟩
        go_wp2_with fail
        refine hK.out _ _ ?_ (fun hS' => ?_)
        · exact hS
        clear hK K
        try simp only [Act.put, List.getElem_toArray, List.getElem_cons_zero, List.getElem_cons_succ, List.setIfInBounds_toArray, List.set_cons_zero, List.set_cons_succ]
        replace hS := hS'
        clear hS'
        refine wpAnyH_ready (rs := [9]) (by kernel_rfl) (by simp) ?_
        refine (AllReadyH.cons rfl (fun K hK => ?_) AllReadyH.nil)
        go_simp
        refine (N1.out _ hS.2.2.out).mono ?_
        rintro e y1 ⟨rfl, rfl⟩
        go_wp2_with fail
        refine hK.out _ _ ?_ (fun hS' => ?_)
        · exact hS
        clear hK K
        try simp only [Act.put, List.getElem_toArray, List.getElem_cons_zero, List.getElem_cons_succ, List.setIfInBounds_toArray, List.set_cons_zero, List.set_cons_succ]
        replace hS := hS'
        clear hS'
        refine wpAnyH_ready (rs := [19]) (by kernel_rfl) (by simp) ?_
        refine (AllReadyH.cons rfl (fun K hK => ?_) AllReadyH.nil)
        go_simp
        refine hK.out _ _ ?_ (fun hS' => ?_)
        · exact hS
        clear hK K
        try simp only [Act.put, List.getElem_toArray, List.getElem_cons_zero, List.getElem_cons_succ, List.setIfInBounds_toArray, List.set_cons_zero, List.set_cons_succ]
        replace hS := hS'
        clear hS'
        refine wpAnyH_ready (rs := [21]) (by kernel_rfl) (by simp) ?_
        refine (AllReadyH.cons rfl (fun K hK => ?_) AllReadyH.nil)
        go_simp
        have hal2 := hSold.2.2.out.trans (((Below.refl wd.heap.size wd).alloc (Nat.le_refl _) (.cells #[.int .i64 z0, .int .i64 z1, .int .i64 (z2 % 128), .int .i64 (z3 / 16), .int .i64 (z3 % 16), .bool (decide (128 ≤ z2)), .slice none 0 0] 44)).mono (Nat.le_of_eq hsz.symm))
        have hbx := heap_alloc_new wd (.cells #[.int .i64 z0, .int .i64 z1, .int .i64 (z2 % 128), .int .i64 (z3 / 16), .int .i64 (z3 % 16), .bool (decide (128 ≤ z2)), .slice none 0 0] 44)
        rw [hsz] at hbx
        refine hK.out _ _ ?_ (fun hS' => ?_)
        · exact ⟨by rw [hal2.cell (p := ⟨g, 1, none⟩) hgl, ← hSold.2.2.out.cell (p := ⟨g, 1, none⟩) hgl]; exact hSold.1, by rw [hal2.cell (p := ⟨g, 3, none⟩) hgl, ← hSold.2.2.out.cell (p := ⟨g, 3, none⟩) hgl]; exact hSold.2.1, hal2⟩
        clear hK K
        try simp only [Act.put, List.getElem_toArray, List.getElem_cons_zero, List.getElem_cons_succ, List.setIfInBounds_toArray, List.set_cons_zero, List.set_cons_succ]
        replace hS := hS'
        clear hS'
        refine wpAnyH_done (by kernel_rfl) ?_ _
        go_wp2_with fail
        go_meet
        exact ⟨by first | rfl | rw [hsz], hal2, hbx⟩
    case rest =>
    obtain ⟨rfl, HB6, HG6⟩ := hcut
    clear N0 N1 F0 F1 HO
    have hg4 : w.heap.size < x4.heap.size := box_lt HG4.out
    have hg3 : w.heap.size < x3.heap.size := HB3s.out
    have HGG := Hid.mk' (And.intro hg4 hg3)
    clear hg4 hg3
    go_wp2_with fail
    go_loopw [9] (fun i W => ∃ (k : Nat) (pb : Option Addr) (cb : Nat) (Lb : List Fd), 4 ≤ k ∧ k ≤ L.length ∧ i = .int .i64 k ∧ Hid (Below x4.heap.size x4 W) ∧ Hid (W.heap[x4.heap.size]? = some (.cells #[.int .i64 z0, .int .i64 z1, .int .i64 (z2 % 128), .int .i64 (z3 / 16), .int .i64 (z3 % 16), .bool (decide (128 ≤ z2)), .slice pb Lb.length cb] 44 (0, 0))) ∧ Hid (OwnF (x4.heap.size + 1) W (.slice pb Lb.length cb) Lb) ∧ Hid (kys Lb = kys ((L.take k).drop 4)) ∧ Hid (∀ f ∈ Lb, 0 < f.d.length → ∀ a, f.p = some a → x3.heap.size ≤ a.block ∧ a.block < x4.heap.size)) (fun i _ => L.length - (intOf i).toNat)
    case atStart => exact ⟨4, none, 0, [], by omega, n4, rfl, HB6, HG6, OwnF.nil _ _, by show _ = _; rw [List.drop_of_length_le (by rw [List.length_take]; omega)], by simp [Hid]⟩
    case round =>
      obtain ⟨k, pb, cb, Lb, h4k, hk, rfl, HB, HG, HO, HK, HH⟩ := hrel
      clear HB6 HG6
      by_cases t : k < L.length
      · have hfx := HFX.out wr.drew (HB.out.drew) k t
        have HFK := Hid.mk' (fun X (h : Below x4.heap.size x4 X) => HFX.out X h k t)
        have HMF := Hid.mk' (HFH.out (L.getD k zf) (by simp [List.getD, t]))
        have HKN := Hid.mk' (show kys ((L.take (k + 1)).drop 4) = kys ((L.take k).drop 4) ++ [ky (L.getD k zf)] by rw [drop4_next L k h4k t, kys_append]; rfl)
        generalize L.getD k zf = y at hfx HFK HMF HKN
        obtain ⟨f0, f1, hok⟩ := hfx
        have HOd := Hid.mk' (show OwnF (x4.heap.size + 1) wr.drew (.slice pb Lb.length cb) Lb from HO.out.on (Below.refl _ _).drew)
        have HGd : Hid (wr.drew.heap[x4.heap.size]? = some (.cells #[.int .i64 z0, .int .i64 z1, .int .i64 (z2 % 128), .int .i64 (z3 / 16), .int .i64 (z3 % 16), .bool (decide (128 ≤ z2)), .slice pb Lb.length cb] 44 (0, 0))) := HG.out
        have hS0 : wr.drew.cell? ⟨g, k * 2, none⟩ = some (.int .i64 y.tag) ∧ wr.drew.cell? ⟨g, k * 2 + 1, none⟩ = some (.slice y.p y.d.length y.cap) ∧ Hid (Below x4.heap.size x4 wr.drew) := ⟨f0, f1, HB.out.drew⟩
        have c6 : wr.drew.cell? ⟨x4.heap.size, 6, none⟩ = some (.slice pb Lb.length cb) := by simp [World.cell?, HGd.out]
        have kl : (k : Int) < L.length := by omega
        have HLB := Hid.mk' (show Lb.length ≤ 100000 by have := congrArg List.length HK.out; rw [kys_len, kys_len, List.length_drop, List.length_take] at this; omega)
        clear f0 f1 hok HO HG HB
        go_wp2_with fail
        refine wp_region_held_drew (S := fun X => X.cell? ⟨g, k * 2, none⟩ = some (.int .i64 y.tag) ∧ X.cell? ⟨g, k * 2 + 1, none⟩ = some (.slice y.p y.d.length y.cap) ∧ Hid (Below x4.heap.size x4 X)) (by kernel_rfl) hS0 (fun hS => ?_)
        clear hS0
        generalize wr.drew = wd at hS HOd HGd c6 ⊢
        refine wpAnyH_take (i := 0) (v := ?v0_35) rfl (by kernel_rfl) (by kernel_rfl) (by kernel_rfl) (fun _ _ _ h => h) (Or.inl ⟨by rfl, ?hy0_35⟩) (by assumption) ?rest0_35
        case hy0_35 => (intro w hSw; (try dsimp only at hSw); go_simp; try (with_reducible rfl))
        simp only [Act.put, List.getElem_toArray, List.getElem_cons_zero, List.getElem_cons_succ, List.setIfInBounds_toArray, List.set_cons_zero, List.set_cons_succ]
        refine wpAnyH_take (i := 2) (v := ?v2_36) rfl (by kernel_rfl) (by kernel_rfl) (by kernel_rfl) (fun _ _ _ h => h) (Or.inl ⟨by rfl, ?hy2_36⟩) (by assumption) ?rest2_36
        case hy2_36 => (intro w hSw; (try dsimp only at hSw); go_simp; try (with_reducible rfl))
        simp only [Act.put, List.getElem_toArray, List.getElem_cons_zero, List.getElem_cons_succ, List.setIfInBounds_toArray, List.set_cons_zero, List.set_cons_succ]
        refine wpAnyH_take (i := 3) (v := ?v3_37) rfl (by kernel_rfl) (by kernel_rfl) (by kernel_rfl) (fun _ _ _ h => h) (Or.inl ⟨by rfl, ?hy3_37⟩) (by assumption) ?rest3_37
        case hy3_37 => (intro w hSw; (try dsimp only at hSw); go_simp; try (with_reducible rfl))
        simp only [Act.put, List.getElem_toArray, List.getElem_cons_zero, List.getElem_cons_succ, List.setIfInBounds_toArray, List.set_cons_zero, List.set_cons_succ]
        refine wpAnyH_take (i := 4) (v := ?v4_38) rfl (by kernel_rfl) (by kernel_rfl) (by kernel_rfl) (fun _ _ _ h => h) (Or.inl ⟨by rfl, ?hy4_38⟩) (by assumption) ?rest4_38
        case hy4_38 => (intro w hSw; (try dsimp only at hSw); go_simp; try (with_reducible rfl))
        simp only [Act.put, List.getElem_toArray, List.getElem_cons_zero, List.getElem_cons_succ, List.setIfInBounds_toArray, List.set_cons_zero, List.set_cons_succ]
        refine wpAnyH_take (i := 5) (v := ?v5_39) rfl (by kernel_rfl) (by kernel_rfl) (by kernel_rfl) (fun _ _ _ h => h) (Or.inl ⟨by rfl, ?hy5_39⟩) (by assumption) ?rest5_39
        case hy5_39 => (intro w hSw; (try dsimp only at hSw); go_simp; try (with_reducible rfl))
        simp only [Act.put, List.getElem_toArray, List.getElem_cons_zero, List.getElem_cons_succ, List.setIfInBounds_toArray, List.set_cons_zero, List.set_cons_succ]
        refine wpAnyH_ready (rs := [1, 6]) (by kernel_rfl) (by simp) ?_
        refine (AllReadyH.cons rfl (fun K hK => ?_) (AllReadyH.cons rfl (fun K hK => ?_) AllReadyH.nil))
        · skip
          go_simp
          refine hK.out _ _ ?_ (fun hS' => ?_)
          · exact hS
          clear hK K
          try simp only [Act.put, List.getElem_toArray, List.getElem_cons_zero, List.getElem_cons_succ, List.setIfInBounds_toArray, List.set_cons_zero, List.set_cons_succ]
          replace hS := hS'
          clear hS'
          refine wpAnyH_ready (rs := [6]) (by kernel_rfl) (by simp) ?_
          refine (AllReadyH.cons rfl (fun K hK => ?_) AllReadyH.nil)
          go_simp
          have hal := (Below.refl wd.heap.size wd).alloc (Nat.le_refl _) (.cells #[.int .i64 y.tag, .slice y.p y.d.length y.cap] 55)
          have hBe := hS.2.2.out.trans (hal.mono hS.2.2.out.size)
          have c6e : (wd.alloc (.cells #[.int .i64 y.tag, .slice y.p y.d.length y.cap] 55)).cell? ⟨x4.heap.size, 6, none⟩ = some (.slice pb Lb.length cb) := by rw [hal.cell (p := ⟨x4.heap.size, 6, none⟩) (lt_of_cell c6)]; exact c6
          have HBd := Hid.mk' hS.2.2.out
          refine hK.out _ _ ?_ (fun hS' => ?_)
          · exact ⟨(HFK.out _ hBe).1, (HFK.out _ hBe).2.1, hBe⟩
          clear hK K
          try simp only [Act.put, List.getElem_toArray, List.getElem_cons_zero, List.getElem_cons_succ, List.setIfInBounds_toArray, List.set_cons_zero, List.set_cons_succ]
          replace hS := hS'
          clear hS'
          refine wpAnyH_ready (rs := [7]) (by kernel_rfl) (by simp) ?_
          refine (AllReadyH.cons rfl (fun K hK => ?_) AllReadyH.nil)
          have HYO := Hid.mk' (HFK.out wd HBd.out).2.2
          refine step_addN (by rfl) (.tmp 57) (.tmp 62) (by rfl) (by rfl) HOd.out (box_lt HGd.out) y.tag y.p y.d.length y.cap y.d rfl HYO.out (fun hl a ha q => by have h1 := HOd.out.own.above _ q; have h2 := HMF.out.2 hl a ha; have h3 := HMF.out.1.lt hl a ha; omega) (by rfl) (by have := HLB.out; omega) (fun v8 w8 hO8 hB8 => ?_)
          obtain ⟨p8, c8, rfl, _⟩ := hO8.own.slice
          have e1 : (Lb ++ [(⟨y.tag, y.p, y.cap, y.d⟩ : Fd)]).length = Lb.length + 1 := by simp
          have HB8 := Hid.mk' (HBd.out.trans (hB8.mono (Nat.le_succ _)))
          have HG8 : Hid (w8.heap[x4.heap.size]? = some (.cells #[.int .i64 z0, .int .i64 z1, .int .i64 (z2 % 128), .int .i64 (z3 / 16), .int .i64 (z3 % 16), .bool (decide (128 ≤ z2)), .slice pb Lb.length cb] 44 (0, 0))) := (hB8.block x4.heap.size (Nat.lt_succ_self _)).trans HGd.out
          have HO8 := Hid.mk' hO8
          have c68 : w8.cell? ⟨x4.heap.size, 6, none⟩ = some (.slice pb Lb.length cb) := by simp [World.cell?, HG8.out]
          have f68 : w8.frozen? ⟨x4.heap.size, 6, none⟩ = false := by simp [World.frozen?, HG8.out]
          rw [e1]
          clear hO8 hB8
          go_simp
          refine hK.out _ _ ?_ (fun hS' => ?_)
          · exact ⟨(HFK.out _ HB8.out).1, (HFK.out _ HB8.out).2.1, HB8⟩
          clear hK K
          try simp only [Act.put, List.getElem_toArray, List.getElem_cons_zero, List.getElem_cons_succ, List.setIfInBounds_toArray, List.set_cons_zero, List.set_cons_succ]
          replace hS := hS'
          clear hS'
          refine wpAnyH_take (i := 8) (v := ?v8_40) rfl (by kernel_rfl) (by kernel_rfl) (by kernel_rfl) (fun _ _ _ h => h) (Or.inl ⟨by rfl, ?hy8_40⟩) (by assumption) ?rest8_40
          case hy8_40 => (intro w hSw; (try dsimp only at hSw); go_simp; try (with_reducible rfl))
          simp only [Act.put, List.getElem_toArray, List.getElem_cons_zero, List.getElem_cons_succ, List.setIfInBounds_toArray, List.set_cons_zero, List.set_cons_succ]
          refine wpAnyH_ready (rs := [9]) (by kernel_rfl) (by simp) ?_
          refine (AllReadyH.cons rfl (fun K hK => ?_) AllReadyH.nil)
          go_simp
          have fs := (Fr.refl (fun i => i = x4.heap.size) w8).setCell (p := ⟨x4.heap.size, 6, none⟩) (.inl rfl) (.slice p8 (Lb.length + 1) c8)
          have hb9 : Below x4.heap.size x4 (w8.setCell ⟨x4.heap.size, 6, none⟩ (.slice p8 (Lb.length + 1) c8)) := HB8.out.setCell (Nat.le_refl _) _
          have hbox9 : (w8.setCell ⟨x4.heap.size, 6, none⟩ (.slice p8 (Lb.length + 1) c8)).heap[x4.heap.size]? = some (.cells #[.int .i64 z0, .int .i64 z1, .int .i64 (z2 % 128), .int .i64 (z3 / 16), .int .i64 (z3 % 16), .bool (decide (128 ≤ z2)), .slice p8 (Lb.length + 1) c8] 44 (0, 0)) := by simp [World.setCell, Array.getElem?_modify, HG8.out]
          have HH9 := Hid.mk' (show ∀ f ∈ Lb ++ [(⟨y.tag, y.p, y.cap, y.d⟩ : Fd)], 0 < f.d.length → ∀ a, f.p = some a → x3.heap.size ≤ a.block ∧ a.block < x4.heap.size from fun f hf hl a ha => by
            rcases List.mem_append.1 hf with q | q
            · exact HH.out f q hl a ha
            · simp at q; subst q; exact ⟨HMF.out.2 hl a ha, HMF.out.1.lt hl a ha⟩)
          have ho9 := HO8.out.frS fs (fun g' hg' q => by have := HO8.out.own.above g' hg'; omega) (fun f hf hl a ha q => by have := HH9.out f hf hl a ha; omega)
          have HK9 := Hid.mk' (show kys (Lb ++ [(⟨y.tag, y.p, y.cap, y.d⟩ : Fd)]) = kys ((L.take (k + 1)).drop 4) by rw [kys_append, HK.out, HKN.out]; rfl)
          have HB9 := Hid.mk' hb9
          have HG9 := Hid.mk' hbox9
          have HO9 := Hid.mk' ho9
          have HE1 := Hid.mk' e1
          clear hbox9 ho9 fs
          refine hK.out _ _ ?_ (fun hS' => ?_)
          · exact ⟨(HFK.out _ HB9.out).1, (HFK.out _ HB9.out).2.1, HB9⟩
          clear hK K
          try simp only [Act.put, List.getElem_toArray, List.getElem_cons_zero, List.getElem_cons_succ, List.setIfInBounds_toArray, List.set_cons_zero, List.set_cons_succ]
          replace hS := hS'
          clear hS'
          refine wpAnyH_done (by kernel_rfl) ?_ _
          clear hS c68 f68 c6 c6e hal hBe hb9 e1
          generalize Lb ++ [(⟨y.tag, y.p, y.cap, y.d⟩ : Fd)] = Lb2 at HE1 HK9 HO9 HH9
          go_wp2_with fail
          go_roundw
          case rel => exact ⟨k + 1, p8, c8, Lb2, by omega, by omega, by go_num, HB9, by rw [HE1.out]; exact HG9, HO9, HK9, HH9⟩
          case measure => simp [intOf]; omega
        · skip
          go_simp
          have hal := (Below.refl wd.heap.size wd).alloc (Nat.le_refl _) (.cells #[.int .i64 y.tag, .slice y.p y.d.length y.cap] 55)
          have hBe := hS.2.2.out.trans (hal.mono hS.2.2.out.size)
          have c6e : (wd.alloc (.cells #[.int .i64 y.tag, .slice y.p y.d.length y.cap] 55)).cell? ⟨x4.heap.size, 6, none⟩ = some (.slice pb Lb.length cb) := by rw [hal.cell (p := ⟨x4.heap.size, 6, none⟩) (lt_of_cell c6)]; exact c6
          have HBd := Hid.mk' hS.2.2.out
          refine hK.out _ _ ?_ (fun hS' => ?_)
          · exact ⟨(HFK.out _ hBe).1, (HFK.out _ hBe).2.1, hBe⟩
          clear hK K
          try simp only [Act.put, List.getElem_toArray, List.getElem_cons_zero, List.getElem_cons_succ, List.setIfInBounds_toArray, List.set_cons_zero, List.set_cons_succ]
          replace hS := hS'
          clear hS'
          refine wpAnyH_ready (rs := [1]) (by kernel_rfl) (by simp) ?_
          refine (AllReadyH.cons rfl (fun K hK => ?_) AllReadyH.nil)
          go_simp
          refine hK.out _ _ ?_ (fun hS' => ?_)
          · exact hS
          clear hK K
          try simp only [Act.put, List.getElem_toArray, List.getElem_cons_zero, List.getElem_cons_succ, List.setIfInBounds_toArray, List.set_cons_zero, List.set_cons_succ]
          replace hS := hS'
          clear hS'
          refine wpAnyH_ready (rs := [7]) (by kernel_rfl) (by simp) ?_
          refine (AllReadyH.cons rfl (fun K hK => ?_) AllReadyH.nil)
          have HYO := Hid.mk' (HFK.out wd HBd.out).2.2
          refine step_addN (by rfl) (.tmp 57) (.tmp 62) (by rfl) (by rfl) HOd.out (box_lt HGd.out) y.tag y.p y.d.length y.cap y.d rfl HYO.out (fun hl a ha q => by have h1 := HOd.out.own.above _ q; have h2 := HMF.out.2 hl a ha; have h3 := HMF.out.1.lt hl a ha; omega) (by rfl) (by have := HLB.out; omega) (fun v8 w8 hO8 hB8 => ?_)
          obtain ⟨p8, c8, rfl, _⟩ := hO8.own.slice
          have e1 : (Lb ++ [(⟨y.tag, y.p, y.cap, y.d⟩ : Fd)]).length = Lb.length + 1 := by simp
          have HB8 := Hid.mk' (HBd.out.trans (hB8.mono (Nat.le_succ _)))
          have HG8 : Hid (w8.heap[x4.heap.size]? = some (.cells #[.int .i64 z0, .int .i64 z1, .int .i64 (z2 % 128), .int .i64 (z3 / 16), .int .i64 (z3 % 16), .bool (decide (128 ≤ z2)), .slice pb Lb.length cb] 44 (0, 0))) := (hB8.block x4.heap.size (Nat.lt_succ_self _)).trans HGd.out
          have HO8 := Hid.mk' hO8
          have c68 : w8.cell? ⟨x4.heap.size, 6, none⟩ = some (.slice pb Lb.length cb) := by simp [World.cell?, HG8.out]
          have f68 : w8.frozen? ⟨x4.heap.size, 6, none⟩ = false := by simp [World.frozen?, HG8.out]
          rw [e1]
          clear hO8 hB8
          go_simp
          refine hK.out _ _ ?_ (fun hS' => ?_)
          · exact ⟨(HFK.out _ HB8.out).1, (HFK.out _ HB8.out).2.1, HB8⟩
          clear hK K
          try simp only [Act.put, List.getElem_toArray, List.getElem_cons_zero, List.getElem_cons_succ, List.setIfInBounds_toArray, List.set_cons_zero, List.set_cons_succ]
          replace hS := hS'
          clear hS'
          refine wpAnyH_take (i := 8) (v := ?v8_41) rfl (by kernel_rfl) (by kernel_rfl) (by kernel_rfl) (fun _ _ _ h => h) (Or.inl ⟨by rfl, ?hy8_41⟩) (by assumption) ?rest8_41
          case hy8_41 => (intro w hSw; (try dsimp only at hSw); go_simp; try (with_reducible rfl))
          simp only [Act.put, List.getElem_toArray, List.getElem_cons_zero, List.getElem_cons_succ, List.setIfInBounds_toArray, List.set_cons_zero, List.set_cons_succ]
          refine wpAnyH_ready (rs := [9]) (by kernel_rfl) (by simp) ?_
          refine (AllReadyH.cons rfl (fun K hK => ?_) AllReadyH.nil)
          go_simp
          have fs := (Fr.refl (fun i => i = x4.heap.size) w8).setCell (p := ⟨x4.heap.size, 6, none⟩) (.inl rfl) (.slice p8 (Lb.length + 1) c8)
          have hb9 : Below x4.heap.size x4 (w8.setCell ⟨x4.heap.size, 6, none⟩ (.slice p8 (Lb.length + 1) c8)) := HB8.out.setCell (Nat.le_refl _) _
          have hbox9 : (w8.setCell ⟨x4.heap.size, 6, none⟩ (.slice p8 (Lb.length + 1) c8)).heap[x4.heap.size]? = some (.cells #[.int .i64 z0, .int .i64 z1, .int .i64 (z2 % 128), .int .i64 (z3 / 16), .int .i64 (z3 % 16), .bool (decide (128 ≤ z2)), .slice p8 (Lb.length + 1) c8] 44 (0, 0)) := by simp [World.setCell, Array.getElem?_modify, HG8.out]
          have HH9 := Hid.mk' (show ∀ f ∈ Lb ++ [(⟨y.tag, y.p, y.cap, y.d⟩ : Fd)], 0 < f.d.length → ∀ a, f.p = some a → x3.heap.size ≤ a.block ∧ a.block < x4.heap.size from fun f hf hl a ha => by
            rcases List.mem_append.1 hf with q | q
            · exact HH.out f q hl a ha
            · simp at q; subst q; exact ⟨HMF.out.2 hl a ha, HMF.out.1.lt hl a ha⟩)
          have ho9 := HO8.out.frS fs (fun g' hg' q => by have := HO8.out.own.above g' hg'; omega) (fun f hf hl a ha q => by have := HH9.out f hf hl a ha; omega)
          have HK9 := Hid.mk' (show kys (Lb ++ [(⟨y.tag, y.p, y.cap, y.d⟩ : Fd)]) = kys ((L.take (k + 1)).drop 4) by rw [kys_append, HK.out, HKN.out]; rfl)
          have HB9 := Hid.mk' hb9
          have HG9 := Hid.mk' hbox9
          have HO9 := Hid.mk' ho9
          have HE1 := Hid.mk' e1
          clear hbox9 ho9 fs
          refine hK.out _ _ ?_ (fun hS' => ?_)
          · exact ⟨(HFK.out _ HB9.out).1, (HFK.out _ HB9.out).2.1, HB9⟩
          clear hK K
          try simp only [Act.put, List.getElem_toArray, List.getElem_cons_zero, List.getElem_cons_succ, List.setIfInBounds_toArray, List.set_cons_zero, List.set_cons_succ]
          replace hS := hS'
          clear hS'
          refine wpAnyH_done (by kernel_rfl) ?_ _
          clear hS c68 f68 c6 c6e hal hBe hb9 e1
          generalize Lb ++ [(⟨y.tag, y.p, y.cap, y.d⟩ : Fd)] = Lb2 at HE1 HK9 HO9 HH9
          go_wp2_with fail
          go_roundw
          case rel => exact ⟨k + 1, p8, c8, Lb2, by omega, by omega, by go_num, HB9, by rw [HE1.out]; exact HG9, HO9, HK9, HH9⟩
          case measure => simp [intOf]; omega
      · obtain rfl : k = L.length := by omega
        rw [List.take_of_length_le (Nat.le_refl _)] at HK
        obtain ⟨q9, k9, e9, hfb, hq0, hlb, hmb⟩ := HO.out.fin
        simp only [Value.slice.injEq, true_and] at e9
        obtain ⟨rfl, rfl⟩ := e9
        obtain ⟨r, hr⟩ : ∃ r : Rc, r = ⟨z0, z1, z2 % 128, z3 / 16, z3 % 16, decide (128 ≤ z2), pb, cb, Lb⟩ := ⟨_, rfl⟩
        have hkd : kys (L.drop 4) = (kys L).drop 4 := by simp [kys]
        have hrk : rk r = unR (kys L) := by rw [HU.out, hr, ← hkd, ← HK.out]; rfl
        have hlbn : Lb.length ≤ 100000 := by have := congrArg List.length HK.out; rw [kys_len, kys_len, List.length_drop] at this; omega
        have hszb : szK (kys Lb) ≤ 100000 := by
          rw [HK.out, hkd]
          have : szK (kys L) = szK ((kys L).take 4) + szK ((kys L).drop 4) := by rw [← szK_append, List.take_append_drop]
          omega
        have hrok : ROk wr r := by
          rw [hr]
          exact ⟨small_wf (z := z0) I0.1 (by omega), small_wf (z := z1) I1.1 (by omega), small_wf (z := z2 % 128) (by omega) (by omega), small_wf (z := z3 / 16) (by omega) (by omega), small_wf (z := z3 % 16) (by omega) (by omega), hlb, hmb, hq0, hfb, by simp only []; omega⟩
        have HRM := Hid.mk' (show ∀ i, RMem r i → w.heap.size < i from fun i hi => by
          have h1 := HGG.out
          rw [hr] at hi
          rcases hi with ⟨_, a, ha, rfl⟩ | ⟨f, hf, hl, a, ha, rfl⟩
          · have := HO.out.own.above a.block (by simp only [] at ha; rw [ha]; rfl)
            omega
          · have := (HH.out f hf hl a ha).1
            omega)
        have HRS := Hid.mk' (show szK (kys r.bag) ≤ 4611686018427387904 by rw [hr]; simp only []; omega)
        have hgr : wr.drew.heap[x4.heap.size]? = some (.cells #[.int .i64 r.id, .int .i64 r.inc, .int .i64 r.st, .int .i64 r.lo, .int .i64 r.hi, .bool r.cut, .slice r.p r.bag.length r.cap] 44 (0, 0)) := by rw [hr]; exact HG.out
        have VD := Hid.mk' (rvalid_any r wr.drew (hrok.below (Below.refl _ _).drew) HRS.out)
        have HROK := Hid.mk' (show ROk wr.drew r from hrok.below (Below.refl _ _).drew)
        have HUR := Hid.mk' (show unrec d = if mayR (rk r) = true then some (rk r) else none by rw [hrk]; exact HUN.out)
        have HGR := Hid.mk' hgr
        have hgres : wr.drew.heap[w.heap.size]? = some (.cells #[.int .i64 0, .int .i64 0, .int .i64 0, .int .i64 0, .int .i64 0, .bool false, .slice none 0 0] 44 (0, 0)) := (HB.out.block w.heap.size HGG.out.1).trans HG4.out
        have HGS := Hid.mk' hgres
        have HBd := Hid.mk' (show Below w.heap.size w wr.drew from (HB4.out.trans (HB.out.mono HB4.out.size)).drew)
        have hS0 := And.intro (box_cells hgr) (Hid.mk' hgr)
        obtain ⟨vb, hvb⟩ : ∃ vb, mayR (rk r) = vb := ⟨_, rfl⟩
        rw [hvb] at VD HUR
        clear hr hrk hlbn hszb hrok hfb hq0 hlb hmb hgr hgres hvb HO HG HK HH HB HU HUN hkd
        go_wp2_with fail
        refine wp_region_held_drew (S := fun X => (X.cell? ⟨x4.heap.size, 0, none⟩ = some (.int .i64 r.id) ∧ X.cell? ⟨x4.heap.size, 1, none⟩ = some (.int .i64 r.inc) ∧ X.cell? ⟨x4.heap.size, 2, none⟩ = some (.int .i64 r.st) ∧ X.cell? ⟨x4.heap.size, 3, none⟩ = some (.int .i64 r.lo) ∧ X.cell? ⟨x4.heap.size, 4, none⟩ = some (.int .i64 r.hi) ∧ X.cell? ⟨x4.heap.size, 5, none⟩ = some (.bool r.cut) ∧ X.cell? ⟨x4.heap.size, 6, none⟩ = some (.slice r.p r.bag.length r.cap)) ∧ Hid (X.heap[x4.heap.size]? = some (.cells #[.int .i64 r.id, .int .i64 r.inc, .int .i64 r.st, .int .i64 r.lo, .int .i64 r.hi, .bool r.cut, .slice r.p r.bag.length r.cap] 44 (0, 0)))) (by kernel_rfl) hS0 (fun hS => ?_)
        clear hS0
        generalize wr.drew = wd at hS VD HROK HGR HGS HBd ⊢
        refine wpAnyH_take (i := 0) (v := ?v0_42) rfl (by kernel_rfl) (by kernel_rfl) (by kernel_rfl) (fun _ _ _ h => h) (Or.inl ⟨by rfl, ?hy0_42⟩) (by assumption) ?rest0_42
        case hy0_42 => (intro w hSw; (try dsimp only at hSw); go_simp; try (with_reducible rfl))
        simp only [Act.put, List.getElem_toArray, List.getElem_cons_zero, List.getElem_cons_succ, List.setIfInBounds_toArray, List.set_cons_zero, List.set_cons_succ]
        refine wpAnyH_take (i := 1) (v := ?v1_43) rfl (by kernel_rfl) (by kernel_rfl) (by kernel_rfl) (fun _ _ _ h => h) (Or.inl ⟨by rfl, ?hy1_43⟩) (by assumption) ?rest1_43
        case hy1_43 => (intro w hSw; (try dsimp only at hSw); go_simp; try (with_reducible rfl))
        simp only [Act.put, List.getElem_toArray, List.getElem_cons_zero, List.getElem_cons_succ, List.setIfInBounds_toArray, List.set_cons_zero, List.set_cons_succ]
        refine wpAnyH_ready (rs := [2]) (by kernel_rfl) (by simp) ?_
        refine (AllReadyH.cons rfl (fun K hK => ?_) AllReadyH.nil)
        go_simp
        refine VD.out.mono ?_
        rintro e y2 ⟨rfl, hb2⟩
        have HGR2 := Hid.mk' (box_bel HGR.out hb2)
        have HGS2 := Hid.mk' (box_bel HGS.out hb2)
        have HBd2 := Hid.mk' (HBd.out.trans (hb2.mono HBd.out.size))
        have HROK2 := Hid.mk' (HROK.out.below hb2)
        clear hb2 HGR HGS HBd HROK VD
        go_wp2_with fail
        refine hK.out _ _ ?_ (fun hS' => ?_)
        · exact ⟨box_cells HGR2.out, HGR2⟩
        clear hK K
        try simp only [Act.put, List.getElem_toArray, List.getElem_cons_zero, List.getElem_cons_succ, List.setIfInBounds_toArray, List.set_cons_zero, List.set_cons_succ]
        replace hS := hS'
        clear hS'
        refine wpAnyH_ready (rs := [3]) (by kernel_rfl) (by simp) ?_
        refine (AllReadyH.cons rfl (fun K hK => ?_) AllReadyH.nil)
        refine step_store_row (by rfl) 44 (.tmp 2) (.tmp 65) (by rfl) w.heap.size #[.int .i64 r.id, .int .i64 r.inc, .int .i64 r.st, .int .i64 r.lo, .int .i64 r.hi, .bool r.cut, .slice r.p r.bag.length r.cap] (by rfl) (by rfl) 44 #[.int .i64 0, .int .i64 0, .int .i64 0, .int .i64 0, .int .i64 0, .bool false, .slice none 0 0] HGS2.out (by kernel_rfl) rfl (by simp [Value.oneCell']) ?_
        have hl3 : Below w.heap.size y2 (y2.setRow w.heap.size #[.int .i64 r.id, .int .i64 r.inc, .int .i64 r.st, .int .i64 r.lo, .int .i64 r.hi, .bool r.cut, .slice r.p r.bag.length r.cap]) := below_setRow (Below.refl _ _) (Nat.le_refl _) _
        have HGS3 := Hid.mk' (setRow_heap _ _ _ #[.int .i64 r.id, .int .i64 r.inc, .int .i64 r.st, .int .i64 r.lo, .int .i64 r.hi, .bool r.cut, .slice r.p r.bag.length r.cap] _ _ HGS2.out)
        have HGR3 : Hid ((y2.setRow w.heap.size #[.int .i64 r.id, .int .i64 r.inc, .int .i64 r.st, .int .i64 r.lo, .int .i64 r.hi, .bool r.cut, .slice r.p r.bag.length r.cap]).heap[x4.heap.size]? = some (.cells #[.int .i64 r.id, .int .i64 r.inc, .int .i64 r.st, .int .i64 r.lo, .int .i64 r.hi, .bool r.cut, .slice r.p r.bag.length r.cap] 44 (0, 0))) := (setRow_other _ _ _ _ (by have := HGG.out.1; omega)).trans HGR2.out
        have HBd3 := Hid.mk' (HBd2.out.trans hl3)
        have HROK3 := Hid.mk' (HROK2.out.frM (fr_setRow y2 w.heap.size #[.int .i64 r.id, .int .i64 r.inc, .int .i64 r.st, .int .i64 r.lo, .int .i64 r.hi, .bool r.cut, .slice r.p r.bag.length r.cap]) (fun i hi q => by have := HRM.out i hi; omega))
        clear hl3 HGS2 HGR2 HBd2 HROK2
        go_simp
        refine hK.out _ _ ?_ (fun hS' => ?_)
        · exact ⟨box_cells HGR3.out, HGR3⟩
        clear hK K
        try simp only [Act.put, List.getElem_toArray, List.getElem_cons_zero, List.getElem_cons_succ, List.setIfInBounds_toArray, List.set_cons_zero, List.set_cons_succ]
        replace hS := hS'
        clear hS'
        refine wpAnyH_take (i := 4) (v := ?v4_44) rfl (by kernel_rfl) (by kernel_rfl) (by kernel_rfl) (fun _ _ _ h => h) (Or.inl ⟨by rfl, ?hy4_44⟩) (by assumption) ?rest4_44
        case hy4_44 => (intro w hSw; (try dsimp only at hSw); go_simp; try (with_reducible rfl))
        simp only [Act.put, List.getElem_toArray, List.getElem_cons_zero, List.getElem_cons_succ, List.setIfInBounds_toArray, List.set_cons_zero, List.set_cons_succ]
        refine wpAnyH_done (by kernel_rfl) ?_ _
        clear hS
        go_wp2_with fail
        obtain ⟨r0, r1, r2, r3, r4, r5, r6⟩ := box_cells HGS3.out
        cases vb
        · have HQ := HN.out r _ HROK3.out (fun i hi => Nat.le_of_lt (HRM.out i hi)) HRS.out HBd3.out (by rw [HUR.out]; rfl)
          exact bodyPost_ret (v := .tuple #[.agg #[.int .i64 r.id, .int .i64 r.inc, .int .i64 r.st, .int .i64 r.lo, .int .i64 r.hi, .bool r.cut, .slice r.p r.bag.length r.cap], .bool false]) (by simp [results, Tryd.results31, go_sem, r0, r1, r2, r3, r4, r5, r6]) rfl HQ
        · have HQ := HY.out r _ HROK3.out (fun i hi => Nat.le_of_lt (HRM.out i hi)) HRS.out HBd3.out (by rw [HUR.out]; rfl)
          exact bodyPost_ret (v := .tuple #[.agg #[.int .i64 r.id, .int .i64 r.inc, .int .i64 r.st, .int .i64 r.lo, .int .i64 r.hi, .bool r.cut, .slice r.p r.bag.length r.cap], .bool true]) (by simp [results, Tryd.results31, go_sem, r0, r1, r2, r3, r4, r5, r6]) rfl HQ
end Go.Proofs.YtmejfkhikgcgmaaDoor
namespace Go.Proofs.YtmejfkhikgcgmaaDoor
open Go.RowKit
set_option linter.unusedSimpArgs false
set_option linter.unusedVariables false
set_option maxRecDepth 10000
set_option synthInstance.maxSize 2000

def posT (kind : Int) : Nat := if hasB kind 0 = true then 5 else 4
def seqA (kind : Int) (ks : List Key) (k : Nat) : Int := if hasB kind 0 = true ∧ 4 < k then numB (atK ks 4) else 0
def tgtA (kind : Int) (ks : List Key) (k : Nat) : Int := if hasB kind 1 = true ∧ posT kind < k then numB (atK ks (posT kind)) else 0
theorem hdT_len (kind : Int) : 4 ≤ (hdT kind).length ∧ (hdT kind).length ≤ 6 := by
  rcases has_cases kind with ⟨p | p, q | q⟩ <;> simp [hdT, p, q]
theorem hd_round (kind : Int) (ks : List Key) (k : Nat) (h4 : 4 ≤ k) (hk : k < (hdT kind).length) :
    ((hdT kind).getD k (0, 0)).2 = 2 ∧
    ((((hdT kind).getD k (0, 0)).1 = 5 ∧ seqA kind ks (k + 1) = numB (atK ks k) ∧ tgtA kind ks (k + 1) = tgtA kind ks k) ∨
     (((hdT kind).getD k (0, 0)).1 ≠ 5 ∧ tgtA kind ks (k + 1) = numB (atK ks k) ∧ seqA kind ks (k + 1) = seqA kind ks k)) := by
  rcases has_cases kind with ⟨p | p, q | q⟩
  all_goals simp only [hdT, p, q, if_true, if_false, Bool.false_eq_true, List.append_nil, List.cons_append, List.nil_append, List.length_cons, List.length_nil] at hk
  · have hc : k = 4 ∨ k = 5 := by omega
    rcases hc with rfl | rfl <;> simp [hdT, seqA, tgtA, posT, p, q]
  · obtain rfl : k = 4 := by omega
    simp [hdT, seqA, tgtA, posT, p, q]
  · obtain rfl : k = 4 := by omega
    simp [hdT, seqA, tgtA, posT, p, q]
  · omega
theorem hd_past (kind : Int) (ks : List Key) (k : Nat) (h4 : 4 ≤ k) (hk : (hdT kind).length ≤ k) : seqA kind ks (k + 1) = seqA kind ks k ∧ tgtA kind ks (k + 1) = tgtA kind ks k := by
  rcases has_cases kind with ⟨p | p, q | q⟩
  all_goals simp only [hdT, p, q, if_true, if_false, Bool.false_eq_true, List.append_nil, List.cons_append, List.nil_append, List.length_cons, List.length_nil] at hk
  · simp [seqA, tgtA, posT, p, q, show 4 < k + 1 by omega, show 4 < k by omega, show 5 < k + 1 by omega, show 5 < k by omega]
  · simp [seqA, tgtA, posT, p, q, show 4 < k + 1 by omega, show 4 < k by omega]
  · simp [seqA, tgtA, posT, p, q, show 4 < k + 1 by omega, show 4 < k by omega]
  · simp [seqA, tgtA, posT, p, q]
theorem hd_start (kind : Int) (ks : List Key) : seqA kind ks 4 = 0 ∧ tgtA kind ks 4 = 0 := by
  rcases has_cases kind with ⟨p | p, q | q⟩ <;> simp [seqA, tgtA, posT, p, q]
theorem hd_end (kind : Int) (ks : List Key) (rs : List RK) (k : Nat) (hk : (hdT kind).length ≤ k) :
    mkV kind ks rs = ⟨kind, numB (atK ks 1), numB (atK ks 2), numB (atK ks 3) / 16, numB (atK ks 3) % 16, seqA kind ks k, tgtA kind ks k, 0, 0, 0, rs⟩ := by
  rcases has_cases kind with ⟨p | p, q | q⟩
  all_goals simp only [hdT, p, q, if_true, if_false, Bool.false_eq_true, List.append_nil, List.cons_append, List.nil_append, List.length_cons, List.length_nil] at hk
  · simp [mkV, seqA, tgtA, posT, p, q, show 4 < k by omega, show 5 < k by omega]
  · simp [mkV, seqA, tgtA, posT, p, q, show 4 < k by omega]
  · simp [mkV, seqA, tgtA, posT, p, q, show 4 < k by omega]
  · simp [mkV, seqA, tgtA, posT, p, q]

theorem recsF2_snoc : ∀ {a : List Key} {rs : List RK} {x : Key} {r : RK}, recsF2 a = some rs → x.1 = 7 → unrec x.2 = some r → recsF2 (a ++ [x]) = some (rs ++ [r])
  | [], rs, x, r, h, h1, h2 => by
    obtain rfl : [] = rs := by simpa [recsF2] using h
    simp [recsF2, h1, h2]
  | k :: a, rs, x, r, h, h1, h2 => by
    rw [recsF2] at h
    split at h
    · rename_i t
      split at h
      · cases h
      · rename_i r0 hr0
        obtain ⟨rt, hrt, rfl⟩ := Option.map_eq_some_iff.1 h
        rw [List.cons_append, recsF2, if_pos t, hr0, recsF2_snoc hrt h1 h2]
        rfl
    · cases h
theorem recsF2_bad : ∀ {a : List Key} {x : Key} {b : List Key}, (x.1 ≠ 7 ∨ unrec x.2 = none) → recsF2 (a ++ x :: b) = none
  | [], x, b, h => by
    rw [List.nil_append, recsF2]
    rcases h with h | h
    · rw [if_neg h]
    · rw [h]; split <;> rfl
  | k :: a, x, b, h => by
    rw [List.cons_append, recsF2]
    split
    · split
      · rfl
      · rw [recsF2_bad h]; rfl
    · rfl
theorem dropN_next (L : List Fd) (n k : Nat) (hn : n ≤ k) (h : k < L.length) : kys ((L.take (k + 1)).drop n) = kys ((L.take k).drop n) ++ [ky (L.getD k zf)] := by
  rw [take_next L k h, List.drop_append_of_le_length (by rw [List.length_take]; omega), kys_append]; rfl
theorem dropN_split (L : List Fd) (n k : Nat) (hn : n ≤ k) (h : k < L.length) : kys (L.drop n) = kys ((L.take k).drop n) ++ ky (L.getD k zf) :: kys (L.drop (k + 1)) := by
  have e : L.drop n = (L.take k).drop n ++ L.drop k := by
    conv => lhs; rw [← List.take_append_drop k L]
    rw [List.drop_append_of_le_length (by rw [List.length_take]; omega)]
  rw [e, kys_append, drop_next L k h]; rfl
theorem rowsOk_get : ∀ {ts : List (Int × Nat)} {L : List Fd} (k : Nat), rowsOk ts (kys L) = true → k < ts.length → (L.getD k zf).tag = (ts.getD k (0, 0)).1 ∧ (L.getD k zf).d.length = (ts.getD k (0, 0)).2
  | t :: ts, f :: L, 0, h, _ => by
    simp only [kys, List.map_cons, rowsOk, Bool.and_eq_true, decide_eq_true_eq, ky] at h
    simpa using h.1
  | t :: ts, f :: L, k + 1, h, hk => by
    simp only [kys, List.map_cons, rowsOk, Bool.and_eq_true] at h
    have := rowsOk_get (ts := ts) (L := L) k h.2 (by simp at hk; omega)
    simpa using this
  | _ :: _, [], k, h, _ => by simp [kys, rowsOk] at h
  | [], _, k, _, hk => by simp at hk

/-- 'append(v, x)' of one whole number that was laid for it. -/
theorem wpList_addI {W : World} {ops : Array Oper} {rest : List Oper} {o : Oper} {ac : Act} {Q : Exit → Act → World → Prop} (hgd : o.guard = none) (s x : Operand)
    (ho : o.op = .call { callee := .builtin .append, args := #[s, x], argTypes := #[50, 50] })
    {B : Nat} {v : Value} {n : Nat} {xs : List Value} (hs : ac.eval s = v) (h3 : OwnR 3 1 W B v n xs) (hB : B ≤ W.heap.size) (z : Int) (hx : ac.eval x = .slice (some ⟨W.heap.size, 0, none⟩) 1 1) (hl : n ≤ 1000000)
    (h : ∀ v' w', OwnR 3 1 w' B v' (n + 1) (xs ++ [.int .i64 z]) → Below B W w' → Fr (fun k => v.ownBlock = some k) W w' → Moved W v v' → wpList Tryd.prog ops Q rest (ac.put o.dst v') w') : wpList Tryd.prog ops Q (o :: rest) ac (W.alloc (.cells #[.int .i64 z] 3)) := by
  obtain ⟨i0, hi, hz0, hz1, hz2⟩ := info_parts (show (Tryd.prog.info? 3).map (fun i => (i.zero, i.size, i.bytes)) = some (some (.int .i64 0), 1, 8) by kernel_rfl)
  have b : Below W.heap.size W (W.alloc (.cells #[.int .i64 z] 3)) := (Below.refl _ _).alloc (Nat.le_refl _) _
  refine wpList_append_fr hgd s x 50 ho 3 i0 _ 1 8 Tryd.underlying50 hi hz0 hz1 hz2 rfl (by decide) v n xs hs (h3.below b).owns (some ⟨W.heap.size, 0, none⟩) 1 1 [.int .i64 z] hx (by simp) (by simp) (fun _ => ⟨_, rfl, fun j u hj => ?_⟩) (fun u hu => (by simp at hu; subst hu; rfl)) (by unfold maxLen; omega) (by omega) fun v' w' hA => ?_
  · have hg := heap_alloc_new W (.cells #[.int .i64 z] 3)
    rw [Go.WideShapes.add_plain]
    generalize W.alloc (.cells #[.int .i64 z] 3) = X at hg ⊢
    simp [World.cell?, hg]
    simpa using hj
  · obtain ⟨k1, k2⟩ := (h3.below b).next (Nat.le_trans hB b.size) hA
    refine h v' w' k1 ((b.mono hB).trans k2) ((Fr.of_below b _).trans hA.fr fun _ q => .inl q) ?_
    rcases hA.moved with q | ⟨k, hk, hk2⟩
    · exact .inl q
    · exact .inr ⟨k, hk, Nat.le_trans b.size hk2⟩

/-- Two rows of whole numbers beside each other. -/
structure TW (B : Nat) (W : World) (a b : Value) (xs ys : List Int) : Prop where
  fst : OwnR 3 1 W B a xs.length (xs.map (Value.int .i64))
  snd : OwnR 3 1 W B b ys.length (ys.map (Value.int .i64))
  ne : ∀ g, a.ownBlock = some g → b.ownBlock ≠ some g
theorem TW.on {B : Nat} {W W' : World} {a b : Value} {xs ys : List Int} (h : TW B W a b xs ys) (k : Below W.heap.size W W') : TW B W' a b xs ys := ⟨h.fst.below k, h.snd.below k, h.ne⟩
theorem own_lt {e : TypeId} {size : Nat} {W : World} {B : Nat} {v : Value} {n : Nat} {xs : List Value} (h : OwnR e size W B v n xs) (g : Nat) (hg : v.ownBlock = some g) : g < W.heap.size := (h.owns.lt g hg).2
theorem TW.addA {B : Nat} {W W' : World} {a a' b : Value} {xs ys : List Int} (h : TW B W a b xs ys) (z : Int) (h1 : OwnR 3 1 W' B a' (xs.length + 1) (xs.map (Value.int .i64) ++ [.int .i64 z])) (hf : Fr (fun k => a.ownBlock = some k) W W') (hm : Moved W a a') : TW B W' a' b (xs ++ [z]) ys := by
  refine ⟨by simpa using h1, h.snd.fr hf (fun g hg q => h.ne g q hg), fun g hg hb => ?_⟩
  rcases hm with q | ⟨k, hk, hk2⟩
  · rw [q] at hg; exact h.ne g hg hb
  · rw [hk] at hg; cases hg
    have := own_lt h.snd _ hb
    omega
theorem TW.addB {B : Nat} {W W' : World} {a b b' : Value} {xs ys : List Int} (h : TW B W a b xs ys) (z : Int) (h1 : OwnR 3 1 W' B b' (ys.length + 1) (ys.map (Value.int .i64) ++ [.int .i64 z])) (hf : Fr (fun k => b.ownBlock = some k) W W') (hm : Moved W b b') : TW B W' a b' xs (ys ++ [z]) := by
  refine ⟨h.fst.fr hf (fun g hg q => h.ne g hg q), by simpa using h1, fun g hg hb => ?_⟩
  rcases hm with q | ⟨k, hk, hk2⟩
  · rw [q] at hb; exact h.ne g hg hb
  · rw [hk] at hb; cases hb
    have := own_lt h.fst _ hg
    omega
theorem own_nin {W : World} {B : Nat} {v : Value} {xs : List Int} (h : OwnR 3 1 W B v xs.length (xs.map (Value.int .i64))) : ∃ p c, v = .slice p xs.length c ∧ NIn W p xs := by
  obtain ⟨p, c, rfl, _, _, _, hp⟩ := h.slice
  refine ⟨p, c, rfl, fun hl => ?_⟩
  obtain ⟨g, rfl, _, hc⟩ := hp hl
  refine ⟨g, 0, rfl, fun i hi => ?_⟩
  rw [Nat.zero_add]
  refine hc i _ ?_
  simp [List.getD, hi]
/-- A row as it is laid. -/
theorem own_laid {W : World} {B g : Nat} {xs : List Int} {cs : Array Value} (h : W.heap[g]? = some (.cells cs 3 (0, 0))) (hcs : cs = (xs.map (Value.int .i64)).toArray) (hB : B ≤ g) (hl : xs.length ≤ 1000) : OwnR 3 1 W B (.slice (some ⟨g, 0, none⟩) xs.length xs.length) xs.length (xs.map (Value.int .i64)) := by
  subst hcs
  exact ⟨⟨by simp, .inr ⟨g, xs.length, _, rfl, Nat.zero_le _, h, Nat.le_refl _, by simp only [maxLen]; omega, by simp, by simp only [Nat.mul_one, List.toList_toArray]; exact List.take_of_length_le (by simp)⟩⟩, fun k hk => by cases hk; exact hB⟩
end Go.Proofs.YtmejfkhikgcgmaaDoor
