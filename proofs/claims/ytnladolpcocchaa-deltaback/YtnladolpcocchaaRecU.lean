/-
  Package rec: Put.
-/
import Derived.Test.YtnladolpcocchaaRecP
namespace Go.Proofs.Ytnladolpcocchaa
open Go.RowKit
set_option linter.unusedSimpArgs false
set_option linter.unusedVariables false
set_option maxRecDepth 10000
set_option synthInstance.maxSize 2000

/-- A list with a record in its place. -/
def putL (r : Rc) (l : List Rc) : List Rc :=
  if firstP (fun i => i == r.id) l < l.length then l.take (firstP (fun i => i == r.id) l) ++ r :: l.drop (firstP (fun i => i == r.id) l + 1)
  else l.take (firstP (fun i => decide (r.id < i)) l) ++ r :: l.drop (firstP (fun i => decide (r.id < i)) l)

/-- The three parts of what is put together. -/
theorem parts_inR {X : World} {p q : Option Addr} {c k m g : Nat} {l : List Rc} {f : Rc} (hk : k ≤ l.length) (hp : RIn X p l) (hf : ROk X f) (hq : RIn X q (l.drop m)) (hpn : p = none → c = 0) (hqn : q = none → c - m = 0)
    (h1 : X.heap[g]? = some (.cells #[.int .i64 f.id, .int .i64 f.inc, .int .i64 f.st, .int .i64 f.lo, .int .i64 f.hi, .bool f.cut, .slice f.p f.bag.length f.cap] 34 (0, 0))) :
    PInR (X.alloc (.cells #[.slice p k c, .slice (some ⟨g, 0, none⟩) 1 1, .slice q (l.length - m) (c - m)] 22)) X.heap.size [⟨p, c, l.take k⟩, ⟨some ⟨g, 0, none⟩, 1, [f]⟩, ⟨q, c - m, l.drop m⟩] := by
  have hnew := heap_alloc_new X (.cells #[.slice p k c, .slice (some ⟨g, 0, none⟩) 1 1, .slice q (l.length - m) (c - m)] 22)
  have hb := (Below.refl X.heap.size X).alloc (Nat.le_refl _) (.cells #[.slice p k c, .slice (some ⟨g, 0, none⟩) 1 1, .slice q (l.length - m) (c - m)] 22)
  generalize X.alloc (.cells #[.slice p k c, .slice (some ⟨g, 0, none⟩) 1 1, .slice q (l.length - m) (c - m)] 22) = Y at hnew hb ⊢
  refine ⟨fun i hi => ?_, fun x hx => ?_, fun x hx => ?_⟩
  · have : i = 0 ∨ i = 1 ∨ i = 2 := by simp at hi; omega
    rcases this with rfl | rfl | rfl
    · simp [World.cell?, hnew, Nat.min_eq_left hk]
    · simp [World.cell?, hnew]
    · simp [World.cell?, hnew]
  · simp only [List.mem_cons, List.not_mem_nil, or_false] at hx
    rcases hx with rfl | rfl | rfl
    · exact (hp.below hb).take k
    · exact RIn.one (by rw [hb.block _ (Array.getElem?_eq_some_iff.1 h1).1]; exact h1) (hf.below hb)
    · exact hq.below hb
  · simp only [List.mem_cons, List.not_mem_nil, or_false] at hx
    rcases hx with rfl | rfl | rfl
    · exact hpn
    · simp
    · exact hqn

theorem drop_in {p q : Option Addr} {c m : Nat} {l : List Rc} (hlc : l.length ≤ c) (hq : (if c = m then p else Option.map (fun x => x.add (m * 7)) p) = q) {X : World} (h : RIn X p l) : RIn X q (l.drop m) := by
  rw [← hq]
  split
  · rw [List.drop_of_length_le (by omega)]; exact RIn.empty _ _
  · exact h.drop m

theorem drop_nil {p q : Option Addr} {c m : Nat} (hpn : p = none → c = 0) (hq : (if c = m then p else Option.map (fun x => x.add (m * 7)) p) = q) : q = none → c - m = 0 := fun h => by
  rw [← hq] at h
  split at h
  · omega
  · have := hpn (by simpa using h); omega

/-- What is put together. -/
theorem rput_end {p q : Option Addr} {c k m g gx : Nat} {l L : List Rc} {r : Rc} {w X : World} (hL : L = l.take k ++ r :: l.drop m) (hgx : gx = X.heap.size) (hb : Below w.heap.size w X) (hp : RIn w p l) (hr : ROk w r) (hk : k ≤ l.length) (hq : RIn X q (l.drop m)) (hpn : p = none → c = 0) (hqn : q = none → c - m = 0) (hn : l.length ≤ 100000)
    (h1 : X.heap[g]? = some (.cells #[.int .i64 r.id, .int .i64 r.inc, .int .i64 r.st, .int .i64 r.lo, .int .i64 r.hi, .bool r.cut, .slice r.p r.bag.length r.cap] 34 (0, 0))) :
    Calls Try.prog 27 #[.slice (some ⟨gx, 0, none⟩) 3 3] (X.alloc (.cells #[.slice p k c, .slice (some ⟨g, 0, none⟩) 1 1, .slice q (l.length - m) (c - m)] 22))
      fun e w' => ∃ p7 c7, e = .returned (.slice p7 L.length c7) ∧ RIn w' p7 L ∧ Below X.heap.size X w' := by
  subst hL hgx
  have hPI := parts_inR hk (hp.below hb) (hr.below hb) hq hpn hqn h1
  have hL : allR [⟨p, c, l.take k⟩, ⟨some ⟨g, 0, none⟩, 1, [r]⟩, ⟨q, c - m, l.drop m⟩] = l.take k ++ r :: l.drop m := by simp [allR]
  have C := rconcat_any _ _ _ hPI (by simp) (by rw [hL]; simp; omega)
  rw [hL] at C
  refine C.mono ?_
  rintro e w' ⟨v, rfl, hO, hb2⟩
  have hb3 := hb.alloc hb.size (.cells #[.slice p k c, .slice (some ⟨g, 0, none⟩) 1 1, .slice q (l.length - m) (c - m)] 22)
  have hb4 := hb3.trans (hb2.mono hb3.size)
  obtain ⟨p7, c7, rfl, hf7, _⟩ := own_rin hO (fun x hx => by
    simp only [List.mem_append, List.mem_cons] at hx
    rcases hx with h | rfl | h
    · exact (hp.below hb4).oks x (List.mem_of_mem_take h)
    · exact hr.below hb4
    · exact (hp.below hb4).oks x (List.mem_of_mem_drop h))
  have hb5 := (Below.refl X.heap.size X).alloc (Nat.le_refl _) (.cells #[.slice p k c, .slice (some ⟨g, 0, none⟩) 1 1, .slice q (l.length - m) (c - m)] 22)
  exact ⟨p7, c7, rfl, hf7, hb5.trans (hb2.mono hb5.size)⟩

theorem InB.s {w X : World} {r : Rc} (h : InB w r X) : X.cell? ⟨w.heap.size, 0, none⟩ = some (.int .i64 r.id) ∧ X.cell? ⟨w.heap.size, 1, none⟩ = some (.int .i64 r.inc) ∧ X.cell? ⟨w.heap.size, 2, none⟩ = some (.int .i64 r.st) ∧ X.cell? ⟨w.heap.size, 3, none⟩ = some (.int .i64 r.lo) ∧ X.cell? ⟨w.heap.size, 4, none⟩ = some (.int .i64 r.hi) ∧ X.cell? ⟨w.heap.size, 5, none⟩ = some (.bool r.cut) ∧ X.cell? ⟨w.heap.size, 6, none⟩ = some (.slice r.p r.bag.length r.cap) ∧ Hid (InB w r X) := by
  obtain ⟨c0, c1, c2, c3, c4, c5, c6⟩ := box_cells h.box
  exact ⟨c0, c1, c2, c3, c4, c5, c6, h⟩

set_option maxHeartbeats 4000000 in
theorem rput_any (p : Option Addr) (c : Nat) (l : List Rc) (r : Rc) (w : World) (hp : RIn w p l) (hr : ROk w r) (hlc : l.length ≤ c) (hcm : c ≤ maxLen) (hpn : p = none → c = 0) (hn : l.length ≤ 100000) (hs : ∀ x ∈ l, x.bag.length ≤ 1099511627776) (hsr : r.bag.length ≤ 1099511627776) :
    Calls Try.prog 16 #[.slice p l.length c, .agg #[.int .i64 r.id, .int .i64 r.inc, .int .i64 r.st, .int .i64 r.lo, .int .i64 r.hi, .bool r.cut, .slice r.p r.bag.length r.cap]] w (CopyPost w (putL r l)) := by
  simp only [maxLen] at hcm
  have HI := Hid.mk' (InB.start w r)
  have N := fun X (h : InB w r X) => placeOf_any p c l r.id X (hp.below h.below) (by unfold maxLen; omega)
  have U := fun X (h : InB w r X) => placeU_any p c l w.heap.size r.id X (hp.below h.below) (by unfold maxLen; omega) (box_cells h.box).1
  have HP := Hid.mk' (show putL r l = (if firstP (fun i => i == r.id) l < l.length then l.take (firstP (fun i => i == r.id) l) ++ r :: l.drop (firstP (fun i => i == r.id) l + 1) else l.take (firstP (fun i => decide (r.id < i)) l) ++ r :: l.drop (firstP (fun i => decide (r.id < i)) l)) from rfl)
  have hle := firstP_le (fun i => i == r.id) l
  have hle2 := firstP_le (fun i => decide (r.id < i)) l
  obtain ⟨L, hL⟩ : ∃ L, putL r l = L := ⟨_, rfl⟩
  rw [hL] at HP ⊢
  clear hL
  generalize firstP (fun i => i == r.id) l = k at HP N hle
  generalize firstP (fun i => decide (r.id < i)) l = k2 at HP U hle2
  have HLS : Hid (∀ a b x, x ∈ l.take a ++ r :: l.drop b → x.bag.length ≤ 1099511627776) := fun a b x hx => by
    simp only [List.mem_append, List.mem_cons] at hx
    rcases hx with h | rfl | h
    · exact hs x (List.mem_of_mem_take h)
    · exact hsr
    · exact hs x (List.mem_of_mem_drop h)
  go_enter Try.func16, Try.ntmps16
  go_wp2_with fail
  refine (N _ HI.out).mono ?_
  rintro e w1 ⟨rfl, hb1⟩
  have HI1 := Hid.mk' (HI.out.on hb1)
  clear HI hb1 N
  by_cases t : k < l.length
  · have HL := Hid.mk' (show L = l.take k ++ r :: l.drop (k + 1) by rw [HP.out, if_pos t])
    obtain ⟨q, hq⟩ : ∃ q, (if c = k + 1 then p else Option.map (fun x => x.add ((k + 1) * 7)) p) = q := ⟨_, rfl⟩
    have HQ := Hid.mk' (fun X (h : RIn X p l) => drop_in (m := k + 1) hlc hq h)
    have HQN := Hid.mk' (drop_nil hpn hq)
    have hkc : k ≤ c := by omega
    have hkc1 : k + 1 ≤ c := by omega
    have hkl1 : k + 1 ≤ l.length := by omega
    have hwr : IntKind.i64.wrap ((k : Int) + 1) = (k : Int) + 1 := by rw [IntKind.wrap_i64]; omega
    have hi0 : (0 : Int) ≤ (k : Int) + 1 := by omega
    have hi1 : (k : Int) + 1 ≤ (l.length : Int) := by omega
    clear HP U hle2
    go_wp2_with fail
    have hS0 := (HI1.out.on (Below.refl _ _).drew).s
    refine wp_region_held_drew (S := fun X => X.cell? ⟨w.heap.size, 0, none⟩ = some (.int .i64 r.id) ∧ X.cell? ⟨w.heap.size, 1, none⟩ = some (.int .i64 r.inc) ∧ X.cell? ⟨w.heap.size, 2, none⟩ = some (.int .i64 r.st) ∧ X.cell? ⟨w.heap.size, 3, none⟩ = some (.int .i64 r.lo) ∧ X.cell? ⟨w.heap.size, 4, none⟩ = some (.int .i64 r.hi) ∧ X.cell? ⟨w.heap.size, 5, none⟩ = some (.bool r.cut) ∧ X.cell? ⟨w.heap.size, 6, none⟩ = some (.slice r.p r.bag.length r.cap) ∧ Hid (InB w r X)) (by kernel_rfl) hS0 (fun hS => ?_)
    clear hS0 HI1
    generalize w1.drew = wd at hS ⊢
    refine wpAnyH_take (i := 0) (v := ?v0_18) rfl (by kernel_rfl) (by kernel_rfl) (by kernel_rfl) (fun _ _ _ h => h) (Or.inl ⟨by rfl, ?hy0_18⟩) (by assumption) ?rest0_18
    case hy0_18 => (intro w hSw; (try dsimp only at hSw); go_simp; try (with_reducible rfl))
    simp only [Act.put, List.getElem_toArray, List.getElem_cons_zero, List.getElem_cons_succ, List.setIfInBounds_toArray, List.set_cons_zero, List.set_cons_succ]
    refine wpAnyH_take (i := 1) (v := ?v1_19) rfl (by kernel_rfl) (by kernel_rfl) (by kernel_rfl) (fun _ _ _ h => h) (Or.inl ⟨by rfl, ?hy1_19⟩) (by assumption) ?rest1_19
    case hy1_19 => (intro w hSw; (try dsimp only at hSw); go_simp; try (with_reducible rfl))
    simp only [Act.put, List.getElem_toArray, List.getElem_cons_zero, List.getElem_cons_succ, List.setIfInBounds_toArray, List.set_cons_zero, List.set_cons_succ]
    refine wpAnyH_take (i := 2) (v := ?v2_20) rfl (by kernel_rfl) (by kernel_rfl) (by kernel_rfl) (fun _ _ _ h => h) (Or.inl ⟨by rfl, ?hy2_20⟩) (by assumption) ?rest2_20
    case hy2_20 => (intro w hSw; (try dsimp only at hSw); go_simp; try (with_reducible rfl))
    simp only [Act.put, List.getElem_toArray, List.getElem_cons_zero, List.getElem_cons_succ, List.setIfInBounds_toArray, List.set_cons_zero, List.set_cons_succ]
    refine wpAnyH_take (i := 3) (v := ?v3_21) rfl (by kernel_rfl) (by kernel_rfl) (by kernel_rfl) (fun _ _ _ h => h) (Or.inl ⟨by rfl, ?hy3_21⟩) (by assumption) ?rest3_21
    case hy3_21 => (intro w hSw; (try dsimp only at hSw); go_simp; try (with_reducible rfl))
    simp only [Act.put, List.getElem_toArray, List.getElem_cons_zero, List.getElem_cons_succ, List.setIfInBounds_toArray, List.set_cons_zero, List.set_cons_succ]
    refine wpAnyH_take (i := 5) (v := ?v5_22) rfl (by kernel_rfl) (by kernel_rfl) (by kernel_rfl) (fun _ _ _ h => h) (Or.inl ⟨by rfl, ?hy5_22⟩) (by assumption) ?rest5_22
    case hy5_22 => (intro w hSw; (try dsimp only at hSw); go_simp; try (with_reducible rfl))
    simp only [Act.put, List.getElem_toArray, List.getElem_cons_zero, List.getElem_cons_succ, List.setIfInBounds_toArray, List.set_cons_zero, List.set_cons_succ]
    refine wpAnyH_take (i := 6) (v := ?v6_23) rfl (by kernel_rfl) (by kernel_rfl) (by kernel_rfl) (fun _ _ _ h => h) (Or.inl ⟨by rfl, ?hy6_23⟩) (by assumption) ?rest6_23
    case hy6_23 => (intro w hSw; (try dsimp only at hSw); go_simp; try (with_reducible rfl))
    simp only [Act.put, List.getElem_toArray, List.getElem_cons_zero, List.getElem_cons_succ, List.setIfInBounds_toArray, List.set_cons_zero, List.set_cons_succ]
    refine wpAnyH_take (i := 7) (v := ?v7_24) rfl (by kernel_rfl) (by kernel_rfl) (by kernel_rfl) (fun _ _ _ h => h) (Or.inl ⟨by rfl, ?hy7_24⟩) (by assumption) ?rest7_24
    case hy7_24 => (intro w hSw; (try dsimp only at hSw); go_simp; try (with_reducible rfl))
    simp only [Act.put, List.getElem_toArray, List.getElem_cons_zero, List.getElem_cons_succ, List.setIfInBounds_toArray, List.set_cons_zero, List.set_cons_succ]
    refine wpAnyH_take (i := 8) (v := ?v8_25) rfl (by kernel_rfl) (by kernel_rfl) (by kernel_rfl) (fun _ _ _ h => h) (Or.inl ⟨by rfl, ?hy8_25⟩) (by assumption) ?rest8_25
    case hy8_25 => (intro w hSw; (try dsimp only at hSw); go_simp; try (with_reducible rfl))
    simp only [Act.put, List.getElem_toArray, List.getElem_cons_zero, List.getElem_cons_succ, List.setIfInBounds_toArray, List.set_cons_zero, List.set_cons_succ]
    refine wpAnyH_ready (rs := [4]) (by kernel_rfl) (by simp) ?_
    refine (AllReadyH.cons rfl (fun K hK => ?_) AllReadyH.nil)
    go_simp
    have hI4 := hS.2.2.2.2.2.2.2.out.on ((Below.refl _ _).alloc (Nat.le_refl _) (.cells #[.int .i64 r.id, .int .i64 r.inc, .int .i64 r.st, .int .i64 r.lo, .int .i64 r.hi, .bool r.cut, .slice r.p r.bag.length r.cap] 34))
    have hone := heap_alloc_new wd (.cells #[.int .i64 r.id, .int .i64 r.inc, .int .i64 r.st, .int .i64 r.lo, .int .i64 r.hi, .bool r.cut, .slice r.p r.bag.length r.cap] 34)
    refine hK.out _ _ ?_ (fun hS' => ?_)
    · exact hI4.s
    clear hK K
    try simp only [Act.put, List.getElem_toArray, List.getElem_cons_zero, List.getElem_cons_succ, List.setIfInBounds_toArray, List.set_cons_zero, List.set_cons_succ]
    replace hS := hS'
    clear hS'
    refine wpAnyH_ready (rs := [9]) (by kernel_rfl) (by simp) ?_
    refine (AllReadyH.cons rfl (fun K hK => ?_) AllReadyH.nil)
    go_simp
    have CC := rput_end (gx := wd.heap.size + 1) HL.out (by simp) hI4.below hp hr (Nat.le_of_lt t) (HQ.out _ (hp.below hI4.below)) hpn HQN.out hn hone
    have hI9 := hI4.on ((Below.refl _ _).alloc (Nat.le_refl _) (.cells #[.slice p k c, .slice (some ⟨wd.heap.size, 0, none⟩) 1 1, .slice q (l.length - (k + 1)) (c - (k + 1))] 22))
    refine hK.out _ _ ?_ (fun hS' => ?_)
    · exact hI9.s
    clear hK K
    try simp only [Act.put, List.getElem_toArray, List.getElem_cons_zero, List.getElem_cons_succ, List.setIfInBounds_toArray, List.set_cons_zero, List.set_cons_succ]
    replace hS := hS'
    clear hS'
    refine wpAnyH_ready (rs := [10]) (by kernel_rfl) (by simp) ?_
    refine (AllReadyH.cons rfl (fun K hK => ?_) AllReadyH.nil)
    go_simp
    refine CC.mono ?_
    rintro e w7 ⟨p7, c7, rfl, hf7, hb7⟩
    have hI10 := hI4.on hb7
    clear hb7 CC
    go_wp2_with fail
    refine hK.out _ _ ?_ (fun hS' => ?_)
    · exact hI10.s
    clear hK K
    try simp only [Act.put, List.getElem_toArray, List.getElem_cons_zero, List.getElem_cons_succ, List.setIfInBounds_toArray, List.set_cons_zero, List.set_cons_succ]
    replace hS := hS'
    clear hS'
    refine wpAnyH_ready (rs := [11]) (by kernel_rfl) (by simp) ?_
    refine (AllReadyH.cons rfl (fun K hK => ?_) AllReadyH.nil)
    go_simp
    have CP := rcopy_any p7 c7 L _ hf7 (by rw [HL.out]; simp; omega) (fun x hx => HLS.out _ _ x (by rw [← HL.out]; exact hx))
    refine CP.mono ?_
    rintro e w8 ⟨g8, l8, rfl, hk8, hr8, hb8⟩
    have hI11 := hI10.on hb8
    clear hb8 CP
    go_wp2_with fail
    refine hK.out _ _ ?_ (fun hS' => ?_)
    · exact hI11.s
    clear hK K
    try simp only [Act.put, List.getElem_toArray, List.getElem_cons_zero, List.getElem_cons_succ, List.setIfInBounds_toArray, List.set_cons_zero, List.set_cons_succ]
    replace hS := hS'
    clear hS'
    refine wpAnyH_take (i := 12) (v := ?v12_26) rfl (by kernel_rfl) (by kernel_rfl) (by kernel_rfl) (fun _ _ _ h => h) (Or.inl ⟨by rfl, ?hy12_26⟩) (by assumption) ?rest12_26
    case hy12_26 => (intro w hSw; (try dsimp only at hSw); go_simp; try (with_reducible rfl))
    simp only [Act.put, List.getElem_toArray, List.getElem_cons_zero, List.getElem_cons_succ, List.setIfInBounds_toArray, List.set_cons_zero, List.set_cons_succ]
    refine wpAnyH_done (by kernel_rfl) ?_ _
    have HF := Hid.mk' (show CopyPost w L (.returned (.slice (some ⟨g8, 0, none⟩) l8.length l8.length)) w8 from ⟨g8, l8, rfl, hk8, hr8, hS.2.2.2.2.2.2.2.out.below⟩)
    clear hS hk8 hr8
    go_wp2
    go_ret
    exact HF.out
  · have HL := Hid.mk' (show L = l.take k2 ++ r :: l.drop k2 by rw [HP.out, if_neg t])
    obtain ⟨q, hq⟩ : ∃ q, (if c = k2 then p else Option.map (fun x => x.add (k2 * 7)) p) = q := ⟨_, rfl⟩
    have HQ := Hid.mk' (fun X (h : RIn X p l) => drop_in (m := k2) hlc hq h)
    have HQN := Hid.mk' (drop_nil hpn hq)
    have hkc : k2 ≤ c := by omega
    have t' : ¬ (k : Int) < (l.length : Int) := by omega
    have U1 := U _ HI1.out
    clear HP U
    go_wp2_with fail
    refine U1.mono ?_
    rintro e w2 ⟨rfl, hb2⟩
    have HI2 := Hid.mk' (HI1.out.on hb2)
    clear HI1 hb2 U1 t t' hle
    go_wp2_with fail
    have hS0 := (HI2.out.on (Below.refl _ _).drew).s
    refine wp_region_held_drew (S := fun X => X.cell? ⟨w.heap.size, 0, none⟩ = some (.int .i64 r.id) ∧ X.cell? ⟨w.heap.size, 1, none⟩ = some (.int .i64 r.inc) ∧ X.cell? ⟨w.heap.size, 2, none⟩ = some (.int .i64 r.st) ∧ X.cell? ⟨w.heap.size, 3, none⟩ = some (.int .i64 r.lo) ∧ X.cell? ⟨w.heap.size, 4, none⟩ = some (.int .i64 r.hi) ∧ X.cell? ⟨w.heap.size, 5, none⟩ = some (.bool r.cut) ∧ X.cell? ⟨w.heap.size, 6, none⟩ = some (.slice r.p r.bag.length r.cap) ∧ Hid (InB w r X)) (by kernel_rfl) hS0 (fun hS => ?_)
    clear hS0 HI2
    generalize w2.drew = wd at hS ⊢
    refine wpAnyH_take (i := 0) (v := ?v0_27) rfl (by kernel_rfl) (by kernel_rfl) (by kernel_rfl) (fun _ _ _ h => h) (Or.inl ⟨by rfl, ?hy0_27⟩) (by assumption) ?rest0_27
    case hy0_27 => (intro w hSw; (try dsimp only at hSw); go_simp; try (with_reducible rfl))
    simp only [Act.put, List.getElem_toArray, List.getElem_cons_zero, List.getElem_cons_succ, List.setIfInBounds_toArray, List.set_cons_zero, List.set_cons_succ]
    refine wpAnyH_take (i := 1) (v := ?v1_28) rfl (by kernel_rfl) (by kernel_rfl) (by kernel_rfl) (fun _ _ _ h => h) (Or.inl ⟨by rfl, ?hy1_28⟩) (by assumption) ?rest1_28
    case hy1_28 => (intro w hSw; (try dsimp only at hSw); go_simp; try (with_reducible rfl))
    simp only [Act.put, List.getElem_toArray, List.getElem_cons_zero, List.getElem_cons_succ, List.setIfInBounds_toArray, List.set_cons_zero, List.set_cons_succ]
    refine wpAnyH_take (i := 2) (v := ?v2_29) rfl (by kernel_rfl) (by kernel_rfl) (by kernel_rfl) (fun _ _ _ h => h) (Or.inl ⟨by rfl, ?hy2_29⟩) (by assumption) ?rest2_29
    case hy2_29 => (intro w hSw; (try dsimp only at hSw); go_simp; try (with_reducible rfl))
    simp only [Act.put, List.getElem_toArray, List.getElem_cons_zero, List.getElem_cons_succ, List.setIfInBounds_toArray, List.set_cons_zero, List.set_cons_succ]
    refine wpAnyH_take (i := 3) (v := ?v3_30) rfl (by kernel_rfl) (by kernel_rfl) (by kernel_rfl) (fun _ _ _ h => h) (Or.inl ⟨by rfl, ?hy3_30⟩) (by assumption) ?rest3_30
    case hy3_30 => (intro w hSw; (try dsimp only at hSw); go_simp; try (with_reducible rfl))
    simp only [Act.put, List.getElem_toArray, List.getElem_cons_zero, List.getElem_cons_succ, List.setIfInBounds_toArray, List.set_cons_zero, List.set_cons_succ]
    refine wpAnyH_take (i := 5) (v := ?v5_31) rfl (by kernel_rfl) (by kernel_rfl) (by kernel_rfl) (fun _ _ _ h => h) (Or.inl ⟨by rfl, ?hy5_31⟩) (by assumption) ?rest5_31
    case hy5_31 => (intro w hSw; (try dsimp only at hSw); go_simp; try (with_reducible rfl))
    simp only [Act.put, List.getElem_toArray, List.getElem_cons_zero, List.getElem_cons_succ, List.setIfInBounds_toArray, List.set_cons_zero, List.set_cons_succ]
    refine wpAnyH_take (i := 6) (v := ?v6_32) rfl (by kernel_rfl) (by kernel_rfl) (by kernel_rfl) (fun _ _ _ h => h) (Or.inl ⟨by rfl, ?hy6_32⟩) (by assumption) ?rest6_32
    case hy6_32 => (intro w hSw; (try dsimp only at hSw); go_simp; try (with_reducible rfl))
    simp only [Act.put, List.getElem_toArray, List.getElem_cons_zero, List.getElem_cons_succ, List.setIfInBounds_toArray, List.set_cons_zero, List.set_cons_succ]
    refine wpAnyH_take (i := 7) (v := ?v7_33) rfl (by kernel_rfl) (by kernel_rfl) (by kernel_rfl) (fun _ _ _ h => h) (Or.inl ⟨by rfl, ?hy7_33⟩) (by assumption) ?rest7_33
    case hy7_33 => (intro w hSw; (try dsimp only at hSw); go_simp; try (with_reducible rfl))
    simp only [Act.put, List.getElem_toArray, List.getElem_cons_zero, List.getElem_cons_succ, List.setIfInBounds_toArray, List.set_cons_zero, List.set_cons_succ]
    refine wpAnyH_ready (rs := [4]) (by kernel_rfl) (by simp) ?_
    refine (AllReadyH.cons rfl (fun K hK => ?_) AllReadyH.nil)
    go_simp
    have hI4 := hS.2.2.2.2.2.2.2.out.on ((Below.refl _ _).alloc (Nat.le_refl _) (.cells #[.int .i64 r.id, .int .i64 r.inc, .int .i64 r.st, .int .i64 r.lo, .int .i64 r.hi, .bool r.cut, .slice r.p r.bag.length r.cap] 34))
    have hone := heap_alloc_new wd (.cells #[.int .i64 r.id, .int .i64 r.inc, .int .i64 r.st, .int .i64 r.lo, .int .i64 r.hi, .bool r.cut, .slice r.p r.bag.length r.cap] 34)
    refine hK.out _ _ ?_ (fun hS' => ?_)
    · exact hI4.s
    clear hK K
    try simp only [Act.put, List.getElem_toArray, List.getElem_cons_zero, List.getElem_cons_succ, List.setIfInBounds_toArray, List.set_cons_zero, List.set_cons_succ]
    replace hS := hS'
    clear hS'
    refine wpAnyH_ready (rs := [8]) (by kernel_rfl) (by simp) ?_
    refine (AllReadyH.cons rfl (fun K hK => ?_) AllReadyH.nil)
    go_simp
    have CC := rput_end (gx := wd.heap.size + 1) HL.out (by simp) hI4.below hp hr hle2 (HQ.out _ (hp.below hI4.below)) hpn HQN.out hn hone
    have hI9 := hI4.on ((Below.refl _ _).alloc (Nat.le_refl _) (.cells #[.slice p k2 c, .slice (some ⟨wd.heap.size, 0, none⟩) 1 1, .slice q (l.length - k2) (c - k2)] 22))
    refine hK.out _ _ ?_ (fun hS' => ?_)
    · exact hI9.s
    clear hK K
    try simp only [Act.put, List.getElem_toArray, List.getElem_cons_zero, List.getElem_cons_succ, List.setIfInBounds_toArray, List.set_cons_zero, List.set_cons_succ]
    replace hS := hS'
    clear hS'
    refine wpAnyH_ready (rs := [9]) (by kernel_rfl) (by simp) ?_
    refine (AllReadyH.cons rfl (fun K hK => ?_) AllReadyH.nil)
    go_simp
    refine CC.mono ?_
    rintro e w7 ⟨p7, c7, rfl, hf7, hb7⟩
    have hI10 := hI4.on hb7
    clear hb7 CC
    go_wp2_with fail
    refine hK.out _ _ ?_ (fun hS' => ?_)
    · exact hI10.s
    clear hK K
    try simp only [Act.put, List.getElem_toArray, List.getElem_cons_zero, List.getElem_cons_succ, List.setIfInBounds_toArray, List.set_cons_zero, List.set_cons_succ]
    replace hS := hS'
    clear hS'
    refine wpAnyH_ready (rs := [10]) (by kernel_rfl) (by simp) ?_
    refine (AllReadyH.cons rfl (fun K hK => ?_) AllReadyH.nil)
    go_simp
    have CP := rcopy_any p7 c7 L _ hf7 (by rw [HL.out]; simp; omega) (fun x hx => HLS.out _ _ x (by rw [← HL.out]; exact hx))
    refine CP.mono ?_
    rintro e w8 ⟨g8, l8, rfl, hk8, hr8, hb8⟩
    have hI11 := hI10.on hb8
    clear hb8 CP
    go_wp2_with fail
    refine hK.out _ _ ?_ (fun hS' => ?_)
    · exact hI11.s
    clear hK K
    try simp only [Act.put, List.getElem_toArray, List.getElem_cons_zero, List.getElem_cons_succ, List.setIfInBounds_toArray, List.set_cons_zero, List.set_cons_succ]
    replace hS := hS'
    clear hS'
    refine wpAnyH_take (i := 11) (v := ?v11_34) rfl (by kernel_rfl) (by kernel_rfl) (by kernel_rfl) (fun _ _ _ h => h) (Or.inl ⟨by rfl, ?hy11_34⟩) (by assumption) ?rest11_34
    case hy11_34 => (intro w hSw; (try dsimp only at hSw); go_simp; try (with_reducible rfl))
    simp only [Act.put, List.getElem_toArray, List.getElem_cons_zero, List.getElem_cons_succ, List.setIfInBounds_toArray, List.set_cons_zero, List.set_cons_succ]
    refine wpAnyH_done (by kernel_rfl) ?_ _
    have HF := Hid.mk' (show CopyPost w L (.returned (.slice (some ⟨g8, 0, none⟩) l8.length l8.length)) w8 from ⟨g8, l8, rfl, hk8, hr8, hS.2.2.2.2.2.2.2.out.below⟩)
    clear hS hk8 hr8
    go_wp2
    go_ret
    exact HF.out
end Go.Proofs.Ytnladolpcocchaa
