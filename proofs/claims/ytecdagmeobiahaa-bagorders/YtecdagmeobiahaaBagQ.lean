/-
  Package bag: Put.
-/
import Derived.Test.YtecdagmeobiahaaBagP
namespace Go.Proofs.Ytecdagmeobiahaa
open Go.RowKit
set_option linter.unusedSimpArgs false
set_option linter.unusedVariables false

def putK (x : Key) (l : List Key) : List Key := l.takeWhile (fun y => decide (y.1 ≤ x.1)) ++ x :: l.dropWhile (fun y => decide (y.1 ≤ x.1))

def PutPost (w : World) (x : Key) (L : List Key) (e : Ending) (w' : World) : Prop :=
  (if (mayK L && mayK [x]) = true then
    (if mayK (putK x L) = true then ∃ g l', e = .returned (.tuple #[.slice (some ⟨g, 0, none⟩) l'.length l'.length, .int .i64 0]) ∧ kys l' = putK x L ∧ FIn w' (some ⟨g, 0, none⟩) l' ∧ w.heap.size ≤ g
     else e = .returned (.tuple #[.slice none 0 0, .int .i64 6]))
   else e = .returned (.tuple #[.slice none 0 0, .int .i64 1])) ∧ Below w.heap.size w w'

theorem FIn.take {w : World} {p : Option Addr} {l : List Fd} (h : FIn w p l) (n : Nat) : FIn w p (l.take n) := fun hl => by
  simp at hl
  obtain ⟨b, o, rfl, hc⟩ := h.at (by omega)
  refine FIn.of (fun i hi => ?_) (by simpa using hl)
  simp at hi
  have := hc i (by omega)
  rwa [show (l.take n).getD i zf = l.getD i zf by simp [List.getD, List.getElem?_take, show i < n by omega]]

theorem FIn.drop {w : World} {p : Option Addr} {l : List Fd} (h : FIn w p l) (n : Nat) : FIn w (p.map fun x => x.add (n * 2)) (l.drop n) := fun hl => by
  simp at hl
  obtain ⟨b, o, rfl, hc⟩ := h.at (by omega)
  rw [Option.map_some, Go.WideShapes.add_plain]
  refine FIn.of (fun i hi => ?_) (by simpa using hl)
  simp at hi
  have := hc (n + i) (by omega)
  rw [show o + (n + i) * 2 = o + n * 2 + i * 2 by omega] at this
  rwa [show (l.drop n).getD i zf = l.getD (n + i) zf by simp [List.getD]]

theorem FIn.one {w : World} {g : Nat} {f : Fd} {t : TypeId} (h : w.heap[g]? = some (.cells #[.int .i64 f.tag, .slice f.p f.d.length f.cap] t (0, 0))) (hf : FOk w f) : FIn w (some ⟨g, 0, none⟩) [f] := by
  obtain ⟨h0, h1, _, _⟩ := two_cells h
  refine FIn.of fun i hi => ?_
  obtain rfl : i = 0 := by simp at hi; omega
  exact ⟨h0, h1, hf⟩

theorem while_take {l : List Fd} {v : Int} {k : Nat} (hk : k ≤ l.length) (h1 : ∀ f ∈ l.take k, f.tag ≤ v) (h2 : k < l.length → v < (l.getD k zf).tag) :
    (kys l).takeWhile (fun y => decide (y.1 ≤ v)) = kys (l.take k) ∧ (kys l).dropWhile (fun y => decide (y.1 ≤ v)) = kys (l.drop k) := by
  induction l generalizing k with
  | nil => simp [kys]
  | cons a l ih =>
    cases k with
    | zero =>
      have : ¬ a.tag ≤ v := by have := h2 (by simp); simp at this; omega
      simp [kys, ky, this, List.takeWhile_cons, List.dropWhile_cons]
    | succ k =>
      have ha : a.tag ≤ v := h1 a (by simp)
      have := ih (k := k) (by simpa using hk) (fun f hf => h1 f (by simp [hf])) (fun h => by simpa using h2 (by simpa using h))
      simp only [kys] at this ⊢
      simp [ky, ha, List.takeWhile_cons, List.dropWhile_cons, this]

theorem szK_one (x : Key) : szK [x] = x.2.length := by simp [szK]

/-- What stays while a field is put. -/
structure InPt (w : World) (f : Fd) (X : World) : Prop where
  below : Below w.heap.size w X
  box : X.heap[w.heap.size]? = some (.cells #[.int .i64 f.tag, .slice f.p f.d.length f.cap] 32 (0, 0))
  one : X.heap[w.heap.size + 1]? = some (.cells #[.int .i64 f.tag, .slice f.p f.d.length f.cap] 32 (0, 0))

theorem InPt.on {w X X' : World} {f : Fd} (h : InPt w f X) (k : Below X.heap.size X X') : InPt w f X' :=
  ⟨h.below.trans (k.mono h.below.size), by rw [k.block _ (Array.getElem?_eq_some_iff.1 h.box).1]; exact h.box, by rw [k.block _ (Array.getElem?_eq_some_iff.1 h.one).1]; exact h.one⟩

theorem FIn.oks {w : World} {p : Option Addr} {l : List Fd} (h : FIn w p l) : ∀ x ∈ l, FOk w x := fun x hx => by
  obtain ⟨i, hi, rfl⟩ := List.getElem_of_mem hx
  obtain ⟨_, _, _, hc⟩ := h.at (by omega)
  have := (hc i hi).2.2
  simpa [List.getD, hi] using this

/-- The three parts of what is put together. -/
theorem parts_in {X w : World} {p q : Option Addr} {c k : Nat} {l : List Fd} {f : Fd} (hk : k ≤ l.length) (hp : FIn X p l) (hf : FOk X f) (hq : FIn X q (l.drop k)) (hpn : p = none → c = 0) (hqn : q = none → c - k = 0)
    (h1 : X.heap[w.heap.size + 1]? = some (.cells #[.int .i64 f.tag, .slice f.p f.d.length f.cap] 32 (0, 0))) :
    PIn (X.alloc (.cells #[.slice p k c, .slice (some ⟨w.heap.size + 1, 0, none⟩) 1 1, .slice q (l.length - k) (c - k)] 22)) X.heap.size [⟨p, c, l.take k⟩, ⟨some ⟨w.heap.size + 1, 0, none⟩, 1, [f]⟩, ⟨q, c - k, l.drop k⟩] := by
  have hnew := heap_alloc_new X (.cells #[.slice p k c, .slice (some ⟨w.heap.size + 1, 0, none⟩) 1 1, .slice q (l.length - k) (c - k)] 22)
  have hb := (Below.refl X.heap.size X).alloc (Nat.le_refl _) (.cells #[.slice p k c, .slice (some ⟨w.heap.size + 1, 0, none⟩) 1 1, .slice q (l.length - k) (c - k)] 22)
  generalize X.alloc (.cells #[.slice p k c, .slice (some ⟨w.heap.size + 1, 0, none⟩) 1 1, .slice q (l.length - k) (c - k)] 22) = Y at hnew hb ⊢
  refine ⟨fun i hi => ?_, fun x hx => ?_, fun x hx => ?_⟩
  · have : i = 0 ∨ i = 1 ∨ i = 2 := by simp at hi; omega
    rcases this with rfl | rfl | rfl
    · simp [World.cell?, hnew, Nat.min_eq_left hk]
    · simp [World.cell?, hnew]
    · simp [World.cell?, hnew]
  · simp only [List.mem_cons, List.not_mem_nil, or_false] at hx
    rcases hx with rfl | rfl | rfl
    · exact (hp.below hb).take k
    · exact FIn.one (by rw [hb.block _ (Array.getElem?_eq_some_iff.1 h1).1]; exact h1) (hf.below hb)
    · exact hq.below hb
  · simp only [List.mem_cons, List.not_mem_nil, or_false] at hx
    rcases hx with rfl | rfl | rfl
    · exact hpn
    · simp
    · exact hqn

set_option maxHeartbeats 4000000 in
theorem put_any (p : Option Addr) (c : Nat) (l : List Fd) (f : Fd) (w : World) (hp : FIn w p l) (hf : FOk w f) (hlc : l.length ≤ c) (hcm : c ≤ maxLen) (hpn : p = none → c = 0) (hn : l.length ≤ 1000000) (hz : szK (kys l) ≤ 4611686018427387) :
    Calls Try.prog 21 #[.slice p l.length c, .agg #[.int .i64 f.tag, .slice f.p f.d.length f.cap]] w (PutPost w (ky f) (kys l)) := by
  simp only [maxLen] at hcm
  have hI : InPt w f ((w.alloc (.cells #[.int .i64 f.tag, .slice f.p f.d.length f.cap] 32)).alloc (.cells #[.int .i64 f.tag, .slice f.p f.d.length f.cap] 32)) := by
    refine ⟨((Below.refl _ _).alloc (Nat.le_refl _) _).alloc (by simp) _, ?_, ?_⟩
    · exact (heap_alloc_old _ _ (by simp)).trans (heap_alloc_new _ _)
    · have := heap_alloc_new (w.alloc (.cells #[.int .i64 f.tag, .slice f.p f.d.length f.cap] 32)) (.cells #[.int .i64 f.tag, .slice f.p f.d.length f.cap] 32)
      rw [show (w.alloc (.cells #[.int .i64 f.tag, .slice f.p f.d.length f.cap] 32)).heap.size = w.heap.size + 1 by simp] at this
      exact this
  have V1 := fun X (h : InPt w f X) => valid_any p c l X (hp.below h.below) (by unfold maxLen; omega) (by omega)
  have V2 := fun X (h : InPt w f X) => valid_any (some ⟨w.heap.size + 1, 0, none⟩) 1 [f] X (FIn.one h.one (hf.below h.below)) (by simp [maxLen]) (by rw [kys, List.map_cons, List.map_nil, szK_one]; have := hf.few; simp [ky]; omega)
  have A := fun X (h : InPt w f X) => above_any p c l f.tag X (hp.below h.below) (by unfold maxLen; omega)
  have HP := Hid.mk' (show ∀ e w', PutPost w (ky f) (kys l) e w' = PutPost w (ky f) (kys l) e w' from fun _ _ => rfl)
  have HI := Hid.mk' hI
  clear hI
  obtain ⟨m1, hm1⟩ : ∃ m, mayK (kys l) = m := ⟨_, rfl⟩
  obtain ⟨m2, hm2⟩ : ∃ m, mayK [ky f] = m := ⟨_, rfl⟩
  rw [hm1] at V1
  rw [show kys [f] = [ky f] from rfl, hm2] at V2
  have HM1 := Hid.mk' hm1
  have HM2 := Hid.mk' hm2
  clear hm1 hm2
  go_enter Try.func21, Try.ntmps21
  go_wp2_with fail
  refine (V1 _ HI.out).mono ?_
  rintro e w3 ⟨rfl, hb3⟩
  have HI3 := Hid.mk' (HI.out.on hb3)
  clear HI hb3
  cases m1
  · go_wp2_with fail
    exact bodyPost_ret (v := .tuple #[.slice none 0 0, .int .i64 1]) (by simp [results, Try.results21, go_sem]) rfl ⟨by rw [HM1.out]; simp, HI3.out.below⟩
  go_wp2_with fail
  refine (V2 _ HI3.out).mono ?_
  rintro e w4 ⟨rfl, hb4⟩
  have HI4 := Hid.mk' (HI3.out.on hb4)
  clear HI3 hb4
  cases m2
  · go_wp2_with fail
    exact bodyPost_ret (v := .tuple #[.slice none 0 0, .int .i64 1]) (by simp [results, Try.results21, go_sem]) rfl ⟨by rw [HM1.out, HM2.out]; simp, HI4.out.below⟩
  obtain ⟨c0, c1, _, _⟩ := two_cells HI4.out.box
  go_wp2_with fail
  refine (A _ HI4.out).mono ?_
  rintro e w5 ⟨k, rfl, hk, hk1, hk2, hb5⟩
  have HI5 := Hid.mk' (HI4.out.on hb5)
  have HW := Hid.mk' (while_take hk hk1 hk2)
  clear HI4 hb5 c0 c1 hk1 hk2 A V2
  have hkc : k ≤ c := by omega
  obtain ⟨q, hq⟩ : ∃ q, (if c = k then p else Option.map (fun x => x.add (k * 2)) p) = q := ⟨_, rfl⟩
  have HQ := Hid.mk' (show ∀ X, FIn X p l → FIn X q (l.drop k) from fun X h => by
    rw [← hq]
    split
    · rw [List.drop_of_length_le (by omega)]; exact FIn.empty _ _
    · exact h.drop k)
  have HQN := Hid.mk' (show q = none → c - k = 0 from fun h => by
    rw [← hq] at h
    split at h
    · omega
    · have := hpn (by simpa using h); omega)
  go_wp2_with fail
  have hS0 : Hid (InPt w f w5.drew) := Hid.mk' (HI5.out.on (Below.refl _ _).drew)
  refine wp_region_held_drew (S := fun X => Hid (InPt w f X)) (by kernel_rfl) hS0 (fun hS => ?_)
  clear hS0 HI5
  generalize w5.drew = wd at hS ⊢
  refine wpAnyH_take (i := 0) (v := ?v0_18) rfl (by kernel_rfl) (by kernel_rfl) (by kernel_rfl) (fun _ _ _ h => h) (Or.inl ⟨by rfl, ?hy0_18⟩) (by assumption) ?rest0_18
  case hy0_18 => (intro w hSw; (try dsimp only at hSw); go_simp; try (with_reducible rfl))
  simp only [Act.put, List.getElem_toArray, List.getElem_cons_zero, List.getElem_cons_succ, List.setIfInBounds_toArray, List.set_cons_zero, List.set_cons_succ]
  refine wpAnyH_take (i := 1) (v := ?v1_19) rfl (by kernel_rfl) (by kernel_rfl) (by kernel_rfl) (fun _ _ _ h => h) (Or.inl ⟨by rfl, ?hy1_19⟩) (by assumption) ?rest1_19
  case hy1_19 => (intro w hSw; (try dsimp only at hSw); go_simp; try (with_reducible rfl))
  simp only [Act.put, List.getElem_toArray, List.getElem_cons_zero, List.getElem_cons_succ, List.setIfInBounds_toArray, List.set_cons_zero, List.set_cons_succ]
  refine wpAnyH_take (i := 2) (v := ?v2_20) rfl (by kernel_rfl) (by kernel_rfl) (by kernel_rfl) (fun _ _ _ h => h) (Or.inl ⟨by rfl, ?hy2_20⟩) (by assumption) ?rest2_20
  case hy2_20 => (intro w hSw; (try dsimp only at hSw); go_simp; try (with_reducible rfl))
  simp only [Act.put, List.getElem_toArray, List.getElem_cons_zero, List.getElem_cons_succ, List.setIfInBounds_toArray, List.set_cons_zero, List.set_cons_succ]
  refine wpAnyH_take (i := 3) (v := ?v3_21) rfl (by kernel_rfl) (by kernel_rfl) (by kernel_rfl) (fun _ _ _ h => h) (Or.inl ⟨by rfl, ?hy3_21⟩) (by assumption) ?rest3_21
  case hy3_21 => (intro w hSw; (try dsimp only at hSw); go_simp; try (with_reducible rfl))
  simp only [Act.put, List.getElem_toArray, List.getElem_cons_zero, List.getElem_cons_succ, List.setIfInBounds_toArray, List.set_cons_zero, List.set_cons_succ]
  refine wpAnyH_take (i := 4) (v := ?v4_22) rfl (by kernel_rfl) (by kernel_rfl) (by kernel_rfl) (fun _ _ _ h => h) (Or.inl ⟨by rfl, ?hy4_22⟩) (by assumption) ?rest4_22
  case hy4_22 => (intro w hSw; (try dsimp only at hSw); go_simp; try (with_reducible rfl))
  simp only [Act.put, List.getElem_toArray, List.getElem_cons_zero, List.getElem_cons_succ, List.setIfInBounds_toArray, List.set_cons_zero, List.set_cons_succ]
  refine wpAnyH_take (i := 5) (v := ?v5_23) rfl (by kernel_rfl) (by kernel_rfl) (by kernel_rfl) (fun _ _ _ h => h) (Or.inl ⟨by rfl, ?hy5_23⟩) (by assumption) ?rest5_23
  case hy5_23 => (intro w hSw; (try dsimp only at hSw); go_simp; try (with_reducible rfl))
  simp only [Act.put, List.getElem_toArray, List.getElem_cons_zero, List.getElem_cons_succ, List.setIfInBounds_toArray, List.set_cons_zero, List.set_cons_succ]
  refine wpAnyH_take (i := 6) (v := ?v6_24) rfl (by kernel_rfl) (by kernel_rfl) (by kernel_rfl) (fun _ _ _ h => h) (Or.inl ⟨by rfl, ?hy6_24⟩) (by assumption) ?rest6_24
  case hy6_24 => (intro w hSw; (try dsimp only at hSw); go_simp; try (with_reducible rfl))
  simp only [Act.put, List.getElem_toArray, List.getElem_cons_zero, List.getElem_cons_succ, List.setIfInBounds_toArray, List.set_cons_zero, List.set_cons_succ]
  refine wpAnyH_ready (rs := [7]) (by kernel_rfl) (by simp) ?_
  refine (AllReadyH.cons rfl (fun K hK => ?_) AllReadyH.nil)
  go_simp
  have hPI := parts_in (w := w) hk (hp.below hS.out.below) (hf.below hS.out.below) (HQ.out _ (hp.below hS.out.below)) hpn HQN.out hS.out.one
  obtain ⟨L, hL⟩ : ∃ L, allP [⟨p, c, l.take k⟩, ⟨some ⟨w.heap.size + 1, 0, none⟩, 1, [f]⟩, ⟨q, c - k, l.drop k⟩] = L := ⟨_, rfl⟩
  have hLe : L = l.take k ++ f :: l.drop k := by rw [← hL]; simp [allP]
  have hLn : L.length = l.length + 1 := by rw [hLe]; simp; omega
  have hLk : kys L = putK (ky f) (kys l) := by rw [hLe, kys_append, putK, show (ky f).1 = f.tag from rfl, HW.out.1, HW.out.2]; rfl
  have hLz : szK (kys L) = szK (kys l) + f.d.length := by
    rw [hLe, show f :: l.drop k = [f] ++ l.drop k from rfl, kys_append, kys_append, szK_append, szK_append, show szK (kys [f]) = f.d.length by simp [kys, ky, szK]]
    have : szK (kys l) = szK (kys (l.take k)) + szK (kys (l.drop k)) := by rw [← szK_append, ← kys_append, List.take_append_drop]
    omega
  have hLo : ∀ X, Below w.heap.size w X → ∀ x ∈ L, FOk X x := fun X hX x hx => by
    rw [hLe] at hx
    simp only [List.mem_append, List.mem_cons] at hx
    rcases hx with h | rfl | h
    · exact (hp.below hX).oks x (List.mem_of_mem_take h)
    · exact hf.below hX
    · exact (hp.below hX).oks x (List.mem_of_mem_drop h)
  have C := concat_any _ _ _ hPI (by simp) (by rw [hL]; omega)
  rw [hL] at C
  have hI7 := hS.out.on ((Below.refl _ _).alloc (Nat.le_refl _) (.cells #[.slice p k c, .slice (some ⟨w.heap.size + 1, 0, none⟩) 1 1, .slice q (l.length - k) (c - k)] 22))
  have HLk := Hid.mk' hLk
  have HLo := Hid.mk' hLo
  have HLz := Hid.mk' hLz
  have HLn := Hid.mk' hLn
  clear hPI hL hLe hLn hLk hLz hLo
  refine hK.out _ _ ?_ (fun hS' => ?_)
  · exact Hid.mk' hI7
  clear hK K
  try simp only [Act.put, List.getElem_toArray, List.getElem_cons_zero, List.getElem_cons_succ, List.setIfInBounds_toArray, List.set_cons_zero, List.set_cons_succ]
  replace hS := hS'
  clear hS'
  refine wpAnyH_ready (rs := [8]) (by kernel_rfl) (by simp) ?_
  refine (AllReadyH.cons rfl (fun K hK => ?_) AllReadyH.nil)
  go_simp
  refine C.mono ?_
  rintro e w7 ⟨v7, rfl, hO7, hb7⟩
  have hI8 := Hid.mk' (hS.out.on hb7)
  obtain ⟨p7, c7, rfl, hf7, _⟩ := own_fin hO7 (HLo.out _ hI8.out.below)
  have HF7 := Hid.mk' hf7
  clear hO7 hb7 hf7 C
  go_wp2_with fail
  refine hK.out _ _ ?_ (fun hS' => ?_)
  · exact hI8
  clear hK K
  try simp only [Act.put, List.getElem_toArray, List.getElem_cons_zero, List.getElem_cons_succ, List.setIfInBounds_toArray, List.set_cons_zero, List.set_cons_succ]
  replace hS := hS'
  clear hS'
  refine wpAnyH_take (i := 9) (v := ?v9_25) rfl (by kernel_rfl) (by kernel_rfl) (by kernel_rfl) (fun _ _ _ h => h) (Or.inl ⟨by rfl, ?hy9_25⟩) (by assumption) ?rest9_25
  case hy9_25 => (intro w hSw; (try dsimp only at hSw); go_simp; try (with_reducible rfl))
  simp only [Act.put, List.getElem_toArray, List.getElem_cons_zero, List.getElem_cons_succ, List.setIfInBounds_toArray, List.set_cons_zero, List.set_cons_succ]
  refine wpAnyH_done (by kernel_rfl) ?_ _
  have hfw := hf.few
  have V3 := valid_any p7 c7 L _ HF7.out (by have := HLn.out; unfold maxLen; omega) (by have := HLz.out; omega)
  rw [HLk.out] at V3
  obtain ⟨m3, hm3⟩ : ∃ m, mayK (putK (ky f) (kys l)) = m := ⟨_, rfl⟩
  rw [hm3] at V3
  have HM3 := Hid.mk' hm3
  clear hm3 hfw hq
  go_wp2_with fail
  refine V3.mono ?_
  rintro e w9 ⟨rfl, hb9⟩
  have HF9 := Hid.mk' (HF7.out.below hb9)
  have HI9 := Hid.mk' (hS.out.on hb9)
  clear hb9 V3
  cases m3
  · go_wp2_with fail
    exact bodyPost_ret (v := .tuple #[.slice none 0 0, .int .i64 6]) (by simp [results, Try.results21, go_sem]) rfl ⟨by rw [HM1.out, HM2.out, HM3.out]; simp, HI9.out.below⟩
  have CP := copy_any p7 c7 L w9 HF9.out (by have := HLn.out; omega)
  go_wp2_with fail
  refine CP.mono ?_
  rintro e w10 ⟨rfl, l', hkl, hrow, hok, hb10⟩
  have HR := Hid.mk' (FIn.of_row hrow fun x hx => (hok x hx).ok)
  have HK := Hid.mk' (show kys l' = putK (ky f) (kys l) by rw [hkl, HLk.out])
  have HN := Hid.mk' (show L.length = l'.length by rw [← kys_len, ← hkl, kys_len])
  have HB := Hid.mk' (HI9.out.below.trans (hb10.mono HI9.out.below.size))
  have HG := Hid.mk' HI9.out.below.size
  clear hkl hrow hok hb10 CP
  go_wp2_with fail
  refine bodyPost_ret (v := .tuple #[.slice (some ⟨w9.heap.size, 0, none⟩) L.length L.length, .int .i64 0]) (by simp [results, Try.results21, go_sem]) rfl ⟨?_, HB.out⟩
  rw [HM1.out, HM2.out, HM3.out]
  simp only [Bool.and_self, if_true]
  exact ⟨_, l', by rw [HN.out], HK.out, HR.out, HG.out⟩
end Go.Proofs.Ytecdagmeobiahaa
