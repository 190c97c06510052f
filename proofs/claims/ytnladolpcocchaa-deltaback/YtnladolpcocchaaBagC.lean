/-
  Package bag: Compare and Same, with cmp.Compare, bytes.Compare, cmp.Or and slices.CompareFunc.
-/
import Derived.Test.YtnladolpcocchaaBagM
import Derived.Lib.BytesEntry
import Derived.Laws.Entries
import Derived.RegionCalls
import Derived.Deep.RegionHeld3
import Derived.Deep.DeepCutAuto
namespace Go.Proofs.Ytnladolpcocchaa
open Go.RowKit
set_option linter.unusedSimpArgs false
set_option linter.unusedVariables false
set_option maxRecDepth 10000

theorem nan_any (a : Int) (w : World) : Calls Try.prog 53 #[.int .i64 a] w fun e w' => e = .returned (.bool false) ∧ w = w' := by
  go_enter Try.func53, Try.ntmps53
  go_wp2
  go_ret
  exact ⟨by simp, rfl⟩

set_option maxHeartbeats 1600000 in
theorem cmpI_any (a b : Int) (w : World) : Calls Try.prog 51 #[.int .i64 a, .int .i64 b] w fun e w' => e = .returned (.int .i64 (cmpI a b)) ∧ w = w' := by
  unfold cmpI
  by_cases t1 : a < b
  · rw [if_pos t1]
    go_enter Try.func51, Try.ntmps51
    go_wp2_with (go_at_call 53; refine (nan_any _ _).mono ?_; rintro e w' ⟨rfl, rfl⟩)
    go_ret
    exact ⟨rfl, rfl⟩
  · rw [if_neg t1]
    by_cases t2 : b < a
    · rw [if_pos t2]
      go_enter Try.func51, Try.ntmps51
      go_wp2_with (go_at_call 53; refine (nan_any _ _).mono ?_; rintro e w' ⟨rfl, rfl⟩)
      go_ret
      exact ⟨rfl, rfl⟩
    · rw [if_neg t2]
      go_enter Try.func51, Try.ntmps51
      go_wp2_with (go_at_call 53; refine (nan_any _ _).mono ?_; rintro e w' ⟨rfl, rfl⟩)
      go_ret
      exact ⟨rfl, rfl⟩

theorem bytesOf_run {w : World} {p : Option Addr} {l : List Int} (h : BIn w p l) (c : Nat) : (Extern.Bytes.bytesOf (.slice p l.length c)).run Try.prog w = .ok ⟨(Lib.bytesOf l).toArray⟩ w := by
  cases p with
  | none =>
    rcases Nat.eq_zero_or_pos l.length with hn | hn
    · obtain rfl : l = [] := List.eq_nil_of_length_eq_zero hn
      simp [Extern.Bytes.bytesOf, Lib.bytesOf]
      rfl
    · obtain ⟨b, o, e, _⟩ := h hn; cases e
  | some a =>
    have := Lib.run_loadBytesX (P := Try.prog) w l a .empty (fun j x hj => by
      have hjl : j < l.length := (List.getElem?_eq_some_iff.1 hj).1
      obtain ⟨b, o, e, hc⟩ := h (by omega)
      cases e
      rw [Go.WideShapes.add_plain, hc j hjl, List.getD_eq_getElem?_getD, hj]
      rfl)
    simp only [Extern.Bytes.bytesOf]
    rw [this]
    simp

theorem compare_run {w : World} {p q : Option Addr} {a b : List Int} (ha : BIn w p a) (hb : BIn w q b) (ia : isB a) (ib : isB b) (c d : Nat) :
    (Extern.BytealgCompare.compare #[.slice p a.length c, .slice q b.length d]).run Try.prog w = .ok (.int .i64 (cmpB a b)) w := by
  change Sem.run Try.prog (do pure (goInt (Extern.BytealgCompare.cmp (← Extern.Bytes.bytesOf (.slice p a.length c)) (← Extern.Bytes.bytesOf (.slice q b.length d))))) w = _
  rw [Sem.run_bind, bytesOf_run ha, Result.andThen_ok, Sem.run_bind, bytesOf_run hb, Result.andThen_ok, Sem.run_pure, Lib.cmp_eq, ← compareBytes_eq a b ia ib]
  rfl

set_option maxHeartbeats 1600000 in
theorem bcompare_any (p q : Option Addr) (a b : List Int) (c d : Nat) (w : World) (ha : BIn w p a) (hb : BIn w q b) (ia : isB a) (ib : isB b) :
    Calls Try.prog 52 #[.slice p a.length c, .slice q b.length d] w fun e w' => e = .returned (.int .i64 (cmpB a b)) ∧ w = w' := by
  have R := compare_run ha hb ia ib c d
  generalize cmpB a b = r at R ⊢
  go_enter Try.func52, Try.ntmps52
  go_wp2
  rw [run_callFunc_extern Try.func54 (by kernel_rfl) (by kernel_rfl) (by kernel_rfl) (e := Extern.BytealgCompare.compare) (by kernel_rfl), R]
  simp only [Result.andThen]
  rw [Oper.upon_value]
  go_wp2
  go_ret
  exact ⟨rfl, rfl⟩

set_option maxHeartbeats 1600000 in
theorem or_any (x y : Int) (b : Nat) (w : World) (h0 : w.cell? ⟨b, 0, none⟩ = some (.int .i64 x)) (h1 : w.cell? ⟨b, 1, none⟩ = some (.int .i64 y)) :
    Calls Try.prog 50 #[.slice (some ⟨b, 0, none⟩) 2 2] w fun e w' => e = .returned (.int .i64 (if x = 0 then y else x)) ∧ w = w' := by
  go_enter Try.func50, Try.ntmps50
  go_wp2
  go_loop [8] (fun i => ∃ k : Nat, i = .int .i64 k ∧ (k = 0 ∨ (k = 1 ∧ x = 0) ∨ (k = 2 ∧ x = 0 ∧ y = 0))) (fun i => 2 - (intOf i).toNat)
  case atStart => exact ⟨0, rfl, .inl rfl⟩
  case round =>
    obtain ⟨k, rfl, hk⟩ := hrel
    rcases hk with rfl | ⟨rfl, rfl⟩ | ⟨rfl, rfl, rfl⟩
    · by_cases t : x = 0
      · subst t
        go_wp2
        go_round
        case rel => exact ⟨1, by go_num, by simp⟩
        case measure => simp [intOf]
      · have d : (x != 0) = true := by simpa using t
        go_wp2
        try rw [Exit.noGoto_ret]
        go_ret
        exact ⟨rfl, rfl⟩
    · by_cases t : y = 0
      · subst t
        go_wp2
        go_round
        case rel => exact ⟨2, by go_num, by simp⟩
        case measure => simp [intOf]
      · have d : (y != 0) = true := by simpa using t
        go_wp2
        try rw [Exit.noGoto_ret]
        go_ret
        exact ⟨rfl, rfl⟩
    · go_wp2
      go_ret
      exact ⟨rfl, rfl⟩

/-- Two fields that were laid for a call. -/
structure InP (w : World) (x y : Fd) (W : World) : Prop where
  bx : W.heap[w.heap.size]? = some (.cells #[.int .i64 x.tag, .slice x.p x.d.length x.cap] 55 (0, 0))
  by' : W.heap[w.heap.size + 1]? = some (.cells #[.int .i64 y.tag, .slice y.p y.d.length y.cap] 55 (0, 0))
  below : Below w.heap.size w W

theorem InP.on {w W W' : World} {x y : Fd} (h : InP w x y W) (k : Below W.heap.size W W') : InP w x y W' :=
  ⟨by rw [k.block _ (Array.getElem?_eq_some_iff.1 h.bx).1]; exact h.bx, by rw [k.block _ (Array.getElem?_eq_some_iff.1 h.by').1]; exact h.by', h.below.trans (k.mono h.below.size)⟩

def SInP (w : World) (x y : Fd) (W : World) : Prop :=
  W.cell? ⟨w.heap.size, 0, none⟩ = some (.int .i64 x.tag) ∧ W.cell? ⟨w.heap.size, 1, none⟩ = some (.slice x.p x.d.length x.cap) ∧ W.cell? ⟨w.heap.size + 1, 0, none⟩ = some (.int .i64 y.tag) ∧ W.cell? ⟨w.heap.size + 1, 1, none⟩ = some (.slice y.p y.d.length y.cap) ∧ Hid (InP w x y W)

theorem InP.s {w W : World} {x y : Fd} (h : InP w x y W) : SInP w x y W := by
  obtain ⟨a0, a1, _, _⟩ := two_cells h.bx
  obtain ⟨b0, b1, _, _⟩ := two_cells h.by'
  exact ⟨a0, a1, b0, b1, h⟩

set_option maxHeartbeats 4000000 in
theorem cmpF_any (x y : Fd) (w : World) (hx : FOk w x) (hy : FOk w y) :
    Calls Try.prog 48 #[.agg #[.int .i64 x.tag, .slice x.p x.d.length x.cap], .agg #[.int .i64 y.tag, .slice y.p y.d.length y.cap]] w fun e w' => e = .returned (.int .i64 (cmpK1 (ky x) (ky y))) ∧ Below w.heap.size w w' := by
  have HO := Hid.mk' (show (if cmpI x.tag y.tag = 0 then cmpB x.d y.d else cmpI x.tag y.tag) = cmpK1 (ky x) (ky y) from rfl)
  have B := fun W (hb : Below w.heap.size w W) => bcompare_any x.p y.p x.d y.d x.cap y.cap W (hx.bin.below hb) (hy.bin.below hb) hx.isb hy.isb
  generalize cmpK1 (ky x) (ky y) = r at HO ⊢
  have hI : InP w x y ((w.alloc (.cells #[.int .i64 x.tag, .slice x.p x.d.length x.cap] 55)).alloc (.cells #[.int .i64 y.tag, .slice y.p y.d.length y.cap] 55)).drew := by
    refine ⟨?_, ?_, (((Below.refl _ _).alloc (Nat.le_refl _) _).alloc (by simp) _).drew⟩
    · exact (heap_alloc_old _ _ (by simp)).trans (heap_alloc_new _ _)
    · have := heap_alloc_new (w.alloc (.cells #[.int .i64 x.tag, .slice x.p x.d.length x.cap] 55)) (.cells #[.int .i64 y.tag, .slice y.p y.d.length y.cap] 55)
      rw [show (w.alloc (.cells #[.int .i64 x.tag, .slice x.p x.d.length x.cap] 55)).heap.size = w.heap.size + 1 by simp] at this
      exact this
  have hS0 := hI.s
  clear hI
  go_enter Try.func48, Try.ntmps48
  go_wp2_with fail
  unfold SInP at hS0
  refine wp_region_held_drew (S := fun W => W.cell? ⟨w.heap.size, 0, none⟩ = some (.int .i64 x.tag) ∧ W.cell? ⟨w.heap.size, 1, none⟩ = some (.slice x.p x.d.length x.cap) ∧ W.cell? ⟨w.heap.size + 1, 0, none⟩ = some (.int .i64 y.tag) ∧ W.cell? ⟨w.heap.size + 1, 1, none⟩ = some (.slice y.p y.d.length y.cap) ∧ Hid (InP w x y W)) (by kernel_rfl) hS0 (fun hS => ?_)
  clear hS0
  generalize ((w.alloc (.cells #[.int .i64 x.tag, .slice x.p x.d.length x.cap] 55)).alloc (.cells #[.int .i64 y.tag, .slice y.p y.d.length y.cap] 55)).drew = wd at hS ⊢
  refine wpAnyH_take (i := 0) (v := ?v0_1) rfl (by kernel_rfl) (by kernel_rfl) (by kernel_rfl) (fun _ _ _ h => h) (Or.inl ⟨by rfl, ?hy0_1⟩) (by assumption) ?rest0_1
  case hy0_1 => (intro w hSw; (try dsimp only at hSw); go_simp; try (with_reducible rfl))
  simp only [Act.put, List.getElem_toArray, List.getElem_cons_zero, List.getElem_cons_succ, List.setIfInBounds_toArray, List.set_cons_zero, List.set_cons_succ]
  refine wpAnyH_take (i := 1) (v := ?v1_2) rfl (by kernel_rfl) (by kernel_rfl) (by kernel_rfl) (fun _ _ _ h => h) (Or.inl ⟨by rfl, ?hy1_2⟩) (by assumption) ?rest1_2
  case hy1_2 => (intro w hSw; (try dsimp only at hSw); go_simp; try (with_reducible rfl))
  simp only [Act.put, List.getElem_toArray, List.getElem_cons_zero, List.getElem_cons_succ, List.setIfInBounds_toArray, List.set_cons_zero, List.set_cons_succ]
  refine wpAnyH_take (i := 2) (v := ?v2_3) rfl (by kernel_rfl) (by kernel_rfl) (by kernel_rfl) (fun _ _ _ h => h) (Or.inl ⟨by rfl, ?hy2_3⟩) (by assumption) ?rest2_3
  case hy2_3 => (intro w hSw; (try dsimp only at hSw); go_simp; try (with_reducible rfl))
  simp only [Act.put, List.getElem_toArray, List.getElem_cons_zero, List.getElem_cons_succ, List.setIfInBounds_toArray, List.set_cons_zero, List.set_cons_succ]
  refine wpAnyH_take (i := 3) (v := ?v3_4) rfl (by kernel_rfl) (by kernel_rfl) (by kernel_rfl) (fun _ _ _ h => h) (Or.inl ⟨by rfl, ?hy3_4⟩) (by assumption) ?rest3_4
  case hy3_4 => (intro w hSw; (try dsimp only at hSw); go_simp; try (with_reducible rfl))
  simp only [Act.put, List.getElem_toArray, List.getElem_cons_zero, List.getElem_cons_succ, List.setIfInBounds_toArray, List.set_cons_zero, List.set_cons_succ]
  refine wpAnyH_take (i := 5) (v := ?v5_5) rfl (by kernel_rfl) (by kernel_rfl) (by kernel_rfl) (fun _ _ _ h => h) (Or.inl ⟨by rfl, ?hy5_5⟩) (by assumption) ?rest5_5
  case hy5_5 => (intro w hSw; (try dsimp only at hSw); go_simp; try (with_reducible rfl))
  simp only [Act.put, List.getElem_toArray, List.getElem_cons_zero, List.getElem_cons_succ, List.setIfInBounds_toArray, List.set_cons_zero, List.set_cons_succ]
  refine wpAnyH_take (i := 6) (v := ?v6_6) rfl (by kernel_rfl) (by kernel_rfl) (by kernel_rfl) (fun _ _ _ h => h) (Or.inl ⟨by rfl, ?hy6_6⟩) (by assumption) ?rest6_6
  case hy6_6 => (intro w hSw; (try dsimp only at hSw); go_simp; try (with_reducible rfl))
  simp only [Act.put, List.getElem_toArray, List.getElem_cons_zero, List.getElem_cons_succ, List.setIfInBounds_toArray, List.set_cons_zero, List.set_cons_succ]
  refine wpAnyH_take (i := 7) (v := ?v7_7) rfl (by kernel_rfl) (by kernel_rfl) (by kernel_rfl) (fun _ _ _ h => h) (Or.inl ⟨by rfl, ?hy7_7⟩) (by assumption) ?rest7_7
  case hy7_7 => (intro w hSw; (try dsimp only at hSw); go_simp; try (with_reducible rfl))
  simp only [Act.put, List.getElem_toArray, List.getElem_cons_zero, List.getElem_cons_succ, List.setIfInBounds_toArray, List.set_cons_zero, List.set_cons_succ]
  refine wpAnyH_take (i := 8) (v := ?v8_8) rfl (by kernel_rfl) (by kernel_rfl) (by kernel_rfl) (fun _ _ _ h => h) (Or.inl ⟨by rfl, ?hy8_8⟩) (by assumption) ?rest8_8
  case hy8_8 => (intro w hSw; (try dsimp only at hSw); go_simp; try (with_reducible rfl))
  simp only [Act.put, List.getElem_toArray, List.getElem_cons_zero, List.getElem_cons_succ, List.setIfInBounds_toArray, List.set_cons_zero, List.set_cons_succ]
  refine wpAnyH_ready (rs := [4]) (by kernel_rfl) (by simp) ?_
  refine (AllReadyH.cons rfl (fun K hK => ?_) AllReadyH.nil)
  go_simp
  refine (cmpI_any _ _ _).mono ?_
  rintro e w3 ⟨rfl, rfl⟩
  go_wp2_with fail
  refine hK.out _ _ ?_ (fun hS' => ?_)
  · exact hS
  clear hK K
  try simp only [Act.put, List.getElem_toArray, List.getElem_cons_zero, List.getElem_cons_succ, List.setIfInBounds_toArray, List.set_cons_zero, List.set_cons_succ]
  replace hS := hS'
  clear hS'
  refine wpAnyH_ready (rs := [9]) (by kernel_rfl) (by simp) ?_
  refine (AllReadyH.cons rfl (fun K hK => ?_) AllReadyH.nil)
  go_simp
  refine (B _ hS.2.2.2.2.out.below).mono ?_
  rintro e w3 ⟨rfl, rfl⟩
  go_wp2_with fail
  refine hK.out _ _ ?_ (fun hS' => ?_)
  · exact hS
  clear hK K
  try simp only [Act.put, List.getElem_toArray, List.getElem_cons_zero, List.getElem_cons_succ, List.setIfInBounds_toArray, List.set_cons_zero, List.set_cons_succ]
  replace hS := hS'
  clear hS'
  refine wpAnyH_ready (rs := [10]) (by kernel_rfl) (by simp) ?_
  refine (AllReadyH.cons rfl (fun K hK => ?_) AllReadyH.nil)
  go_simp
  have hI3 := hS.2.2.2.2.out.on ((Below.refl _ _).alloc (Nat.le_refl _) (.cells #[.int .i64 (cmpI x.tag y.tag), .int .i64 (cmpB x.d y.d)] 3))
  have hnew := two_cells (heap_alloc_new wd (.cells #[.int .i64 (cmpI x.tag y.tag), .int .i64 (cmpB x.d y.d)] 3))
  have OR := or_any (cmpI x.tag y.tag) (cmpB x.d y.d) wd.heap.size _ hnew.1 hnew.2.1
  rw [HO.out] at OR
  clear hnew
  refine hK.out _ _ ?_ (fun hS' => ?_)
  · exact hI3.s
  clear hK K
  try simp only [Act.put, List.getElem_toArray, List.getElem_cons_zero, List.getElem_cons_succ, List.setIfInBounds_toArray, List.set_cons_zero, List.set_cons_succ]
  replace hS := hS'
  clear hS'
  refine wpAnyH_ready (rs := [11]) (by kernel_rfl) (by simp) ?_
  refine (AllReadyH.cons rfl (fun K hK => ?_) AllReadyH.nil)
  go_simp
  refine OR.mono ?_
  rintro e w3 ⟨rfl, rfl⟩
  go_wp2_with fail
  refine hK.out _ _ ?_ (fun hS' => ?_)
  · exact hS
  clear hK K
  try simp only [Act.put, List.getElem_toArray, List.getElem_cons_zero, List.getElem_cons_succ, List.setIfInBounds_toArray, List.set_cons_zero, List.set_cons_succ]
  replace hS := hS'
  clear hS'
  refine wpAnyH_take (i := 12) (v := ?v12_9) rfl (by kernel_rfl) (by kernel_rfl) (by kernel_rfl) (fun _ _ _ h => h) (Or.inl ⟨by rfl, ?hy12_9⟩) (by assumption) ?rest12_9
  case hy12_9 => (intro w hSw; (try dsimp only at hSw); go_simp; try (with_reducible rfl))
  simp only [Act.put, List.getElem_toArray, List.getElem_cons_zero, List.getElem_cons_succ, List.setIfInBounds_toArray, List.set_cons_zero, List.set_cons_succ]
  refine wpAnyH_done (by kernel_rfl) ?_ _
  go_wp2
  go_ret
  exact ⟨rfl, hS.2.2.2.2.out.below⟩

set_option maxHeartbeats 4000000 in
theorem cmpFunc_any (p q : Option Addr) (c d : Nat) (a b : List Fd) (w : World) (hp : FIn w p a) (hq : FIn w q b) (hn : a.length ≤ maxLen) (hm : b.length ≤ maxLen) :
    Calls Try.prog 47 #[.slice p a.length c, .slice q b.length d, .func (.func 48) #[] #[]] w fun e w' => e = .returned (.int .i64 (cmpK (kys a) (kys b))) ∧ Below w.heap.size w w' := by
  simp only [maxLen] at hn hm
  obtain ⟨r, hr⟩ : ∃ r, cmpK (kys a) (kys b) = r := ⟨_, rfl⟩
  rw [hr]
  go_enter Try.func47, Try.ntmps47
  go_wp2
  go_loopw [13] (fun i W => ∃ k : Nat, k ≤ a.length ∧ k ≤ b.length ∧ i = .int .i64 k ∧ r = cmpK (kys (a.drop k)) (kys (b.drop k)) ∧ Below w.heap.size w W) (fun i _ => a.length - (intOf i).toNat)
  case atStart => exact ⟨0, by omega, by omega, rfl, hr.symm, Below.refl _ _⟩
  case round =>
    obtain ⟨k, hk, hk2, rfl, ht, hb⟩ := hrel
    by_cases t : k < a.length
    · obtain ⟨b1, o1, rfl, hc⟩ := (hp.below hb).at (by omega)
      obtain ⟨e0, e1, hx⟩ := hc k t
      by_cases t2 : k < b.length
      · obtain ⟨b2, o2, rfl, hc2⟩ := (hq.below hb).at (by omega)
        obtain ⟨f0, f1, hy⟩ := hc2 k t2
        rw [drop_next a k t, drop_next b k t2] at ht
        simp only [kys, List.map_cons] at ht
        rw [cmpK_cons] at ht
        generalize a.getD k zf = x at ht e0 e1 hx
        generalize b.getD k zf = y at ht f0 f1 hy
        have hb2 := ((Below.refl wr.heap.size wr).alloc (Nat.le_refl _) (.cells #[.int .i64 x.tag, .slice x.p x.d.length x.cap] 55)).alloc (by simp) (.cells #[.int .i64 y.tag, .slice y.p y.d.length y.cap] 55)
        have N := cmpF_any x y _ (hx.below hb2) (hy.below hb2)
        have HB := Hid.mk' (hb.trans (hb2.mono hb.size))
        generalize cmpK1 (ky x) (ky y) = v at ht N
        have HT := Hid.mk' ht
        have hlt2 : b2 < wr.heap.size := lt_of_cell f0
        clear ht hb hc hc2 hx hy hb2
        go_wp2_with fail
        refine N.mono ?_
        rintro e w' ⟨rfl, hb3⟩
        have HB' := Hid.mk' (HB.out.trans (hb3.mono HB.out.size))
        clear HB hb3 N
        by_cases t3 : v = 0
        · subst t3
          go_wp2_with fail
          go_roundw
          case rel => exact ⟨k + 1, by omega, by omega, by go_num, by rw [HT.out]; rfl, HB'.out⟩
          case measure => simp [intOf]; omega
        · have d3 : (v != 0) = true := by simpa using t3
          have hv := HT.out
          rw [if_neg t3] at hv
          subst hv
          go_wp2_with fail
          try rw [Exit.noGoto_ret]
          go_ret
          exact ⟨rfl, HB'.out⟩
      · obtain rfl : k = b.length := by omega
        rw [drop_next a b.length t, List.drop_of_length_le (l := b) (Nat.le_refl _)] at ht
        obtain rfl : r = 1 := ht
        generalize a.getD b.length zf = x at e0 e1 hx
        have HB := Hid.mk' (hb.alloc hb.size (.cells #[.int .i64 x.tag, .slice x.p x.d.length x.cap] 55))
        clear hb hc hx
        go_wp2_with fail
        try rw [Exit.noGoto_ret]
        go_ret
        exact ⟨rfl, HB.out⟩
    · obtain rfl : k = a.length := by omega
      rw [List.drop_of_length_le (l := a) (Nat.le_refl _)] at ht
      by_cases t2 : a.length < b.length
      · rw [drop_next b a.length t2] at ht
        obtain rfl : r = -1 := ht
        go_wp2_with fail
        go_ret
        exact ⟨rfl, hb⟩
      · rw [List.drop_of_length_le (l := b) (by omega)] at ht
        obtain rfl : r = 0 := ht
        go_wp2_with fail
        go_ret
        exact ⟨rfl, hb⟩

set_option maxHeartbeats 1600000 in
theorem compare_any (p q : Option Addr) (c d : Nat) (a b : List Fd) (w : World) (hp : FIn w p a) (hq : FIn w q b) (hn : a.length ≤ maxLen) (hm : b.length ≤ maxLen) :
    Calls Try.prog 38 #[.slice p a.length c, .slice q b.length d] w fun e w' => e = .returned (.int .i64 (cmpK (kys a) (kys b))) ∧ Below w.heap.size w w' := by
  have N := cmpFunc_any p q c d a b w hp hq hn hm
  generalize cmpK (kys a) (kys b) = v at N ⊢
  go_enter Try.func38, Try.ntmps38
  go_wp2_with fail
  refine N.mono ?_
  rintro e w' ⟨rfl, hb3⟩
  go_wp2_with fail
  go_ret
  exact ⟨rfl, hb3⟩

set_option maxHeartbeats 1600000 in
theorem same_any (p q : Option Addr) (c d : Nat) (a b : List Fd) (w : World) (hp : FIn w p a) (hq : FIn w q b) (hn : a.length ≤ maxLen) (hm : b.length ≤ maxLen) :
    Calls Try.prog 25 #[.slice p a.length c, .slice q b.length d] w fun e w' => e = .returned (.bool (decide (kys a = kys b))) ∧ Below w.heap.size w w' := by
  have N := compare_any p q c d a b w hp hq hn hm
  have hd := cmpK_ord.eq (kys a) (kys b)
  generalize cmpK (kys a) (kys b) = v at N hd
  go_enter Try.func25, Try.ntmps25
  go_wp2_with fail
  refine N.mono ?_
  rintro e w' ⟨rfl, hb3⟩
  by_cases t : v = 0
  · have := hd.1 t
    subst t
    go_wp2_with fail
    go_ret
    exact ⟨by simp [this], hb3⟩
  · have this : ¬ kys a = kys b := fun q => t (hd.2 q)
    have d3 : (v == 0) = false := by simpa using t
    go_wp2_with fail
    go_ret
    exact ⟨by simp [this], hb3⟩
end Go.Proofs.Ytnladolpcocchaa
