/-
  Package rec: Weigh; the statements' own 'weigh', 'May', 'Alike', 'Few', 'AllAlike'.
-/
import Derived.Test.YtdfjjajkeieocaaRecF
import Derived.Test.YtdfjjajkeieocaaLaw06
namespace Go.Proofs.Ytdfjjajkeieocaa
open Go.RowKit
set_option linter.unusedSimpArgs false
set_option linter.unusedVariables false
set_option maxRecDepth 10000
set_option synthInstance.maxSize 2000

def uncR (c : Bool) : Int := if c then 0 else 1
def loadR (r : RK) : Int × Int × Int × List Key := (uncR r.cut, r.lo, r.hi, r.bag)
def weighK (a b : RK) : Int := pairC cmpI (pairC cmpI (pairC cmpI cmpK)) (loadR a) (loadR b)
theorem load_ord : Ord3 (pairC cmpI (pairC cmpI (pairC cmpI cmpK))) := pairC_ord cmpI_ord (pairC_ord cmpI_ord (pairC_ord cmpI_ord cmpK_ord))
def or4 (x y z u : Int) : Int := if x = 0 then (if y = 0 then (if z = 0 then u else z) else y) else x
theorem weigh_or (a b : Rc) : or4 (cmpI (uncR a.cut) (uncR b.cut)) (cmpI a.lo b.lo) (cmpI a.hi b.hi) (cmpK (kys a.bag) (kys b.bag)) = weighK (rk a) (rk b) := rfl

set_option maxHeartbeats 1600000 in
theorem uncut_any (r : Rc) (w : World) : Calls Try.prog 61 #[.agg #[.int .i64 r.id, .int .i64 r.inc, .int .i64 r.st, .int .i64 r.lo, .int .i64 r.hi, .bool r.cut, .slice r.p r.bag.length r.cap]] w fun e w' => e = .returned (.int .i64 (uncR r.cut)) ∧ Below w.heap.size w w' := by
  have HB := Hid.mk' (InB.start w r).below
  obtain ⟨cu, hcu⟩ : ∃ cu, r.cut = cu := ⟨_, rfl⟩
  rw [hcu] at HB ⊢
  clear hcu
  go_enter Try.func61, Try.ntmps61
  cases cu
  · go_wp2_with fail
    go_ret
    exact ⟨rfl, HB.out⟩
  · go_wp2_with fail
    go_ret
    exact ⟨rfl, HB.out⟩

set_option maxHeartbeats 1600000 in
theorem or4_any (x y z u : Int) (b : Nat) (w : World) (h0 : w.cell? ⟨b, 0, none⟩ = some (.int .i64 x)) (h1 : w.cell? ⟨b, 1, none⟩ = some (.int .i64 y)) (h2 : w.cell? ⟨b, 2, none⟩ = some (.int .i64 z)) (h3 : w.cell? ⟨b, 3, none⟩ = some (.int .i64 u)) :
    Calls Try.prog 59 #[.slice (some ⟨b, 0, none⟩) 4 4] w fun e w' => e = .returned (.int .i64 (or4 x y z u)) ∧ w = w' := by
  have HR := Hid.mk' (show or4 x y z u = if x = 0 then (if y = 0 then (if z = 0 then u else z) else y) else x from rfl)
  generalize or4 x y z u = r at HR ⊢
  go_enter Try.func59, Try.ntmps59
  go_wp2
  refine wp_loop_rounds 5 ?_
  rw [rounds_succ]
  by_cases t : x = 0
  · subst t
    go_wp2
    rw [rounds_succ]
    by_cases t : y = 0
    · subst t
      go_wp2
      rw [rounds_succ]
      by_cases t : z = 0
      · subst t
        go_wp2
        rw [rounds_succ]
        by_cases t : u = 0
        · subst t
          go_wp2
          rw [rounds_succ]
          go_wp2
          go_ret
          exact ⟨by rw [HR.out]; rfl, rfl⟩
        · have d : (u != 0) = true := by simpa using t
          go_wp2
          try rw [Exit.noGoto_ret]
          go_ret
          exact ⟨by rw [HR.out]; rfl, rfl⟩
      · have d : (z != 0) = true := by simpa using t
        go_wp2
        try rw [Exit.noGoto_ret]
        go_ret
        exact ⟨by rw [HR.out]; simp [t], rfl⟩
    · have d : (y != 0) = true := by simpa using t
      go_wp2
      try rw [Exit.noGoto_ret]
      go_ret
      exact ⟨by rw [HR.out]; simp [t], rfl⟩
  · have d : (x != 0) = true := by simpa using t
    go_wp2
    try rw [Exit.noGoto_ret]
    go_ret
    exact ⟨by rw [HR.out]; simp [t], rfl⟩

theorem InB2.s {w X : World} {a b : Rc} (h : InB2 w a b X) : X.cell? ⟨w.heap.size, 0, none⟩ = some (.int .i64 a.id) ∧ X.cell? ⟨w.heap.size, 1, none⟩ = some (.int .i64 a.inc) ∧ X.cell? ⟨w.heap.size, 2, none⟩ = some (.int .i64 a.st) ∧ X.cell? ⟨w.heap.size, 3, none⟩ = some (.int .i64 a.lo) ∧ X.cell? ⟨w.heap.size, 4, none⟩ = some (.int .i64 a.hi) ∧ X.cell? ⟨w.heap.size, 5, none⟩ = some (.bool a.cut) ∧ X.cell? ⟨w.heap.size, 6, none⟩ = some (.slice a.p a.bag.length a.cap) ∧ X.cell? ⟨w.heap.size + 1, 0, none⟩ = some (.int .i64 b.id) ∧ X.cell? ⟨w.heap.size + 1, 1, none⟩ = some (.int .i64 b.inc) ∧ X.cell? ⟨w.heap.size + 1, 2, none⟩ = some (.int .i64 b.st) ∧ X.cell? ⟨w.heap.size + 1, 3, none⟩ = some (.int .i64 b.lo) ∧ X.cell? ⟨w.heap.size + 1, 4, none⟩ = some (.int .i64 b.hi) ∧ X.cell? ⟨w.heap.size + 1, 5, none⟩ = some (.bool b.cut) ∧ X.cell? ⟨w.heap.size + 1, 6, none⟩ = some (.slice b.p b.bag.length b.cap) ∧ Hid (InB2 w a b X) := by
  obtain ⟨c0, c1, c2, c3, c4, c5, c6⟩ := box_cells h.ba
  obtain ⟨d0, d1, d2, d3, d4, d5, d6⟩ := box_cells h.bb
  exact ⟨c0, c1, c2, c3, c4, c5, c6, d0, d1, d2, d3, d4, d5, d6, h⟩

theorem four_cells {w : World} {b : Nat} {x y z u : Value} {t : TypeId} (h : w.heap[b]? = some (.cells #[x, y, z, u] t (0, 0))) :
    w.cell? ⟨b, 0, none⟩ = some x ∧ w.cell? ⟨b, 1, none⟩ = some y ∧ w.cell? ⟨b, 2, none⟩ = some z ∧ w.cell? ⟨b, 3, none⟩ = some u := by
  simp [World.cell?, h]

set_option maxHeartbeats 4000000 in
theorem rweigh_any (a b : Rc) (w : World) (ha : ROk w a) (hb : ROk w b) : Calls Try.prog 42 #[.agg #[.int .i64 a.id, .int .i64 a.inc, .int .i64 a.st, .int .i64 a.lo, .int .i64 a.hi, .bool a.cut, .slice a.p a.bag.length a.cap], .agg #[.int .i64 b.id, .int .i64 b.inc, .int .i64 b.st, .int .i64 b.lo, .int .i64 b.hi, .bool b.cut, .slice b.p b.bag.length b.cap]] w fun e w' => e = .returned (.int .i64 (weighK (rk a) (rk b))) ∧ Below w.heap.size w w' := by
  have HO := Hid.mk' (weigh_or a b)
  have U1 := fun X => uncut_any a X
  have U2 := fun X => uncut_any b X
  have B := fun X (h : InB2 w a b X) => compare_any a.p b.p a.cap b.cap a.bag b.bag X (ha.fin.below h.below) (hb.fin.below h.below) (Nat.le_trans ha.len ha.cap) (Nat.le_trans hb.len hb.cap)
  have HI := Hid.mk' (InB2.start w a b)
  generalize weighK (rk a) (rk b) = r at HO ⊢
  generalize uncR a.cut = ua at HO U1
  generalize uncR b.cut = ub at HO U2
  generalize cmpK (kys a.bag) (kys b.bag) = kb at HO B
  have hS0 := (HI.out.on (Below.refl _ _).drew).s
  clear HI
  go_enter Try.func42, Try.ntmps42
  go_wp2_with fail
  refine wp_region_held_drew (S := fun X => X.cell? ⟨w.heap.size, 0, none⟩ = some (.int .i64 a.id) ∧ X.cell? ⟨w.heap.size, 1, none⟩ = some (.int .i64 a.inc) ∧ X.cell? ⟨w.heap.size, 2, none⟩ = some (.int .i64 a.st) ∧ X.cell? ⟨w.heap.size, 3, none⟩ = some (.int .i64 a.lo) ∧ X.cell? ⟨w.heap.size, 4, none⟩ = some (.int .i64 a.hi) ∧ X.cell? ⟨w.heap.size, 5, none⟩ = some (.bool a.cut) ∧ X.cell? ⟨w.heap.size, 6, none⟩ = some (.slice a.p a.bag.length a.cap) ∧ X.cell? ⟨w.heap.size + 1, 0, none⟩ = some (.int .i64 b.id) ∧ X.cell? ⟨w.heap.size + 1, 1, none⟩ = some (.int .i64 b.inc) ∧ X.cell? ⟨w.heap.size + 1, 2, none⟩ = some (.int .i64 b.st) ∧ X.cell? ⟨w.heap.size + 1, 3, none⟩ = some (.int .i64 b.lo) ∧ X.cell? ⟨w.heap.size + 1, 4, none⟩ = some (.int .i64 b.hi) ∧ X.cell? ⟨w.heap.size + 1, 5, none⟩ = some (.bool b.cut) ∧ X.cell? ⟨w.heap.size + 1, 6, none⟩ = some (.slice b.p b.bag.length b.cap) ∧ Hid (InB2 w a b X)) (by kernel_rfl) hS0 (fun hS => ?_)
  clear hS0
  generalize ((w.alloc (.cells #[.int .i64 a.id, .int .i64 a.inc, .int .i64 a.st, .int .i64 a.lo, .int .i64 a.hi, .bool a.cut, .slice a.p a.bag.length a.cap] 27)).alloc (.cells #[.int .i64 b.id, .int .i64 b.inc, .int .i64 b.st, .int .i64 b.lo, .int .i64 b.hi, .bool b.cut, .slice b.p b.bag.length b.cap] 27)).drew = wd at hS ⊢
  refine wpAnyH_take (i := 0) (v := ?v0_18) rfl (by kernel_rfl) (by kernel_rfl) (by kernel_rfl) (fun _ _ _ h => h) (Or.inl ⟨by rfl, ?hy0_18⟩) (by assumption) ?rest0_18
  case hy0_18 => (intro w hSw; (try dsimp only at hSw); go_simp; try (with_reducible rfl))
  simp only [Act.put, List.getElem_toArray, List.getElem_cons_zero, List.getElem_cons_succ, List.setIfInBounds_toArray, List.set_cons_zero, List.set_cons_succ]
  refine wpAnyH_take (i := 2) (v := ?v2_19) rfl (by kernel_rfl) (by kernel_rfl) (by kernel_rfl) (fun _ _ _ h => h) (Or.inl ⟨by rfl, ?hy2_19⟩) (by assumption) ?rest2_19
  case hy2_19 => (intro w hSw; (try dsimp only at hSw); go_simp; try (with_reducible rfl))
  simp only [Act.put, List.getElem_toArray, List.getElem_cons_zero, List.getElem_cons_succ, List.setIfInBounds_toArray, List.set_cons_zero, List.set_cons_succ]
  refine wpAnyH_take (i := 5) (v := ?v5_20) rfl (by kernel_rfl) (by kernel_rfl) (by kernel_rfl) (fun _ _ _ h => h) (Or.inl ⟨by rfl, ?hy5_20⟩) (by assumption) ?rest5_20
  case hy5_20 => (intro w hSw; (try dsimp only at hSw); go_simp; try (with_reducible rfl))
  simp only [Act.put, List.getElem_toArray, List.getElem_cons_zero, List.getElem_cons_succ, List.setIfInBounds_toArray, List.set_cons_zero, List.set_cons_succ]
  refine wpAnyH_take (i := 6) (v := ?v6_21) rfl (by kernel_rfl) (by kernel_rfl) (by kernel_rfl) (fun _ _ _ h => h) (Or.inl ⟨by rfl, ?hy6_21⟩) (by assumption) ?rest6_21
  case hy6_21 => (intro w hSw; (try dsimp only at hSw); go_simp; try (with_reducible rfl))
  simp only [Act.put, List.getElem_toArray, List.getElem_cons_zero, List.getElem_cons_succ, List.setIfInBounds_toArray, List.set_cons_zero, List.set_cons_succ]
  refine wpAnyH_take (i := 7) (v := ?v7_22) rfl (by kernel_rfl) (by kernel_rfl) (by kernel_rfl) (fun _ _ _ h => h) (Or.inl ⟨by rfl, ?hy7_22⟩) (by assumption) ?rest7_22
  case hy7_22 => (intro w hSw; (try dsimp only at hSw); go_simp; try (with_reducible rfl))
  simp only [Act.put, List.getElem_toArray, List.getElem_cons_zero, List.getElem_cons_succ, List.setIfInBounds_toArray, List.set_cons_zero, List.set_cons_succ]
  refine wpAnyH_take (i := 8) (v := ?v8_23) rfl (by kernel_rfl) (by kernel_rfl) (by kernel_rfl) (fun _ _ _ h => h) (Or.inl ⟨by rfl, ?hy8_23⟩) (by assumption) ?rest8_23
  case hy8_23 => (intro w hSw; (try dsimp only at hSw); go_simp; try (with_reducible rfl))
  simp only [Act.put, List.getElem_toArray, List.getElem_cons_zero, List.getElem_cons_succ, List.setIfInBounds_toArray, List.set_cons_zero, List.set_cons_succ]
  refine wpAnyH_take (i := 9) (v := ?v9_24) rfl (by kernel_rfl) (by kernel_rfl) (by kernel_rfl) (fun _ _ _ h => h) (Or.inl ⟨by rfl, ?hy9_24⟩) (by assumption) ?rest9_24
  case hy9_24 => (intro w hSw; (try dsimp only at hSw); go_simp; try (with_reducible rfl))
  simp only [Act.put, List.getElem_toArray, List.getElem_cons_zero, List.getElem_cons_succ, List.setIfInBounds_toArray, List.set_cons_zero, List.set_cons_succ]
  refine wpAnyH_take (i := 10) (v := ?v10_25) rfl (by kernel_rfl) (by kernel_rfl) (by kernel_rfl) (fun _ _ _ h => h) (Or.inl ⟨by rfl, ?hy10_25⟩) (by assumption) ?rest10_25
  case hy10_25 => (intro w hSw; (try dsimp only at hSw); go_simp; try (with_reducible rfl))
  simp only [Act.put, List.getElem_toArray, List.getElem_cons_zero, List.getElem_cons_succ, List.setIfInBounds_toArray, List.set_cons_zero, List.set_cons_succ]
  refine wpAnyH_take (i := 12) (v := ?v12_26) rfl (by kernel_rfl) (by kernel_rfl) (by kernel_rfl) (fun _ _ _ h => h) (Or.inl ⟨by rfl, ?hy12_26⟩) (by assumption) ?rest12_26
  case hy12_26 => (intro w hSw; (try dsimp only at hSw); go_simp; try (with_reducible rfl))
  simp only [Act.put, List.getElem_toArray, List.getElem_cons_zero, List.getElem_cons_succ, List.setIfInBounds_toArray, List.set_cons_zero, List.set_cons_succ]
  refine wpAnyH_take (i := 13) (v := ?v13_27) rfl (by kernel_rfl) (by kernel_rfl) (by kernel_rfl) (fun _ _ _ h => h) (Or.inl ⟨by rfl, ?hy13_27⟩) (by assumption) ?rest13_27
  case hy13_27 => (intro w hSw; (try dsimp only at hSw); go_simp; try (with_reducible rfl))
  simp only [Act.put, List.getElem_toArray, List.getElem_cons_zero, List.getElem_cons_succ, List.setIfInBounds_toArray, List.set_cons_zero, List.set_cons_succ]
  refine wpAnyH_take (i := 14) (v := ?v14_28) rfl (by kernel_rfl) (by kernel_rfl) (by kernel_rfl) (fun _ _ _ h => h) (Or.inl ⟨by rfl, ?hy14_28⟩) (by assumption) ?rest14_28
  case hy14_28 => (intro w hSw; (try dsimp only at hSw); go_simp; try (with_reducible rfl))
  simp only [Act.put, List.getElem_toArray, List.getElem_cons_zero, List.getElem_cons_succ, List.setIfInBounds_toArray, List.set_cons_zero, List.set_cons_succ]
  refine wpAnyH_take (i := 15) (v := ?v15_29) rfl (by kernel_rfl) (by kernel_rfl) (by kernel_rfl) (fun _ _ _ h => h) (Or.inl ⟨by rfl, ?hy15_29⟩) (by assumption) ?rest15_29
  case hy15_29 => (intro w hSw; (try dsimp only at hSw); go_simp; try (with_reducible rfl))
  simp only [Act.put, List.getElem_toArray, List.getElem_cons_zero, List.getElem_cons_succ, List.setIfInBounds_toArray, List.set_cons_zero, List.set_cons_succ]
  refine wpAnyH_take (i := 16) (v := ?v16_30) rfl (by kernel_rfl) (by kernel_rfl) (by kernel_rfl) (fun _ _ _ h => h) (Or.inl ⟨by rfl, ?hy16_30⟩) (by assumption) ?rest16_30
  case hy16_30 => (intro w hSw; (try dsimp only at hSw); go_simp; try (with_reducible rfl))
  simp only [Act.put, List.getElem_toArray, List.getElem_cons_zero, List.getElem_cons_succ, List.setIfInBounds_toArray, List.set_cons_zero, List.set_cons_succ]
  refine wpAnyH_take (i := 17) (v := ?v17_31) rfl (by kernel_rfl) (by kernel_rfl) (by kernel_rfl) (fun _ _ _ h => h) (Or.inl ⟨by rfl, ?hy17_31⟩) (by assumption) ?rest17_31
  case hy17_31 => (intro w hSw; (try dsimp only at hSw); go_simp; try (with_reducible rfl))
  simp only [Act.put, List.getElem_toArray, List.getElem_cons_zero, List.getElem_cons_succ, List.setIfInBounds_toArray, List.set_cons_zero, List.set_cons_succ]
  refine wpAnyH_take (i := 19) (v := ?v19_32) rfl (by kernel_rfl) (by kernel_rfl) (by kernel_rfl) (fun _ _ _ h => h) (Or.inl ⟨by rfl, ?hy19_32⟩) (by assumption) ?rest19_32
  case hy19_32 => (intro w hSw; (try dsimp only at hSw); go_simp; try (with_reducible rfl))
  simp only [Act.put, List.getElem_toArray, List.getElem_cons_zero, List.getElem_cons_succ, List.setIfInBounds_toArray, List.set_cons_zero, List.set_cons_succ]
  refine wpAnyH_take (i := 20) (v := ?v20_33) rfl (by kernel_rfl) (by kernel_rfl) (by kernel_rfl) (fun _ _ _ h => h) (Or.inl ⟨by rfl, ?hy20_33⟩) (by assumption) ?rest20_33
  case hy20_33 => (intro w hSw; (try dsimp only at hSw); go_simp; try (with_reducible rfl))
  simp only [Act.put, List.getElem_toArray, List.getElem_cons_zero, List.getElem_cons_succ, List.setIfInBounds_toArray, List.set_cons_zero, List.set_cons_succ]
  refine wpAnyH_take (i := 21) (v := ?v21_34) rfl (by kernel_rfl) (by kernel_rfl) (by kernel_rfl) (fun _ _ _ h => h) (Or.inl ⟨by rfl, ?hy21_34⟩) (by assumption) ?rest21_34
  case hy21_34 => (intro w hSw; (try dsimp only at hSw); go_simp; try (with_reducible rfl))
  simp only [Act.put, List.getElem_toArray, List.getElem_cons_zero, List.getElem_cons_succ, List.setIfInBounds_toArray, List.set_cons_zero, List.set_cons_succ]
  refine wpAnyH_take (i := 22) (v := ?v22_35) rfl (by kernel_rfl) (by kernel_rfl) (by kernel_rfl) (fun _ _ _ h => h) (Or.inl ⟨by rfl, ?hy22_35⟩) (by assumption) ?rest22_35
  case hy22_35 => (intro w hSw; (try dsimp only at hSw); go_simp; try (with_reducible rfl))
  simp only [Act.put, List.getElem_toArray, List.getElem_cons_zero, List.getElem_cons_succ, List.setIfInBounds_toArray, List.set_cons_zero, List.set_cons_succ]
  refine wpAnyH_ready (rs := [1]) (by kernel_rfl) (by simp) ?_
  refine (AllReadyH.cons rfl (fun K hK => ?_) AllReadyH.nil)
  go_simp
  refine (U1 _).mono ?_
  rintro e w3 ⟨rfl, hb3⟩
  have hI3 := hS.2.2.2.2.2.2.2.2.2.2.2.2.2.2.out.on hb3
  clear hb3
  go_wp2_with fail
  refine hK.out _ _ ?_ (fun hS' => ?_)
  · exact hI3.s
  clear hK K
  try simp only [Act.put, List.getElem_toArray, List.getElem_cons_zero, List.getElem_cons_succ, List.setIfInBounds_toArray, List.set_cons_zero, List.set_cons_succ]
  replace hS := hS'
  clear hS'
  refine wpAnyH_ready (rs := [3]) (by kernel_rfl) (by simp) ?_
  refine (AllReadyH.cons rfl (fun K hK => ?_) AllReadyH.nil)
  go_simp
  refine (U2 _).mono ?_
  rintro e w4 ⟨rfl, hb3⟩
  have hI4 := hS.2.2.2.2.2.2.2.2.2.2.2.2.2.2.out.on hb3
  clear hb3
  go_wp2_with fail
  refine hK.out _ _ ?_ (fun hS' => ?_)
  · exact hI4.s
  clear hK K
  try simp only [Act.put, List.getElem_toArray, List.getElem_cons_zero, List.getElem_cons_succ, List.setIfInBounds_toArray, List.set_cons_zero, List.set_cons_succ]
  replace hS := hS'
  clear hS'
  refine wpAnyH_ready (rs := [4]) (by kernel_rfl) (by simp) ?_
  refine (AllReadyH.cons rfl (fun K hK => ?_) AllReadyH.nil)
  go_simp
  refine (cmpI_any _ _ _).mono ?_
  rintro e w5 ⟨rfl, rfl⟩
  go_wp2_with fail
  refine hK.out _ _ ?_ (fun hS' => ?_)
  · exact hS
  clear hK K
  try simp only [Act.put, List.getElem_toArray, List.getElem_cons_zero, List.getElem_cons_succ, List.setIfInBounds_toArray, List.set_cons_zero, List.set_cons_succ]
  replace hS := hS'
  clear hS'
  refine wpAnyH_ready (rs := [11]) (by kernel_rfl) (by simp) ?_
  refine (AllReadyH.cons rfl (fun K hK => ?_) AllReadyH.nil)
  go_simp
  refine (cmpI_any _ _ _).mono ?_
  rintro e w5 ⟨rfl, rfl⟩
  go_wp2_with fail
  refine hK.out _ _ ?_ (fun hS' => ?_)
  · exact hS
  clear hK K
  try simp only [Act.put, List.getElem_toArray, List.getElem_cons_zero, List.getElem_cons_succ, List.setIfInBounds_toArray, List.set_cons_zero, List.set_cons_succ]
  replace hS := hS'
  clear hS'
  refine wpAnyH_ready (rs := [18]) (by kernel_rfl) (by simp) ?_
  refine (AllReadyH.cons rfl (fun K hK => ?_) AllReadyH.nil)
  go_simp
  refine (cmpI_any _ _ _).mono ?_
  rintro e w5 ⟨rfl, rfl⟩
  go_wp2_with fail
  refine hK.out _ _ ?_ (fun hS' => ?_)
  · exact hS
  clear hK K
  try simp only [Act.put, List.getElem_toArray, List.getElem_cons_zero, List.getElem_cons_succ, List.setIfInBounds_toArray, List.set_cons_zero, List.set_cons_succ]
  replace hS := hS'
  clear hS'
  refine wpAnyH_ready (rs := [23]) (by kernel_rfl) (by simp) ?_
  refine (AllReadyH.cons rfl (fun K hK => ?_) AllReadyH.nil)
  go_simp
  refine (B _ hS.2.2.2.2.2.2.2.2.2.2.2.2.2.2.out).mono ?_
  rintro e w6 ⟨rfl, hb3⟩
  have hI6 := hS.2.2.2.2.2.2.2.2.2.2.2.2.2.2.out.on hb3
  clear hb3
  go_wp2_with fail
  refine hK.out _ _ ?_ (fun hS' => ?_)
  · exact hI6.s
  clear hK K
  try simp only [Act.put, List.getElem_toArray, List.getElem_cons_zero, List.getElem_cons_succ, List.setIfInBounds_toArray, List.set_cons_zero, List.set_cons_succ]
  replace hS := hS'
  clear hS'
  refine wpAnyH_ready (rs := [24]) (by kernel_rfl) (by simp) ?_
  refine (AllReadyH.cons rfl (fun K hK => ?_) AllReadyH.nil)
  go_simp
  have hI7 := hS.2.2.2.2.2.2.2.2.2.2.2.2.2.2.out.on ((Below.refl _ _).alloc (Nat.le_refl _) (.cells #[.int .i64 (cmpI ua ub), .int .i64 (cmpI a.lo b.lo), .int .i64 (cmpI a.hi b.hi), .int .i64 kb] 3))
  have hnew := four_cells (heap_alloc_new w6 (.cells #[.int .i64 (cmpI ua ub), .int .i64 (cmpI a.lo b.lo), .int .i64 (cmpI a.hi b.hi), .int .i64 kb] 3))
  have OR := or4_any (cmpI ua ub) (cmpI a.lo b.lo) (cmpI a.hi b.hi) kb w6.heap.size _ hnew.1 hnew.2.1 hnew.2.2.1 hnew.2.2.2
  rw [HO.out] at OR
  clear hnew
  refine hK.out _ _ ?_ (fun hS' => ?_)
  · exact hI7.s
  clear hK K
  try simp only [Act.put, List.getElem_toArray, List.getElem_cons_zero, List.getElem_cons_succ, List.setIfInBounds_toArray, List.set_cons_zero, List.set_cons_succ]
  replace hS := hS'
  clear hS'
  refine wpAnyH_ready (rs := [25]) (by kernel_rfl) (by simp) ?_
  refine (AllReadyH.cons rfl (fun K hK => ?_) AllReadyH.nil)
  go_simp
  refine OR.mono ?_
  rintro e w8 ⟨rfl, rfl⟩
  go_wp2_with fail
  refine hK.out _ _ ?_ (fun hS' => ?_)
  · exact hS
  clear hK K
  try simp only [Act.put, List.getElem_toArray, List.getElem_cons_zero, List.getElem_cons_succ, List.setIfInBounds_toArray, List.set_cons_zero, List.set_cons_succ]
  replace hS := hS'
  clear hS'
  refine wpAnyH_take (i := 26) (v := ?v26_36) rfl (by kernel_rfl) (by kernel_rfl) (by kernel_rfl) (fun _ _ _ h => h) (Or.inl ⟨by rfl, ?hy26_36⟩) (by assumption) ?rest26_36
  case hy26_36 => (intro w hSw; (try dsimp only at hSw); go_simp; try (with_reducible rfl))
  simp only [Act.put, List.getElem_toArray, List.getElem_cons_zero, List.getElem_cons_succ, List.setIfInBounds_toArray, List.set_cons_zero, List.set_cons_succ]
  refine wpAnyH_done (by kernel_rfl) ?_ _
  go_wp2
  go_ret
  exact ⟨rfl, hS.2.2.2.2.2.2.2.2.2.2.2.2.2.2.out.below⟩


end Go.Proofs.Ytdfjjajkeieocaa
