/-
  Package rec: Weigh; the statements' own 'weigh', 'May', 'Alike', 'Few', 'AllAlike'.
-/
import Derived.Test.YtecdagmeobiahabRecF
import Derived.Test.YtecdagmeobiahabLaw06
namespace Go.Proofs.Ytecdagmeobiahab
open Go.RowKit
set_option linter.unusedSimpArgs false
set_option linter.unusedVariables false
set_option maxRecDepth 10000
set_option synthInstance.maxSize 2000

def uncR (c : Bool) : Int := if c then 0 else 1
def loadR (r : RK) : Int × Int × Int × List Key := (uncR r.cut, r.lo, r.hi, r.bag)
def weighK (a b : RK) : Int := pairC cmpI (pairC cmpI (pairC cmpI cmpK)) (loadR a) (loadR b)
theorem load_ord : Ord3 (pairC cmpI (pairC cmpI (pairC cmpI cmpK))) := pairC_ord cmpI_ord (pairC_ord cmpI_ord (pairC_ord cmpI_ord cmpK_ord))
def or4 (x y z u : Int) : Int := if x = 0 then (if y = 0 then (if z = 0 then u else z) else y) else x
theorem weigh_or (a b : Rc) : or4 (cmpI (uncR a.cut) (uncR b.cut)) (cmpI a.lo b.lo) (cmpI a.hi b.hi) (cmpK (kys a.bag) (kys b.bag)) = weighK (rk a) (rk b) := rfl

set_option maxHeartbeats 1600000 in
theorem uncut_any (r : Rc) (w : World) : Calls Try.prog 28 #[.agg #[.int .i64 r.id, .int .i64 r.inc, .int .i64 r.st, .int .i64 r.lo, .int .i64 r.hi, .bool r.cut, .slice r.p r.bag.length r.cap]] w fun e w' => e = .returned (.int .i64 (uncR r.cut)) ∧ Below w.heap.size w w' := by
  have HB := Hid.mk' (InB.start w r).below
  obtain ⟨cu, hcu⟩ : ∃ cu, r.cut = cu := ⟨_, rfl⟩
  rw [hcu] at HB ⊢
  clear hcu
  go_enter Try.func28, Try.ntmps28
  cases cu
  · go_wp2_with fail
    go_ret
    exact ⟨rfl, HB.out⟩
  · go_wp2_with fail
    go_ret
    exact ⟨rfl, HB.out⟩

set_option maxHeartbeats 1600000 in
theorem or4_any (x y z u : Int) (b : Nat) (w : World) (h0 : w.cell? ⟨b, 0, none⟩ = some (.int .i64 x)) (h1 : w.cell? ⟨b, 1, none⟩ = some (.int .i64 y)) (h2 : w.cell? ⟨b, 2, none⟩ = some (.int .i64 z)) (h3 : w.cell? ⟨b, 3, none⟩ = some (.int .i64 u)) :
    Calls Try.prog 26 #[.slice (some ⟨b, 0, none⟩) 4 4] w fun e w' => e = .returned (.int .i64 (or4 x y z u)) ∧ w = w' := by
  have HR := Hid.mk' (show or4 x y z u = if x = 0 then (if y = 0 then (if z = 0 then u else z) else y) else x from rfl)
  generalize or4 x y z u = r at HR ⊢
  go_enter Try.func26, Try.ntmps26
  go_wp2
  refine wp_loop_rounds 5 ?_
  rw [rounds_succ]
  by_cases t : x = 0
  · subst t
    go_wp2
    rw [rounds_succ]
    by_cases t : y = 0
    · subst t
      go_wp2
      rw [rounds_succ]
      by_cases t : z = 0
      · subst t
        go_wp2
        rw [rounds_succ]
        by_cases t : u = 0
        · subst t
          go_wp2
          rw [rounds_succ]
          go_wp2
          go_ret
          exact ⟨by rw [HR.out]; rfl, rfl⟩
        · have d : (u != 0) = true := by simpa using t
          go_wp2
          try rw [Exit.noGoto_ret]
          go_ret
          exact ⟨by rw [HR.out]; rfl, rfl⟩
      · have d : (z != 0) = true := by simpa using t
        go_wp2
        try rw [Exit.noGoto_ret]
        go_ret
        exact ⟨by rw [HR.out]; simp [t], rfl⟩
    · have d : (y != 0) = true := by simpa using t
      go_wp2
      try rw [Exit.noGoto_ret]
      go_ret
      exact ⟨by rw [HR.out]; simp [t], rfl⟩
  · have d : (x != 0) = true := by simpa using t
    go_wp2
    try rw [Exit.noGoto_ret]
    go_ret
    exact ⟨by rw [HR.out]; simp [t], rfl⟩

theorem InB2.s {w X : World} {a b : Rc} (h : InB2 w a b X) : X.cell? ⟨w.heap.size, 0, none⟩ = some (.int .i64 a.id) ∧ X.cell? ⟨w.heap.size, 1, none⟩ = some (.int .i64 a.inc) ∧ X.cell? ⟨w.heap.size, 2, none⟩ = some (.int .i64 a.st) ∧ X.cell? ⟨w.heap.size, 3, none⟩ = some (.int .i64 a.lo) ∧ X.cell? ⟨w.heap.size, 4, none⟩ = some (.int .i64 a.hi) ∧ X.cell? ⟨w.heap.size, 5, none⟩ = some (.bool a.cut) ∧ X.cell? ⟨w.heap.size, 6, none⟩ = some (.slice a.p a.bag.length a.cap) ∧ X.cell? ⟨w.heap.size + 1, 0, none⟩ = some (.int .i64 b.id) ∧ X.cell? ⟨w.heap.size + 1, 1, none⟩ = some (.int .i64 b.inc) ∧ X.cell? ⟨w.heap.size + 1, 2, none⟩ = some (.int .i64 b.st) ∧ X.cell? ⟨w.heap.size + 1, 3, none⟩ = some (.int .i64 b.lo) ∧ X.cell? ⟨w.heap.size + 1, 4, none⟩ = some (.int .i64 b.hi) ∧ X.cell? ⟨w.heap.size + 1, 5, none⟩ = some (.bool b.cut) ∧ X.cell? ⟨w.heap.size + 1, 6, none⟩ = some (.slice b.p b.bag.length b.cap) ∧ Hid (InB2 w a b X) := by
  obtain ⟨c0, c1, c2, c3, c4, c5, c6⟩ := box_cells h.ba
  obtain ⟨d0, d1, d2, d3, d4, d5, d6⟩ := box_cells h.bb
  exact ⟨c0, c1, c2, c3, c4, c5, c6, d0, d1, d2, d3, d4, d5, d6, h⟩

theorem four_cells {w : World} {b : Nat} {x y z u : Value} {t : TypeId} (h : w.heap[b]? = some (.cells #[x, y, z, u] t (0, 0))) :
    w.cell? ⟨b, 0, none⟩ = some x ∧ w.cell? ⟨b, 1, none⟩ = some y ∧ w.cell? ⟨b, 2, none⟩ = some z ∧ w.cell? ⟨b, 3, none⟩ = some u := by
  simp [World.cell?, h]

set_option maxHeartbeats 4000000 in
theorem rweigh_any (a b : Rc) (w : World) (ha : ROk w a) (hb : ROk w b) : Calls Try.prog 15 #[.agg #[.int .i64 a.id, .int .i64 a.inc, .int .i64 a.st, .int .i64 a.lo, .int .i64 a.hi, .bool a.cut, .slice a.p a.bag.length a.cap], .agg #[.int .i64 b.id, .int .i64 b.inc, .int .i64 b.st, .int .i64 b.lo, .int .i64 b.hi, .bool b.cut, .slice b.p b.bag.length b.cap]] w fun e w' => e = .returned (.int .i64 (weighK (rk a) (rk b))) ∧ Below w.heap.size w w' := by
  have HO := Hid.mk' (weigh_or a b)
  have U1 := fun X => uncut_any a X
  have U2 := fun X => uncut_any b X
  have B := fun X (h : InB2 w a b X) => compare_any a.p b.p a.cap b.cap a.bag b.bag X (ha.fin.below h.below) (hb.fin.below h.below) (Nat.le_trans ha.len ha.cap) (Nat.le_trans hb.len hb.cap)
  have HI := Hid.mk' (InB2.start w a b)
  generalize weighK (rk a) (rk b) = r at HO ⊢
  generalize uncR a.cut = ua at HO U1
  generalize uncR b.cut = ub at HO U2
  generalize cmpK (kys a.bag) (kys b.bag) = kb at HO B
  have hS0 := (HI.out.on (Below.refl _ _).drew).s
  clear HI
  go_enter Try.func15, Try.ntmps15
  go_wp2_with fail
  refine wp_region_held_drew (S := fun X => X.cell? ⟨w.heap.size, 0, none⟩ = some (.int .i64 a.id) ∧ X.cell? ⟨w.heap.size, 1, none⟩ = some (.int .i64 a.inc) ∧ X.cell? ⟨w.heap.size, 2, none⟩ = some (.int .i64 a.st) ∧ X.cell? ⟨w.heap.size, 3, none⟩ = some (.int .i64 a.lo) ∧ X.cell? ⟨w.heap.size, 4, none⟩ = some (.int .i64 a.hi) ∧ X.cell? ⟨w.heap.size, 5, none⟩ = some (.bool a.cut) ∧ X.cell? ⟨w.heap.size, 6, none⟩ = some (.slice a.p a.bag.length a.cap) ∧ X.cell? ⟨w.heap.size + 1, 0, none⟩ = some (.int .i64 b.id) ∧ X.cell? ⟨w.heap.size + 1, 1, none⟩ = some (.int .i64 b.inc) ∧ X.cell? ⟨w.heap.size + 1, 2, none⟩ = some (.int .i64 b.st) ∧ X.cell? ⟨w.heap.size + 1, 3, none⟩ = some (.int .i64 b.lo) ∧ X.cell? ⟨w.heap.size + 1, 4, none⟩ = some (.int .i64 b.hi) ∧ X.cell? ⟨w.heap.size + 1, 5, none⟩ = some (.bool b.cut) ∧ X.cell? ⟨w.heap.size + 1, 6, none⟩ = some (.slice b.p b.bag.length b.cap) ∧ Hid (InB2 w a b X)) (by kernel_rfl) hS0 (fun hS => ?_)
  clear hS0
  generalize ((w.alloc (.cells #[.int .i64 a.id, .int .i64 a.inc, .int .i64 a.st, .int .i64 a.lo, .int .i64 a.hi, .bool a.cut, .slice a.p a.bag.length a.cap] 26)).alloc (.cells #[.int .i64 b.id, .int .i64 b.inc, .int .i64 b.st, .int .i64 b.lo, .int .i64 b.hi, .bool b.cut, .slice b.p b.bag.length b.cap] 26)).drew = wd at hS ⊢
  refine wpAnyH_take (i := 0) (v := ?v0_35) rfl (by kernel_rfl) (by kernel_rfl) (by kernel_rfl) (fun _ _ _ h => h) (Or.inl ⟨by rfl, ?hy0_35⟩) (by assumption) ?rest0_35
  case hy0_35 => (intro w hSw; (try dsimp only at hSw); go_simp; try (with_reducible rfl))
  simp only [Act.put, List.getElem_toArray, List.getElem_cons_zero, List.getElem_cons_succ, List.setIfInBounds_toArray, List.set_cons_zero, List.set_cons_succ]
  refine wpAnyH_take (i := 2) (v := ?v2_36) rfl (by kernel_rfl) (by kernel_rfl) (by kernel_rfl) (fun _ _ _ h => h) (Or.inl ⟨by rfl, ?hy2_36⟩) (by assumption) ?rest2_36
  case hy2_36 => (intro w hSw; (try dsimp only at hSw); go_simp; try (with_reducible rfl))
  simp only [Act.put, List.getElem_toArray, List.getElem_cons_zero, List.getElem_cons_succ, List.setIfInBounds_toArray, List.set_cons_zero, List.set_cons_succ]
  refine wpAnyH_take (i := 5) (v := ?v5_37) rfl (by kernel_rfl) (by kernel_rfl) (by kernel_rfl) (fun _ _ _ h => h) (Or.inl ⟨by rfl, ?hy5_37⟩) (by assumption) ?rest5_37
  case hy5_37 => (intro w hSw; (try dsimp only at hSw); go_simp; try (with_reducible rfl))
  simp only [Act.put, List.getElem_toArray, List.getElem_cons_zero, List.getElem_cons_succ, List.setIfInBounds_toArray, List.set_cons_zero, List.set_cons_succ]
  refine wpAnyH_take (i := 6) (v := ?v6_38) rfl (by kernel_rfl) (by kernel_rfl) (by kernel_rfl) (fun _ _ _ h => h) (Or.inl ⟨by rfl, ?hy6_38⟩) (by assumption) ?rest6_38
  case hy6_38 => (intro w hSw; (try dsimp only at hSw); go_simp; try (with_reducible rfl))
  simp only [Act.put, List.getElem_toArray, List.getElem_cons_zero, List.getElem_cons_succ, List.setIfInBounds_toArray, List.set_cons_zero, List.set_cons_succ]
  refine wpAnyH_take (i := 7) (v := ?v7_39) rfl (by kernel_rfl) (by kernel_rfl) (by kernel_rfl) (fun _ _ _ h => h) (Or.inl ⟨by rfl, ?hy7_39⟩) (by assumption) ?rest7_39
  case hy7_39 => (intro w hSw; (try dsimp only at hSw); go_simp; try (with_reducible rfl))
  simp only [Act.put, List.getElem_toArray, List.getElem_cons_zero, List.getElem_cons_succ, List.setIfInBounds_toArray, List.set_cons_zero, List.set_cons_succ]
  refine wpAnyH_take (i := 8) (v := ?v8_40) rfl (by kernel_rfl) (by kernel_rfl) (by kernel_rfl) (fun _ _ _ h => h) (Or.inl ⟨by rfl, ?hy8_40⟩) (by assumption) ?rest8_40
  case hy8_40 => (intro w hSw; (try dsimp only at hSw); go_simp; try (with_reducible rfl))
  simp only [Act.put, List.getElem_toArray, List.getElem_cons_zero, List.getElem_cons_succ, List.setIfInBounds_toArray, List.set_cons_zero, List.set_cons_succ]
  refine wpAnyH_take (i := 9) (v := ?v9_41) rfl (by kernel_rfl) (by kernel_rfl) (by kernel_rfl) (fun _ _ _ h => h) (Or.inl ⟨by rfl, ?hy9_41⟩) (by assumption) ?rest9_41
  case hy9_41 => (intro w hSw; (try dsimp only at hSw); go_simp; try (with_reducible rfl))
  simp only [Act.put, List.getElem_toArray, List.getElem_cons_zero, List.getElem_cons_succ, List.setIfInBounds_toArray, List.set_cons_zero, List.set_cons_succ]
  refine wpAnyH_take (i := 10) (v := ?v10_42) rfl (by kernel_rfl) (by kernel_rfl) (by kernel_rfl) (fun _ _ _ h => h) (Or.inl ⟨by rfl, ?hy10_42⟩) (by assumption) ?rest10_42
  case hy10_42 => (intro w hSw; (try dsimp only at hSw); go_simp; try (with_reducible rfl))
  simp only [Act.put, List.getElem_toArray, List.getElem_cons_zero, List.getElem_cons_succ, List.setIfInBounds_toArray, List.set_cons_zero, List.set_cons_succ]
  refine wpAnyH_take (i := 12) (v := ?v12_43) rfl (by kernel_rfl) (by kernel_rfl) (by kernel_rfl) (fun _ _ _ h => h) (Or.inl ⟨by rfl, ?hy12_43⟩) (by assumption) ?rest12_43
  case hy12_43 => (intro w hSw; (try dsimp only at hSw); go_simp; try (with_reducible rfl))
  simp only [Act.put, List.getElem_toArray, List.getElem_cons_zero, List.getElem_cons_succ, List.setIfInBounds_toArray, List.set_cons_zero, List.set_cons_succ]
  refine wpAnyH_take (i := 13) (v := ?v13_44) rfl (by kernel_rfl) (by kernel_rfl) (by kernel_rfl) (fun _ _ _ h => h) (Or.inl ⟨by rfl, ?hy13_44⟩) (by assumption) ?rest13_44
  case hy13_44 => (intro w hSw; (try dsimp only at hSw); go_simp; try (with_reducible rfl))
  simp only [Act.put, List.getElem_toArray, List.getElem_cons_zero, List.getElem_cons_succ, List.setIfInBounds_toArray, List.set_cons_zero, List.set_cons_succ]
  refine wpAnyH_take (i := 14) (v := ?v14_45) rfl (by kernel_rfl) (by kernel_rfl) (by kernel_rfl) (fun _ _ _ h => h) (Or.inl ⟨by rfl, ?hy14_45⟩) (by assumption) ?rest14_45
  case hy14_45 => (intro w hSw; (try dsimp only at hSw); go_simp; try (with_reducible rfl))
  simp only [Act.put, List.getElem_toArray, List.getElem_cons_zero, List.getElem_cons_succ, List.setIfInBounds_toArray, List.set_cons_zero, List.set_cons_succ]
  refine wpAnyH_take (i := 15) (v := ?v15_46) rfl (by kernel_rfl) (by kernel_rfl) (by kernel_rfl) (fun _ _ _ h => h) (Or.inl ⟨by rfl, ?hy15_46⟩) (by assumption) ?rest15_46
  case hy15_46 => (intro w hSw; (try dsimp only at hSw); go_simp; try (with_reducible rfl))
  simp only [Act.put, List.getElem_toArray, List.getElem_cons_zero, List.getElem_cons_succ, List.setIfInBounds_toArray, List.set_cons_zero, List.set_cons_succ]
  refine wpAnyH_take (i := 16) (v := ?v16_47) rfl (by kernel_rfl) (by kernel_rfl) (by kernel_rfl) (fun _ _ _ h => h) (Or.inl ⟨by rfl, ?hy16_47⟩) (by assumption) ?rest16_47
  case hy16_47 => (intro w hSw; (try dsimp only at hSw); go_simp; try (with_reducible rfl))
  simp only [Act.put, List.getElem_toArray, List.getElem_cons_zero, List.getElem_cons_succ, List.setIfInBounds_toArray, List.set_cons_zero, List.set_cons_succ]
  refine wpAnyH_take (i := 17) (v := ?v17_48) rfl (by kernel_rfl) (by kernel_rfl) (by kernel_rfl) (fun _ _ _ h => h) (Or.inl ⟨by rfl, ?hy17_48⟩) (by assumption) ?rest17_48
  case hy17_48 => (intro w hSw; (try dsimp only at hSw); go_simp; try (with_reducible rfl))
  simp only [Act.put, List.getElem_toArray, List.getElem_cons_zero, List.getElem_cons_succ, List.setIfInBounds_toArray, List.set_cons_zero, List.set_cons_succ]
  refine wpAnyH_take (i := 19) (v := ?v19_49) rfl (by kernel_rfl) (by kernel_rfl) (by kernel_rfl) (fun _ _ _ h => h) (Or.inl ⟨by rfl, ?hy19_49⟩) (by assumption) ?rest19_49
  case hy19_49 => (intro w hSw; (try dsimp only at hSw); go_simp; try (with_reducible rfl))
  simp only [Act.put, List.getElem_toArray, List.getElem_cons_zero, List.getElem_cons_succ, List.setIfInBounds_toArray, List.set_cons_zero, List.set_cons_succ]
  refine wpAnyH_take (i := 20) (v := ?v20_50) rfl (by kernel_rfl) (by kernel_rfl) (by kernel_rfl) (fun _ _ _ h => h) (Or.inl ⟨by rfl, ?hy20_50⟩) (by assumption) ?rest20_50
  case hy20_50 => (intro w hSw; (try dsimp only at hSw); go_simp; try (with_reducible rfl))
  simp only [Act.put, List.getElem_toArray, List.getElem_cons_zero, List.getElem_cons_succ, List.setIfInBounds_toArray, List.set_cons_zero, List.set_cons_succ]
  refine wpAnyH_take (i := 21) (v := ?v21_51) rfl (by kernel_rfl) (by kernel_rfl) (by kernel_rfl) (fun _ _ _ h => h) (Or.inl ⟨by rfl, ?hy21_51⟩) (by assumption) ?rest21_51
  case hy21_51 => (intro w hSw; (try dsimp only at hSw); go_simp; try (with_reducible rfl))
  simp only [Act.put, List.getElem_toArray, List.getElem_cons_zero, List.getElem_cons_succ, List.setIfInBounds_toArray, List.set_cons_zero, List.set_cons_succ]
  refine wpAnyH_take (i := 22) (v := ?v22_52) rfl (by kernel_rfl) (by kernel_rfl) (by kernel_rfl) (fun _ _ _ h => h) (Or.inl ⟨by rfl, ?hy22_52⟩) (by assumption) ?rest22_52
  case hy22_52 => (intro w hSw; (try dsimp only at hSw); go_simp; try (with_reducible rfl))
  simp only [Act.put, List.getElem_toArray, List.getElem_cons_zero, List.getElem_cons_succ, List.setIfInBounds_toArray, List.set_cons_zero, List.set_cons_succ]
  refine wpAnyH_ready (rs := [1]) (by kernel_rfl) (by simp) ?_
  refine (AllReadyH.cons rfl (fun K hK => ?_) AllReadyH.nil)
  go_simp
  refine (U1 _).mono ?_
  rintro e w3 ⟨rfl, hb3⟩
  have hI3 := hS.2.2.2.2.2.2.2.2.2.2.2.2.2.2.out.on hb3
  clear hb3
  go_wp2_with fail
  refine hK.out _ _ ?_ (fun hS' => ?_)
  · exact hI3.s
  clear hK K
  try simp only [Act.put, List.getElem_toArray, List.getElem_cons_zero, List.getElem_cons_succ, List.setIfInBounds_toArray, List.set_cons_zero, List.set_cons_succ]
  replace hS := hS'
  clear hS'
  refine wpAnyH_ready (rs := [3]) (by kernel_rfl) (by simp) ?_
  refine (AllReadyH.cons rfl (fun K hK => ?_) AllReadyH.nil)
  go_simp
  refine (U2 _).mono ?_
  rintro e w4 ⟨rfl, hb3⟩
  have hI4 := hS.2.2.2.2.2.2.2.2.2.2.2.2.2.2.out.on hb3
  clear hb3
  go_wp2_with fail
  refine hK.out _ _ ?_ (fun hS' => ?_)
  · exact hI4.s
  clear hK K
  try simp only [Act.put, List.getElem_toArray, List.getElem_cons_zero, List.getElem_cons_succ, List.setIfInBounds_toArray, List.set_cons_zero, List.set_cons_succ]
  replace hS := hS'
  clear hS'
  refine wpAnyH_ready (rs := [4]) (by kernel_rfl) (by simp) ?_
  refine (AllReadyH.cons rfl (fun K hK => ?_) AllReadyH.nil)
  go_simp
  refine (cmpI_any _ _ _).mono ?_
  rintro e w5 ⟨rfl, rfl⟩
  go_wp2_with fail
  refine hK.out _ _ ?_ (fun hS' => ?_)
  · exact hS
  clear hK K
  try simp only [Act.put, List.getElem_toArray, List.getElem_cons_zero, List.getElem_cons_succ, List.setIfInBounds_toArray, List.set_cons_zero, List.set_cons_succ]
  replace hS := hS'
  clear hS'
  refine wpAnyH_ready (rs := [11]) (by kernel_rfl) (by simp) ?_
  refine (AllReadyH.cons rfl (fun K hK => ?_) AllReadyH.nil)
  go_simp
  refine (cmpI_any _ _ _).mono ?_
  rintro e w5 ⟨rfl, rfl⟩
  go_wp2_with fail
  refine hK.out _ _ ?_ (fun hS' => ?_)
  · exact hS
  clear hK K
  try simp only [Act.put, List.getElem_toArray, List.getElem_cons_zero, List.getElem_cons_succ, List.setIfInBounds_toArray, List.set_cons_zero, List.set_cons_succ]
  replace hS := hS'
  clear hS'
  refine wpAnyH_ready (rs := [18]) (by kernel_rfl) (by simp) ?_
  refine (AllReadyH.cons rfl (fun K hK => ?_) AllReadyH.nil)
  go_simp
  refine (cmpI_any _ _ _).mono ?_
  rintro e w5 ⟨rfl, rfl⟩
  go_wp2_with fail
  refine hK.out _ _ ?_ (fun hS' => ?_)
  · exact hS
  clear hK K
  try simp only [Act.put, List.getElem_toArray, List.getElem_cons_zero, List.getElem_cons_succ, List.setIfInBounds_toArray, List.set_cons_zero, List.set_cons_succ]
  replace hS := hS'
  clear hS'
  refine wpAnyH_ready (rs := [23]) (by kernel_rfl) (by simp) ?_
  refine (AllReadyH.cons rfl (fun K hK => ?_) AllReadyH.nil)
  go_simp
  refine (B _ hS.2.2.2.2.2.2.2.2.2.2.2.2.2.2.out).mono ?_
  rintro e w6 ⟨rfl, hb3⟩
  have hI6 := hS.2.2.2.2.2.2.2.2.2.2.2.2.2.2.out.on hb3
  clear hb3
  go_wp2_with fail
  refine hK.out _ _ ?_ (fun hS' => ?_)
  · exact hI6.s
  clear hK K
  try simp only [Act.put, List.getElem_toArray, List.getElem_cons_zero, List.getElem_cons_succ, List.setIfInBounds_toArray, List.set_cons_zero, List.set_cons_succ]
  replace hS := hS'
  clear hS'
  refine wpAnyH_ready (rs := [24]) (by kernel_rfl) (by simp) ?_
  refine (AllReadyH.cons rfl (fun K hK => ?_) AllReadyH.nil)
  go_simp
  have hI7 := hS.2.2.2.2.2.2.2.2.2.2.2.2.2.2.out.on ((Below.refl _ _).alloc (Nat.le_refl _) (.cells #[.int .i64 (cmpI ua ub), .int .i64 (cmpI a.lo b.lo), .int .i64 (cmpI a.hi b.hi), .int .i64 kb] 3))
  have hnew := four_cells (heap_alloc_new w6 (.cells #[.int .i64 (cmpI ua ub), .int .i64 (cmpI a.lo b.lo), .int .i64 (cmpI a.hi b.hi), .int .i64 kb] 3))
  have OR := or4_any (cmpI ua ub) (cmpI a.lo b.lo) (cmpI a.hi b.hi) kb w6.heap.size _ hnew.1 hnew.2.1 hnew.2.2.1 hnew.2.2.2
  rw [HO.out] at OR
  clear hnew
  refine hK.out _ _ ?_ (fun hS' => ?_)
  · exact hI7.s
  clear hK K
  try simp only [Act.put, List.getElem_toArray, List.getElem_cons_zero, List.getElem_cons_succ, List.setIfInBounds_toArray, List.set_cons_zero, List.set_cons_succ]
  replace hS := hS'
  clear hS'
  refine wpAnyH_ready (rs := [25]) (by kernel_rfl) (by simp) ?_
  refine (AllReadyH.cons rfl (fun K hK => ?_) AllReadyH.nil)
  go_simp
  refine OR.mono ?_
  rintro e w8 ⟨rfl, rfl⟩
  go_wp2_with fail
  refine hK.out _ _ ?_ (fun hS' => ?_)
  · exact hS
  clear hK K
  try simp only [Act.put, List.getElem_toArray, List.getElem_cons_zero, List.getElem_cons_succ, List.setIfInBounds_toArray, List.set_cons_zero, List.set_cons_succ]
  replace hS := hS'
  clear hS'
  refine wpAnyH_take (i := 26) (v := ?v26_53) rfl (by kernel_rfl) (by kernel_rfl) (by kernel_rfl) (fun _ _ _ h => h) (Or.inl ⟨by rfl, ?hy26_53⟩) (by assumption) ?rest26_53
  case hy26_53 => (intro w hSw; (try dsimp only at hSw); go_simp; try (with_reducible rfl))
  simp only [Act.put, List.getElem_toArray, List.getElem_cons_zero, List.getElem_cons_succ, List.setIfInBounds_toArray, List.set_cons_zero, List.set_cons_succ]
  refine wpAnyH_done (by kernel_rfl) ?_ _
  go_wp2
  go_ret
  exact ⟨rfl, hS.2.2.2.2.2.2.2.2.2.2.2.2.2.2.out.below⟩

set_option maxHeartbeats 4000000 in
theorem lweigh_any (a b : Rc) (w : World) (ha : ROk w a) (hb : ROk w b) : Calls Try.prog 17 #[.agg #[.int .i64 a.id, .int .i64 a.inc, .int .i64 a.st, .int .i64 a.lo, .int .i64 a.hi, .bool a.cut, .slice a.p a.bag.length a.cap], .agg #[.int .i64 b.id, .int .i64 b.inc, .int .i64 b.st, .int .i64 b.lo, .int .i64 b.hi, .bool b.cut, .slice b.p b.bag.length b.cap]] w fun e w' => e = .returned (.int .i64 (weighK (rk a) (rk b))) ∧ Below w.heap.size w w' := by
  have HO := Hid.mk' (weigh_or a b).symm
  have B := fun X (h : InB2 w a b X) => compare_any a.p b.p a.cap b.cap a.bag b.bag X (ha.fin.below h.below) (hb.fin.below h.below) (Nat.le_trans ha.len ha.cap) (Nat.le_trans hb.len hb.cap)
  have HI := Hid.mk' (InB2.start w a b)
  generalize weighK (rk a) (rk b) = r at HO ⊢
  generalize cmpK (kys a.bag) (kys b.bag) = kb at HO B
  obtain ⟨ca, hca⟩ : ∃ c, a.cut = c := ⟨_, rfl⟩
  obtain ⟨cb, hcb⟩ : ∃ c, b.cut = c := ⟨_, rfl⟩
  rw [hca, hcb] at HO
  have HA := Hid.mk' hca
  have HB := Hid.mk' hcb
  clear hca hcb
  have hS := (HI.out).s
  rw [HA.out, HB.out] at hS
  obtain ⟨c0, c1, c2, c3, c4, c5, c6, d0, d1, d2, d3, d4, d5, d6, _⟩ := hS
  rw [HA.out, HB.out]
  rw [HA.out, HB.out] at HI
  generalize hX : ((w.alloc (.cells #[.int .i64 a.id, .int .i64 a.inc, .int .i64 a.st, .int .i64 a.lo, .int .i64 a.hi, .bool ca, .slice a.p a.bag.length a.cap] 26)).alloc (.cells #[.int .i64 b.id, .int .i64 b.inc, .int .i64 b.st, .int .i64 b.lo, .int .i64 b.hi, .bool cb, .slice b.p b.bag.length b.cap] 26)) = X0 at HI
  clear c0 c1 c2 c3 c4 c5 c6 d0 d1 d2 d3 d4 d5 d6
  subst hX
  cases ca <;> cases cb
  case true.false =>
    obtain rfl : r = -1 := by rw [HO.out]; rfl
    go_enter Try.func17, Try.ntmps17
    go_wp2_with fail
    go_ret
    exact ⟨rfl, HI.out.below⟩
  case false.true =>
    obtain rfl : r = 1 := by rw [HO.out]; rfl
    go_enter Try.func17, Try.ntmps17
    go_wp2_with fail
    go_ret
    exact ⟨rfl, HI.out.below⟩
  all_goals
    have hv : r = if cmpI a.lo b.lo = 0 then (if cmpI a.hi b.hi = 0 then kb else cmpI a.hi b.hi) else cmpI a.lo b.lo := HO.out
    by_cases t1 : a.lo < b.lo
    · obtain rfl : r = -1 := by rw [hv]; simp [cmpI, t1]
      clear hv
      go_enter Try.func17, Try.ntmps17
      go_wp2_with fail
      go_ret
      exact ⟨rfl, HI.out.below⟩
    by_cases t2 : b.lo < a.lo
    · obtain rfl : r = 1 := by rw [hv]; simp [cmpI, t1, t2]
      have d : (a.lo == b.lo) = false := by simp; omega
      clear hv
      go_enter Try.func17, Try.ntmps17
      go_wp2_with fail
      go_ret
      exact ⟨rfl, HI.out.below⟩
    have d : (a.lo == b.lo) = true := by simp; omega
    by_cases t3 : a.hi < b.hi
    · obtain rfl : r = -1 := by rw [hv]; simp [cmpI, t1, t2, t3]
      clear hv
      go_enter Try.func17, Try.ntmps17
      go_wp2_with fail
      go_ret
      exact ⟨rfl, HI.out.below⟩
    by_cases t4 : b.hi < a.hi
    · obtain rfl : r = 1 := by rw [hv]; simp [cmpI, t1, t2, t3, t4]
      clear hv
      go_enter Try.func17, Try.ntmps17
      go_wp2_with fail
      go_ret
      exact ⟨rfl, HI.out.below⟩
    obtain rfl : r = kb := by rw [hv]; simp [cmpI, t1, t2, t3, t4]
    clear hv
    go_enter Try.func17, Try.ntmps17
    go_wp2_with fail
    refine (B _ HI.out).mono ?_
    rintro e w2 ⟨rfl, hb2⟩
    have HB2 := Hid.mk' (HI.out.on hb2).below
    clear hb2
    go_wp2_with fail
    go_ret
    exact ⟨rfl, HB2.out⟩
end Go.Proofs.Ytecdagmeobiahab
