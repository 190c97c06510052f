/-
  Package lattice: Join, Below.
-/
import Derived.Test.YtdfjjajkeieocaaLatF
namespace Go.Proofs.Ytdfjjajkeieocaa
open Go.RowKit
set_option linter.unusedSimpArgs false
set_option linter.unusedVariables false
set_option maxRecDepth 10000
set_option synthInstance.maxSize 2000

def JoinPost (w : World) (a b : Rc) (e : Ending) (w' : World) : Prop :=
  (if a.id = b.id then ∃ r', e = .returned (.tuple #[.agg #[.int .i64 r'.id, .int .i64 r'.inc, .int .i64 r'.st, .int .i64 r'.lo, .int .i64 r'.hi, .bool r'.cut, .slice r'.p r'.bag.length r'.cap], .bool true]) ∧ rk r' = joinK (rk a) (rk b) ∧ ROkA w.heap.size w' r'
   else e = .returned (.tuple #[.agg #[.int .i64 0, .int .i64 0, .int .i64 0, .int .i64 0, .int .i64 0, .bool false, .slice none 0 0], .bool false])) ∧ Below w.heap.size w w'

theorem kys_length {l l' : List Fd} (h : kys l' = kys l) : l'.length = l.length := by
  have h := congrArg List.length h; rwa [kys_len, kys_len] at h

set_option maxHeartbeats 4000000 in
theorem join2_any (a b : Rc) (w : World) (ha : ROk w a) (hb : ROk w b) (hna : a.bag.length ≤ 1099511627776) (hnb : b.bag.length ≤ 1099511627776) :
    Calls Try.prog 20 #[.agg #[.int .i64 a.id, .int .i64 a.inc, .int .i64 a.st, .int .i64 a.lo, .int .i64 a.hi, .bool a.cut, .slice a.p a.bag.length a.cap], .agg #[.int .i64 b.id, .int .i64 b.inc, .int .i64 b.st, .int .i64 b.lo, .int .i64 b.hi, .bool b.cut, .slice b.p b.bag.length b.cap]] w (JoinPost w a b) := by
  have HP := Hid.mk' (show ∀ e w', JoinPost w a b e w' = ((if a.id = b.id then ∃ r', e = .returned (.tuple #[.agg #[.int .i64 r'.id, .int .i64 r'.inc, .int .i64 r'.st, .int .i64 r'.lo, .int .i64 r'.hi, .bool r'.cut, .slice r'.p r'.bag.length r'.cap], .bool true]) ∧ rk r' = joinK (rk a) (rk b) ∧ ROkA w.heap.size w' r' else e = .returned (.tuple #[.agg #[.int .i64 0, .int .i64 0, .int .i64 0, .int .i64 0, .int .i64 0, .bool false, .slice none 0 0], .bool false])) ∧ Below w.heap.size w w') from fun _ _ => rfl)
  have HI := Hid.mk' (InB3.start w a b)
  have J := join_any a b _ (ha.below HI.out.below) (hb.below HI.out.below)
  have HJ := Hid.mk' (rk_join a b)
  have HO := Hid.mk' (joinR_ok ha hb)
  have hjn := joinR_len hna hnb
  generalize JoinPost w a b = Q at HP ⊢
  generalize joinR a b = j at J HJ HO hjn
  by_cases t : a.id = b.id
  · have d : (a.id != b.id) = false := by simp [t]
    have HT := Hid.mk' t
    clear t
    go_enter Try.func20, Try.ntmps20
    go_wp2_with fail
    refine J.mono ?_
    rintro e w1 ⟨rfl, hb1⟩
    have HI1 := Hid.mk' (HI.out.on hb1)
    have HS := Hid.mk' (lt_of_cell (box_cells HI1.out.bc).1)
    have HI2 := Hid.mk' (HI1.out.on ((Below.refl _ _).alloc (Nat.le_refl _) (.cells #[.int .i64 j.id, .int .i64 j.inc, .int .i64 j.st, .int .i64 j.lo, .int .i64 j.hi, .bool j.cut, .slice j.p j.bag.length j.cap] 27)))
    have HJ2 := Hid.mk' (heap_alloc_new w1 (.cells #[.int .i64 j.id, .int .i64 j.inc, .int .i64 j.st, .int .i64 j.lo, .int .i64 j.hi, .bool j.cut, .slice j.p j.bag.length j.cap] 27))
    have C := copy_any j.p j.cap j.bag (w1.alloc (.cells #[.int .i64 j.id, .int .i64 j.inc, .int .i64 j.st, .int .i64 j.lo, .int .i64 j.hi, .bool j.cut, .slice j.p j.bag.length j.cap] 27)) (HO.out.fin.below HI2.out.below) hjn
    rw [show (w1.alloc (.cells #[.int .i64 j.id, .int .i64 j.inc, .int .i64 j.st, .int .i64 j.lo, .int .i64 j.hi, .bool j.cut, .slice j.p j.bag.length j.cap] 27)).heap.size = w1.heap.size + 1 by simp] at C
    clear HI hb1 J
    go_wp2_with fail
    refine C.mono ?_
    rintro e w2 ⟨rfl, l', hk, hrow, hok, hb2⟩
    have HL := Hid.mk' (kys_length hk)
    have HI3 := Hid.mk' (HI2.out.on (by simpa using hb2))
    have HJ3 := HJ2.out
    rw [← hb2.block _ (by simp)] at HJ3
    have HA : Hid (ROkA w1.heap.size w2 ⟨j.id, j.inc, j.st, j.lo, j.hi, j.cut, some ⟨w1.heap.size + 1, 0, none⟩, j.bag.length, l'⟩) :=
      ⟨⟨HO.out.id, HO.out.inc, HO.out.st, HO.out.lo, HO.out.hi, by have h := HL.out; simp only; omega, Nat.le_trans HO.out.len HO.out.cap, by simp, FIn.of_row hrow fun f hf => (hok f hf).ok, by have h := HL.out; have := HO.out.few; simp only; omega⟩, fun a ha => by cases ha; simp, fun f hf hl a ha => by have := (hok f hf).off hl a ha; omega⟩
    have HK := Hid.mk' hk
    clear hb2 C hk hrow hok HI1 HI2 HJ2
    obtain ⟨c0, c1, c2, c3, c4, c5, c6⟩ := box_cells HJ3
    obtain ⟨g0, g1, g2, g3, g4, g5, g6⟩ := box_frozen HJ3
    obtain ⟨d0, d1, d2, d3, d4, d5, d6⟩ := box_cells HI3.out.bc
    simp only [zr, List.length_nil] at d0 d1 d2 d3 d4 d5 d6
    obtain ⟨f0, f1, f2, f3, f4, f5, f6⟩ := box_frozen HI3.out.bc
    have hne : w1.heap.size ≠ w.heap.size + 2 := by have := HS.out; omega
    have hne2 : w.heap.size + 2 ≠ w1.heap.size := by have := HS.out; omega
    clear HJ3
    go_wp2_with fail
    refine bodyPost_ret (v := .tuple #[.agg #[.int .i64 j.id, .int .i64 j.inc, .int .i64 j.st, .int .i64 j.lo, .int .i64 j.hi, .bool j.cut, .slice (some ⟨w1.heap.size + 1, 0, none⟩) j.bag.length j.bag.length], .bool true]) (by simp [results, Try.results20, go_sem, *]) rfl ?_
    rw [HP.out, if_pos HT.out]
    refine ⟨⟨⟨j.id, j.inc, j.st, j.lo, j.hi, j.cut, some ⟨w1.heap.size + 1, 0, none⟩, j.bag.length, l'⟩, by simp only [HL.out], by rw [← HJ.out]; simp only [rk, HK.out], (HA.out.fr (S := fun k => k = w.heap.size + 2 ∨ k = w1.heap.size) ?_ ?_).mono (by have := HS.out; omega)⟩, ?_⟩
    · have k1 := ((Fr.refl (fun k => k = w.heap.size + 2 ∨ k = w1.heap.size) w2).setCell (p := ⟨w1.heap.size, 6, none⟩) (Or.inl (Or.inr rfl)) (.slice (some ⟨w1.heap.size + 1, 0, none⟩) j.bag.length j.bag.length)).seven (b := w.heap.size + 1 + 1) (o := 0) (Or.inl rfl) ⟨j.id, j.inc, j.st, j.lo, j.hi, j.cut, some ⟨w1.heap.size + 1, 0, none⟩, j.bag.length, j.bag⟩
      simpa only [Nat.zero_add] using k1
    · intro i q; have := HS.out; rcases q with q | q <;> omega
    · exact bel_seven (b := w.heap.size + 1 + 1) (HI3.out.below.setCell (p := ⟨w1.heap.size, 6, none⟩) (by have := HS.out; simp only; omega) _) (by omega) ⟨j.id, j.inc, j.st, j.lo, j.hi, j.cut, some ⟨w1.heap.size + 1, 0, none⟩, j.bag.length, j.bag⟩
  · have d : (a.id != b.id) = true := by simpa using t
    have HT := Hid.mk' t
    clear t J
    go_enter Try.func20, Try.ntmps20
    go_wp2_with fail
    refine bodyPost_ret (v := .tuple #[.agg #[.int .i64 0, .int .i64 0, .int .i64 0, .int .i64 0, .int .i64 0, .bool false, .slice none 0 0], .bool false]) (by simp [results, Try.results20, go_sem, *]) rfl ?_
    rw [HP.out, if_neg HT.out]
    exact ⟨rfl, HI.out.below⟩

theorem InB2.s' {w X : World} {a b : Rc} (h : InB2 w a b X) : X.cell? ⟨w.heap.size, 0, none⟩ = some (.int .i64 a.id) ∧ X.cell? ⟨w.heap.size, 1, none⟩ = some (.int .i64 a.inc) ∧ X.cell? ⟨w.heap.size, 2, none⟩ = some (.int .i64 a.st) ∧ X.cell? ⟨w.heap.size, 3, none⟩ = some (.int .i64 a.lo) ∧ X.cell? ⟨w.heap.size, 4, none⟩ = some (.int .i64 a.hi) ∧ X.cell? ⟨w.heap.size, 5, none⟩ = some (.bool a.cut) ∧ X.cell? ⟨w.heap.size, 6, none⟩ = some (.slice a.p a.bag.length a.cap) ∧ X.cell? ⟨w.heap.size + 1, 0, none⟩ = some (.int .i64 b.id) ∧ X.cell? ⟨w.heap.size + 1, 1, none⟩ = some (.int .i64 b.inc) ∧ X.cell? ⟨w.heap.size + 1, 2, none⟩ = some (.int .i64 b.st) ∧ X.cell? ⟨w.heap.size + 1, 3, none⟩ = some (.int .i64 b.lo) ∧ X.cell? ⟨w.heap.size + 1, 4, none⟩ = some (.int .i64 b.hi) ∧ X.cell? ⟨w.heap.size + 1, 5, none⟩ = some (.bool b.cut) ∧ X.cell? ⟨w.heap.size + 1, 6, none⟩ = some (.slice b.p b.bag.length b.cap) ∧ Hid (InB2 w a b X) := h.s

set_option maxHeartbeats 4000000 in
theorem below_any (a b : Rc) (w : World) (ha : ROk w a) (hb : ROk w b) : Calls Try.prog 21 #[.agg #[.int .i64 a.id, .int .i64 a.inc, .int .i64 a.st, .int .i64 a.lo, .int .i64 a.hi, .bool a.cut, .slice a.p a.bag.length a.cap], .agg #[.int .i64 b.id, .int .i64 b.inc, .int .i64 b.st, .int .i64 b.lo, .int .i64 b.hi, .bool b.cut, .slice b.p b.bag.length b.cap]] w fun e w' => e = .returned (.bool (belK (rk a) (rk b))) ∧ Below w.heap.size w w' := by
  have HB := Hid.mk' (show belK (rk a) (rk b) = (decide (a.id = b.id) && decide (rk (joinR a b) = rk b)) by rw [rk_join]; rfl)
  have J := fun X (h : InB2 w a b X) => join_any a b X (ha.below h.below) (hb.below h.below)
  have S := fun X (h : InB2 w a b X) => rsame_any (joinR a b) b X (joinR_ok (ha.below h.below) (hb.below h.below)) (hb.below h.below)
  have HI := Hid.mk' (InB2.start w a b)
  generalize belK (rk a) (rk b) = q at HB ⊢
  generalize decide (rk (joinR a b) = rk b) = s at HB S
  generalize joinR a b = j at J S
  have hS0 := (HI.out.on (Below.refl _ _).drew).s
  clear HI
  by_cases t : a.id = b.id
  · have d : (a.id == b.id) = true := by simpa using t
    obtain rfl : q = s := by rw [HB.out, decide_eq_true t]; simp
    clear HB t
    go_enter Try.func21, Try.ntmps21
    go_wp2_with fail
    refine wp_region_held_drew (S := fun X => X.cell? ⟨w.heap.size, 0, none⟩ = some (.int .i64 a.id) ∧ X.cell? ⟨w.heap.size, 1, none⟩ = some (.int .i64 a.inc) ∧ X.cell? ⟨w.heap.size, 2, none⟩ = some (.int .i64 a.st) ∧ X.cell? ⟨w.heap.size, 3, none⟩ = some (.int .i64 a.lo) ∧ X.cell? ⟨w.heap.size, 4, none⟩ = some (.int .i64 a.hi) ∧ X.cell? ⟨w.heap.size, 5, none⟩ = some (.bool a.cut) ∧ X.cell? ⟨w.heap.size, 6, none⟩ = some (.slice a.p a.bag.length a.cap) ∧ X.cell? ⟨w.heap.size + 1, 0, none⟩ = some (.int .i64 b.id) ∧ X.cell? ⟨w.heap.size + 1, 1, none⟩ = some (.int .i64 b.inc) ∧ X.cell? ⟨w.heap.size + 1, 2, none⟩ = some (.int .i64 b.st) ∧ X.cell? ⟨w.heap.size + 1, 3, none⟩ = some (.int .i64 b.lo) ∧ X.cell? ⟨w.heap.size + 1, 4, none⟩ = some (.int .i64 b.hi) ∧ X.cell? ⟨w.heap.size + 1, 5, none⟩ = some (.bool b.cut) ∧ X.cell? ⟨w.heap.size + 1, 6, none⟩ = some (.slice b.p b.bag.length b.cap) ∧ Hid (InB2 w a b X)) (by kernel_rfl) hS0 (fun hS => ?_)
    clear hS0
    generalize ((w.alloc (.cells #[.int .i64 a.id, .int .i64 a.inc, .int .i64 a.st, .int .i64 a.lo, .int .i64 a.hi, .bool a.cut, .slice a.p a.bag.length a.cap] 27)).alloc (.cells #[.int .i64 b.id, .int .i64 b.inc, .int .i64 b.st, .int .i64 b.lo, .int .i64 b.hi, .bool b.cut, .slice b.p b.bag.length b.cap] 27)).drew = wd at hS ⊢
    refine wpAnyH_take (i := 0) (v := ?v0_46) rfl (by kernel_rfl) (by kernel_rfl) (by kernel_rfl) (fun _ _ _ h => h) (Or.inl ⟨by rfl, ?hy0_46⟩) (by assumption) ?rest0_46
    case hy0_46 => (intro w hSw; (try dsimp only at hSw); go_simp; try (with_reducible rfl))
    simp only [Act.put, List.getElem_toArray, List.getElem_cons_zero, List.getElem_cons_succ, List.setIfInBounds_toArray, List.set_cons_zero, List.set_cons_succ]
    refine wpAnyH_take (i := 1) (v := ?v1_47) rfl (by kernel_rfl) (by kernel_rfl) (by kernel_rfl) (fun _ _ _ h => h) (Or.inl ⟨by rfl, ?hy1_47⟩) (by assumption) ?rest1_47
    case hy1_47 => (intro w hSw; (try dsimp only at hSw); go_simp; try (with_reducible rfl))
    simp only [Act.put, List.getElem_toArray, List.getElem_cons_zero, List.getElem_cons_succ, List.setIfInBounds_toArray, List.set_cons_zero, List.set_cons_succ]
    refine wpAnyH_take (i := 2) (v := ?v2_48) rfl (by kernel_rfl) (by kernel_rfl) (by kernel_rfl) (fun _ _ _ h => h) (Or.inl ⟨by rfl, ?hy2_48⟩) (by assumption) ?rest2_48
    case hy2_48 => (intro w hSw; (try dsimp only at hSw); go_simp; try (with_reducible rfl))
    simp only [Act.put, List.getElem_toArray, List.getElem_cons_zero, List.getElem_cons_succ, List.setIfInBounds_toArray, List.set_cons_zero, List.set_cons_succ]
    refine wpAnyH_take (i := 3) (v := ?v3_49) rfl (by kernel_rfl) (by kernel_rfl) (by kernel_rfl) (fun _ _ _ h => h) (Or.inl ⟨by rfl, ?hy3_49⟩) (by assumption) ?rest3_49
    case hy3_49 => (intro w hSw; (try dsimp only at hSw); go_simp; try (with_reducible rfl))
    simp only [Act.put, List.getElem_toArray, List.getElem_cons_zero, List.getElem_cons_succ, List.setIfInBounds_toArray, List.set_cons_zero, List.set_cons_succ]
    refine wpAnyH_take (i := 4) (v := ?v4_50) rfl (by kernel_rfl) (by kernel_rfl) (by kernel_rfl) (fun _ _ _ h => h) (Or.inl ⟨by rfl, ?hy4_50⟩) (by assumption) ?rest4_50
    case hy4_50 => (intro w hSw; (try dsimp only at hSw); go_simp; try (with_reducible rfl))
    simp only [Act.put, List.getElem_toArray, List.getElem_cons_zero, List.getElem_cons_succ, List.setIfInBounds_toArray, List.set_cons_zero, List.set_cons_succ]
    refine wpAnyH_take (i := 5) (v := ?v5_51) rfl (by kernel_rfl) (by kernel_rfl) (by kernel_rfl) (fun _ _ _ h => h) (Or.inl ⟨by rfl, ?hy5_51⟩) (by assumption) ?rest5_51
    case hy5_51 => (intro w hSw; (try dsimp only at hSw); go_simp; try (with_reducible rfl))
    simp only [Act.put, List.getElem_toArray, List.getElem_cons_zero, List.getElem_cons_succ, List.setIfInBounds_toArray, List.set_cons_zero, List.set_cons_succ]
    refine wpAnyH_take (i := 6) (v := ?v6_52) rfl (by kernel_rfl) (by kernel_rfl) (by kernel_rfl) (fun _ _ _ h => h) (Or.inl ⟨by rfl, ?hy6_52⟩) (by assumption) ?rest6_52
    case hy6_52 => (intro w hSw; (try dsimp only at hSw); go_simp; try (with_reducible rfl))
    simp only [Act.put, List.getElem_toArray, List.getElem_cons_zero, List.getElem_cons_succ, List.setIfInBounds_toArray, List.set_cons_zero, List.set_cons_succ]
    refine wpAnyH_take (i := 7) (v := ?v7_53) rfl (by kernel_rfl) (by kernel_rfl) (by kernel_rfl) (fun _ _ _ h => h) (Or.inl ⟨by rfl, ?hy7_53⟩) (by assumption) ?rest7_53
    case hy7_53 => (intro w hSw; (try dsimp only at hSw); go_simp; try (with_reducible rfl))
    simp only [Act.put, List.getElem_toArray, List.getElem_cons_zero, List.getElem_cons_succ, List.setIfInBounds_toArray, List.set_cons_zero, List.set_cons_succ]
    refine wpAnyH_take (i := 9) (v := ?v9_54) rfl (by kernel_rfl) (by kernel_rfl) (by kernel_rfl) (fun _ _ _ h => h) (Or.inl ⟨by rfl, ?hy9_54⟩) (by assumption) ?rest9_54
    case hy9_54 => (intro w hSw; (try dsimp only at hSw); go_simp; try (with_reducible rfl))
    simp only [Act.put, List.getElem_toArray, List.getElem_cons_zero, List.getElem_cons_succ, List.setIfInBounds_toArray, List.set_cons_zero, List.set_cons_succ]
    refine wpAnyH_ready (rs := [8]) (by kernel_rfl) (by simp) ?_
    refine (AllReadyH.cons rfl (fun K hK => ?_) AllReadyH.nil)
    go_simp
    refine (J _ hS.2.2.2.2.2.2.2.2.2.2.2.2.2.2.out).mono ?_
    rintro e w3 ⟨rfl, hb3⟩
    have hI3 := hS.2.2.2.2.2.2.2.2.2.2.2.2.2.2.out.on hb3
    clear hb3
    go_wp2_with fail
    refine hK.out _ _ ?_ (fun hS' => ?_)
    · exact hI3.s
    clear hK K
    try simp only [Act.put, List.getElem_toArray, List.getElem_cons_zero, List.getElem_cons_succ, List.setIfInBounds_toArray, List.set_cons_zero, List.set_cons_succ]
    replace hS := hS'
    clear hS'
    refine wpAnyH_ready (rs := [10]) (by kernel_rfl) (by simp) ?_
    refine (AllReadyH.cons rfl (fun K hK => ?_) AllReadyH.nil)
    go_simp
    refine (S _ hS.2.2.2.2.2.2.2.2.2.2.2.2.2.2.out).mono ?_
    rintro e w4 ⟨rfl, hb3⟩
    have hI4 := hS.2.2.2.2.2.2.2.2.2.2.2.2.2.2.out.on hb3
    clear hb3
    go_wp2_with fail
    refine hK.out _ _ ?_ (fun hS' => ?_)
    · exact hI4.s
    clear hK K
    try simp only [Act.put, List.getElem_toArray, List.getElem_cons_zero, List.getElem_cons_succ, List.setIfInBounds_toArray, List.set_cons_zero, List.set_cons_succ]
    replace hS := hS'
    clear hS'
    refine wpAnyH_take (i := 11) (v := ?v11_55) rfl (by kernel_rfl) (by kernel_rfl) (by kernel_rfl) (fun _ _ _ h => h) (Or.inl ⟨by rfl, ?hy11_55⟩) (by assumption) ?rest11_55
    case hy11_55 => (intro w hSw; (try dsimp only at hSw); go_simp; try (with_reducible rfl))
    simp only [Act.put, List.getElem_toArray, List.getElem_cons_zero, List.getElem_cons_succ, List.setIfInBounds_toArray, List.set_cons_zero, List.set_cons_succ]
    refine wpAnyH_take (i := 12) (v := ?v12_56) rfl (by kernel_rfl) (by kernel_rfl) (by kernel_rfl) (fun _ _ _ h => h) (Or.inl ⟨by rfl, ?hy12_56⟩) (by assumption) ?rest12_56
    case hy12_56 => (intro w hSw; (try dsimp only at hSw); go_simp; try (with_reducible rfl))
    simp only [Act.put, List.getElem_toArray, List.getElem_cons_zero, List.getElem_cons_succ, List.setIfInBounds_toArray, List.set_cons_zero, List.set_cons_succ]
    refine wpAnyH_done (by kernel_rfl) ?_ _
    go_wp2
    go_ret
    exact ⟨rfl, hS.2.2.2.2.2.2.2.2.2.2.2.2.2.2.out.below⟩
  · have d : (a.id == b.id) = false := by simpa using t
    obtain rfl : q = false := by rw [HB.out, decide_eq_false t]; simp
    clear HB t
    go_enter Try.func21, Try.ntmps21
    go_wp2_with fail
    refine wp_region_held_drew (S := fun X => X.cell? ⟨w.heap.size, 0, none⟩ = some (.int .i64 a.id) ∧ X.cell? ⟨w.heap.size, 1, none⟩ = some (.int .i64 a.inc) ∧ X.cell? ⟨w.heap.size, 2, none⟩ = some (.int .i64 a.st) ∧ X.cell? ⟨w.heap.size, 3, none⟩ = some (.int .i64 a.lo) ∧ X.cell? ⟨w.heap.size, 4, none⟩ = some (.int .i64 a.hi) ∧ X.cell? ⟨w.heap.size, 5, none⟩ = some (.bool a.cut) ∧ X.cell? ⟨w.heap.size, 6, none⟩ = some (.slice a.p a.bag.length a.cap) ∧ X.cell? ⟨w.heap.size + 1, 0, none⟩ = some (.int .i64 b.id) ∧ X.cell? ⟨w.heap.size + 1, 1, none⟩ = some (.int .i64 b.inc) ∧ X.cell? ⟨w.heap.size + 1, 2, none⟩ = some (.int .i64 b.st) ∧ X.cell? ⟨w.heap.size + 1, 3, none⟩ = some (.int .i64 b.lo) ∧ X.cell? ⟨w.heap.size + 1, 4, none⟩ = some (.int .i64 b.hi) ∧ X.cell? ⟨w.heap.size + 1, 5, none⟩ = some (.bool b.cut) ∧ X.cell? ⟨w.heap.size + 1, 6, none⟩ = some (.slice b.p b.bag.length b.cap) ∧ Hid (InB2 w a b X)) (by kernel_rfl) hS0 (fun hS => ?_)
    clear hS0
    generalize ((w.alloc (.cells #[.int .i64 a.id, .int .i64 a.inc, .int .i64 a.st, .int .i64 a.lo, .int .i64 a.hi, .bool a.cut, .slice a.p a.bag.length a.cap] 27)).alloc (.cells #[.int .i64 b.id, .int .i64 b.inc, .int .i64 b.st, .int .i64 b.lo, .int .i64 b.hi, .bool b.cut, .slice b.p b.bag.length b.cap] 27)).drew = wd at hS ⊢
    refine wpAnyH_take (i := 0) (v := ?v0_57) rfl (by kernel_rfl) (by kernel_rfl) (by kernel_rfl) (fun _ _ _ h => h) (Or.inl ⟨by rfl, ?hy0_57⟩) (by assumption) ?rest0_57
    case hy0_57 => (intro w hSw; (try dsimp only at hSw); go_simp; try (with_reducible rfl))
    simp only [Act.put, List.getElem_toArray, List.getElem_cons_zero, List.getElem_cons_succ, List.setIfInBounds_toArray, List.set_cons_zero, List.set_cons_succ]
    refine wpAnyH_take (i := 1) (v := ?v1_58) rfl (by kernel_rfl) (by kernel_rfl) (by kernel_rfl) (fun _ _ _ h => h) (Or.inl ⟨by rfl, ?hy1_58⟩) (by assumption) ?rest1_58
    case hy1_58 => (intro w hSw; (try dsimp only at hSw); go_simp; try (with_reducible rfl))
    simp only [Act.put, List.getElem_toArray, List.getElem_cons_zero, List.getElem_cons_succ, List.setIfInBounds_toArray, List.set_cons_zero, List.set_cons_succ]
    refine wpAnyH_take (i := 2) (v := ?v2_59) rfl (by kernel_rfl) (by kernel_rfl) (by kernel_rfl) (fun _ _ _ h => h) (Or.inl ⟨by rfl, ?hy2_59⟩) (by assumption) ?rest2_59
    case hy2_59 => (intro w hSw; (try dsimp only at hSw); go_simp; try (with_reducible rfl))
    simp only [Act.put, List.getElem_toArray, List.getElem_cons_zero, List.getElem_cons_succ, List.setIfInBounds_toArray, List.set_cons_zero, List.set_cons_succ]
    refine wpAnyH_take (i := 3) (v := ?v3_60) rfl (by kernel_rfl) (by kernel_rfl) (by kernel_rfl) (fun _ _ _ h => h) (Or.inl ⟨by rfl, ?hy3_60⟩) (by assumption) ?rest3_60
    case hy3_60 => (intro w hSw; (try dsimp only at hSw); go_simp; try (with_reducible rfl))
    simp only [Act.put, List.getElem_toArray, List.getElem_cons_zero, List.getElem_cons_succ, List.setIfInBounds_toArray, List.set_cons_zero, List.set_cons_succ]
    refine wpAnyH_take (i := 4) (v := ?v4_61) rfl (by kernel_rfl) (by kernel_rfl) (by kernel_rfl) (fun _ _ _ h => h) (Or.inl ⟨by rfl, ?hy4_61⟩) (by assumption) ?rest4_61
    case hy4_61 => (intro w hSw; (try dsimp only at hSw); go_simp; try (with_reducible rfl))
    simp only [Act.put, List.getElem_toArray, List.getElem_cons_zero, List.getElem_cons_succ, List.setIfInBounds_toArray, List.set_cons_zero, List.set_cons_succ]
    refine wpAnyH_take (i := 5) (v := ?v5_62) rfl (by kernel_rfl) (by kernel_rfl) (by kernel_rfl) (fun _ _ _ h => h) (Or.inl ⟨by rfl, ?hy5_62⟩) (by assumption) ?rest5_62
    case hy5_62 => (intro w hSw; (try dsimp only at hSw); go_simp; try (with_reducible rfl))
    simp only [Act.put, List.getElem_toArray, List.getElem_cons_zero, List.getElem_cons_succ, List.setIfInBounds_toArray, List.set_cons_zero, List.set_cons_succ]
    refine wpAnyH_take (i := 6) (v := undef) rfl (by kernel_rfl) (by kernel_rfl) (by kernel_rfl) (fun _ _ _ h => h) (Or.inr ⟨by rfl, rfl⟩) (by assumption) ?_
    simp only [Act.put, List.getElem_toArray, List.getElem_cons_zero, List.getElem_cons_succ, List.setIfInBounds_toArray, List.set_cons_zero, List.set_cons_succ]
    refine wpAnyH_take (i := 7) (v := undef) rfl (by kernel_rfl) (by kernel_rfl) (by kernel_rfl) (fun _ _ _ h => h) (Or.inr ⟨by rfl, rfl⟩) (by assumption) ?_
    simp only [Act.put, List.getElem_toArray, List.getElem_cons_zero, List.getElem_cons_succ, List.setIfInBounds_toArray, List.set_cons_zero, List.set_cons_succ]
    refine wpAnyH_take (i := 8) (v := undef) rfl (by kernel_rfl) (by kernel_rfl) (by kernel_rfl) (fun _ _ _ h => h) (Or.inr ⟨by rfl, rfl⟩) (by assumption) ?_
    simp only [Act.put, List.getElem_toArray, List.getElem_cons_zero, List.getElem_cons_succ, List.setIfInBounds_toArray, List.set_cons_zero, List.set_cons_succ]
    refine wpAnyH_take (i := 9) (v := undef) rfl (by kernel_rfl) (by kernel_rfl) (by kernel_rfl) (fun _ _ _ h => h) (Or.inr ⟨by rfl, rfl⟩) (by assumption) ?_
    simp only [Act.put, List.getElem_toArray, List.getElem_cons_zero, List.getElem_cons_succ, List.setIfInBounds_toArray, List.set_cons_zero, List.set_cons_succ]
    refine wpAnyH_take (i := 10) (v := undef) rfl (by kernel_rfl) (by kernel_rfl) (by kernel_rfl) (fun _ _ _ h => h) (Or.inr ⟨by rfl, rfl⟩) (by assumption) ?_
    simp only [Act.put, List.getElem_toArray, List.getElem_cons_zero, List.getElem_cons_succ, List.setIfInBounds_toArray, List.set_cons_zero, List.set_cons_succ]
    refine wpAnyH_take (i := 11) (v := ?v11_63) rfl (by kernel_rfl) (by kernel_rfl) (by kernel_rfl) (fun _ _ _ h => h) (Or.inl ⟨by rfl, ?hy11_63⟩) (by assumption) ?rest11_63
    case hy11_63 => (intro w hSw; (try dsimp only at hSw); go_simp; try (with_reducible rfl))
    simp only [Act.put, List.getElem_toArray, List.getElem_cons_zero, List.getElem_cons_succ, List.setIfInBounds_toArray, List.set_cons_zero, List.set_cons_succ]
    refine wpAnyH_take (i := 12) (v := ?v12_64) rfl (by kernel_rfl) (by kernel_rfl) (by kernel_rfl) (fun _ _ _ h => h) (Or.inl ⟨by rfl, ?hy12_64⟩) (by assumption) ?rest12_64
    case hy12_64 => (intro w hSw; (try dsimp only at hSw); go_simp; try (with_reducible rfl))
    simp only [Act.put, List.getElem_toArray, List.getElem_cons_zero, List.getElem_cons_succ, List.setIfInBounds_toArray, List.set_cons_zero, List.set_cons_succ]
    refine wpAnyH_done (by kernel_rfl) ?_ _
    go_wp2
    go_ret
    exact ⟨rfl, hS.2.2.2.2.2.2.2.2.2.2.2.2.2.2.out.below⟩
end Go.Proofs.Ytdfjjajkeieocaa
