/-
  Proved: the statement on layer 12's 'an item with more than 65535 bytes is refused, and one with as many is not' (TlvLong) returns true at every input. No condition.
-/
import Derived.Test.YtflllegengomnaaRows
import Derived.Test.YtflllegengomnaaLaw12A
import Derived.Test.YtflllegengomnaaShapes
import Derived.ShutString
import Derived.ChangeOld
import Derived.Deep.RegionHeld3
import Derived.RegionCalls
namespace Go.Proofs.Ytflllegengomnaa.tlvLong
open Go.ChangeShapes Go.WideShapes Go.ChangeAt Go.RowKit
open Go.ChangeMaps (open_string shut_string)
set_option linter.unusedVariables false
set_option linter.unusedSimpArgs false
set_option maxRecDepth 10000

theorem made_z (n : Nat) : madeCells #[Value.int .u8 0] n = cellsB (List.replicate n 0) := by
  apply Array.ext
  · simp [madeCells, cellsB]
  · intro i h1 h2
    simp [madeCells, cellsB, Nat.mod_one]

set_option maxHeartbeats 4000000 in
theorem walk (a0 a1 : Int) (w : World) (w0 : (Lit.int .i64 a0).wf = true) (w1 : (Lit.int .i64 a1).wf = true) :
    Calls Try.prog 5 #[.int .i64 a0, .int .i64 a1] w fun e w' => e = .returned (.bool true) ∧ Below w.heap.size w w' := by
  have h0 := bounds_i64 w0
  have h1 := bounds_i64 w1
  by_cases t : a0 < 65000 ∨ 70000 < a0 ∨ a1 < 0 ∨ 255 < a1
  · have AW := awake12_any w
    clear w0 w1
    by_cases t1 : a0 < 65000
    · go_enter Try.func5, Try.ntmps5
      go_wp2_with (go_at_call 8; refine AW.mono ?_; rintro e w' ⟨rfl, hb⟩)
      go_ret
      exact ⟨rfl, hb⟩
    by_cases t2 : 70000 < a0
    · go_enter Try.func5, Try.ntmps5
      go_wp2_with (go_at_call 8; refine AW.mono ?_; rintro e w' ⟨rfl, hb⟩)
      go_ret
      exact ⟨rfl, hb⟩
    by_cases t3 : a1 < 0
    · go_enter Try.func5, Try.ntmps5
      go_wp2_with (go_at_call 8; refine AW.mono ?_; rintro e w' ⟨rfl, hb⟩)
      go_ret
      exact ⟨rfl, hb⟩
    · have t4 : 255 < a1 := by omega
      go_enter Try.func5, Try.ntmps5
      go_wp2_with (go_at_call 8; refine AW.mono ?_; rintro e w' ⟨rfl, hb⟩)
      go_ret
      exact ⟨rfl, hb⟩
  obtain ⟨n, rfl⟩ := Int.eq_ofNat_of_zero_le (show 0 ≤ a0 by omega)
  have t1 : ¬ (n : Int) < 65000 := fun q => t (.inl q)
  have t2 : ¬ 70000 < (n : Int) := fun q => t (.inr (.inl q))
  have t3 : ¬ a1 < 0 := fun q => t (.inr (.inr (.inl q)))
  have t4 : ¬ 255 < a1 := fun q => t (.inr (.inr (.inr q)))
  have d1 : decide ((n : Int) < 65000) = false := decide_eq_false t1
  have d2 : decide (70000 < (n : Int)) = false := decide_eq_false t2
  have d3 : decide (a1 < 0) = false := decide_eq_false t3
  have d4 : decide (255 < a1) = false := decide_eq_false t4
  have hmk := fun w => run_make_row' (P := Try.prog) 25 5 (.int .u8 0) 1 Try.underlying25 infoB rfl .i64 .i64 n (by omega) (by omega) w
  have hb1 : Below w.heap.size w (w.alloc (.cells (madeCells #[Value.int .u8 0] n) 5)) := (Below.refl _ _).alloc (Nat.le_refl _) _
  have hbi : BIn (w.alloc (.cells (madeCells #[Value.int .u8 0] n) 5)) (some ⟨w.heap.size, 0, none⟩) (List.replicate n 0) := BIn.of_block (rest := []) (e := 5) (f := (0, 0)) (by rw [heap_alloc_new, made_z]; simp [cellsB])
  have hs1 : (w.alloc (.cells (madeCells #[Value.int .u8 0] n) 5)).heap.size = w.heap.size + 1 := by simp
  obtain ⟨x1, hx1⟩ : ∃ x1, w.alloc (.cells (madeCells #[Value.int .u8 0] n) 5) = x1 := ⟨_, rfl⟩
  rw [hx1] at hb1 hbi hs1
  have hb2 : Below x1.heap.size x1 (x1.alloc (.cells #[.int .i64 a1, .slice (some ⟨w.heap.size, 0, none⟩) n n] 30)) := (Below.refl _ _).alloc (Nat.le_refl _) _
  have hn2 := heap_alloc_new x1 (.cells #[.int .i64 a1, .slice (some ⟨w.heap.size, 0, none⟩) n n] 30)
  rw [hs1] at hn2
  obtain ⟨f, hf⟩ : ∃ f : Fd, f = ⟨a1, some ⟨w.heap.size, 0, none⟩, n, List.replicate n 0⟩ := ⟨_, rfl⟩
  have hok : FOk (x1.alloc (.cells #[.int .i64 a1, .slice (some ⟨w.heap.size, 0, none⟩) n n] 30)) f := by
    rw [hf]
    exact ⟨w1, by simp, by simp only [maxLen]; omega, by simp, hbi.below hb2, by intro x hx; have := (List.mem_replicate.1 hx).2; omega, by simp only [List.length_replicate]; omega⟩
  have hfin : FIn (x1.alloc (.cells #[.int .i64 a1, .slice (some ⟨w.heap.size, 0, none⟩) n n] 30)) (some ⟨w.heap.size + 1, 0, none⟩) [f] := FIn.one12 (t := 30) (by rw [hf]; simpa using hn2) hok
  have hk : kys [f] = [(a1, List.replicate n 0)] := by rw [hf]; rfl
  have hjl : (joinK (kys [f])).length = n + 3 := by rw [hk, joinK_one, encK_len]; simp; omega
  have P1 := tjoin_any (some ⟨w.heap.size + 1, 0, none⟩) 1 [f] _ hfin (by simp [maxLen]) (by rw [hjl]; omega)
  have HB2 := Hid.mk' (hb1.trans (hb2.mono hb1.size))
  have HFL := Hid.mk' (show fltL (kys [f]) = if 65535 < n then 3 else 0 by
    rw [hk]
    show (if fltK (a1, List.replicate n 0) = 0 then 0 else fltK (a1, List.replicate n 0)) = _
    have e : fltK (a1, List.replicate n 0) = if 65535 < n then 3 else 0 := by
      show (if a1 < 0 ∨ 255 < a1 then (5 : Int) else if 65535 < (List.replicate n (0 : Int)).length then 3 else 0) = _
      rw [if_neg (by omega), List.length_replicate]
    rw [e]; split <;> rfl)
  have HG := Hid.mk' (show n ≤ 65535 → (joinK (kys [f])).getD 0 0 = a1 ∧ (joinK (kys [f])).getD 1 0 = (n : Int) / 256 ∧ (joinK (kys [f])).getD 2 0 = (n : Int) % 256 from fun h => by
    rw [hk, joinK_one]
    refine ⟨?_, ?_, ?_⟩
    · show a1 % 256 = a1; omega
    · show ((List.replicate n (0 : Int)).length : Int) / 256 % 256 = _; rw [List.length_replicate]; omega
    · show ((List.replicate n (0 : Int)).length : Int) % 256 = _; rw [List.length_replicate])
  have HJL := Hid.mk' hjl
  clear t w0 w1 hfin hok hk hjl hf hb1 hbi hb2 hn2 hs1
  go_enter Try.func5, Try.ntmps5
  subst hx1
  go_wp2_with fail
  generalize ((w.alloc (.cells (madeCells #[Value.int .u8 0] n) 5)).alloc (.cells #[.int .i64 a1, .slice (some ⟨w.heap.size, 0, none⟩) n n] 30)) = x2 at HB2 P1 ⊢
  refine P1.mono ?_
  clear P1 hmk
  rintro e x3 ⟨hj, hb3⟩
  have HB3 := Hid.mk' (HB2.out.trans (hb3.mono HB2.out.size))
  clear hb3 HB2
  by_cases u : 65535 < n
  · have u' : (65535 : Int) < n := by omega
    have hfl := HFL.out
    rw [if_pos u] at hfl
    rcases hj with ⟨h, _⟩ | ⟨_, rfl⟩
    · rw [hfl] at h; exact absurd h (by decide)
    rw [hfl]
    have AW := awake12_any x3
    clear hfl HFL HG HJL
    go_wp2_with (go_at_call 8; refine AW.mono ?_; rintro e w' ⟨rfl, hb⟩)
    go_ret
    exact ⟨rfl, HB3.out.trans (hb.mono HB3.out.size)⟩
  · have u' : ¬ (65535 : Int) < n := by omega
    have hfl := HFL.out
    rw [if_neg u] at hfl
    rcases hj with ⟨_, g, rfl, hbi, _⟩ | ⟨h, _⟩
    case inr => exact absurd hfl h
    obtain ⟨e0, e1, e2⟩ := HG.out (by omega)
    obtain ⟨b', o', he, hc⟩ := hbi (by rw [HJL.out]; omega)
    cases he
    have c0 := hc 0 (by rw [HJL.out]; omega)
    have c1 := hc 1 (by rw [HJL.out]; omega)
    have c2 := hc 2 (by rw [HJL.out]; omega)
    rw [e0] at c0
    rw [e1] at c1
    rw [e2] at c2
    simp only [Nat.zero_add] at c0 c1 c2
    rw [HJL.out]
    have HS : x3.cell? ⟨g, 0, none⟩ = some (.int .u8 a1) ∧ x3.cell? ⟨g, 1, none⟩ = some (.int .u8 ((n : Int) / 256)) ∧ x3.cell? ⟨g, 2, none⟩ = some (.int .u8 ((n : Int) % 256)) := ⟨c0, c1, c2⟩
    obtain ⟨y1, hy1⟩ : ∃ y1 : Int, (n : Int) / 256 = y1 := ⟨_, rfl⟩
    obtain ⟨y2, hy2⟩ : ∃ y2 : Int, (n : Int) % 256 = y2 := ⟨_, rfl⟩
    rw [hy1, hy2] at HS
    have z1 : 0 ≤ y1 ∧ y1 ≤ 255 := by omega
    have z2 : 0 ≤ y2 ∧ y2 ≤ 255 := by omega
    have z3 : y1 * 256 + y2 = n := by omega
    have AW := awake12_any x3.drew
    clear hfl HFL HG HJL e0 e1 e2 hbi hc c0 c1 c2 hy1 hy2
    have v1 : IntKind.i64.wrap a1 = a1 := by rw [IntKind.wrap_i64]; omega
    have v2 : IntKind.i64.wrap y1 = y1 := by rw [IntKind.wrap_i64]; omega
    have v3 : IntKind.i64.wrap y2 = y2 := by rw [IntKind.wrap_i64]; omega
    have v4 : IntKind.i64.wrap (y1 * 256) = y1 * 256 := by rw [IntKind.wrap_i64]; omega
    have v5 : IntKind.i64.wrap (y1 * 256 + y2) = n := by rw [IntKind.wrap_i64]; omega
    have v6 : IntKind.i64.wrap ((n : Int) + 3) = (n : Int) + 3 := by rw [IntKind.wrap_i64]; omega
    have k1 : (1 : Int) < (n : Int) + 3 := by omega
    have k2 : (2 : Int) < (n : Int) + 3 := by omega
    have k0 : (0 : Int) < (n : Int) + 3 := by omega
    have du : decide (65535 < (n : Int)) = false := decide_eq_false u'
    clear z1 z2 z3 u u' t1 t2 t3 t4 d1 d2 d3 d4 h0 h1
    go_upto_region 6 with fail
    have hSd : x3.drew.cell? ⟨g, 0, none⟩ = some (.int .u8 a1) ∧ x3.drew.cell? ⟨g, 1, none⟩ = some (.int .u8 y1) ∧ x3.drew.cell? ⟨g, 2, none⟩ = some (.int .u8 y2) := HS
    have HBd := Hid.mk' (show Below w.heap.size w x3.drew from HB3.out.drew)
    clear HS HB3
    go_wp2_with fail
    refine wp_region_held_drew (S := fun X => X.cell? ⟨g, 0, none⟩ = some (.int .u8 a1) ∧ X.cell? ⟨g, 1, none⟩ = some (.int .u8 y1) ∧ X.cell? ⟨g, 2, none⟩ = some (.int .u8 y2)) (by kernel_rfl) hSd (fun hS => ?_)
    clear hSd
    generalize x3.drew = x4 at hS HBd AW ⊢
    refine wpAnyH_take (i := 0) (v := ?v0_9) rfl (by kernel_rfl) (by kernel_rfl) (by kernel_rfl) (fun _ _ _ h => h) (Or.inl ⟨by rfl, ?hy0_9⟩) (by assumption) ?rest0_9
    case hy0_9 => (intro w hSw; (try dsimp only at hSw); go_simp; try (with_reducible rfl))
    simp only [Act.put, List.getElem_toArray, List.getElem_cons_zero, List.getElem_cons_succ, List.setIfInBounds_toArray, List.set_cons_zero, List.set_cons_succ]
    refine wpAnyH_take (i := 1) (v := ?v1_10) rfl (by kernel_rfl) (by kernel_rfl) (by kernel_rfl) (fun _ _ _ h => h) (Or.inl ⟨by rfl, ?hy1_10⟩) (by assumption) ?rest1_10
    case hy1_10 => (intro w hSw; (try dsimp only at hSw); go_simp; try (with_reducible rfl))
    simp only [Act.put, List.getElem_toArray, List.getElem_cons_zero, List.getElem_cons_succ, List.setIfInBounds_toArray, List.set_cons_zero, List.set_cons_succ]
    refine wpAnyH_take (i := 2) (v := ?v2_11) rfl (by kernel_rfl) (by kernel_rfl) (by kernel_rfl) (fun _ _ _ h => h) (Or.inl ⟨by rfl, ?hy2_11⟩) (by assumption) ?rest2_11
    case hy2_11 => (intro w hSw; (try dsimp only at hSw); go_simp; try (with_reducible rfl))
    simp only [Act.put, List.getElem_toArray, List.getElem_cons_zero, List.getElem_cons_succ, List.setIfInBounds_toArray, List.set_cons_zero, List.set_cons_succ]
    refine wpAnyH_take (i := 3) (v := ?v3_12) rfl (by kernel_rfl) (by kernel_rfl) (by kernel_rfl) (fun _ _ _ h => h) (Or.inl ⟨by rfl, ?hy3_12⟩) (by assumption) ?rest3_12
    case hy3_12 => (intro w hSw; (try dsimp only at hSw); go_simp; try (with_reducible rfl))
    simp only [Act.put, List.getElem_toArray, List.getElem_cons_zero, List.getElem_cons_succ, List.setIfInBounds_toArray, List.set_cons_zero, List.set_cons_succ]
    refine wpAnyH_take (i := 4) (v := ?v4_13) rfl (by kernel_rfl) (by kernel_rfl) (by kernel_rfl) (fun _ _ _ h => h) (Or.inl ⟨by rfl, ?hy4_13⟩) (by assumption) ?rest4_13
    case hy4_13 => (intro w hSw; (try dsimp only at hSw); go_simp; try (with_reducible rfl))
    simp only [Act.put, List.getElem_toArray, List.getElem_cons_zero, List.getElem_cons_succ, List.setIfInBounds_toArray, List.set_cons_zero, List.set_cons_succ]
    refine wpAnyH_take (i := 5) (v := ?v5_14) rfl (by kernel_rfl) (by kernel_rfl) (by kernel_rfl) (fun _ _ _ h => h) (Or.inl ⟨by rfl, ?hy5_14⟩) (by assumption) ?rest5_14
    case hy5_14 => (intro w hSw; (try dsimp only at hSw); go_simp; try (with_reducible rfl))
    simp only [Act.put, List.getElem_toArray, List.getElem_cons_zero, List.getElem_cons_succ, List.setIfInBounds_toArray, List.set_cons_zero, List.set_cons_succ]
    refine wpAnyH_take (i := 6) (v := ?v6_15) rfl (by kernel_rfl) (by kernel_rfl) (by kernel_rfl) (fun _ _ _ h => h) (Or.inl ⟨by rfl, ?hy6_15⟩) (by assumption) ?rest6_15
    case hy6_15 => (intro w hSw; (try dsimp only at hSw); go_simp; try (with_reducible rfl))
    simp only [Act.put, List.getElem_toArray, List.getElem_cons_zero, List.getElem_cons_succ, List.setIfInBounds_toArray, List.set_cons_zero, List.set_cons_succ]
    refine wpAnyH_take (i := 7) (v := ?v7_16) rfl (by kernel_rfl) (by kernel_rfl) (by kernel_rfl) (fun _ _ _ h => h) (Or.inl ⟨by rfl, ?hy7_16⟩) (by assumption) ?rest7_16
    case hy7_16 => (intro w hSw; (try dsimp only at hSw); go_simp; try (with_reducible rfl))
    simp only [Act.put, List.getElem_toArray, List.getElem_cons_zero, List.getElem_cons_succ, List.setIfInBounds_toArray, List.set_cons_zero, List.set_cons_succ]
    refine wpAnyH_take (i := 8) (v := ?v8_17) rfl (by kernel_rfl) (by kernel_rfl) (by kernel_rfl) (fun _ _ _ h => h) (Or.inl ⟨by rfl, ?hy8_17⟩) (by assumption) ?rest8_17
    case hy8_17 => (intro w hSw; (try dsimp only at hSw); go_simp; try (with_reducible rfl))
    simp only [Act.put, List.getElem_toArray, List.getElem_cons_zero, List.getElem_cons_succ, List.setIfInBounds_toArray, List.set_cons_zero, List.set_cons_succ]
    refine wpAnyH_take (i := 9) (v := ?v9_18) rfl (by kernel_rfl) (by kernel_rfl) (by kernel_rfl) (fun _ _ _ h => h) (Or.inl ⟨by rfl, ?hy9_18⟩) (by assumption) ?rest9_18
    case hy9_18 => (intro w hSw; (try dsimp only at hSw); go_simp; try (with_reducible rfl))
    simp only [Act.put, List.getElem_toArray, List.getElem_cons_zero, List.getElem_cons_succ, List.setIfInBounds_toArray, List.set_cons_zero, List.set_cons_succ]
    refine wpAnyH_take (i := 10) (v := ?v10_19) rfl (by kernel_rfl) (by kernel_rfl) (by kernel_rfl) (fun _ _ _ h => h) (Or.inl ⟨by rfl, ?hy10_19⟩) (by assumption) ?rest10_19
    case hy10_19 => (intro w hSw; (try dsimp only at hSw); go_simp; try (with_reducible rfl))
    simp only [Act.put, List.getElem_toArray, List.getElem_cons_zero, List.getElem_cons_succ, List.setIfInBounds_toArray, List.set_cons_zero, List.set_cons_succ]
    refine wpAnyH_take (i := 11) (v := ?v11_20) rfl (by kernel_rfl) (by kernel_rfl) (by kernel_rfl) (fun _ _ _ h => h) (Or.inl ⟨by rfl, ?hy11_20⟩) (by assumption) ?rest11_20
    case hy11_20 => (intro w hSw; (try dsimp only at hSw); go_simp; try (with_reducible rfl))
    simp only [Act.put, List.getElem_toArray, List.getElem_cons_zero, List.getElem_cons_succ, List.setIfInBounds_toArray, List.set_cons_zero, List.set_cons_succ]
    refine wpAnyH_take (i := 12) (v := ?v12_21) rfl (by kernel_rfl) (by kernel_rfl) (by kernel_rfl) (fun _ _ _ h => h) (Or.inl ⟨by rfl, ?hy12_21⟩) (by assumption) ?rest12_21
    case hy12_21 => (intro w hSw; (try dsimp only at hSw); go_simp; try (with_reducible rfl))
    simp only [Act.put, List.getElem_toArray, List.getElem_cons_zero, List.getElem_cons_succ, List.setIfInBounds_toArray, List.set_cons_zero, List.set_cons_succ]
    refine wpAnyH_take (i := 13) (v := ?v13_22) rfl (by kernel_rfl) (by kernel_rfl) (by kernel_rfl) (fun _ _ _ h => h) (Or.inl ⟨by rfl, ?hy13_22⟩) (by assumption) ?rest13_22
    case hy13_22 => (intro w hSw; (try dsimp only at hSw); go_simp; try (with_reducible rfl))
    simp only [Act.put, List.getElem_toArray, List.getElem_cons_zero, List.getElem_cons_succ, List.setIfInBounds_toArray, List.set_cons_zero, List.set_cons_succ]
    refine wpAnyH_take (i := 14) (v := ?v14_23) rfl (by kernel_rfl) (by kernel_rfl) (by kernel_rfl) (fun _ _ _ h => h) (Or.inl ⟨by rfl, ?hy14_23⟩) (by assumption) ?rest14_23
    case hy14_23 => (intro w hSw; (try dsimp only at hSw); go_simp; try (with_reducible rfl))
    simp only [Act.put, List.getElem_toArray, List.getElem_cons_zero, List.getElem_cons_succ, List.setIfInBounds_toArray, List.set_cons_zero, List.set_cons_succ]
    refine wpAnyH_take (i := 15) (v := ?v15_24) rfl (by kernel_rfl) (by kernel_rfl) (by kernel_rfl) (fun _ _ _ h => h) (Or.inl ⟨by rfl, ?hy15_24⟩) (by assumption) ?rest15_24
    case hy15_24 => (intro w hSw; (try dsimp only at hSw); go_simp; try (with_reducible rfl))
    simp only [Act.put, List.getElem_toArray, List.getElem_cons_zero, List.getElem_cons_succ, List.setIfInBounds_toArray, List.set_cons_zero, List.set_cons_succ]
    refine wpAnyH_take (i := 16) (v := ?v16_25) rfl (by kernel_rfl) (by kernel_rfl) (by kernel_rfl) (fun _ _ _ h => h) (Or.inl ⟨by rfl, ?hy16_25⟩) (by assumption) ?rest16_25
    case hy16_25 => (intro w hSw; (try dsimp only at hSw); go_simp; try (with_reducible rfl))
    simp only [Act.put, List.getElem_toArray, List.getElem_cons_zero, List.getElem_cons_succ, List.setIfInBounds_toArray, List.set_cons_zero, List.set_cons_succ]
    refine wpAnyH_take (i := 17) (v := ?v17_26) rfl (by kernel_rfl) (by kernel_rfl) (by kernel_rfl) (fun _ _ _ h => h) (Or.inl ⟨by rfl, ?hy17_26⟩) (by assumption) ?rest17_26
    case hy17_26 => (intro w hSw; (try dsimp only at hSw); go_simp; try (with_reducible rfl))
    simp only [Act.put, List.getElem_toArray, List.getElem_cons_zero, List.getElem_cons_succ, List.setIfInBounds_toArray, List.set_cons_zero, List.set_cons_succ]
    refine wpAnyH_take (i := 18) (v := ?v18_27) rfl (by kernel_rfl) (by kernel_rfl) (by kernel_rfl) (fun _ _ _ h => h) (Or.inl ⟨by rfl, ?hy18_27⟩) (by assumption) ?rest18_27
    case hy18_27 => (intro w hSw; (try dsimp only at hSw); go_simp; try (with_reducible rfl))
    simp only [Act.put, List.getElem_toArray, List.getElem_cons_zero, List.getElem_cons_succ, List.setIfInBounds_toArray, List.set_cons_zero, List.set_cons_succ]
    refine wpAnyH_take (i := 19) (v := ?v19_28) rfl (by kernel_rfl) (by kernel_rfl) (by kernel_rfl) (fun _ _ _ h => h) (Or.inl ⟨by rfl, ?hy19_28⟩) (by assumption) ?rest19_28
    case hy19_28 => (intro w hSw; (try dsimp only at hSw); go_simp; try (with_reducible rfl))
    simp only [Act.put, List.getElem_toArray, List.getElem_cons_zero, List.getElem_cons_succ, List.setIfInBounds_toArray, List.set_cons_zero, List.set_cons_succ]
    refine wpAnyH_take (i := 20) (v := ?v20_29) rfl (by kernel_rfl) (by kernel_rfl) (by kernel_rfl) (fun _ _ _ h => h) (Or.inl ⟨by rfl, ?hy20_29⟩) (by assumption) ?rest20_29
    case hy20_29 => (intro w hSw; (try dsimp only at hSw); go_simp; try (with_reducible rfl))
    simp only [Act.put, List.getElem_toArray, List.getElem_cons_zero, List.getElem_cons_succ, List.setIfInBounds_toArray, List.set_cons_zero, List.set_cons_succ]
    refine wpAnyH_take (i := 21) (v := ?v21_30) rfl (by kernel_rfl) (by kernel_rfl) (by kernel_rfl) (fun _ _ _ h => h) (Or.inl ⟨by rfl, ?hy21_30⟩) (by assumption) ?rest21_30
    case hy21_30 => (intro w hSw; (try dsimp only at hSw); go_simp; try (with_reducible rfl))
    simp only [Act.put, List.getElem_toArray, List.getElem_cons_zero, List.getElem_cons_succ, List.setIfInBounds_toArray, List.set_cons_zero, List.set_cons_succ]
    refine wpAnyH_take (i := 22) (v := ?v22_31) rfl (by kernel_rfl) (by kernel_rfl) (by kernel_rfl) (fun _ _ _ h => h) (Or.inl ⟨by rfl, ?hy22_31⟩) (by assumption) ?rest22_31
    case hy22_31 => (intro w hSw; (try dsimp only at hSw); go_simp; try (with_reducible rfl))
    simp only [Act.put, List.getElem_toArray, List.getElem_cons_zero, List.getElem_cons_succ, List.setIfInBounds_toArray, List.set_cons_zero, List.set_cons_succ]
    refine wpAnyH_take (i := 23) (v := ?v23_32) rfl (by kernel_rfl) (by kernel_rfl) (by kernel_rfl) (fun _ _ _ h => h) (Or.inl ⟨by rfl, ?hy23_32⟩) (by assumption) ?rest23_32
    case hy23_32 => (intro w hSw; (try dsimp only at hSw); go_simp; try (with_reducible rfl))
    simp only [Act.put, List.getElem_toArray, List.getElem_cons_zero, List.getElem_cons_succ, List.setIfInBounds_toArray, List.set_cons_zero, List.set_cons_succ]
    refine wpAnyH_take (i := 24) (v := ?v24_33) rfl (by kernel_rfl) (by kernel_rfl) (by kernel_rfl) (fun _ _ _ h => h) (Or.inl ⟨by rfl, ?hy24_33⟩) (by assumption) ?rest24_33
    case hy24_33 => (intro w hSw; (try dsimp only at hSw); go_simp; try (with_reducible rfl))
    simp only [Act.put, List.getElem_toArray, List.getElem_cons_zero, List.getElem_cons_succ, List.setIfInBounds_toArray, List.set_cons_zero, List.set_cons_succ]
    refine wpAnyH_take (i := 25) (v := ?v25_34) rfl (by kernel_rfl) (by kernel_rfl) (by kernel_rfl) (fun _ _ _ h => h) (Or.inl ⟨by rfl, ?hy25_34⟩) (by assumption) ?rest25_34
    case hy25_34 => (intro w hSw; (try dsimp only at hSw); go_simp; try (with_reducible rfl))
    simp only [Act.put, List.getElem_toArray, List.getElem_cons_zero, List.getElem_cons_succ, List.setIfInBounds_toArray, List.set_cons_zero, List.set_cons_succ]
    refine wpAnyH_take (i := 26) (v := ?v26_35) rfl (by kernel_rfl) (by kernel_rfl) (by kernel_rfl) (fun _ _ _ h => h) (Or.inl ⟨by rfl, ?hy26_35⟩) (by assumption) ?rest26_35
    case hy26_35 => (intro w hSw; (try dsimp only at hSw); go_simp; try (with_reducible rfl))
    simp only [Act.put, List.getElem_toArray, List.getElem_cons_zero, List.getElem_cons_succ, List.setIfInBounds_toArray, List.set_cons_zero, List.set_cons_succ]
    refine wpAnyH_take (i := 27) (v := ?v27_36) rfl (by kernel_rfl) (by kernel_rfl) (by kernel_rfl) (fun _ _ _ h => h) (Or.inl ⟨by rfl, ?hy27_36⟩) (by assumption) ?rest27_36
    case hy27_36 => (intro w hSw; (try dsimp only at hSw); go_simp; try (with_reducible rfl))
    simp only [Act.put, List.getElem_toArray, List.getElem_cons_zero, List.getElem_cons_succ, List.setIfInBounds_toArray, List.set_cons_zero, List.set_cons_succ]
    refine wpAnyH_take (i := 28) (v := ?v28_37) rfl (by kernel_rfl) (by kernel_rfl) (by kernel_rfl) (fun _ _ _ h => h) (Or.inl ⟨by rfl, ?hy28_37⟩) (by assumption) ?rest28_37
    case hy28_37 => (intro w hSw; (try dsimp only at hSw); go_simp; try (with_reducible rfl))
    simp only [Act.put, List.getElem_toArray, List.getElem_cons_zero, List.getElem_cons_succ, List.setIfInBounds_toArray, List.set_cons_zero, List.set_cons_succ]
    refine wpAnyH_take (i := 29) (v := ?v29_38) rfl (by kernel_rfl) (by kernel_rfl) (by kernel_rfl) (fun _ _ _ h => h) (Or.inl ⟨by rfl, ?hy29_38⟩) (by assumption) ?rest29_38
    case hy29_38 => (intro w hSw; (try dsimp only at hSw); go_simp; try (with_reducible rfl))
    simp only [Act.put, List.getElem_toArray, List.getElem_cons_zero, List.getElem_cons_succ, List.setIfInBounds_toArray, List.set_cons_zero, List.set_cons_succ]
    refine wpAnyH_take (i := 30) (v := ?v30_39) rfl (by kernel_rfl) (by kernel_rfl) (by kernel_rfl) (fun _ _ _ h => h) (Or.inl ⟨by rfl, ?hy30_39⟩) (by assumption) ?rest30_39
    case hy30_39 => (intro w hSw; (try dsimp only at hSw); go_simp; try (with_reducible rfl))
    simp only [Act.put, List.getElem_toArray, List.getElem_cons_zero, List.getElem_cons_succ, List.setIfInBounds_toArray, List.set_cons_zero, List.set_cons_succ]
    refine wpAnyH_take (i := 31) (v := ?v31_40) rfl (by kernel_rfl) (by kernel_rfl) (by kernel_rfl) (fun _ _ _ h => h) (Or.inl ⟨by rfl, ?hy31_40⟩) (by assumption) ?rest31_40
    case hy31_40 => (intro w hSw; (try dsimp only at hSw); go_simp; try (with_reducible rfl))
    simp only [Act.put, List.getElem_toArray, List.getElem_cons_zero, List.getElem_cons_succ, List.setIfInBounds_toArray, List.set_cons_zero, List.set_cons_succ]
    refine wpAnyH_ready (rs := [32]) (by kernel_rfl) (by simp) ?_
    refine (AllReadyH.cons rfl (fun K hK => ?_) AllReadyH.nil)
    go_simp
    refine AW.mono ?_
    rintro e x5 ⟨rfl, hb5⟩
    have hS5 : x5.cell? ⟨g, 0, none⟩ = some (.int .u8 a1) ∧ x5.cell? ⟨g, 1, none⟩ = some (.int .u8 y1) ∧ x5.cell? ⟨g, 2, none⟩ = some (.int .u8 y2) := ⟨by rw [hb5.cell (p := ⟨g, 0, none⟩) (lt_of_cell hS.1)]; exact hS.1, by rw [hb5.cell (p := ⟨g, 1, none⟩) (lt_of_cell hS.2.1)]; exact hS.2.1, by rw [hb5.cell (p := ⟨g, 2, none⟩) (lt_of_cell hS.2.2)]; exact hS.2.2⟩
    have HB5 := Hid.mk' (HBd.out.trans (hb5.mono HBd.out.size))
    clear hb5 HBd
    go_wp2_with fail
    refine hK.out _ _ ?_ (fun hS' => ?_)
    · exact hS5
    clear hK K
    try simp only [Act.put, List.getElem_toArray, List.getElem_cons_zero, List.getElem_cons_succ, List.setIfInBounds_toArray, List.set_cons_zero, List.set_cons_succ]
    replace hS := hS'
    clear hS'
    refine wpAnyH_take (i := 33) (v := ?v33_41) rfl (by kernel_rfl) (by kernel_rfl) (by kernel_rfl) (fun _ _ _ h => h) (Or.inl ⟨by rfl, ?hy33_41⟩) (by assumption) ?rest33_41
    case hy33_41 => (intro w hSw; (try dsimp only at hSw); go_simp; try (with_reducible rfl))
    simp only [Act.put, List.getElem_toArray, List.getElem_cons_zero, List.getElem_cons_succ, List.setIfInBounds_toArray, List.set_cons_zero, List.set_cons_succ]
    refine wpAnyH_take (i := 34) (v := ?v34_42) rfl (by kernel_rfl) (by kernel_rfl) (by kernel_rfl) (fun _ _ _ h => h) (Or.inl ⟨by rfl, ?hy34_42⟩) (by assumption) ?rest34_42
    case hy34_42 => (intro w hSw; (try dsimp only at hSw); go_simp; try (with_reducible rfl))
    simp only [Act.put, List.getElem_toArray, List.getElem_cons_zero, List.getElem_cons_succ, List.setIfInBounds_toArray, List.set_cons_zero, List.set_cons_succ]
    refine wpAnyH_done (by kernel_rfl) ?_ _
    go_wp2_with fail
    go_ret
    exact ⟨rfl, HB5.out⟩

theorem own : ownKnob Try.prog.godebug = none := by kernel_rfl
theorem laidOut : laidOutB Try.prog = true := by kernel_rfl

set_option maxRecDepth 100000 in
theorem lifted (os : Os) (started : os.Started) (H : Type) (enc : TypeId × Value → H) :
    ReturnsInHanded {} Try.checked os 5 .any (Rows.tlvLongSpec.pre6 enc Try.prog Try.f5 Rows.tlvLongRow.domain false) (Rows.tlvLongSpec.post enc Try.prog Try.f5 false true false false) := by
  refine returnsInHanded_of_change (C := Try.checked) own started (by kernel_rfl) Try.func5
    (ChangeSpec.witness6 (enc := enc) (C := Try.checked) false ⟨#[], #[.int .i64 0, .int .i64 0], []⟩ 8 (by kernel_rfl) (by kernel_rfl) (by kernel_rfl) (by kernel_rfl)) ?_
  intro W base args ds gs before hval0 hW hcnd _
  have hval : ∀ (j : Nat) t v, Try.f5.params[j]? = some t → args[j]? = some v → Value.okWide Try.prog W .any base t v := hval0
  have hW' := hW
  obtain ⟨p, q, hA0, hV, rfl, hfz, hnd⟩ := hW
  have hA : DataW.TrodAll enc Try.prog W 0 (fun _ => true) true Try.f5.params.toList args.toList ds p := hA0
  rw [Try.params5] at hA hval
  obtain ⟨v0, vs0, d0, ds0, p0x, q0, hargs, rfl, rfl, h0, r0⟩ := trodAll_cons hA
  obtain ⟨v1, vs1, d1, ds1, p1x, q1, rfl, rfl, rfl, h1, r1⟩ := trodAll_cons r0
  obtain ⟨rfl, rfl, rfl⟩ := trodAll_nil r1
  obtain rfl : args = #[v0, v1] := by cases args; simp_all
  obtain ⟨rfl, rfl⟩ := trodVars_none hV
  obtain ⟨a0, rfl, rfl, rfl, w0⟩ := open_int Try.underlying3 (hval 0 3 v0 rfl rfl) h0
  obtain ⟨a1, rfl, rfl, rfl, w1⟩ := open_int Try.underlying3 (hval 1 3 v1 rfl rfl) h1
  clear hA0 hval0
  refine (walk a0 a1 W w0 w1).mono fun e W' ⟨he, bel⟩ => ?_
  subst he
  exact ⟨_, rfl, _, _, _, [], _, [], hW', trodAll_mk1 (shut_bool Try.underlying4 _), (trodAll_cons_mk (shut_int Try.underlying3 w0) (trodAll_cons_mk (shut_int Try.underlying3 w1) trodAll_mk0)), rfl, bel.frame _, fun h => by cases h⟩

theorem over : Rows.tlvLongRow.holds Try.pinned (OpenSpec.ofChange Rows.tlvLongSpec) :=
  OpenClaim.holds_of_wide 5 Try.f5 rfl rfl rfl rfl rfl rfl rfl ⟨rfl, rfl, rfl, rfl, rfl⟩ rfl rfl rfl rfl rfl (by kernel_rfl) Try.func5 (by kernel_rfl)
    (of_decide_eq_true (by kernel_rfl)) (by unfold Func.isWrapper; first | (rw [if_pos (by decide +kernel)]; kernel_rfl) | (rw [if_neg (by decide +kernel)]; exact ⟨rfl, rfl⟩))
    (fun os started H enc _ => lifted os started H enc)

/-- The given statement. -/
theorem proved : Rows.TlvLongSaid := over
#print axioms proved
end Go.Proofs.Ytflllegengomnaa.tlvLong
