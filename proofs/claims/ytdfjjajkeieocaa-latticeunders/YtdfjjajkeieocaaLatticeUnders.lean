/-
  Proved: the statement on when a list of layer 9 is under another one (LatticeUnders) returns true at every input, and leaves its arguments as they were. No condition.
-/
import Derived.Test.YtdfjjajkeieocaaRows
import Derived.Test.YtdfjjajkeieocaaLatU
import Derived.Test.YtdfjjajkeieocaaRecX
import Derived.ShutString
import Derived.ChangeOld
namespace Go.Proofs.Ytdfjjajkeieocaa.latticeUnders
open Go.ChangeShapes Go.WideShapes Go.ChangeAt Go.RowKit
open Go.ChangeMaps (open_string shut_string)
set_option linter.unusedVariables false
set_option synthInstance.maxSize 2000
set_option linter.unusedSimpArgs false

set_option maxHeartbeats 16000000 in
set_option maxRecDepth 10000 in
theorem walk (p0 : Option Addr) (c0 : Nat) (l : List Rc) (p1 : Option Addr) (c1 : Nat) (m : List Rc) (w : World) (hlc0 : l.length ≤ c0) (hcm0 : c0 ≤ maxLen) (hp0 : p0 = none → c0 = 0) (hin0 : RIn w p0 l) (hlc1 : m.length ≤ c1) (hcm1 : c1 ≤ maxLen) (hp1 : p1 = none → c1 = 0) (hin1 : RIn w p1 m) :
    Calls Try.prog 8 #[.slice p0 l.length c0, .slice p1 m.length c1] w fun e w' => e = .returned (.bool true) ∧ Below w.heap.size w w' := by
  have AW := fun X => awake9_any X
  have n0 := Nat.le_trans hlc0 hcm0
  have n1 := Nat.le_trans hlc1 hcm1
  have F0 := lfew_any p0 c0 l w hin0 n0
  have F1 := lfew_any p1 c1 m w hin1 n1
  obtain ⟨f0, hf0⟩ : ∃ f, fewR (rks l) = f := ⟨_, rfl⟩
  obtain ⟨f1, hf1⟩ : ∃ f, fewR (rks m) = f := ⟨_, rfl⟩
  rw [hf0] at F0
  rw [hf1] at F1
  have HF0 := Hid.mk' hf0
  have HF1 := Hid.mk' hf1
  have HN := Hid.mk' (And.intro n0 n1)
  have HI0 := Hid.mk' hin0
  have HI1 := Hid.mk' hin1
  clear hf0 hf1 n0 n1 hin0 hin1 hlc0 hcm0 hp0 hlc1 hcm1 hp1
  go_enter Try.func8, Try.ntmps8
  go_wp2_with fail
  refine F0.mono ?_
  rintro e x1 ⟨rfl, rfl⟩
  clear F0
  cases f0
  · go_wp2_with fail
    refine (AW _).mono ?_
    rintro e x2 ⟨rfl, hb2⟩
    have HB2 := Hid.mk' hb2
    clear hb2
    go_wp2_with fail
    go_ret
    exact ⟨rfl, HB2.out⟩
  go_wp2_with fail
  refine F1.mono ?_
  rintro e x1 ⟨rfl, rfl⟩
  clear F1
  cases f1
  · go_wp2_with fail
    refine (AW _).mono ?_
    rintro e x2 ⟨rfl, hb2⟩
    have HB2 := Hid.mk' hb2
    clear hb2
    go_wp2_with fail
    go_ret
    exact ⟨rfl, HB2.out⟩
  have hl20 := (fewR_yes HF0.out).1
  have hm20 := (fewR_yes HF1.out).1
  clear HF0 HF1
  go_wp2_with fail
  go_loopw [5, 6] (fun wt i W => ∃ k : Nat, k ≤ l.length ∧ i = .int .i64 k ∧ wt = .bool (underK (l.take k) m) ∧ Hid (Below w.heap.size w W)) (fun _ i _ => l.length - (intOf i).toNat)
  case atStart => exact ⟨0, by omega, rfl, by simp [underK], Below.refl _ _⟩
  case round =>
    obtain ⟨k, hk, rfl, rfl, HB⟩ := hrel
    by_cases t : k < l.length
    · rename World => wo
      obtain ⟨b, o, rfl, hcs⟩ := (HI0.out.below HB.out).at (by omega)
      obtain ⟨hx, hok⟩ := hcs k t
      have HN2 := Hid.mk' (underK_next l m k t)
      generalize l.getD k zr = x at hx hok HN2
      obtain ⟨sw, hsw⟩ : ∃ sw, underK (l.take k) m = sw := ⟨_, rfl⟩
      rw [hsw] at HN2 ⊢
      have HX := Hid.mk' (show ∀ X, Below wo.heap.size wo X → RAt X b (o + k * 7) x ∧ ROk X x from fun X h => ⟨hx.below h, hok.below h⟩)
      clear hcs hx hok hsw
      go_wp2_with fail
      go_loopw [7, 8] (fun fo j W => ∃ i : Nat, i ≤ m.length ∧ j = .int .i64 i ∧ fo = .bool (anyB (rk x) (m.take i)) ∧ Hid (Below wo.heap.size wo W)) (fun _ j _ => m.length - (intOf j).toNat)
      case atStart => exact ⟨0, by omega, rfl, by simp [anyB], Below.refl _ _⟩
      case round =>
        obtain ⟨i, hi, rfl, rfl, HC⟩ := hrel
        by_cases ti : i < m.length
        · obtain ⟨b2, o2, rfl, hcs⟩ := (HI1.out.below (HB.out.trans (HC.out.mono HB.out.size))).at (by omega)
          obtain ⟨hy, hyo⟩ := hcs i ti
          have HA := Hid.mk' (anyB_next (rk x) m i ti)
          generalize m.getD i zr = y at hy hyo HA
          have HXY := Hid.mk' (show ∀ X, Below wo.heap.size wo X → Below wr.heap.size wr X → X.cell? ⟨b, o + k * 7, none⟩ = some (.int .i64 x.id) ∧ X.cell? ⟨b, o + k * 7 + 1, none⟩ = some (.int .i64 x.inc) ∧ X.cell? ⟨b, o + k * 7 + 2, none⟩ = some (.int .i64 x.st) ∧ X.cell? ⟨b, o + k * 7 + 3, none⟩ = some (.int .i64 x.lo) ∧ X.cell? ⟨b, o + k * 7 + 4, none⟩ = some (.int .i64 x.hi) ∧ X.cell? ⟨b, o + k * 7 + 5, none⟩ = some (.bool x.cut) ∧ X.cell? ⟨b, o + k * 7 + 6, none⟩ = some (.slice x.p x.bag.length x.cap) ∧ X.cell? ⟨b2, o2 + i * 7, none⟩ = some (.int .i64 y.id) ∧ X.cell? ⟨b2, o2 + i * 7 + 1, none⟩ = some (.int .i64 y.inc) ∧ X.cell? ⟨b2, o2 + i * 7 + 2, none⟩ = some (.int .i64 y.st) ∧ X.cell? ⟨b2, o2 + i * 7 + 3, none⟩ = some (.int .i64 y.lo) ∧ X.cell? ⟨b2, o2 + i * 7 + 4, none⟩ = some (.int .i64 y.hi) ∧ X.cell? ⟨b2, o2 + i * 7 + 5, none⟩ = some (.bool y.cut) ∧ X.cell? ⟨b2, o2 + i * 7 + 6, none⟩ = some (.slice y.p y.bag.length y.cap) ∧ Hid (Below wo.heap.size wo X) ∧ Hid (Below wr.heap.size wr X) from fun X h h2 => by
            obtain ⟨e0, e1, e2, e3, e4, e5, e6⟩ := (HX.out X h).1
            obtain ⟨g0, g1, g2, g3, g4, g5, g6⟩ := hy.below h2
            exact ⟨e0, e1, e2, e3, e4, e5, e6, g0, g1, g2, g3, g4, g5, g6, h, h2⟩)
          have HYO := Hid.mk' hyo
          obtain ⟨f, hf⟩ : ∃ f, anyB (rk x) (m.take i) = f := ⟨_, rfl⟩
          rw [hf] at HA ⊢
          have HBK := Hid.mk' (show belK (rk x) (rk y) = (decide (x.id = y.id) && decide (rk (joinR x y) = rk y)) by rw [rk_join]; rfl)
          have J := fun X (h : Below wo.heap.size wo X) (h2 : Below wr.heap.size wr X) => ljoin_any x y X (HX.out X h).2 (HYO.out.below h2)
          have L := fun X (h : Below wo.heap.size wo X) (h2 : Below wr.heap.size wr X) => lalike_any (joinR x y) y X (joinR_ok (HX.out X h).2 (HYO.out.below h2)) (HYO.out.below h2)
          generalize decide (rk (joinR x y) = rk y) = d2 at L HBK
          generalize joinR x y = z at J L
          clear hcs hy hyo hf
          have hS0 := HXY.out _ HC.out.drew (Below.refl _ _).drew
          go_upto_region 11 with fail
          go_cut [56] (fun t wx => t = .bool (belK (rk x) (rk y)) ∧ Hid (Below wo.heap.size wo wx))
          case first =>
            by_cases q : x.id = y.id
            · have dq : (x.id == y.id) = true := by simpa using q
              have HE := Hid.mk' (show belK (rk x) (rk y) = d2 by rw [HBK.out, decide_eq_true q]; simp)
              clear q HBK
              refine wp_region_held_drew (S := fun X => X.cell? ⟨b, o + k * 7, none⟩ = some (.int .i64 x.id) ∧ X.cell? ⟨b, o + k * 7 + 1, none⟩ = some (.int .i64 x.inc) ∧ X.cell? ⟨b, o + k * 7 + 2, none⟩ = some (.int .i64 x.st) ∧ X.cell? ⟨b, o + k * 7 + 3, none⟩ = some (.int .i64 x.lo) ∧ X.cell? ⟨b, o + k * 7 + 4, none⟩ = some (.int .i64 x.hi) ∧ X.cell? ⟨b, o + k * 7 + 5, none⟩ = some (.bool x.cut) ∧ X.cell? ⟨b, o + k * 7 + 6, none⟩ = some (.slice x.p x.bag.length x.cap) ∧ X.cell? ⟨b2, o2 + i * 7, none⟩ = some (.int .i64 y.id) ∧ X.cell? ⟨b2, o2 + i * 7 + 1, none⟩ = some (.int .i64 y.inc) ∧ X.cell? ⟨b2, o2 + i * 7 + 2, none⟩ = some (.int .i64 y.st) ∧ X.cell? ⟨b2, o2 + i * 7 + 3, none⟩ = some (.int .i64 y.lo) ∧ X.cell? ⟨b2, o2 + i * 7 + 4, none⟩ = some (.int .i64 y.hi) ∧ X.cell? ⟨b2, o2 + i * 7 + 5, none⟩ = some (.bool y.cut) ∧ X.cell? ⟨b2, o2 + i * 7 + 6, none⟩ = some (.slice y.p y.bag.length y.cap) ∧ Hid (Below wo.heap.size wo X) ∧ Hid (Below wr.heap.size wr X)) (by kernel_rfl) hS0 (fun hS => ?_)
              clear hS0
              generalize wr.drew = wd at hS ⊢
              refine wpAnyH_take (i := 0) (v := ?v0_65) rfl (by kernel_rfl) (by kernel_rfl) (by kernel_rfl) (fun _ _ _ h => h) (Or.inl ⟨by rfl, ?hy0_65⟩) (by assumption) ?rest0_65
              case hy0_65 => (intro w hSw; (try dsimp only at hSw); go_simp; try (with_reducible rfl))
              simp only [Act.put, List.getElem_toArray, List.getElem_cons_zero, List.getElem_cons_succ, List.setIfInBounds_toArray, List.set_cons_zero, List.set_cons_succ]
              refine wpAnyH_take (i := 1) (v := ?v1_66) rfl (by kernel_rfl) (by kernel_rfl) (by kernel_rfl) (fun _ _ _ h => h) (Or.inl ⟨by rfl, ?hy1_66⟩) (by assumption) ?rest1_66
              case hy1_66 => (intro w hSw; (try dsimp only at hSw); go_simp; try (with_reducible rfl))
              simp only [Act.put, List.getElem_toArray, List.getElem_cons_zero, List.getElem_cons_succ, List.setIfInBounds_toArray, List.set_cons_zero, List.set_cons_succ]
              refine wpAnyH_take (i := 2) (v := ?v2_67) rfl (by kernel_rfl) (by kernel_rfl) (by kernel_rfl) (fun _ _ _ h => h) (Or.inl ⟨by rfl, ?hy2_67⟩) (by assumption) ?rest2_67
              case hy2_67 => (intro w hSw; (try dsimp only at hSw); go_simp; try (with_reducible rfl))
              simp only [Act.put, List.getElem_toArray, List.getElem_cons_zero, List.getElem_cons_succ, List.setIfInBounds_toArray, List.set_cons_zero, List.set_cons_succ]
              refine wpAnyH_take (i := 3) (v := ?v3_68) rfl (by kernel_rfl) (by kernel_rfl) (by kernel_rfl) (fun _ _ _ h => h) (Or.inl ⟨by rfl, ?hy3_68⟩) (by assumption) ?rest3_68
              case hy3_68 => (intro w hSw; (try dsimp only at hSw); go_simp; try (with_reducible rfl))
              simp only [Act.put, List.getElem_toArray, List.getElem_cons_zero, List.getElem_cons_succ, List.setIfInBounds_toArray, List.set_cons_zero, List.set_cons_succ]
              refine wpAnyH_take (i := 4) (v := ?v4_69) rfl (by kernel_rfl) (by kernel_rfl) (by kernel_rfl) (fun _ _ _ h => h) (Or.inl ⟨by rfl, ?hy4_69⟩) (by assumption) ?rest4_69
              case hy4_69 => (intro w hSw; (try dsimp only at hSw); go_simp; try (with_reducible rfl))
              simp only [Act.put, List.getElem_toArray, List.getElem_cons_zero, List.getElem_cons_succ, List.setIfInBounds_toArray, List.set_cons_zero, List.set_cons_succ]
              refine wpAnyH_take (i := 5) (v := ?v5_70) rfl (by kernel_rfl) (by kernel_rfl) (by kernel_rfl) (fun _ _ _ h => h) (Or.inl ⟨by rfl, ?hy5_70⟩) (by assumption) ?rest5_70
              case hy5_70 => (intro w hSw; (try dsimp only at hSw); go_simp; try (with_reducible rfl))
              simp only [Act.put, List.getElem_toArray, List.getElem_cons_zero, List.getElem_cons_succ, List.setIfInBounds_toArray, List.set_cons_zero, List.set_cons_succ]
              refine wpAnyH_take (i := 6) (v := ?v6_71) rfl (by kernel_rfl) (by kernel_rfl) (by kernel_rfl) (fun _ _ _ h => h) (Or.inl ⟨by rfl, ?hy6_71⟩) (by assumption) ?rest6_71
              case hy6_71 => (intro w hSw; (try dsimp only at hSw); go_simp; try (with_reducible rfl))
              simp only [Act.put, List.getElem_toArray, List.getElem_cons_zero, List.getElem_cons_succ, List.setIfInBounds_toArray, List.set_cons_zero, List.set_cons_succ]
              refine wpAnyH_take (i := 7) (v := ?v7_72) rfl (by kernel_rfl) (by kernel_rfl) (by kernel_rfl) (fun _ _ _ h => h) (Or.inl ⟨by rfl, ?hy7_72⟩) (by assumption) ?rest7_72
              case hy7_72 => (intro w hSw; (try dsimp only at hSw); go_simp; try (with_reducible rfl))
              simp only [Act.put, List.getElem_toArray, List.getElem_cons_zero, List.getElem_cons_succ, List.setIfInBounds_toArray, List.set_cons_zero, List.set_cons_succ]
              refine wpAnyH_take (i := 8) (v := ?v8_73) rfl (by kernel_rfl) (by kernel_rfl) (by kernel_rfl) (fun _ _ _ h => h) (Or.inl ⟨by rfl, ?hy8_73⟩) (by assumption) ?rest8_73
              case hy8_73 => (intro w hSw; (try dsimp only at hSw); go_simp; try (with_reducible rfl))
              simp only [Act.put, List.getElem_toArray, List.getElem_cons_zero, List.getElem_cons_succ, List.setIfInBounds_toArray, List.set_cons_zero, List.set_cons_succ]
              refine wpAnyH_take (i := 9) (v := ?v9_74) rfl (by kernel_rfl) (by kernel_rfl) (by kernel_rfl) (fun _ _ _ h => h) (Or.inl ⟨by rfl, ?hy9_74⟩) (by assumption) ?rest9_74
              case hy9_74 => (intro w hSw; (try dsimp only at hSw); go_simp; try (with_reducible rfl))
              simp only [Act.put, List.getElem_toArray, List.getElem_cons_zero, List.getElem_cons_succ, List.setIfInBounds_toArray, List.set_cons_zero, List.set_cons_succ]
              refine wpAnyH_take (i := 10) (v := ?v10_75) rfl (by kernel_rfl) (by kernel_rfl) (by kernel_rfl) (fun _ _ _ h => h) (Or.inl ⟨by rfl, ?hy10_75⟩) (by assumption) ?rest10_75
              case hy10_75 => (intro w hSw; (try dsimp only at hSw); go_simp; try (with_reducible rfl))
              simp only [Act.put, List.getElem_toArray, List.getElem_cons_zero, List.getElem_cons_succ, List.setIfInBounds_toArray, List.set_cons_zero, List.set_cons_succ]
              refine wpAnyH_take (i := 11) (v := ?v11_76) rfl (by kernel_rfl) (by kernel_rfl) (by kernel_rfl) (fun _ _ _ h => h) (Or.inl ⟨by rfl, ?hy11_76⟩) (by assumption) ?rest11_76
              case hy11_76 => (intro w hSw; (try dsimp only at hSw); go_simp; try (with_reducible rfl))
              simp only [Act.put, List.getElem_toArray, List.getElem_cons_zero, List.getElem_cons_succ, List.setIfInBounds_toArray, List.set_cons_zero, List.set_cons_succ]
              refine wpAnyH_take (i := 12) (v := ?v12_77) rfl (by kernel_rfl) (by kernel_rfl) (by kernel_rfl) (fun _ _ _ h => h) (Or.inl ⟨by rfl, ?hy12_77⟩) (by assumption) ?rest12_77
              case hy12_77 => (intro w hSw; (try dsimp only at hSw); go_simp; try (with_reducible rfl))
              simp only [Act.put, List.getElem_toArray, List.getElem_cons_zero, List.getElem_cons_succ, List.setIfInBounds_toArray, List.set_cons_zero, List.set_cons_succ]
              refine wpAnyH_take (i := 13) (v := ?v13_78) rfl (by kernel_rfl) (by kernel_rfl) (by kernel_rfl) (fun _ _ _ h => h) (Or.inl ⟨by rfl, ?hy13_78⟩) (by assumption) ?rest13_78
              case hy13_78 => (intro w hSw; (try dsimp only at hSw); go_simp; try (with_reducible rfl))
              simp only [Act.put, List.getElem_toArray, List.getElem_cons_zero, List.getElem_cons_succ, List.setIfInBounds_toArray, List.set_cons_zero, List.set_cons_succ]
              refine wpAnyH_take (i := 14) (v := ?v14_79) rfl (by kernel_rfl) (by kernel_rfl) (by kernel_rfl) (fun _ _ _ h => h) (Or.inl ⟨by rfl, ?hy14_79⟩) (by assumption) ?rest14_79
              case hy14_79 => (intro w hSw; (try dsimp only at hSw); go_simp; try (with_reducible rfl))
              simp only [Act.put, List.getElem_toArray, List.getElem_cons_zero, List.getElem_cons_succ, List.setIfInBounds_toArray, List.set_cons_zero, List.set_cons_succ]
              refine wpAnyH_take (i := 15) (v := ?v15_80) rfl (by kernel_rfl) (by kernel_rfl) (by kernel_rfl) (fun _ _ _ h => h) (Or.inl ⟨by rfl, ?hy15_80⟩) (by assumption) ?rest15_80
              case hy15_80 => (intro w hSw; (try dsimp only at hSw); go_simp; try (with_reducible rfl))
              simp only [Act.put, List.getElem_toArray, List.getElem_cons_zero, List.getElem_cons_succ, List.setIfInBounds_toArray, List.set_cons_zero, List.set_cons_succ]
              refine wpAnyH_take (i := 16) (v := ?v16_81) rfl (by kernel_rfl) (by kernel_rfl) (by kernel_rfl) (fun _ _ _ h => h) (Or.inl ⟨by rfl, ?hy16_81⟩) (by assumption) ?rest16_81
              case hy16_81 => (intro w hSw; (try dsimp only at hSw); go_simp; try (with_reducible rfl))
              simp only [Act.put, List.getElem_toArray, List.getElem_cons_zero, List.getElem_cons_succ, List.setIfInBounds_toArray, List.set_cons_zero, List.set_cons_succ]
              refine wpAnyH_take (i := 17) (v := ?v17_82) rfl (by kernel_rfl) (by kernel_rfl) (by kernel_rfl) (fun _ _ _ h => h) (Or.inl ⟨by rfl, ?hy17_82⟩) (by assumption) ?rest17_82
              case hy17_82 => (intro w hSw; (try dsimp only at hSw); go_simp; try (with_reducible rfl))
              simp only [Act.put, List.getElem_toArray, List.getElem_cons_zero, List.getElem_cons_succ, List.setIfInBounds_toArray, List.set_cons_zero, List.set_cons_succ]
              refine wpAnyH_take (i := 18) (v := ?v18_83) rfl (by kernel_rfl) (by kernel_rfl) (by kernel_rfl) (fun _ _ _ h => h) (Or.inl ⟨by rfl, ?hy18_83⟩) (by assumption) ?rest18_83
              case hy18_83 => (intro w hSw; (try dsimp only at hSw); go_simp; try (with_reducible rfl))
              simp only [Act.put, List.getElem_toArray, List.getElem_cons_zero, List.getElem_cons_succ, List.setIfInBounds_toArray, List.set_cons_zero, List.set_cons_succ]
              refine wpAnyH_take (i := 19) (v := ?v19_84) rfl (by kernel_rfl) (by kernel_rfl) (by kernel_rfl) (fun _ _ _ h => h) (Or.inl ⟨by rfl, ?hy19_84⟩) (by assumption) ?rest19_84
              case hy19_84 => (intro w hSw; (try dsimp only at hSw); go_simp; try (with_reducible rfl))
              simp only [Act.put, List.getElem_toArray, List.getElem_cons_zero, List.getElem_cons_succ, List.setIfInBounds_toArray, List.set_cons_zero, List.set_cons_succ]
              refine wpAnyH_take (i := 21) (v := ?v21_85) rfl (by kernel_rfl) (by kernel_rfl) (by kernel_rfl) (fun _ _ _ h => h) (Or.inl ⟨by rfl, ?hy21_85⟩) (by assumption) ?rest21_85
              case hy21_85 => (intro w hSw; (try dsimp only at hSw); go_simp; try (with_reducible rfl))
              simp only [Act.put, List.getElem_toArray, List.getElem_cons_zero, List.getElem_cons_succ, List.setIfInBounds_toArray, List.set_cons_zero, List.set_cons_succ]
              refine wpAnyH_take (i := 22) (v := ?v22_86) rfl (by kernel_rfl) (by kernel_rfl) (by kernel_rfl) (fun _ _ _ h => h) (Or.inl ⟨by rfl, ?hy22_86⟩) (by assumption) ?rest22_86
              case hy22_86 => (intro w hSw; (try dsimp only at hSw); go_simp; try (with_reducible rfl))
              simp only [Act.put, List.getElem_toArray, List.getElem_cons_zero, List.getElem_cons_succ, List.setIfInBounds_toArray, List.set_cons_zero, List.set_cons_succ]
              refine wpAnyH_take (i := 23) (v := ?v23_87) rfl (by kernel_rfl) (by kernel_rfl) (by kernel_rfl) (fun _ _ _ h => h) (Or.inl ⟨by rfl, ?hy23_87⟩) (by assumption) ?rest23_87
              case hy23_87 => (intro w hSw; (try dsimp only at hSw); go_simp; try (with_reducible rfl))
              simp only [Act.put, List.getElem_toArray, List.getElem_cons_zero, List.getElem_cons_succ, List.setIfInBounds_toArray, List.set_cons_zero, List.set_cons_succ]
              refine wpAnyH_take (i := 24) (v := ?v24_88) rfl (by kernel_rfl) (by kernel_rfl) (by kernel_rfl) (fun _ _ _ h => h) (Or.inl ⟨by rfl, ?hy24_88⟩) (by assumption) ?rest24_88
              case hy24_88 => (intro w hSw; (try dsimp only at hSw); go_simp; try (with_reducible rfl))
              simp only [Act.put, List.getElem_toArray, List.getElem_cons_zero, List.getElem_cons_succ, List.setIfInBounds_toArray, List.set_cons_zero, List.set_cons_succ]
              refine wpAnyH_ready (rs := [20]) (by kernel_rfl) (by simp) ?_
              refine (AllReadyH.cons rfl (fun K hK => ?_) AllReadyH.nil)
              go_simp
              refine (J _ hS.2.2.2.2.2.2.2.2.2.2.2.2.2.2.1.out hS.2.2.2.2.2.2.2.2.2.2.2.2.2.2.2.out).mono ?_
              rintro e w3 ⟨rfl, hb3⟩
              have hI3 := HXY.out _ (hS.2.2.2.2.2.2.2.2.2.2.2.2.2.2.1.out.trans (hb3.mono hS.2.2.2.2.2.2.2.2.2.2.2.2.2.2.1.out.size)) (hS.2.2.2.2.2.2.2.2.2.2.2.2.2.2.2.out.trans (hb3.mono hS.2.2.2.2.2.2.2.2.2.2.2.2.2.2.2.out.size))
              clear hb3
              go_wp2_with fail
              refine hK.out _ _ ?_ (fun hS' => ?_)
              · exact hI3
              clear hK K
              try simp only [Act.put, List.getElem_toArray, List.getElem_cons_zero, List.getElem_cons_succ, List.setIfInBounds_toArray, List.set_cons_zero, List.set_cons_succ]
              replace hS := hS'
              clear hS'
              refine wpAnyH_ready (rs := [25]) (by kernel_rfl) (by simp) ?_
              refine (AllReadyH.cons rfl (fun K hK => ?_) AllReadyH.nil)
              go_simp
              refine (L _ hS.2.2.2.2.2.2.2.2.2.2.2.2.2.2.1.out hS.2.2.2.2.2.2.2.2.2.2.2.2.2.2.2.out).mono ?_
              rintro e w3 ⟨rfl, hb3⟩
              have hI3 := HXY.out _ (hS.2.2.2.2.2.2.2.2.2.2.2.2.2.2.1.out.trans (hb3.mono hS.2.2.2.2.2.2.2.2.2.2.2.2.2.2.1.out.size)) (hS.2.2.2.2.2.2.2.2.2.2.2.2.2.2.2.out.trans (hb3.mono hS.2.2.2.2.2.2.2.2.2.2.2.2.2.2.2.out.size))
              clear hb3
              go_wp2_with fail
              refine hK.out _ _ ?_ (fun hS' => ?_)
              · exact hI3
              clear hK K
              try simp only [Act.put, List.getElem_toArray, List.getElem_cons_zero, List.getElem_cons_succ, List.setIfInBounds_toArray, List.set_cons_zero, List.set_cons_succ]
              replace hS := hS'
              clear hS'
              refine wpAnyH_take (i := 26) (v := ?v26_89) rfl (by kernel_rfl) (by kernel_rfl) (by kernel_rfl) (fun _ _ _ h => h) (Or.inl ⟨by rfl, ?hy26_89⟩) (by assumption) ?rest26_89
              case hy26_89 => (intro w hSw; (try dsimp only at hSw); go_simp; try (with_reducible rfl))
              simp only [Act.put, List.getElem_toArray, List.getElem_cons_zero, List.getElem_cons_succ, List.setIfInBounds_toArray, List.set_cons_zero, List.set_cons_succ]
              refine wpAnyH_done (by kernel_rfl) ?_ _
              go_wp2_with fail
              go_meet
              exact ⟨by rw [HE.out], hS.2.2.2.2.2.2.2.2.2.2.2.2.2.2.1.out⟩
            · have dq : (x.id == y.id) = false := by simpa using q
              have HE := Hid.mk' (show belK (rk x) (rk y) = false by rw [HBK.out, decide_eq_false q]; simp)
              clear q HBK
              refine wp_region_held_drew (S := fun X => X.cell? ⟨b, o + k * 7, none⟩ = some (.int .i64 x.id) ∧ X.cell? ⟨b, o + k * 7 + 1, none⟩ = some (.int .i64 x.inc) ∧ X.cell? ⟨b, o + k * 7 + 2, none⟩ = some (.int .i64 x.st) ∧ X.cell? ⟨b, o + k * 7 + 3, none⟩ = some (.int .i64 x.lo) ∧ X.cell? ⟨b, o + k * 7 + 4, none⟩ = some (.int .i64 x.hi) ∧ X.cell? ⟨b, o + k * 7 + 5, none⟩ = some (.bool x.cut) ∧ X.cell? ⟨b, o + k * 7 + 6, none⟩ = some (.slice x.p x.bag.length x.cap) ∧ X.cell? ⟨b2, o2 + i * 7, none⟩ = some (.int .i64 y.id) ∧ X.cell? ⟨b2, o2 + i * 7 + 1, none⟩ = some (.int .i64 y.inc) ∧ X.cell? ⟨b2, o2 + i * 7 + 2, none⟩ = some (.int .i64 y.st) ∧ X.cell? ⟨b2, o2 + i * 7 + 3, none⟩ = some (.int .i64 y.lo) ∧ X.cell? ⟨b2, o2 + i * 7 + 4, none⟩ = some (.int .i64 y.hi) ∧ X.cell? ⟨b2, o2 + i * 7 + 5, none⟩ = some (.bool y.cut) ∧ X.cell? ⟨b2, o2 + i * 7 + 6, none⟩ = some (.slice y.p y.bag.length y.cap) ∧ Hid (Below wo.heap.size wo X) ∧ Hid (Below wr.heap.size wr X)) (by kernel_rfl) hS0 (fun hS => ?_)
              clear hS0
              generalize wr.drew = wd at hS ⊢
              refine wpAnyH_take (i := 0) (v := ?v0_90) rfl (by kernel_rfl) (by kernel_rfl) (by kernel_rfl) (fun _ _ _ h => h) (Or.inl ⟨by rfl, ?hy0_90⟩) (by assumption) ?rest0_90
              case hy0_90 => (intro w hSw; (try dsimp only at hSw); go_simp; try (with_reducible rfl))
              simp only [Act.put, List.getElem_toArray, List.getElem_cons_zero, List.getElem_cons_succ, List.setIfInBounds_toArray, List.set_cons_zero, List.set_cons_succ]
              refine wpAnyH_take (i := 1) (v := ?v1_91) rfl (by kernel_rfl) (by kernel_rfl) (by kernel_rfl) (fun _ _ _ h => h) (Or.inl ⟨by rfl, ?hy1_91⟩) (by assumption) ?rest1_91
              case hy1_91 => (intro w hSw; (try dsimp only at hSw); go_simp; try (with_reducible rfl))
              simp only [Act.put, List.getElem_toArray, List.getElem_cons_zero, List.getElem_cons_succ, List.setIfInBounds_toArray, List.set_cons_zero, List.set_cons_succ]
              refine wpAnyH_take (i := 2) (v := ?v2_92) rfl (by kernel_rfl) (by kernel_rfl) (by kernel_rfl) (fun _ _ _ h => h) (Or.inl ⟨by rfl, ?hy2_92⟩) (by assumption) ?rest2_92
              case hy2_92 => (intro w hSw; (try dsimp only at hSw); go_simp; try (with_reducible rfl))
              simp only [Act.put, List.getElem_toArray, List.getElem_cons_zero, List.getElem_cons_succ, List.setIfInBounds_toArray, List.set_cons_zero, List.set_cons_succ]
              refine wpAnyH_take (i := 3) (v := ?v3_93) rfl (by kernel_rfl) (by kernel_rfl) (by kernel_rfl) (fun _ _ _ h => h) (Or.inl ⟨by rfl, ?hy3_93⟩) (by assumption) ?rest3_93
              case hy3_93 => (intro w hSw; (try dsimp only at hSw); go_simp; try (with_reducible rfl))
              simp only [Act.put, List.getElem_toArray, List.getElem_cons_zero, List.getElem_cons_succ, List.setIfInBounds_toArray, List.set_cons_zero, List.set_cons_succ]
              refine wpAnyH_take (i := 4) (v := ?v4_94) rfl (by kernel_rfl) (by kernel_rfl) (by kernel_rfl) (fun _ _ _ h => h) (Or.inl ⟨by rfl, ?hy4_94⟩) (by assumption) ?rest4_94
              case hy4_94 => (intro w hSw; (try dsimp only at hSw); go_simp; try (with_reducible rfl))
              simp only [Act.put, List.getElem_toArray, List.getElem_cons_zero, List.getElem_cons_succ, List.setIfInBounds_toArray, List.set_cons_zero, List.set_cons_succ]
              refine wpAnyH_take (i := 5) (v := ?v5_95) rfl (by kernel_rfl) (by kernel_rfl) (by kernel_rfl) (fun _ _ _ h => h) (Or.inl ⟨by rfl, ?hy5_95⟩) (by assumption) ?rest5_95
              case hy5_95 => (intro w hSw; (try dsimp only at hSw); go_simp; try (with_reducible rfl))
              simp only [Act.put, List.getElem_toArray, List.getElem_cons_zero, List.getElem_cons_succ, List.setIfInBounds_toArray, List.set_cons_zero, List.set_cons_succ]
              refine wpAnyH_take (i := 6) (v := ?v6_96) rfl (by kernel_rfl) (by kernel_rfl) (by kernel_rfl) (fun _ _ _ h => h) (Or.inl ⟨by rfl, ?hy6_96⟩) (by assumption) ?rest6_96
              case hy6_96 => (intro w hSw; (try dsimp only at hSw); go_simp; try (with_reducible rfl))
              simp only [Act.put, List.getElem_toArray, List.getElem_cons_zero, List.getElem_cons_succ, List.setIfInBounds_toArray, List.set_cons_zero, List.set_cons_succ]
              refine wpAnyH_take (i := 7) (v := ?v7_97) rfl (by kernel_rfl) (by kernel_rfl) (by kernel_rfl) (fun _ _ _ h => h) (Or.inl ⟨by rfl, ?hy7_97⟩) (by assumption) ?rest7_97
              case hy7_97 => (intro w hSw; (try dsimp only at hSw); go_simp; try (with_reducible rfl))
              simp only [Act.put, List.getElem_toArray, List.getElem_cons_zero, List.getElem_cons_succ, List.setIfInBounds_toArray, List.set_cons_zero, List.set_cons_succ]
              refine wpAnyH_take (i := 8) (v := ?v8_98) rfl (by kernel_rfl) (by kernel_rfl) (by kernel_rfl) (fun _ _ _ h => h) (Or.inl ⟨by rfl, ?hy8_98⟩) (by assumption) ?rest8_98
              case hy8_98 => (intro w hSw; (try dsimp only at hSw); go_simp; try (with_reducible rfl))
              simp only [Act.put, List.getElem_toArray, List.getElem_cons_zero, List.getElem_cons_succ, List.setIfInBounds_toArray, List.set_cons_zero, List.set_cons_succ]
              refine wpAnyH_take (i := 9) (v := ?v9_99) rfl (by kernel_rfl) (by kernel_rfl) (by kernel_rfl) (fun _ _ _ h => h) (Or.inl ⟨by rfl, ?hy9_99⟩) (by assumption) ?rest9_99
              case hy9_99 => (intro w hSw; (try dsimp only at hSw); go_simp; try (with_reducible rfl))
              simp only [Act.put, List.getElem_toArray, List.getElem_cons_zero, List.getElem_cons_succ, List.setIfInBounds_toArray, List.set_cons_zero, List.set_cons_succ]
              refine wpAnyH_take (i := 10) (v := ?v10_100) rfl (by kernel_rfl) (by kernel_rfl) (by kernel_rfl) (fun _ _ _ h => h) (Or.inl ⟨by rfl, ?hy10_100⟩) (by assumption) ?rest10_100
              case hy10_100 => (intro w hSw; (try dsimp only at hSw); go_simp; try (with_reducible rfl))
              simp only [Act.put, List.getElem_toArray, List.getElem_cons_zero, List.getElem_cons_succ, List.setIfInBounds_toArray, List.set_cons_zero, List.set_cons_succ]
              refine wpAnyH_take (i := 11) (v := ?v11_101) rfl (by kernel_rfl) (by kernel_rfl) (by kernel_rfl) (fun _ _ _ h => h) (Or.inl ⟨by rfl, ?hy11_101⟩) (by assumption) ?rest11_101
              case hy11_101 => (intro w hSw; (try dsimp only at hSw); go_simp; try (with_reducible rfl))
              simp only [Act.put, List.getElem_toArray, List.getElem_cons_zero, List.getElem_cons_succ, List.setIfInBounds_toArray, List.set_cons_zero, List.set_cons_succ]
              refine wpAnyH_take (i := 12) (v := undef) rfl (by kernel_rfl) (by kernel_rfl) (by kernel_rfl) (fun _ _ _ h => h) (Or.inr ⟨by rfl, rfl⟩) (by assumption) ?_
              simp only [Act.put, List.getElem_toArray, List.getElem_cons_zero, List.getElem_cons_succ, List.setIfInBounds_toArray, List.set_cons_zero, List.set_cons_succ]
              refine wpAnyH_take (i := 13) (v := undef) rfl (by kernel_rfl) (by kernel_rfl) (by kernel_rfl) (fun _ _ _ h => h) (Or.inr ⟨by rfl, rfl⟩) (by assumption) ?_
              simp only [Act.put, List.getElem_toArray, List.getElem_cons_zero, List.getElem_cons_succ, List.setIfInBounds_toArray, List.set_cons_zero, List.set_cons_succ]
              refine wpAnyH_take (i := 14) (v := undef) rfl (by kernel_rfl) (by kernel_rfl) (by kernel_rfl) (fun _ _ _ h => h) (Or.inr ⟨by rfl, rfl⟩) (by assumption) ?_
              simp only [Act.put, List.getElem_toArray, List.getElem_cons_zero, List.getElem_cons_succ, List.setIfInBounds_toArray, List.set_cons_zero, List.set_cons_succ]
              refine wpAnyH_take (i := 15) (v := undef) rfl (by kernel_rfl) (by kernel_rfl) (by kernel_rfl) (fun _ _ _ h => h) (Or.inr ⟨by rfl, rfl⟩) (by assumption) ?_
              simp only [Act.put, List.getElem_toArray, List.getElem_cons_zero, List.getElem_cons_succ, List.setIfInBounds_toArray, List.set_cons_zero, List.set_cons_succ]
              refine wpAnyH_take (i := 16) (v := undef) rfl (by kernel_rfl) (by kernel_rfl) (by kernel_rfl) (fun _ _ _ h => h) (Or.inr ⟨by rfl, rfl⟩) (by assumption) ?_
              simp only [Act.put, List.getElem_toArray, List.getElem_cons_zero, List.getElem_cons_succ, List.setIfInBounds_toArray, List.set_cons_zero, List.set_cons_succ]
              refine wpAnyH_take (i := 17) (v := undef) rfl (by kernel_rfl) (by kernel_rfl) (by kernel_rfl) (fun _ _ _ h => h) (Or.inr ⟨by rfl, rfl⟩) (by assumption) ?_
              simp only [Act.put, List.getElem_toArray, List.getElem_cons_zero, List.getElem_cons_succ, List.setIfInBounds_toArray, List.set_cons_zero, List.set_cons_succ]
              refine wpAnyH_take (i := 18) (v := undef) rfl (by kernel_rfl) (by kernel_rfl) (by kernel_rfl) (fun _ _ _ h => h) (Or.inr ⟨by rfl, rfl⟩) (by assumption) ?_
              simp only [Act.put, List.getElem_toArray, List.getElem_cons_zero, List.getElem_cons_succ, List.setIfInBounds_toArray, List.set_cons_zero, List.set_cons_succ]
              refine wpAnyH_take (i := 19) (v := undef) rfl (by kernel_rfl) (by kernel_rfl) (by kernel_rfl) (fun _ _ _ h => h) (Or.inr ⟨by rfl, rfl⟩) (by assumption) ?_
              simp only [Act.put, List.getElem_toArray, List.getElem_cons_zero, List.getElem_cons_succ, List.setIfInBounds_toArray, List.set_cons_zero, List.set_cons_succ]
              refine wpAnyH_take (i := 20) (v := undef) rfl (by kernel_rfl) (by kernel_rfl) (by kernel_rfl) (fun _ _ _ h => h) (Or.inr ⟨by rfl, rfl⟩) (by assumption) ?_
              simp only [Act.put, List.getElem_toArray, List.getElem_cons_zero, List.getElem_cons_succ, List.setIfInBounds_toArray, List.set_cons_zero, List.set_cons_succ]
              refine wpAnyH_take (i := 21) (v := undef) rfl (by kernel_rfl) (by kernel_rfl) (by kernel_rfl) (fun _ _ _ h => h) (Or.inr ⟨by rfl, rfl⟩) (by assumption) ?_
              simp only [Act.put, List.getElem_toArray, List.getElem_cons_zero, List.getElem_cons_succ, List.setIfInBounds_toArray, List.set_cons_zero, List.set_cons_succ]
              refine wpAnyH_take (i := 22) (v := undef) rfl (by kernel_rfl) (by kernel_rfl) (by kernel_rfl) (fun _ _ _ h => h) (Or.inr ⟨by rfl, rfl⟩) (by assumption) ?_
              simp only [Act.put, List.getElem_toArray, List.getElem_cons_zero, List.getElem_cons_succ, List.setIfInBounds_toArray, List.set_cons_zero, List.set_cons_succ]
              refine wpAnyH_take (i := 23) (v := undef) rfl (by kernel_rfl) (by kernel_rfl) (by kernel_rfl) (fun _ _ _ h => h) (Or.inr ⟨by rfl, rfl⟩) (by assumption) ?_
              simp only [Act.put, List.getElem_toArray, List.getElem_cons_zero, List.getElem_cons_succ, List.setIfInBounds_toArray, List.set_cons_zero, List.set_cons_succ]
              refine wpAnyH_take (i := 24) (v := undef) rfl (by kernel_rfl) (by kernel_rfl) (by kernel_rfl) (fun _ _ _ h => h) (Or.inr ⟨by rfl, rfl⟩) (by assumption) ?_
              simp only [Act.put, List.getElem_toArray, List.getElem_cons_zero, List.getElem_cons_succ, List.setIfInBounds_toArray, List.set_cons_zero, List.set_cons_succ]
              refine wpAnyH_take (i := 25) (v := undef) rfl (by kernel_rfl) (by kernel_rfl) (by kernel_rfl) (fun _ _ _ h => h) (Or.inr ⟨by rfl, rfl⟩) (by assumption) ?_
              simp only [Act.put, List.getElem_toArray, List.getElem_cons_zero, List.getElem_cons_succ, List.setIfInBounds_toArray, List.set_cons_zero, List.set_cons_succ]
              refine wpAnyH_take (i := 26) (v := ?v26_102) rfl (by kernel_rfl) (by kernel_rfl) (by kernel_rfl) (fun _ _ _ h => h) (Or.inl ⟨by rfl, ?hy26_102⟩) (by assumption) ?rest26_102
              case hy26_102 => (intro w hSw; (try dsimp only at hSw); go_simp; try (with_reducible rfl))
              simp only [Act.put, List.getElem_toArray, List.getElem_cons_zero, List.getElem_cons_succ, List.setIfInBounds_toArray, List.set_cons_zero, List.set_cons_succ]
              refine wpAnyH_done (by kernel_rfl) ?_ _
              go_wp2_with fail
              go_meet
              exact ⟨by rw [HE.out], hS.2.2.2.2.2.2.2.2.2.2.2.2.2.2.1.out⟩
          case rest =>
          obtain ⟨rfl, HB4⟩ := hcut
          clear hS0 J L HXY HYO HBK HC
          generalize belK (rk x) (rk y) = v at HA ⊢
          cases v
          · have HE := Hid.mk' (show anyB (rk x) (m.take (i + 1)) = f by rw [HA.out]; simp)
            go_wp2_with fail
            go_roundw
            case rel => exact ⟨i + 1, by omega, by go_num, by rw [HE.out], HB4⟩
            case measure => simp [intOf]; omega
          · have HE := Hid.mk' (show anyB (rk x) (m.take (i + 1)) = true by rw [HA.out]; simp)
            go_wp2_with fail
            go_roundw
            case rel => exact ⟨i + 1, by omega, by go_num, by rw [HE.out], HB4⟩
            case measure => simp [intOf]; omega
        · obtain rfl : i = m.length := by omega
          rw [List.take_of_length_le (Nat.le_refl _)]
          have HB3 := Hid.mk' (HB.out.trans (HC.out.mono HB.out.size))
          generalize anyB (rk x) m = v at HN2
          clear HX HB HC
          cases v
          · have HE := Hid.mk' (show underK (l.take (k + 1)) m = false by rw [HN2.out]; simp)
            go_wp2_with fail
            go_roundw
            case rel => exact ⟨k + 1, by omega, by go_num, by rw [HE.out], HB3⟩
            case measure => simp [intOf]; omega
          · have HE := Hid.mk' (show underK (l.take (k + 1)) m = sw by rw [HN2.out]; simp)
            go_wp2_with fail
            go_roundw
            case rel => exact ⟨k + 1, by omega, by go_num, by rw [HE.out], HB3⟩
            case measure => simp [intOf]; omega
    · obtain rfl : k = l.length := by omega
      rw [List.take_of_length_le (Nat.le_refl _)]
      have U := under_any p0 p1 c0 c1 l m wr (HI0.out.below HB.out) (HI1.out.below HB.out) HN.out.1 HN.out.2
      generalize underK l m = u at U ⊢
      go_wp2_with fail
      refine U.mono ?_
      clear U
      rintro e x1 ⟨rfl, hb1⟩
      have HB1 := Hid.mk' (HB.out.trans (hb1.mono HB.out.size))
      clear hb1 HB
      go_wp2_with fail
      refine (AW _).mono ?_
      rintro e x2 ⟨rfl, hb2⟩
      have HB2 := Hid.mk' (HB1.out.trans (hb2.mono HB1.out.size))
      clear hb2 HB1
      go_wp2_with fail
      go_ret
      exact ⟨rfl, HB2.out⟩

theorem own : ownKnob Try.prog.godebug = none := by kernel_rfl
theorem laidOut : laidOutB Try.prog = true := by kernel_rfl

set_option maxRecDepth 100000 in
theorem lifted (os : Os) (started : os.Started) (H : Type) (enc : TypeId × Value → H) :
    ReturnsInHanded {} Try.checked os 8 .any (Rows.latticeUndersSpec.pre6 enc Try.prog Try.f8 Rows.latticeUndersRow.domain false) (Rows.latticeUndersSpec.post enc Try.prog Try.f8 false true false false) := by
  refine returnsInHanded_of_change_sized (C := Try.checked) own started (by kernel_rfl) Try.func8
    (ChangeSpec.witness6 (enc := enc) (C := Try.checked) false ⟨#[], #[.slice none 0 0, .slice none 0 0], []⟩ 8 (by kernel_rfl) (by kernel_rfl) (by kernel_rfl) (by kernel_rfl)) ?_
  intro W base args ds gs before hval0 hW hcnd hsz0 _
  have hz : ∀ (j : Nat) t d, Try.f8.params.toList[j]? = some t → ds[j]? = some d → ∀ n ∈ d.weights Try.prog t, n ≤ reachBytes := fun j t d ht hd n hn => by
    have := List.all_eq_true.1 hsz0 n (DataW.weights_mem_each (j := j) (t := t) (d := d) (by rw [List.getElem?_append_left (List.getElem?_eq_some_iff.1 ht).1]; exact ht) (by rw [List.getElem?_append_left (List.getElem?_eq_some_iff.1 hd).1]; exact hd) n hn)
    simpa using this
  have hval : ∀ (j : Nat) t v, Try.f8.params[j]? = some t → args[j]? = some v → Value.okWide Try.prog W .any base t v := hval0
  have hW' := hW
  obtain ⟨p, q, hA0, hV, rfl, hfz, hnd⟩ := hW
  have hA : DataW.TrodAll enc Try.prog W 0 (fun _ => true) true Try.f8.params.toList args.toList ds p := hA0
  rw [Try.params8] at hA hval hz
  obtain ⟨v0, vs0, d0, ds0, p0x, q0, hargs, rfl, rfl, h0, r0⟩ := trodAll_cons hA
  obtain ⟨v1, vs1, d1, ds1, p1x, q1, rfl, rfl, rfl, h1, r1⟩ := trodAll_cons r0
  obtain ⟨rfl, rfl, rfl⟩ := trodAll_nil r1
  obtain rfl : args = #[v0, v1] := by cases args; simp_all
  obtain ⟨rfl, rfl⟩ := trodVars_none hV
  obtain ⟨p0, len0, c0, rfl⟩ := okWide_slice Try.underlying22 (hval 0 22 v0 rfl rfl)
  have k0 := h0
  have lt0 : ∀ x ∈ p0x, x.block < W.heap.size := by obtain ⟨m, hm⟩ := k0; exact DataW.trod_lt m _ _ _ hm
  obtain ⟨l0, rfl, hlc0, hcm0, hp0, hin0⟩ : ∃ l : List Rc, l.length = len0 ∧ len0 ≤ c0 ∧ c0 ≤ maxLen ∧ (p0 = none → c0 = 0) ∧ LIn W p0 7 shRc l := by
    haveI : Inhabited Rc := ⟨zr⟩
    obtain ⟨fuel, hf⟩ := h0
    obtain ⟨l, p, c, hcs, hl1, hl2, hl3, _, hl4⟩ := opensZ_slice (size := 7) (bytes := 72) Try.underlying22 (by kernel_rfl) (by kernel_rfl) (by decide) opensZ_rc _ _ _ hf (hz 0 22 d0 rfl rfl)
    simp [Value.cells] at hcs
    obtain ⟨rfl, rfl, rfl⟩ := hcs
    exact ⟨l, rfl, hl1, hl2, hl3, hl4⟩
  obtain ⟨p1, len1, c1, rfl⟩ := okWide_slice Try.underlying22 (hval 1 22 v1 rfl rfl)
  have k1 := h1
  have lt1 : ∀ x ∈ p1x, x.block < W.heap.size := by obtain ⟨m, hm⟩ := k1; exact DataW.trod_lt m _ _ _ hm
  obtain ⟨l1, rfl, hlc1, hcm1, hp1, hin1⟩ : ∃ l : List Rc, l.length = len1 ∧ len1 ≤ c1 ∧ c1 ≤ maxLen ∧ (p1 = none → c1 = 0) ∧ LIn W p1 7 shRc l := by
    haveI : Inhabited Rc := ⟨zr⟩
    obtain ⟨fuel, hf⟩ := h1
    obtain ⟨l, p, c, hcs, hl1, hl2, hl3, _, hl4⟩ := opensZ_slice (size := 7) (bytes := 72) Try.underlying22 (by kernel_rfl) (by kernel_rfl) (by decide) opensZ_rc _ _ _ hf (hz 1 22 d1 rfl rfl)
    simp [Value.cells] at hcs
    obtain ⟨rfl, rfl, rfl⟩ := hcs
    exact ⟨l, rfl, hl1, hl2, hl3, hl4⟩
  clear hA0 hval0
  refine (walk p0 c0 l0 p1 c1 l1 W hlc0 hcm0 hp0 hin0 hlc1 hcm1 hp1 hin1).mono fun e W' ⟨he, bel⟩ => ?_
  subst he
  exact ⟨_, rfl, _, _, _, [], _, [], hW', trodAll_mk1 (shut_bool Try.underlying4 _), (trodAll_cons_mk (Below.trod laidOut (by kernel_rfl) (of_decide_eq_true (by kernel_rfl)) k0 bel lt0) (trodAll_cons_mk (Below.trod laidOut (by kernel_rfl) (of_decide_eq_true (by kernel_rfl)) k1 bel lt1) trodAll_mk0)), rfl, bel.frame _, fun h => by cases h⟩

theorem over : Rows.latticeUndersRow.holds Try.pinned (OpenSpec.ofChange Rows.latticeUndersSpec) :=
  OpenClaim.holds_of_wide 8 Try.f8 rfl rfl rfl rfl rfl rfl rfl ⟨rfl, rfl, rfl, rfl, rfl⟩ rfl rfl rfl rfl rfl (by kernel_rfl) Try.func8 (by kernel_rfl)
    (of_decide_eq_true (by kernel_rfl)) (by unfold Func.isWrapper; first | (rw [if_pos (by decide +kernel)]; kernel_rfl) | (rw [if_neg (by decide +kernel)]; exact ⟨rfl, rfl⟩))
    (fun os started H enc _ => lifted os started H enc)

/-- The given statement. -/
theorem proved : Rows.LatticeUndersSaid := over
#print axioms proved
end Go.Proofs.Ytdfjjajkeieocaa.latticeUnders
