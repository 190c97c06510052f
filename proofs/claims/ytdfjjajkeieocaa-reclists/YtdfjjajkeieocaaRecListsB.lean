/-
  The statement on layer 8, lists: a part of its walk.
-/
import Derived.Test.YtdfjjajkeieocaaRecListsA
namespace Go.Proofs.Ytdfjjajkeieocaa.recLists
open Go.ChangeShapes Go.WideShapes Go.ChangeAt Go.RowKit
open Go.ChangeMaps (open_string shut_string)
set_option linter.unusedVariables false
set_option maxRecDepth 10000
set_option synthInstance.maxSize 2000
set_option linter.unusedSimpArgs false

set_option maxHeartbeats 16000000 in
set_option maxRecDepth 10000 in
theorem part2 (p0 : Option Addr) (c0 : Nat) (l : List Rc) (r : Rc) (v : Int) (w : World) : (part1 p0 c0 l r v w).1 := by
  intro hp0 Q' hl20 HFL HFR HIN HOK HN0 HLC HCM K wr u27 u28 u29 u30 u31 u32 u33 u34 u35 u36 u37 u38 u39 u40 u41 u42 u43 u44 u45 u46 u47 u48 u49 u50 u51 u52 u53 u54 u55 u56 u57 u58 u59 u60 u61 u62 u63 u64 u65 u66 u67 u68 u69 u70 u71 u72 u73 u74 u75 u76 u77 u78 u79 u80 u81 u82 u83 u84 u85 u86 u87 u88 u89 u90 u91 u92 u93 u94 k sv ra rs ru hk HS HA HSM HAB HX t
  obtain ⟨b, o, rfl, hc⟩ := (HIN.out.below HX.out.below).at (by omega)
  obtain ⟨hx, hok⟩ := hc k t
  have HS' := Hid.mk' (sort_next t HS.out)
  have HFK := Hid.mk' (HFL.out (l.getD k zr) (by simp [List.getD, t]))
  have HPI := Hid.mk' (show ∀ m, k = m + 1 → prevI l k = (l.getD m zr).id from fun m hm => by subst hm; simp [prevI])
  have HPC := Hid.mk' (show ∀ X, Below wr.heap.size wr X → ∀ m, k = m + 1 → X.cell? ⟨b, o + m * 7, none⟩ = some (.int .i64 (l.getD m zr).id) from fun X hX m hm => ((hc m (by omega)).1.below hX).1)
  have HXC := Hid.mk' (show ∀ X, Below wr.heap.size wr X → RAt X b (o + k * 7) (l.getD k zr) from fun X hX => hx.below hX)
  have HA1 := Hid.mk' (fun h => HA.out.miss t h)
  have HA2 := Hid.mk' (fun (h1 : ra < 0) h => HA.out.hit h1 h)
  have HA3 := Hid.mk' (fun (h1 : ¬ ra < 0) => HA.out.more h1)
  have HM1 := Hid.mk' (fun h => HSM.out.miss t h)
  have HM2 := Hid.mk' (fun (h1 : rs < 0) h => HSM.out.hit h1 h)
  have HM3 := Hid.mk' (fun (h1 : ¬ rs < 0) => HSM.out.more h1)
  have HU1 := Hid.mk' (fun h => HAB.out.miss t h)
  have HU2 := Hid.mk' (fun (h1 : ru < 0) h => HAB.out.hit h1 h)
  have HU3 := Hid.mk' (fun (h1 : ¬ ru < 0) => HAB.out.more h1)
  generalize l.getD k zr = y at HS' HFK hx hok HXC HA1 HA2 HM1 HM2 HU1 HU2
  have M := fun X (h : Below wr.heap.size wr X) => lmay_any y X (hok.below h) (by have := HFK.out.2; omega)
  obtain ⟨e0, e1, e2, e3, e4, e5, e6⟩ := hx
  clear hc hok HS HA HSM HAB
  generalize mayR (rk y) = m at HS' M
  obtain ⟨pk, hpk⟩ : ∃ pk, prevI l k = pk := ⟨_, rfl⟩
  rw [hpk] at HS' HPI
  clear hpk
  obtain ⟨sb, hsb⟩ : ∃ sb, (m && (decide (k = 0) || decide (pk < y.id))) = sb := ⟨_, rfl⟩
  rw [hsb] at HS'
  have HSB := Hid.mk' hsb
  clear hsb
  go_upto_region 10 with fail
  go_cut [56] (fun t wx => t = .bool (!sb) ∧ Hid (InB w r wx) ∧ Hid (Below wr.heap.size wr wx))
  case first =>
    cases m
    · skip
      have hS0 : wr.drew.cell? ⟨b, o + k * 7, none⟩ = some (.int .i64 y.id) ∧ wr.drew.cell? ⟨b, o + k * 7 + 1, none⟩ = some (.int .i64 y.inc) ∧ wr.drew.cell? ⟨b, o + k * 7 + 2, none⟩ = some (.int .i64 y.st) ∧ wr.drew.cell? ⟨b, o + k * 7 + 3, none⟩ = some (.int .i64 y.lo) ∧ wr.drew.cell? ⟨b, o + k * 7 + 4, none⟩ = some (.int .i64 y.hi) ∧ wr.drew.cell? ⟨b, o + k * 7 + 5, none⟩ = some (.bool y.cut) ∧ wr.drew.cell? ⟨b, o + k * 7 + 6, none⟩ = some (.slice y.p y.bag.length y.cap) ∧ Hid (InB w r wr.drew) ∧ Hid (Below wr.heap.size wr wr.drew) := ⟨e0, e1, e2, e3, e4, e5, e6, HX.out.on (Below.refl _ _).drew, (Below.refl _ _).drew⟩
      refine wp_region_held_drew (S := fun X => X.cell? ⟨b, o + k * 7, none⟩ = some (.int .i64 y.id) ∧ X.cell? ⟨b, o + k * 7 + 1, none⟩ = some (.int .i64 y.inc) ∧ X.cell? ⟨b, o + k * 7 + 2, none⟩ = some (.int .i64 y.st) ∧ X.cell? ⟨b, o + k * 7 + 3, none⟩ = some (.int .i64 y.lo) ∧ X.cell? ⟨b, o + k * 7 + 4, none⟩ = some (.int .i64 y.hi) ∧ X.cell? ⟨b, o + k * 7 + 5, none⟩ = some (.bool y.cut) ∧ X.cell? ⟨b, o + k * 7 + 6, none⟩ = some (.slice y.p y.bag.length y.cap) ∧ Hid (InB w r X) ∧ Hid (Below wr.heap.size wr X)) (by kernel_rfl) hS0 (fun hS => ?_)
      clear hS0 e0 e1 e2 e3 e4 e5 e6
      generalize wr.drew = wd at hS ⊢
      refine wpAnyH_take (i := 0) (v := ?v0_44) rfl (by kernel_rfl) (by kernel_rfl) (by kernel_rfl) (fun _ _ _ h => h) (Or.inl ⟨by rfl, ?hy0_44⟩) (by assumption) ?rest0_44
      case hy0_44 => (intro w hSw; (try dsimp only at hSw); go_simp; try (with_reducible rfl))
      simp only [Act.put, List.getElem_toArray, List.getElem_cons_zero, List.getElem_cons_succ, List.setIfInBounds_toArray, List.set_cons_zero, List.set_cons_succ]
      refine wpAnyH_take (i := 1) (v := ?v1_45) rfl (by kernel_rfl) (by kernel_rfl) (by kernel_rfl) (fun _ _ _ h => h) (Or.inl ⟨by rfl, ?hy1_45⟩) (by assumption) ?rest1_45
      case hy1_45 => (intro w hSw; (try dsimp only at hSw); go_simp; try (with_reducible rfl))
      simp only [Act.put, List.getElem_toArray, List.getElem_cons_zero, List.getElem_cons_succ, List.setIfInBounds_toArray, List.set_cons_zero, List.set_cons_succ]
      refine wpAnyH_take (i := 2) (v := ?v2_46) rfl (by kernel_rfl) (by kernel_rfl) (by kernel_rfl) (fun _ _ _ h => h) (Or.inl ⟨by rfl, ?hy2_46⟩) (by assumption) ?rest2_46
      case hy2_46 => (intro w hSw; (try dsimp only at hSw); go_simp; try (with_reducible rfl))
      simp only [Act.put, List.getElem_toArray, List.getElem_cons_zero, List.getElem_cons_succ, List.setIfInBounds_toArray, List.set_cons_zero, List.set_cons_succ]
      refine wpAnyH_take (i := 3) (v := ?v3_47) rfl (by kernel_rfl) (by kernel_rfl) (by kernel_rfl) (fun _ _ _ h => h) (Or.inl ⟨by rfl, ?hy3_47⟩) (by assumption) ?rest3_47
      case hy3_47 => (intro w hSw; (try dsimp only at hSw); go_simp; try (with_reducible rfl))
      simp only [Act.put, List.getElem_toArray, List.getElem_cons_zero, List.getElem_cons_succ, List.setIfInBounds_toArray, List.set_cons_zero, List.set_cons_succ]
      refine wpAnyH_ready (rs := [4]) (by kernel_rfl) (by simp) ?_
      refine (AllReadyH.cons rfl (fun K hK => ?_) AllReadyH.nil)
      go_simp
      refine (M _ hS.2.2.2.2.2.2.2.2.out).mono ?_
      rintro e w3 ⟨rfl, hb3⟩
      have hI3 := hS.2.2.2.2.2.2.2.1.out.on hb3
      have hB3 := hS.2.2.2.2.2.2.2.2.out.trans (hb3.mono hS.2.2.2.2.2.2.2.2.out.size)
      obtain ⟨a0, a1, a2, a3, a4, a5, a6⟩ := HXC.out _ hB3
      clear hb3
      go_wp2_with fail
      refine hK.out _ _ ?_ (fun hS' => ?_)
      · exact ⟨a0, a1, a2, a3, a4, a5, a6, hI3, hB3⟩
      clear hK K
      try simp only [Act.put, List.getElem_toArray, List.getElem_cons_zero, List.getElem_cons_succ, List.setIfInBounds_toArray, List.set_cons_zero, List.set_cons_succ]
      replace hS := hS'
      clear hS'
      refine wpAnyH_take (i := 5) (v := ?v5_48) rfl (by kernel_rfl) (by kernel_rfl) (by kernel_rfl) (fun _ _ _ h => h) (Or.inl ⟨by rfl, ?hy5_48⟩) (by assumption) ?rest5_48
      case hy5_48 => (intro w hSw; (try dsimp only at hSw); go_simp; try (with_reducible rfl))
      simp only [Act.put, List.getElem_toArray, List.getElem_cons_zero, List.getElem_cons_succ, List.setIfInBounds_toArray, List.set_cons_zero, List.set_cons_succ]
      refine wpAnyH_take (i := 6) (v := ?v6_49) rfl (by kernel_rfl) (by kernel_rfl) (by kernel_rfl) (fun _ _ _ h => h) (Or.inl ⟨by rfl, ?hy6_49⟩) (by assumption) ?rest6_49
      case hy6_49 => (intro w hSw; (try dsimp only at hSw); go_simp; try (with_reducible rfl))
      simp only [Act.put, List.getElem_toArray, List.getElem_cons_zero, List.getElem_cons_succ, List.setIfInBounds_toArray, List.set_cons_zero, List.set_cons_succ]
      refine wpAnyH_take (i := 7) (v := undef) rfl (by kernel_rfl) (by kernel_rfl) (by kernel_rfl) (fun _ _ _ h => h) (Or.inr ⟨by rfl, rfl⟩) (by assumption) ?_
      simp only [Act.put, List.getElem_toArray, List.getElem_cons_zero, List.getElem_cons_succ, List.setIfInBounds_toArray, List.set_cons_zero, List.set_cons_succ]
      refine wpAnyH_take (i := 8) (v := undef) rfl (by kernel_rfl) (by kernel_rfl) (by kernel_rfl) (fun _ _ _ h => h) (Or.inr ⟨by rfl, rfl⟩) (by assumption) ?_
      simp only [Act.put, List.getElem_toArray, List.getElem_cons_zero, List.getElem_cons_succ, List.setIfInBounds_toArray, List.set_cons_zero, List.set_cons_succ]
      refine wpAnyH_take (i := 9) (v := undef) rfl (by kernel_rfl) (by kernel_rfl) (by kernel_rfl) (fun _ _ _ h => h) (Or.inr ⟨by rfl, rfl⟩) (by assumption) ?_
      simp only [Act.put, List.getElem_toArray, List.getElem_cons_zero, List.getElem_cons_succ, List.setIfInBounds_toArray, List.set_cons_zero, List.set_cons_succ]
      refine wpAnyH_take (i := 10) (v := undef) rfl (by kernel_rfl) (by kernel_rfl) (by kernel_rfl) (fun _ _ _ h => h) (Or.inr ⟨by rfl, rfl⟩) (by assumption) ?_
      simp only [Act.put, List.getElem_toArray, List.getElem_cons_zero, List.getElem_cons_succ, List.setIfInBounds_toArray, List.set_cons_zero, List.set_cons_succ]
      refine wpAnyH_take (i := 11) (v := undef) rfl (by kernel_rfl) (by kernel_rfl) (by kernel_rfl) (fun _ _ _ h => h) (Or.inr ⟨by rfl, rfl⟩) (by assumption) ?_
      simp only [Act.put, List.getElem_toArray, List.getElem_cons_zero, List.getElem_cons_succ, List.setIfInBounds_toArray, List.set_cons_zero, List.set_cons_succ]
      refine wpAnyH_take (i := 12) (v := undef) rfl (by kernel_rfl) (by kernel_rfl) (by kernel_rfl) (fun _ _ _ h => h) (Or.inr ⟨by rfl, rfl⟩) (by assumption) ?_
      simp only [Act.put, List.getElem_toArray, List.getElem_cons_zero, List.getElem_cons_succ, List.setIfInBounds_toArray, List.set_cons_zero, List.set_cons_succ]
      refine wpAnyH_take (i := 13) (v := undef) rfl (by kernel_rfl) (by kernel_rfl) (by kernel_rfl) (fun _ _ _ h => h) (Or.inr ⟨by rfl, rfl⟩) (by assumption) ?_
      simp only [Act.put, List.getElem_toArray, List.getElem_cons_zero, List.getElem_cons_succ, List.setIfInBounds_toArray, List.set_cons_zero, List.set_cons_succ]
      refine wpAnyH_take (i := 14) (v := undef) rfl (by kernel_rfl) (by kernel_rfl) (by kernel_rfl) (fun _ _ _ h => h) (Or.inr ⟨by rfl, rfl⟩) (by assumption) ?_
      simp only [Act.put, List.getElem_toArray, List.getElem_cons_zero, List.getElem_cons_succ, List.setIfInBounds_toArray, List.set_cons_zero, List.set_cons_succ]
      refine wpAnyH_take (i := 15) (v := undef) rfl (by kernel_rfl) (by kernel_rfl) (by kernel_rfl) (fun _ _ _ h => h) (Or.inr ⟨by rfl, rfl⟩) (by assumption) ?_
      simp only [Act.put, List.getElem_toArray, List.getElem_cons_zero, List.getElem_cons_succ, List.setIfInBounds_toArray, List.set_cons_zero, List.set_cons_succ]
      refine wpAnyH_take (i := 16) (v := undef) rfl (by kernel_rfl) (by kernel_rfl) (by kernel_rfl) (fun _ _ _ h => h) (Or.inr ⟨by rfl, rfl⟩) (by assumption) ?_
      simp only [Act.put, List.getElem_toArray, List.getElem_cons_zero, List.getElem_cons_succ, List.setIfInBounds_toArray, List.set_cons_zero, List.set_cons_succ]
      refine wpAnyH_take (i := 17) (v := undef) rfl (by kernel_rfl) (by kernel_rfl) (by kernel_rfl) (fun _ _ _ h => h) (Or.inr ⟨by rfl, rfl⟩) (by assumption) ?_
      simp only [Act.put, List.getElem_toArray, List.getElem_cons_zero, List.getElem_cons_succ, List.setIfInBounds_toArray, List.set_cons_zero, List.set_cons_succ]
      refine wpAnyH_take (i := 18) (v := undef) rfl (by kernel_rfl) (by kernel_rfl) (by kernel_rfl) (fun _ _ _ h => h) (Or.inr ⟨by rfl, rfl⟩) (by assumption) ?_
      simp only [Act.put, List.getElem_toArray, List.getElem_cons_zero, List.getElem_cons_succ, List.setIfInBounds_toArray, List.set_cons_zero, List.set_cons_succ]
      refine wpAnyH_take (i := 19) (v := undef) rfl (by kernel_rfl) (by kernel_rfl) (by kernel_rfl) (fun _ _ _ h => h) (Or.inr ⟨by rfl, rfl⟩) (by assumption) ?_
      simp only [Act.put, List.getElem_toArray, List.getElem_cons_zero, List.getElem_cons_succ, List.setIfInBounds_toArray, List.set_cons_zero, List.set_cons_succ]
      refine wpAnyH_take (i := 20) (v := undef) rfl (by kernel_rfl) (by kernel_rfl) (by kernel_rfl) (fun _ _ _ h => h) (Or.inr ⟨by rfl, rfl⟩) (by assumption) ?_
      simp only [Act.put, List.getElem_toArray, List.getElem_cons_zero, List.getElem_cons_succ, List.setIfInBounds_toArray, List.set_cons_zero, List.set_cons_succ]
      refine wpAnyH_take (i := 21) (v := undef) rfl (by kernel_rfl) (by kernel_rfl) (by kernel_rfl) (fun _ _ _ h => h) (Or.inr ⟨by rfl, rfl⟩) (by assumption) ?_
      simp only [Act.put, List.getElem_toArray, List.getElem_cons_zero, List.getElem_cons_succ, List.setIfInBounds_toArray, List.set_cons_zero, List.set_cons_succ]
      refine wpAnyH_take (i := 22) (v := undef) rfl (by kernel_rfl) (by kernel_rfl) (by kernel_rfl) (fun _ _ _ h => h) (Or.inr ⟨by rfl, rfl⟩) (by assumption) ?_
      simp only [Act.put, List.getElem_toArray, List.getElem_cons_zero, List.getElem_cons_succ, List.setIfInBounds_toArray, List.set_cons_zero, List.set_cons_succ]
      refine wpAnyH_take (i := 23) (v := ?v23_50) rfl (by kernel_rfl) (by kernel_rfl) (by kernel_rfl) (fun _ _ _ h => h) (Or.inl ⟨by rfl, ?hy23_50⟩) (by assumption) ?rest23_50
      case hy23_50 => (intro w hSw; (try dsimp only at hSw); go_simp; try (with_reducible rfl))
      simp only [Act.put, List.getElem_toArray, List.getElem_cons_zero, List.getElem_cons_succ, List.setIfInBounds_toArray, List.set_cons_zero, List.set_cons_succ]
      refine wpAnyH_done (by kernel_rfl) ?_ _
      go_wp2_with fail
      go_meet
      exact ⟨by rw [← HSB.out]; rfl, hS.2.2.2.2.2.2.2.1, hS.2.2.2.2.2.2.2.2⟩
    · by_cases k0 : k = 0
      · have hk0 : decide ((0 : Int) < (k : Int)) = false := by simp; omega
        have hk0n : decide (0 < k) = false := by simp; omega
        have HK0 := Hid.mk' k0
        clear k0
        have hS0 : wr.drew.cell? ⟨b, o + k * 7, none⟩ = some (.int .i64 y.id) ∧ wr.drew.cell? ⟨b, o + k * 7 + 1, none⟩ = some (.int .i64 y.inc) ∧ wr.drew.cell? ⟨b, o + k * 7 + 2, none⟩ = some (.int .i64 y.st) ∧ wr.drew.cell? ⟨b, o + k * 7 + 3, none⟩ = some (.int .i64 y.lo) ∧ wr.drew.cell? ⟨b, o + k * 7 + 4, none⟩ = some (.int .i64 y.hi) ∧ wr.drew.cell? ⟨b, o + k * 7 + 5, none⟩ = some (.bool y.cut) ∧ wr.drew.cell? ⟨b, o + k * 7 + 6, none⟩ = some (.slice y.p y.bag.length y.cap) ∧ Hid (InB w r wr.drew) ∧ Hid (Below wr.heap.size wr wr.drew) := ⟨e0, e1, e2, e3, e4, e5, e6, HX.out.on (Below.refl _ _).drew, (Below.refl _ _).drew⟩
        refine wp_region_held_drew (S := fun X => X.cell? ⟨b, o + k * 7, none⟩ = some (.int .i64 y.id) ∧ X.cell? ⟨b, o + k * 7 + 1, none⟩ = some (.int .i64 y.inc) ∧ X.cell? ⟨b, o + k * 7 + 2, none⟩ = some (.int .i64 y.st) ∧ X.cell? ⟨b, o + k * 7 + 3, none⟩ = some (.int .i64 y.lo) ∧ X.cell? ⟨b, o + k * 7 + 4, none⟩ = some (.int .i64 y.hi) ∧ X.cell? ⟨b, o + k * 7 + 5, none⟩ = some (.bool y.cut) ∧ X.cell? ⟨b, o + k * 7 + 6, none⟩ = some (.slice y.p y.bag.length y.cap) ∧ Hid (InB w r X) ∧ Hid (Below wr.heap.size wr X)) (by kernel_rfl) hS0 (fun hS => ?_)
        clear hS0 e0 e1 e2 e3 e4 e5 e6
        generalize wr.drew = wd at hS ⊢
        refine wpAnyH_take (i := 0) (v := ?v0_51) rfl (by kernel_rfl) (by kernel_rfl) (by kernel_rfl) (fun _ _ _ h => h) (Or.inl ⟨by rfl, ?hy0_51⟩) (by assumption) ?rest0_51
        case hy0_51 => (intro w hSw; (try dsimp only at hSw); go_simp; try (with_reducible rfl))
        simp only [Act.put, List.getElem_toArray, List.getElem_cons_zero, List.getElem_cons_succ, List.setIfInBounds_toArray, List.set_cons_zero, List.set_cons_succ]
        refine wpAnyH_take (i := 1) (v := ?v1_52) rfl (by kernel_rfl) (by kernel_rfl) (by kernel_rfl) (fun _ _ _ h => h) (Or.inl ⟨by rfl, ?hy1_52⟩) (by assumption) ?rest1_52
        case hy1_52 => (intro w hSw; (try dsimp only at hSw); go_simp; try (with_reducible rfl))
        simp only [Act.put, List.getElem_toArray, List.getElem_cons_zero, List.getElem_cons_succ, List.setIfInBounds_toArray, List.set_cons_zero, List.set_cons_succ]
        refine wpAnyH_take (i := 2) (v := ?v2_53) rfl (by kernel_rfl) (by kernel_rfl) (by kernel_rfl) (fun _ _ _ h => h) (Or.inl ⟨by rfl, ?hy2_53⟩) (by assumption) ?rest2_53
        case hy2_53 => (intro w hSw; (try dsimp only at hSw); go_simp; try (with_reducible rfl))
        simp only [Act.put, List.getElem_toArray, List.getElem_cons_zero, List.getElem_cons_succ, List.setIfInBounds_toArray, List.set_cons_zero, List.set_cons_succ]
        refine wpAnyH_take (i := 3) (v := ?v3_54) rfl (by kernel_rfl) (by kernel_rfl) (by kernel_rfl) (fun _ _ _ h => h) (Or.inl ⟨by rfl, ?hy3_54⟩) (by assumption) ?rest3_54
        case hy3_54 => (intro w hSw; (try dsimp only at hSw); go_simp; try (with_reducible rfl))
        simp only [Act.put, List.getElem_toArray, List.getElem_cons_zero, List.getElem_cons_succ, List.setIfInBounds_toArray, List.set_cons_zero, List.set_cons_succ]
        refine wpAnyH_ready (rs := [4]) (by kernel_rfl) (by simp) ?_
        refine (AllReadyH.cons rfl (fun K hK => ?_) AllReadyH.nil)
        go_simp
        refine (M _ hS.2.2.2.2.2.2.2.2.out).mono ?_
        rintro e w3 ⟨rfl, hb3⟩
        have hI3 := hS.2.2.2.2.2.2.2.1.out.on hb3
        have hB3 := hS.2.2.2.2.2.2.2.2.out.trans (hb3.mono hS.2.2.2.2.2.2.2.2.out.size)
        obtain ⟨a0, a1, a2, a3, a4, a5, a6⟩ := HXC.out _ hB3
        clear hb3
        go_wp2_with fail
        refine hK.out _ _ ?_ (fun hS' => ?_)
        · exact ⟨a0, a1, a2, a3, a4, a5, a6, hI3, hB3⟩
        clear hK K
        try simp only [Act.put, List.getElem_toArray, List.getElem_cons_zero, List.getElem_cons_succ, List.setIfInBounds_toArray, List.set_cons_zero, List.set_cons_succ]
        replace hS := hS'
        clear hS'
        refine wpAnyH_take (i := 5) (v := ?v5_55) rfl (by kernel_rfl) (by kernel_rfl) (by kernel_rfl) (fun _ _ _ h => h) (Or.inl ⟨by rfl, ?hy5_55⟩) (by assumption) ?rest5_55
        case hy5_55 => (intro w hSw; (try dsimp only at hSw); go_simp; try (with_reducible rfl))
        simp only [Act.put, List.getElem_toArray, List.getElem_cons_zero, List.getElem_cons_succ, List.setIfInBounds_toArray, List.set_cons_zero, List.set_cons_succ]
        refine wpAnyH_take (i := 6) (v := ?v6_56) rfl (by kernel_rfl) (by kernel_rfl) (by kernel_rfl) (fun _ _ _ h => h) (Or.inl ⟨by rfl, ?hy6_56⟩) (by assumption) ?rest6_56
        case hy6_56 => (intro w hSw; (try dsimp only at hSw); go_simp; try (with_reducible rfl))
        simp only [Act.put, List.getElem_toArray, List.getElem_cons_zero, List.getElem_cons_succ, List.setIfInBounds_toArray, List.set_cons_zero, List.set_cons_succ]
        refine wpAnyH_take (i := 7) (v := ?v7_57) rfl (by kernel_rfl) (by kernel_rfl) (by kernel_rfl) (fun _ _ _ h => h) (Or.inl ⟨by rfl, ?hy7_57⟩) (by assumption) ?rest7_57
        case hy7_57 => (intro w hSw; (try dsimp only at hSw); go_simp; try (with_reducible rfl))
        simp only [Act.put, List.getElem_toArray, List.getElem_cons_zero, List.getElem_cons_succ, List.setIfInBounds_toArray, List.set_cons_zero, List.set_cons_succ]
        refine wpAnyH_take (i := 8) (v := ?v8_58) rfl (by kernel_rfl) (by kernel_rfl) (by kernel_rfl) (fun _ _ _ h => h) (Or.inl ⟨by rfl, ?hy8_58⟩) (by assumption) ?rest8_58
        case hy8_58 => (intro w hSw; (try dsimp only at hSw); go_simp; try (with_reducible rfl))
        simp only [Act.put, List.getElem_toArray, List.getElem_cons_zero, List.getElem_cons_succ, List.setIfInBounds_toArray, List.set_cons_zero, List.set_cons_succ]
        refine wpAnyH_take (i := 9) (v := ?v9_59) rfl (by kernel_rfl) (by kernel_rfl) (by kernel_rfl) (fun _ _ _ h => h) (Or.inl ⟨by rfl, ?hy9_59⟩) (by assumption) ?rest9_59
        case hy9_59 => (intro w hSw; (try dsimp only at hSw); go_simp; try (with_reducible rfl))
        simp only [Act.put, List.getElem_toArray, List.getElem_cons_zero, List.getElem_cons_succ, List.setIfInBounds_toArray, List.set_cons_zero, List.set_cons_succ]
        refine wpAnyH_take (i := 10) (v := undef) rfl (by kernel_rfl) (by kernel_rfl) (by kernel_rfl) (fun _ _ _ h => h) (Or.inr ⟨by rfl, rfl⟩) (by assumption) ?_
        simp only [Act.put, List.getElem_toArray, List.getElem_cons_zero, List.getElem_cons_succ, List.setIfInBounds_toArray, List.set_cons_zero, List.set_cons_succ]
        refine wpAnyH_take (i := 11) (v := undef) rfl (by kernel_rfl) (by kernel_rfl) (by kernel_rfl) (fun _ _ _ h => h) (Or.inr ⟨by rfl, rfl⟩) (by assumption) ?_
        simp only [Act.put, List.getElem_toArray, List.getElem_cons_zero, List.getElem_cons_succ, List.setIfInBounds_toArray, List.set_cons_zero, List.set_cons_succ]
        refine wpAnyH_take (i := 12) (v := undef) rfl (by kernel_rfl) (by kernel_rfl) (by kernel_rfl) (fun _ _ _ h => h) (Or.inr ⟨by rfl, rfl⟩) (by assumption) ?_
        simp only [Act.put, List.getElem_toArray, List.getElem_cons_zero, List.getElem_cons_succ, List.setIfInBounds_toArray, List.set_cons_zero, List.set_cons_succ]
        refine wpAnyH_take (i := 13) (v := undef) rfl (by kernel_rfl) (by kernel_rfl) (by kernel_rfl) (fun _ _ _ h => h) (Or.inr ⟨by rfl, rfl⟩) (by assumption) ?_
        simp only [Act.put, List.getElem_toArray, List.getElem_cons_zero, List.getElem_cons_succ, List.setIfInBounds_toArray, List.set_cons_zero, List.set_cons_succ]
        refine wpAnyH_take (i := 14) (v := undef) rfl (by kernel_rfl) (by kernel_rfl) (by kernel_rfl) (fun _ _ _ h => h) (Or.inr ⟨by rfl, rfl⟩) (by assumption) ?_
        simp only [Act.put, List.getElem_toArray, List.getElem_cons_zero, List.getElem_cons_succ, List.setIfInBounds_toArray, List.set_cons_zero, List.set_cons_succ]
        refine wpAnyH_take (i := 15) (v := undef) rfl (by kernel_rfl) (by kernel_rfl) (by kernel_rfl) (fun _ _ _ h => h) (Or.inr ⟨by rfl, rfl⟩) (by assumption) ?_
        simp only [Act.put, List.getElem_toArray, List.getElem_cons_zero, List.getElem_cons_succ, List.setIfInBounds_toArray, List.set_cons_zero, List.set_cons_succ]
        refine wpAnyH_take (i := 16) (v := undef) rfl (by kernel_rfl) (by kernel_rfl) (by kernel_rfl) (fun _ _ _ h => h) (Or.inr ⟨by rfl, rfl⟩) (by assumption) ?_
        simp only [Act.put, List.getElem_toArray, List.getElem_cons_zero, List.getElem_cons_succ, List.setIfInBounds_toArray, List.set_cons_zero, List.set_cons_succ]
        refine wpAnyH_take (i := 17) (v := undef) rfl (by kernel_rfl) (by kernel_rfl) (by kernel_rfl) (fun _ _ _ h => h) (Or.inr ⟨by rfl, rfl⟩) (by assumption) ?_
        simp only [Act.put, List.getElem_toArray, List.getElem_cons_zero, List.getElem_cons_succ, List.setIfInBounds_toArray, List.set_cons_zero, List.set_cons_succ]
        refine wpAnyH_take (i := 18) (v := undef) rfl (by kernel_rfl) (by kernel_rfl) (by kernel_rfl) (fun _ _ _ h => h) (Or.inr ⟨by rfl, rfl⟩) (by assumption) ?_
        simp only [Act.put, List.getElem_toArray, List.getElem_cons_zero, List.getElem_cons_succ, List.setIfInBounds_toArray, List.set_cons_zero, List.set_cons_succ]
        refine wpAnyH_take (i := 19) (v := undef) rfl (by kernel_rfl) (by kernel_rfl) (by kernel_rfl) (fun _ _ _ h => h) (Or.inr ⟨by rfl, rfl⟩) (by assumption) ?_
        simp only [Act.put, List.getElem_toArray, List.getElem_cons_zero, List.getElem_cons_succ, List.setIfInBounds_toArray, List.set_cons_zero, List.set_cons_succ]
        refine wpAnyH_take (i := 20) (v := undef) rfl (by kernel_rfl) (by kernel_rfl) (by kernel_rfl) (fun _ _ _ h => h) (Or.inr ⟨by rfl, rfl⟩) (by assumption) ?_
        simp only [Act.put, List.getElem_toArray, List.getElem_cons_zero, List.getElem_cons_succ, List.setIfInBounds_toArray, List.set_cons_zero, List.set_cons_succ]
        refine wpAnyH_take (i := 21) (v := undef) rfl (by kernel_rfl) (by kernel_rfl) (by kernel_rfl) (fun _ _ _ h => h) (Or.inr ⟨by rfl, rfl⟩) (by assumption) ?_
        simp only [Act.put, List.getElem_toArray, List.getElem_cons_zero, List.getElem_cons_succ, List.setIfInBounds_toArray, List.set_cons_zero, List.set_cons_succ]
        refine wpAnyH_take (i := 22) (v := ?v22_60) rfl (by kernel_rfl) (by kernel_rfl) (by kernel_rfl) (fun _ _ _ h => h) (Or.inl ⟨by rfl, ?hy22_60⟩) (by assumption) ?rest22_60
        case hy22_60 => (intro w hSw; (try dsimp only at hSw); go_simp; try (with_reducible rfl))
        simp only [Act.put, List.getElem_toArray, List.getElem_cons_zero, List.getElem_cons_succ, List.setIfInBounds_toArray, List.set_cons_zero, List.set_cons_succ]
        refine wpAnyH_take (i := 23) (v := ?v23_61) rfl (by kernel_rfl) (by kernel_rfl) (by kernel_rfl) (fun _ _ _ h => h) (Or.inl ⟨by rfl, ?hy23_61⟩) (by assumption) ?rest23_61
        case hy23_61 => (intro w hSw; (try dsimp only at hSw); go_simp; try (with_reducible rfl))
        simp only [Act.put, List.getElem_toArray, List.getElem_cons_zero, List.getElem_cons_succ, List.setIfInBounds_toArray, List.set_cons_zero, List.set_cons_succ]
        refine wpAnyH_done (by kernel_rfl) ?_ _
        go_wp2_with fail
        go_meet
        exact ⟨by rw [← HSB.out, decide_eq_true HK0.out]; rfl, hS.2.2.2.2.2.2.2.1, hS.2.2.2.2.2.2.2.2⟩
      · have hk0 : decide ((0 : Int) < (k : Int)) = true := by simp; omega
        have hk0n : decide (0 < k) = true := by simp; omega
        obtain ⟨j, hj⟩ : ∃ j, k = j + 1 := ⟨k - 1, by omega⟩
        have HPZ := Hid.mk' (HPI.out j hj)
        have pc : wr.drew.cell? ⟨b, o + j * 7, none⟩ = some (.int .i64 pk) := by rw [HPZ.out]; exact HPC.out wr.drew (Below.refl _ _).drew j hj
        have s9 : IntKind.i64.wrap ((k : Int) - 1) = (j : Int) := by rw [IntKind.wrap_i64]; omega
        have s10 : IntKind.i64.wrap (j : Int) = (j : Int) := by rw [IntKind.wrap_i64]; omega
        have hjl : j < l.length := by omega
        have HK0 := Hid.mk' k0
        have HJ := Hid.mk' hj
        clear k0 hj
        have hS0 : wr.drew.cell? ⟨b, o + k * 7, none⟩ = some (.int .i64 y.id) ∧ wr.drew.cell? ⟨b, o + k * 7 + 1, none⟩ = some (.int .i64 y.inc) ∧ wr.drew.cell? ⟨b, o + k * 7 + 2, none⟩ = some (.int .i64 y.st) ∧ wr.drew.cell? ⟨b, o + k * 7 + 3, none⟩ = some (.int .i64 y.lo) ∧ wr.drew.cell? ⟨b, o + k * 7 + 4, none⟩ = some (.int .i64 y.hi) ∧ wr.drew.cell? ⟨b, o + k * 7 + 5, none⟩ = some (.bool y.cut) ∧ wr.drew.cell? ⟨b, o + k * 7 + 6, none⟩ = some (.slice y.p y.bag.length y.cap) ∧ wr.drew.cell? ⟨b, o + j * 7, none⟩ = some (.int .i64 pk) ∧ Hid (InB w r wr.drew) ∧ Hid (Below wr.heap.size wr wr.drew) := ⟨e0, e1, e2, e3, e4, e5, e6, pc, HX.out.on (Below.refl _ _).drew, (Below.refl _ _).drew⟩
        refine wp_region_held_drew (S := fun X => X.cell? ⟨b, o + k * 7, none⟩ = some (.int .i64 y.id) ∧ X.cell? ⟨b, o + k * 7 + 1, none⟩ = some (.int .i64 y.inc) ∧ X.cell? ⟨b, o + k * 7 + 2, none⟩ = some (.int .i64 y.st) ∧ X.cell? ⟨b, o + k * 7 + 3, none⟩ = some (.int .i64 y.lo) ∧ X.cell? ⟨b, o + k * 7 + 4, none⟩ = some (.int .i64 y.hi) ∧ X.cell? ⟨b, o + k * 7 + 5, none⟩ = some (.bool y.cut) ∧ X.cell? ⟨b, o + k * 7 + 6, none⟩ = some (.slice y.p y.bag.length y.cap) ∧ X.cell? ⟨b, o + j * 7, none⟩ = some (.int .i64 pk) ∧ Hid (InB w r X) ∧ Hid (Below wr.heap.size wr X)) (by kernel_rfl) hS0 (fun hS => ?_)
        clear hS0 e0 e1 e2 e3 e4 e5 e6
        generalize wr.drew = wd at hS ⊢
        refine wpAnyH_take (i := 0) (v := ?v0_62) rfl (by kernel_rfl) (by kernel_rfl) (by kernel_rfl) (fun _ _ _ h => h) (Or.inl ⟨by rfl, ?hy0_62⟩) (by assumption) ?rest0_62
        case hy0_62 => (intro w hSw; (try dsimp only at hSw); go_simp; try (with_reducible rfl))
        simp only [Act.put, List.getElem_toArray, List.getElem_cons_zero, List.getElem_cons_succ, List.setIfInBounds_toArray, List.set_cons_zero, List.set_cons_succ]
        refine wpAnyH_take (i := 1) (v := ?v1_63) rfl (by kernel_rfl) (by kernel_rfl) (by kernel_rfl) (fun _ _ _ h => h) (Or.inl ⟨by rfl, ?hy1_63⟩) (by assumption) ?rest1_63
        case hy1_63 => (intro w hSw; (try dsimp only at hSw); go_simp; try (with_reducible rfl))
        simp only [Act.put, List.getElem_toArray, List.getElem_cons_zero, List.getElem_cons_succ, List.setIfInBounds_toArray, List.set_cons_zero, List.set_cons_succ]
        refine wpAnyH_take (i := 2) (v := ?v2_64) rfl (by kernel_rfl) (by kernel_rfl) (by kernel_rfl) (fun _ _ _ h => h) (Or.inl ⟨by rfl, ?hy2_64⟩) (by assumption) ?rest2_64
        case hy2_64 => (intro w hSw; (try dsimp only at hSw); go_simp; try (with_reducible rfl))
        simp only [Act.put, List.getElem_toArray, List.getElem_cons_zero, List.getElem_cons_succ, List.setIfInBounds_toArray, List.set_cons_zero, List.set_cons_succ]
        refine wpAnyH_take (i := 3) (v := ?v3_65) rfl (by kernel_rfl) (by kernel_rfl) (by kernel_rfl) (fun _ _ _ h => h) (Or.inl ⟨by rfl, ?hy3_65⟩) (by assumption) ?rest3_65
        case hy3_65 => (intro w hSw; (try dsimp only at hSw); go_simp; try (with_reducible rfl))
        simp only [Act.put, List.getElem_toArray, List.getElem_cons_zero, List.getElem_cons_succ, List.setIfInBounds_toArray, List.set_cons_zero, List.set_cons_succ]
        refine wpAnyH_ready (rs := [4]) (by kernel_rfl) (by simp) ?_
        refine (AllReadyH.cons rfl (fun K hK => ?_) AllReadyH.nil)
        go_simp
        refine (M _ hS.2.2.2.2.2.2.2.2.2.out).mono ?_
        rintro e w3 ⟨rfl, hb3⟩
        have hI3 := hS.2.2.2.2.2.2.2.2.1.out.on hb3
        have hB3 := hS.2.2.2.2.2.2.2.2.2.out.trans (hb3.mono hS.2.2.2.2.2.2.2.2.2.out.size)
        obtain ⟨a0, a1, a2, a3, a4, a5, a6⟩ := HXC.out _ hB3
        have a7 : w3.cell? ⟨b, o + j * 7, none⟩ = some (.int .i64 pk) := by rw [HPZ.out]; exact HPC.out _ hB3 j HJ.out
        clear hb3
        go_wp2_with fail
        refine hK.out _ _ ?_ (fun hS' => ?_)
        · exact ⟨a0, a1, a2, a3, a4, a5, a6, a7, hI3, hB3⟩
        clear hK K
        try simp only [Act.put, List.getElem_toArray, List.getElem_cons_zero, List.getElem_cons_succ, List.setIfInBounds_toArray, List.set_cons_zero, List.set_cons_succ]
        replace hS := hS'
        clear hS'
        refine wpAnyH_take (i := 5) (v := ?v5_66) rfl (by kernel_rfl) (by kernel_rfl) (by kernel_rfl) (fun _ _ _ h => h) (Or.inl ⟨by rfl, ?hy5_66⟩) (by assumption) ?rest5_66
        case hy5_66 => (intro w hSw; (try dsimp only at hSw); go_simp; try (with_reducible rfl))
        simp only [Act.put, List.getElem_toArray, List.getElem_cons_zero, List.getElem_cons_succ, List.setIfInBounds_toArray, List.set_cons_zero, List.set_cons_succ]
        refine wpAnyH_take (i := 6) (v := ?v6_67) rfl (by kernel_rfl) (by kernel_rfl) (by kernel_rfl) (fun _ _ _ h => h) (Or.inl ⟨by rfl, ?hy6_67⟩) (by assumption) ?rest6_67
        case hy6_67 => (intro w hSw; (try dsimp only at hSw); go_simp; try (with_reducible rfl))
        simp only [Act.put, List.getElem_toArray, List.getElem_cons_zero, List.getElem_cons_succ, List.setIfInBounds_toArray, List.set_cons_zero, List.set_cons_succ]
        refine wpAnyH_take (i := 7) (v := ?v7_68) rfl (by kernel_rfl) (by kernel_rfl) (by kernel_rfl) (fun _ _ _ h => h) (Or.inl ⟨by rfl, ?hy7_68⟩) (by assumption) ?rest7_68
        case hy7_68 => (intro w hSw; (try dsimp only at hSw); go_simp; try (with_reducible rfl))
        simp only [Act.put, List.getElem_toArray, List.getElem_cons_zero, List.getElem_cons_succ, List.setIfInBounds_toArray, List.set_cons_zero, List.set_cons_succ]
        refine wpAnyH_take (i := 8) (v := ?v8_69) rfl (by kernel_rfl) (by kernel_rfl) (by kernel_rfl) (fun _ _ _ h => h) (Or.inl ⟨by rfl, ?hy8_69⟩) (by assumption) ?rest8_69
        case hy8_69 => (intro w hSw; (try dsimp only at hSw); go_simp; try (with_reducible rfl))
        simp only [Act.put, List.getElem_toArray, List.getElem_cons_zero, List.getElem_cons_succ, List.setIfInBounds_toArray, List.set_cons_zero, List.set_cons_succ]
        refine wpAnyH_take (i := 9) (v := ?v9_70) rfl (by kernel_rfl) (by kernel_rfl) (by kernel_rfl) (fun _ _ _ h => h) (Or.inl ⟨by rfl, ?hy9_70⟩) (by assumption) ?rest9_70
        case hy9_70 => (intro w hSw; (try dsimp only at hSw); go_simp; try (with_reducible rfl))
        simp only [Act.put, List.getElem_toArray, List.getElem_cons_zero, List.getElem_cons_succ, List.setIfInBounds_toArray, List.set_cons_zero, List.set_cons_succ]
        refine wpAnyH_take (i := 10) (v := ?v10_71) rfl (by kernel_rfl) (by kernel_rfl) (by kernel_rfl) (fun _ _ _ h => h) (Or.inl ⟨by rfl, ?hy10_71⟩) (by assumption) ?rest10_71
        case hy10_71 => (intro w hSw; (try dsimp only at hSw); go_simp; try (with_reducible rfl))
        simp only [Act.put, List.getElem_toArray, List.getElem_cons_zero, List.getElem_cons_succ, List.setIfInBounds_toArray, List.set_cons_zero, List.set_cons_succ]
        refine wpAnyH_take (i := 11) (v := ?v11_72) rfl (by kernel_rfl) (by kernel_rfl) (by kernel_rfl) (fun _ _ _ h => h) (Or.inl ⟨by rfl, ?hy11_72⟩) (by assumption) ?rest11_72
        case hy11_72 => (intro w hSw; (try dsimp only at hSw); go_simp; try (with_reducible rfl))
        simp only [Act.put, List.getElem_toArray, List.getElem_cons_zero, List.getElem_cons_succ, List.setIfInBounds_toArray, List.set_cons_zero, List.set_cons_succ]
        refine wpAnyH_take (i := 12) (v := ?v12_73) rfl (by kernel_rfl) (by kernel_rfl) (by kernel_rfl) (fun _ _ _ h => h) (Or.inl ⟨by rfl, ?hy12_73⟩) (by assumption) ?rest12_73
        case hy12_73 => (intro w hSw; (try dsimp only at hSw); go_simp; try (with_reducible rfl))
        simp only [Act.put, List.getElem_toArray, List.getElem_cons_zero, List.getElem_cons_succ, List.setIfInBounds_toArray, List.set_cons_zero, List.set_cons_succ]
        refine wpAnyH_take (i := 13) (v := ?v13_74) rfl (by kernel_rfl) (by kernel_rfl) (by kernel_rfl) (fun _ _ _ h => h) (Or.inl ⟨by rfl, ?hy13_74⟩) (by assumption) ?rest13_74
        case hy13_74 => (intro w hSw; (try dsimp only at hSw); go_simp; try (with_reducible rfl))
        simp only [Act.put, List.getElem_toArray, List.getElem_cons_zero, List.getElem_cons_succ, List.setIfInBounds_toArray, List.set_cons_zero, List.set_cons_succ]
        refine wpAnyH_take (i := 14) (v := ?v14_75) rfl (by kernel_rfl) (by kernel_rfl) (by kernel_rfl) (fun _ _ _ h => h) (Or.inl ⟨by rfl, ?hy14_75⟩) (by assumption) ?rest14_75
        case hy14_75 => (intro w hSw; (try dsimp only at hSw); go_simp; try (with_reducible rfl))
        simp only [Act.put, List.getElem_toArray, List.getElem_cons_zero, List.getElem_cons_succ, List.setIfInBounds_toArray, List.set_cons_zero, List.set_cons_succ]
        refine wpAnyH_take (i := 15) (v := ?v15_76) rfl (by kernel_rfl) (by kernel_rfl) (by kernel_rfl) (fun _ _ _ h => h) (Or.inl ⟨by rfl, ?hy15_76⟩) (by assumption) ?rest15_76
        case hy15_76 => (intro w hSw; (try dsimp only at hSw); go_simp; try (with_reducible rfl))
        simp only [Act.put, List.getElem_toArray, List.getElem_cons_zero, List.getElem_cons_succ, List.setIfInBounds_toArray, List.set_cons_zero, List.set_cons_succ]
        refine wpAnyH_take (i := 16) (v := ?v16_77) rfl (by kernel_rfl) (by kernel_rfl) (by kernel_rfl) (fun _ _ _ h => h) (Or.inl ⟨by rfl, ?hy16_77⟩) (by assumption) ?rest16_77
        case hy16_77 => (intro w hSw; (try dsimp only at hSw); go_simp; try (with_reducible rfl))
        simp only [Act.put, List.getElem_toArray, List.getElem_cons_zero, List.getElem_cons_succ, List.setIfInBounds_toArray, List.set_cons_zero, List.set_cons_succ]
        refine wpAnyH_take (i := 17) (v := ?v17_78) rfl (by kernel_rfl) (by kernel_rfl) (by kernel_rfl) (fun _ _ _ h => h) (Or.inl ⟨by rfl, ?hy17_78⟩) (by assumption) ?rest17_78
        case hy17_78 => (intro w hSw; (try dsimp only at hSw); go_simp; try (with_reducible rfl))
        simp only [Act.put, List.getElem_toArray, List.getElem_cons_zero, List.getElem_cons_succ, List.setIfInBounds_toArray, List.set_cons_zero, List.set_cons_succ]
        refine wpAnyH_take (i := 18) (v := ?v18_79) rfl (by kernel_rfl) (by kernel_rfl) (by kernel_rfl) (fun _ _ _ h => h) (Or.inl ⟨by rfl, ?hy18_79⟩) (by assumption) ?rest18_79
        case hy18_79 => (intro w hSw; (try dsimp only at hSw); go_simp; try (with_reducible rfl))
        simp only [Act.put, List.getElem_toArray, List.getElem_cons_zero, List.getElem_cons_succ, List.setIfInBounds_toArray, List.set_cons_zero, List.set_cons_succ]
        refine wpAnyH_take (i := 19) (v := ?v19_80) rfl (by kernel_rfl) (by kernel_rfl) (by kernel_rfl) (fun _ _ _ h => h) (Or.inl ⟨by rfl, ?hy19_80⟩) (by assumption) ?rest19_80
        case hy19_80 => (intro w hSw; (try dsimp only at hSw); go_simp; try (with_reducible rfl))
        simp only [Act.put, List.getElem_toArray, List.getElem_cons_zero, List.getElem_cons_succ, List.setIfInBounds_toArray, List.set_cons_zero, List.set_cons_succ]
        refine wpAnyH_take (i := 20) (v := ?v20_81) rfl (by kernel_rfl) (by kernel_rfl) (by kernel_rfl) (fun _ _ _ h => h) (Or.inl ⟨by rfl, ?hy20_81⟩) (by assumption) ?rest20_81
        case hy20_81 => (intro w hSw; (try dsimp only at hSw); go_simp; try (with_reducible rfl))
        simp only [Act.put, List.getElem_toArray, List.getElem_cons_zero, List.getElem_cons_succ, List.setIfInBounds_toArray, List.set_cons_zero, List.set_cons_succ]
        refine wpAnyH_take (i := 21) (v := ?v21_82) rfl (by kernel_rfl) (by kernel_rfl) (by kernel_rfl) (fun _ _ _ h => h) (Or.inl ⟨by rfl, ?hy21_82⟩) (by assumption) ?rest21_82
        case hy21_82 => (intro w hSw; (try dsimp only at hSw); go_simp; try (with_reducible rfl))
        simp only [Act.put, List.getElem_toArray, List.getElem_cons_zero, List.getElem_cons_succ, List.setIfInBounds_toArray, List.set_cons_zero, List.set_cons_succ]
        refine wpAnyH_take (i := 22) (v := ?v22_83) rfl (by kernel_rfl) (by kernel_rfl) (by kernel_rfl) (fun _ _ _ h => h) (Or.inl ⟨by rfl, ?hy22_83⟩) (by assumption) ?rest22_83
        case hy22_83 => (intro w hSw; (try dsimp only at hSw); go_simp; try (with_reducible rfl))
        simp only [Act.put, List.getElem_toArray, List.getElem_cons_zero, List.getElem_cons_succ, List.setIfInBounds_toArray, List.set_cons_zero, List.set_cons_succ]
        refine wpAnyH_take (i := 23) (v := ?v23_84) rfl (by kernel_rfl) (by kernel_rfl) (by kernel_rfl) (fun _ _ _ h => h) (Or.inl ⟨by rfl, ?hy23_84⟩) (by assumption) ?rest23_84
        case hy23_84 => (intro w hSw; (try dsimp only at hSw); go_simp; try (with_reducible rfl))
        simp only [Act.put, List.getElem_toArray, List.getElem_cons_zero, List.getElem_cons_succ, List.setIfInBounds_toArray, List.set_cons_zero, List.set_cons_succ]
        refine wpAnyH_done (by kernel_rfl) ?_ _
        go_wp2_with fail
        go_meet
        exact ⟨by rw [← HSB.out, decide_eq_false HK0.out]; by_cases q : pk < y.id <;> simp [q] <;> omega, hS.2.2.2.2.2.2.2.2.1, hS.2.2.2.2.2.2.2.2.2⟩
  case rest =>
  obtain ⟨rfl, HX2, HB2⟩ := hcut
  clear M HX HPI HPC e0 e1 e2 e3 e4 e5 e6 HSB
  go_upto_if 56 with fail
  go_cut [7] (fun s wx => s = .bool (sv && sb) ∧ Hid (InB w r wx) ∧ Hid (Below wr.heap.size wr wx))
  case first =>
    cases sb
    · go_wp2_with fail
      go_meet
      exact ⟨by simp, HX2, HB2⟩
    · go_wp2_with fail
      go_meet
      exact ⟨by simp, HX2, HB2⟩
  case rest =>
  obtain ⟨rfl, HX3, HB3⟩ := hcut
  clear HX2 HB2
  obtain ⟨e0, _, _, _, _, _, _⟩ := HXC.out _ HB3.out
  go_upto_region 12 with fail
  go_cut [67] (fun t wx => t = .bool ((y.id == v) && decide (ra < 0)) ∧ Hid (InB w r wx) ∧ Hid (Below wr.heap.size wr wx))
  case first =>
    by_cases q : y.id = v
    · have d1 : (y.id == v) = true := by simpa using q
      clear q
      go_wp2_with fail
      go_meet
      exact ⟨by rw [d1]; rfl, HX3, HB3⟩
    · have d1 : (y.id == v) = false := by simpa using q
      clear q
      go_wp2_with fail
      go_meet
      exact ⟨by rw [d1]; rfl, HX3, HB3⟩
  case rest =>
  obtain ⟨rfl, HX4, HB4⟩ := hcut
  clear HX3 HB3 e0
  obtain ⟨qa, hqa⟩ : ∃ qa, ((y.id == v) && decide (ra < 0)) = qa := ⟨_, rfl⟩
  rw [hqa]
  have HQA := Hid.mk' hqa
  clear hqa
  go_upto_if 67 with fail
  go_cut [8] (fun a wx => ∃ ra', a = .int .i64 ra' ∧ Hid (FstR (fun i => i == v) l (k + 1) ra') ∧ Hid (InB w r wx) ∧ Hid (Below wr.heap.size wr wx))
  case first =>
    cases qa
    · have HN := Hid.mk' (show FstR (fun i => i == v) l (k + 1) ra from by
        have h := HQA.out
        by_cases q1 : (y.id == v) = true
        · rw [q1] at h
          exact HA3.out (by simpa using h)
        · exact HA1.out (by simpa using q1))
      go_wp2_with fail
      go_meet
      exact ⟨ra, rfl, HN, HX4, HB4⟩
    · have HN := Hid.mk' (show FstR (fun i => i == v) l (k + 1) k from by
        have h := HQA.out
        simp only [Bool.and_eq_true, decide_eq_true_eq] at h
        exact HA2.out h.2 h.1)
      go_wp2_with fail
      go_meet
      exact ⟨k, rfl, HN, HX4, HB4⟩
  case rest =>
  obtain ⟨ra', rfl, HRA, HX5, HB5⟩ := hcut
  clear HX4 HB4 HA1 HA2 HA3 HQA
  obtain ⟨e0, _, _, _, _, _, _⟩ := HXC.out _ HB5.out
  obtain ⟨g0, _, _, _, _, _, _⟩ := box_cells HX5.out.box
  clear HXC HFK
  by_cases q1 : y.id = r.id
  · have d1 : (y.id == r.id) = true := by simpa using q1
    have d2 : decide (r.id < y.id) = false := by simp; omega
    have HU := Hid.mk' (HU1.out d2)
    clear HU1 HU2 HU3
    by_cases q2 : rs < 0
    · have HM := Hid.mk' (HM2.out q2 d1)
      clear HM1 HM2 HM3 q1
      go_wp2_with fail
      go_quiet (fail)
      go_wp2_with fail
      go_quiet (fail)
      go_wp2_with fail
      go_roundw
      case rel => exact ⟨k + 1, sv && sb, ra', k, ru, by omega, by go_num, rfl, rfl, rfl, rfl, HS', HRA, HM, HU, HX5.out.on (bel_drewN (Below.refl _ _) _)⟩
      case measure => simp [intOf]; omega
    · have HM := Hid.mk' (HM3.out q2)
      clear HM1 HM2 HM3 q1
      go_wp2_with fail
      go_quiet (fail)
      go_wp2_with fail
      go_quiet (fail)
      go_wp2_with fail
      go_roundw
      case rel => exact ⟨k + 1, sv && sb, ra', rs, ru, by omega, by go_num, rfl, rfl, rfl, rfl, HS', HRA, HM, HU, HX5.out.on (bel_drewN (Below.refl _ _) _)⟩
      case measure => simp [intOf]; omega
  · have d1 : (y.id == r.id) = false := by simpa using q1
    have HM := Hid.mk' (HM1.out d1)
    clear HM1 HM2 HM3
    by_cases q3 : r.id < y.id
    · have d2 : decide (r.id < y.id) = true := by simpa using q3
      by_cases q2 : ru < 0
      · have HU := Hid.mk' (HU2.out q2 d2)
        clear HU1 HU2 HU3 q1
        go_wp2_with fail
        go_quiet (fail)
        go_wp2_with fail
        go_quiet (fail)
        go_wp2_with fail
        go_roundw
        case rel => exact ⟨k + 1, sv && sb, ra', rs, k, by omega, by go_num, rfl, rfl, rfl, rfl, HS', HRA, HM, HU, HX5.out.on (bel_drewN (Below.refl _ _) _)⟩
        case measure => simp [intOf]; omega
      · have HU := Hid.mk' (HU3.out q2)
        clear HU1 HU2 HU3 q1
        go_wp2_with fail
        go_quiet (fail)
        go_wp2_with fail
        go_quiet (fail)
        go_wp2_with fail
        go_roundw
        case rel => exact ⟨k + 1, sv && sb, ra', rs, ru, by omega, by go_num, rfl, rfl, rfl, rfl, HS', HRA, HM, HU, HX5.out.on (bel_drewN (Below.refl _ _) _)⟩
        case measure => simp [intOf]; omega
    · have d2 : decide (r.id < y.id) = false := by simpa using q3
      have HU := Hid.mk' (HU1.out d2)
      clear HU1 HU2 HU3 q1
      go_wp2_with fail
      go_quiet (fail)
      go_wp2_with fail
      go_quiet (fail)
      go_wp2_with fail
      go_roundw
      case rel => exact ⟨k + 1, sv && sb, ra', rs, ru, by omega, by go_num, rfl, rfl, rfl, rfl, HS', HRA, HM, HU, HX5.out.on (bel_drewN (Below.refl _ _) _)⟩
      case measure => simp [intOf]; omega
end Go.Proofs.Ytdfjjajkeieocaa.recLists
