/-
  A statement of stage 13: its walk, over what is wanted of the program's functions.
-/
import Derived.Test.YtmejfkhikgcgmaaDoorRows
import Derived.Test.YtmejfkhikgcgmaaDoorP06
import Derived.ShutString
import Derived.ChangeOld
namespace Go.Proofs.YtmejfkhikgcgmaaDoor.gen2Writes
open Go Go.ChangeShapes Go.WideShapes Go.ChangeAt Go.RowKit
open Go.ChangeMaps (open_string shut_string)
set_option linter.unusedVariables false
set_option maxRecDepth 10000
set_option linter.unusedSimpArgs false
set_option synthInstance.maxSize 2000

theorem inm_s {w X : World} {m : Mg} (h : InM w m X) : X.cell? ⟨w.heap.size, 0, none⟩ = some (.int .i64 m.kind) ∧ X.cell? ⟨w.heap.size, 1, none⟩ = some (.int .i64 m.frm) ∧ X.cell? ⟨w.heap.size, 2, none⟩ = some (.int .i64 m.inc) ∧ X.cell? ⟨w.heap.size, 3, none⟩ = some (.int .i64 m.lo) ∧ X.cell? ⟨w.heap.size, 4, none⟩ = some (.int .i64 m.hi) ∧ X.cell? ⟨w.heap.size, 5, none⟩ = some (.int .i64 m.seq) ∧ X.cell? ⟨w.heap.size, 6, none⟩ = some (.int .i64 m.tgt) ∧ X.cell? ⟨w.heap.size, 7, none⟩ = some (.int .i64 m.life) ∧ X.cell? ⟨w.heap.size, 8, none⟩ = some (.int .i64 m.epoch) ∧ X.cell? ⟨w.heap.size, 9, none⟩ = some (.int .i64 m.base) ∧ X.cell? ⟨w.heap.size, 10, none⟩ = some (.slice m.p m.recs.length m.cap) ∧ Hid (InM w m X) := by
  obtain ⟨c0, c1, c2, c3, c4, c5, c6, c7, c8, c9, c10⟩ := mbox_cells h.box
  exact ⟨c0, c1, c2, c3, c4, c5, c6, c7, c8, c9, c10, h⟩

set_option maxRecDepth 10000 in
set_option maxHeartbeats 8000000 in
theorem walk0 (G : Gen2Ok) (m : Mg) (w : World) (hK : Kd w) (hm : MOk w m) :
    Calls Tryd.prog 3 #[.agg #[.int .i64 m.kind, .int .i64 m.frm, .int .i64 m.inc, .int .i64 m.lo, .int .i64 m.hi, .int .i64 m.seq, .int .i64 m.tgt, .int .i64 m.life, .int .i64 m.epoch, .int .i64 m.base, .slice m.p m.recs.length m.cap]] w fun e w' => e = .returned (.bool true) ∧ Below w.heap.size w w' := by
  have AW := fun X (h : Below w.heap.size w X) => awake13_any G X (hK.below h)
  have HI := Hid.mk' (InM.start w m)
  have FA := fun X (h : InM w m X) => lfewM_any m X (hm.below h.below)
  obtain ⟨fa, hfa⟩ : ∃ fa, fewR (rks m.recs) = fa := ⟨_, rfl⟩
  rw [hfa] at FA
  have HF := Hid.mk' hfa
  clear hfa
  go_enter Tryd.func3, Tryd.ntmps3
  go_wp2_with fail
  refine (FA _ HI.out).mono ?_
  rintro e w1 ⟨rfl, hb1⟩
  have HI1 := Hid.mk' (HI.out.on hb1)
  clear hb1 HI FA
  cases fa
  · go_wp2_with fail
    refine (AW _ HI1.out.below).mono ?_
    rintro e w2 ⟨rfl, hb2⟩
    have HB2 := Hid.mk' (HI1.out.on hb2).below
    clear hb2
    go_wp2_with fail
    go_ret
    exact ⟨rfl, HB2.out⟩
  have hz : ∀ x ∈ m.recs, szK (kys x.bag) ≤ 4611686018427387904 := fun x hx => by have := ((fewR_yes HF.out).2 x hx).2; omega
  have LF := fun X (h : InM w m X) => lfits2_any m X (hm.below h.below) hz (hK.below h.below)
  have GF := fun X (h : InM w m X) => G.fits m X (hm.below h.below) hz (hK.below h.below)
  have VD := fun X (h : InM w m X) => mvalid_any m X (hm.below h.below) hz (hK.below h.below)
  have EN := fun X (h : InM w m X) => G.enc m X (hm.below h.below) hz (hK.below h.below)
  have BD := fun (hy : mayM m = true) X (h : InM w m X) => lbody2_any m X (hm.below h.below) hy (hK.below h.below)
  have SZ := fun X (h : InM w m X) => G.size m X (hm.below h.below) hz (hK.below h.below)
  have HSZ := Hid.mk' (show size2 m = if mayM m = true then ((body2 (mv m)).length : Int) else 0 from rfl)
  obtain ⟨sz, hsz⟩ : ∃ z, size2 m = z := ⟨_, rfl⟩
  rw [hsz] at SZ HSZ
  clear hsz
  simp only [EncPost2] at EN
  obtain ⟨ft, hft⟩ : ∃ ft, fit2 m = ft := ⟨_, rfl⟩
  obtain ⟨mb, hmb⟩ : ∃ mb, mayM m = mb := ⟨_, rfl⟩
  rw [hft] at LF GF
  rw [hmb] at VD
  have HFT := Hid.mk' hft
  have HMB := Hid.mk' hmb
  clear hz HF hm hK hft hmb
  obtain ⟨c0, c1, c2, c3, c4, c5, c6, c7, c8, c9, c10⟩ := mbox_cells HI1.out.box
  go_wp2_with fail
  refine (EN _ HI1.out).mono ?_
  rintro e w3 ⟨p, c, b, err, rfl, hB3, hib3, hq0, hqc, hqm, hql, hb3, hE⟩
  have HI3 := Hid.mk' (HI1.out.on hb3)
  have HB3 := Hid.mk' hB3
  have HE := Hid.mk' hE
  clear hb3 hE hB3 hib3 hq0 HI1 EN c0 c1 c2 c3 c4 c5 c6 c7 c8 c9 c10
  have hff : (ft != ft) = false := by simp
  go_upto_region 4 with fail
  go_cut [20] (fun t wx => t = .bool false ∧ Hid (InM w m wx) ∧ Hid (BIn wx p b))
  case first =>
    go_wp2_with fail
    have hS0 : w3.drew.cell? ⟨w.heap.size, 0, none⟩ = some (.int .i64 m.kind) ∧ w3.drew.cell? ⟨w.heap.size, 1, none⟩ = some (.int .i64 m.frm) ∧ w3.drew.cell? ⟨w.heap.size, 2, none⟩ = some (.int .i64 m.inc) ∧ w3.drew.cell? ⟨w.heap.size, 3, none⟩ = some (.int .i64 m.lo) ∧ w3.drew.cell? ⟨w.heap.size, 4, none⟩ = some (.int .i64 m.hi) ∧ w3.drew.cell? ⟨w.heap.size, 5, none⟩ = some (.int .i64 m.seq) ∧ w3.drew.cell? ⟨w.heap.size, 6, none⟩ = some (.int .i64 m.tgt) ∧ w3.drew.cell? ⟨w.heap.size, 7, none⟩ = some (.int .i64 m.life) ∧ w3.drew.cell? ⟨w.heap.size, 8, none⟩ = some (.int .i64 m.epoch) ∧ w3.drew.cell? ⟨w.heap.size, 9, none⟩ = some (.int .i64 m.base) ∧ w3.drew.cell? ⟨w.heap.size, 10, none⟩ = some (.slice m.p m.recs.length m.cap) ∧ Hid (InM w m w3.drew) := inm_s (HI3.out.on (Below.refl _ _).drew)
    have HBd := Hid.mk' (HB3.out.below (Below.refl _ _).drew)
    refine wp_region_held_drew (S := fun X => X.cell? ⟨w.heap.size, 0, none⟩ = some (.int .i64 m.kind) ∧ X.cell? ⟨w.heap.size, 1, none⟩ = some (.int .i64 m.frm) ∧ X.cell? ⟨w.heap.size, 2, none⟩ = some (.int .i64 m.inc) ∧ X.cell? ⟨w.heap.size, 3, none⟩ = some (.int .i64 m.lo) ∧ X.cell? ⟨w.heap.size, 4, none⟩ = some (.int .i64 m.hi) ∧ X.cell? ⟨w.heap.size, 5, none⟩ = some (.int .i64 m.seq) ∧ X.cell? ⟨w.heap.size, 6, none⟩ = some (.int .i64 m.tgt) ∧ X.cell? ⟨w.heap.size, 7, none⟩ = some (.int .i64 m.life) ∧ X.cell? ⟨w.heap.size, 8, none⟩ = some (.int .i64 m.epoch) ∧ X.cell? ⟨w.heap.size, 9, none⟩ = some (.int .i64 m.base) ∧ X.cell? ⟨w.heap.size, 10, none⟩ = some (.slice m.p m.recs.length m.cap) ∧ Hid (InM w m X)) (by kernel_rfl) hS0 (fun hS => ?_)
    clear hS0 HI3 HB3
    generalize w3.drew = wd at hS HBd ⊢
    refine wpAnyH_take (i := 0) (v := ?v0_85) rfl (by kernel_rfl) (by kernel_rfl) (by kernel_rfl) (fun _ _ _ h => h) (Or.inl ⟨by rfl, ?hy0_85⟩) (by assumption) ?rest0_85
    case hy0_85 => (intro w hSw; (try dsimp only at hSw); go_simp; try (with_reducible rfl))
    simp only [Act.put, List.getElem_toArray, List.getElem_cons_zero, List.getElem_cons_succ, List.setIfInBounds_toArray, List.set_cons_zero, List.set_cons_succ]
    refine wpAnyH_take (i := 2) (v := ?v2_86) rfl (by kernel_rfl) (by kernel_rfl) (by kernel_rfl) (fun _ _ _ h => h) (Or.inl ⟨by rfl, ?hy2_86⟩) (by assumption) ?rest2_86
    case hy2_86 => (intro w hSw; (try dsimp only at hSw); go_simp; try (with_reducible rfl))
    simp only [Act.put, List.getElem_toArray, List.getElem_cons_zero, List.getElem_cons_succ, List.setIfInBounds_toArray, List.set_cons_zero, List.set_cons_succ]
    refine wpAnyH_ready (rs := [1]) (by kernel_rfl) (by simp) ?_
    refine (AllReadyH.cons rfl (fun K hK => ?_) AllReadyH.nil)
    go_simp
    refine (GF _ hS.2.2.2.2.2.2.2.2.2.2.2.out).mono ?_
    rintro e x1 ⟨rfl, hb1⟩
    have hI1 := hS.2.2.2.2.2.2.2.2.2.2.2.out.on hb1
    have HBe := Hid.mk' (HBd.out.below hb1)
    clear hb1
    go_wp2_with fail
    refine hK.out _ _ ?_ (fun hS' => ?_)
    · exact inm_s hI1
    clear hK K
    try simp only [Act.put, List.getElem_toArray, List.getElem_cons_zero, List.getElem_cons_succ, List.setIfInBounds_toArray, List.set_cons_zero, List.set_cons_succ]
    replace hS := hS'
    clear hS'
    refine wpAnyH_ready (rs := [3]) (by kernel_rfl) (by simp) ?_
    refine (AllReadyH.cons rfl (fun K hK => ?_) AllReadyH.nil)
    go_simp
    refine (LF _ hS.2.2.2.2.2.2.2.2.2.2.2.out).mono ?_
    rintro e x3 ⟨rfl, hb1⟩
    have hI3 := hS.2.2.2.2.2.2.2.2.2.2.2.out.on hb1
    have HBf := Hid.mk' (HBe.out.below hb1)
    clear hb1
    go_wp2_with fail
    refine hK.out _ _ ?_ (fun hS' => ?_)
    · exact inm_s hI3
    clear hK K
    try simp only [Act.put, List.getElem_toArray, List.getElem_cons_zero, List.getElem_cons_succ, List.setIfInBounds_toArray, List.set_cons_zero, List.set_cons_succ]
    replace hS := hS'
    clear hS'
    refine wpAnyH_take (i := 4) (v := ?v4_87) rfl (by kernel_rfl) (by kernel_rfl) (by kernel_rfl) (fun _ _ _ h => h) (Or.inl ⟨by rfl, ?hy4_87⟩) (by assumption) ?rest4_87
    case hy4_87 => (intro w hSw; (try dsimp only at hSw); go_simp; try (with_reducible rfl))
    simp only [Act.put, List.getElem_toArray, List.getElem_cons_zero, List.getElem_cons_succ, List.setIfInBounds_toArray, List.set_cons_zero, List.set_cons_succ]
    refine wpAnyH_take (i := 5) (v := ?v5_88) rfl (by kernel_rfl) (by kernel_rfl) (by kernel_rfl) (fun _ _ _ h => h) (Or.inl ⟨by rfl, ?hy5_88⟩) (by assumption) ?rest5_88
    case hy5_88 => (intro w hSw; (try dsimp only at hSw); go_simp; try (with_reducible rfl))
    simp only [Act.put, List.getElem_toArray, List.getElem_cons_zero, List.getElem_cons_succ, List.setIfInBounds_toArray, List.set_cons_zero, List.set_cons_succ]
    refine wpAnyH_take (i := 6) (v := ?v6_89) rfl (by kernel_rfl) (by kernel_rfl) (by kernel_rfl) (fun _ _ _ h => h) (Or.inl ⟨by rfl, ?hy6_89⟩) (by assumption) ?rest6_89
    case hy6_89 => (intro w hSw; (try dsimp only at hSw); go_simp; try (with_reducible rfl))
    simp only [Act.put, List.getElem_toArray, List.getElem_cons_zero, List.getElem_cons_succ, List.setIfInBounds_toArray, List.set_cons_zero, List.set_cons_succ]
    refine wpAnyH_done (by kernel_rfl) ?_ _
    go_wp2_with fail
    go_meet
    exact ⟨rfl, hS.2.2.2.2.2.2.2.2.2.2.2, HBf⟩
  case rest =>
  obtain ⟨rfl, HI4, HB4⟩ := hcut
  clear HI3 HB3 GF hff
  obtain ⟨c0, c1, c2, c3, c4, c5, c6, c7, c8, c9, c10⟩ := mbox_cells HI4.out.box
  go_wp2_with fail
  refine (VD _ HI4.out).mono ?_
  rintro e w5 ⟨rfl, hb5⟩
  have HI5 := Hid.mk' (HI4.out.on hb5)
  have HB5 := Hid.mk' (HB4.out.below hb5)
  clear hb5 HI4 HB4 VD c0 c1 c2 c3 c4 c5 c6 c7 c8 c9 c10
  cases mb
  · have hE2 : err = 1 ∧ b = [] := by
      rcases HE.out with ⟨h1, _, _⟩ | ⟨_, h1, h2⟩ | ⟨h1, _⟩
      · have := HMB.out
        simp only [fit2, this, Bool.false_and] at h1
        exact absurd h1 (by simp)
      · exact ⟨h1, h2⟩
      · rw [HMB.out] at h1; exact absurd h1 (by simp)
    obtain ⟨rfl, rfl⟩ := hE2
    obtain rfl : sz = 0 := by rw [HSZ.out, HMB.out]; simp
    clear HSZ
    simp only [List.length_nil] at *
    obtain ⟨c0, c1, c2, c3, c4, c5, c6, c7, c8, c9, c10⟩ := mbox_cells HI5.out.box
    go_wp2_with fail
    refine (SZ _ HI5.out).mono ?_
    rintro e w6 ⟨rfl, hb6⟩
    have HI6 := Hid.mk' (HI5.out.on hb6)
    clear hb6 HI5 SZ c0 c1 c2 c3 c4 c5 c6 c7 c8 c9 c10
    go_wp2_with fail
    refine (AW _ HI6.out.below).mono ?_
    rintro e w7 ⟨rfl, hb7⟩
    have HB7 := Hid.mk' (HI6.out.on hb7).below
    clear hb7
    go_wp2_with fail
    go_ret
    exact ⟨rfl, HB7.out⟩
  have BDy := Hid.mk' (BD (by rw [HMB.out]))
  obtain rfl : sz = ((body2 (mv m)).length : Int) := by rw [HSZ.out, HMB.out]; simp
  have HBY := Hid.mk' BDy.out
  obtain ⟨R, hR⟩ : ∃ R, body2 (mv m) = R := ⟨_, rfl⟩
  have HRR := Hid.mk' hR
  simp only [hR] at SZ
  have BDR := Hid.mk' (show ∀ X, InM w m X → Calls Tryd.prog 14 #[.agg #[.int .i64 m.kind, .int .i64 m.frm, .int .i64 m.inc, .int .i64 m.lo, .int .i64 m.hi, .int .i64 m.seq, .int .i64 m.tgt, .int .i64 m.life, .int .i64 m.epoch, .int .i64 m.base, .slice m.p m.recs.length m.cap]] X fun e w' => ∃ p c, e = .returned (.slice p R.length c) ∧ BIn w' p R ∧ (p = none → c = 0) ∧ Below X.heap.size X w' from fun X h => by rw [← hR]; exact BDy.out X h)
  clear hR BDy HBY HSZ BD
  have hnn : ((R.length : Int) != (R.length : Int)) = false := by simp
  go_upto_region 8 with fail
  go_cut [44] (fun t wx => t = .bool false ∧ Hid (InM w m wx) ∧ Hid (BIn wx p b))
  case first =>
    go_wp2_with fail
    have hS0 : w5.drew.cell? ⟨w.heap.size, 0, none⟩ = some (.int .i64 m.kind) ∧ w5.drew.cell? ⟨w.heap.size, 1, none⟩ = some (.int .i64 m.frm) ∧ w5.drew.cell? ⟨w.heap.size, 2, none⟩ = some (.int .i64 m.inc) ∧ w5.drew.cell? ⟨w.heap.size, 3, none⟩ = some (.int .i64 m.lo) ∧ w5.drew.cell? ⟨w.heap.size, 4, none⟩ = some (.int .i64 m.hi) ∧ w5.drew.cell? ⟨w.heap.size, 5, none⟩ = some (.int .i64 m.seq) ∧ w5.drew.cell? ⟨w.heap.size, 6, none⟩ = some (.int .i64 m.tgt) ∧ w5.drew.cell? ⟨w.heap.size, 7, none⟩ = some (.int .i64 m.life) ∧ w5.drew.cell? ⟨w.heap.size, 8, none⟩ = some (.int .i64 m.epoch) ∧ w5.drew.cell? ⟨w.heap.size, 9, none⟩ = some (.int .i64 m.base) ∧ w5.drew.cell? ⟨w.heap.size, 10, none⟩ = some (.slice m.p m.recs.length m.cap) ∧ Hid (InM w m w5.drew) := inm_s (HI5.out.on (Below.refl _ _).drew)
    have HBd := Hid.mk' (HB5.out.below (Below.refl _ _).drew)
    refine wp_region_held_drew (S := fun X => X.cell? ⟨w.heap.size, 0, none⟩ = some (.int .i64 m.kind) ∧ X.cell? ⟨w.heap.size, 1, none⟩ = some (.int .i64 m.frm) ∧ X.cell? ⟨w.heap.size, 2, none⟩ = some (.int .i64 m.inc) ∧ X.cell? ⟨w.heap.size, 3, none⟩ = some (.int .i64 m.lo) ∧ X.cell? ⟨w.heap.size, 4, none⟩ = some (.int .i64 m.hi) ∧ X.cell? ⟨w.heap.size, 5, none⟩ = some (.int .i64 m.seq) ∧ X.cell? ⟨w.heap.size, 6, none⟩ = some (.int .i64 m.tgt) ∧ X.cell? ⟨w.heap.size, 7, none⟩ = some (.int .i64 m.life) ∧ X.cell? ⟨w.heap.size, 8, none⟩ = some (.int .i64 m.epoch) ∧ X.cell? ⟨w.heap.size, 9, none⟩ = some (.int .i64 m.base) ∧ X.cell? ⟨w.heap.size, 10, none⟩ = some (.slice m.p m.recs.length m.cap) ∧ Hid (InM w m X)) (by kernel_rfl) hS0 (fun hS => ?_)
    clear hS0 HI5 HB5
    generalize w5.drew = wd at hS HBd ⊢
    refine wpAnyH_take (i := 0) (v := ?v0_90) rfl (by kernel_rfl) (by kernel_rfl) (by kernel_rfl) (fun _ _ _ h => h) (Or.inl ⟨by rfl, ?hy0_90⟩) (by assumption) ?rest0_90
    case hy0_90 => (intro w hSw; (try dsimp only at hSw); go_simp; try (with_reducible rfl))
    simp only [Act.put, List.getElem_toArray, List.getElem_cons_zero, List.getElem_cons_succ, List.setIfInBounds_toArray, List.set_cons_zero, List.set_cons_succ]
    refine wpAnyH_take (i := 2) (v := ?v2_91) rfl (by kernel_rfl) (by kernel_rfl) (by kernel_rfl) (fun _ _ _ h => h) (Or.inl ⟨by rfl, ?hy2_91⟩) (by assumption) ?rest2_91
    case hy2_91 => (intro w hSw; (try dsimp only at hSw); go_simp; try (with_reducible rfl))
    simp only [Act.put, List.getElem_toArray, List.getElem_cons_zero, List.getElem_cons_succ, List.setIfInBounds_toArray, List.set_cons_zero, List.set_cons_succ]
    refine wpAnyH_ready (rs := [1]) (by kernel_rfl) (by simp) ?_
    refine (AllReadyH.cons rfl (fun K hK => ?_) AllReadyH.nil)
    go_simp
    refine (SZ _ hS.2.2.2.2.2.2.2.2.2.2.2.out).mono ?_
    rintro e x1 ⟨rfl, hb1⟩
    have hI1 := hS.2.2.2.2.2.2.2.2.2.2.2.out.on hb1
    have HBe := Hid.mk' (HBd.out.below hb1)
    clear hb1
    go_wp2_with fail
    refine hK.out _ _ ?_ (fun hS' => ?_)
    · exact inm_s hI1
    clear hK K
    try simp only [Act.put, List.getElem_toArray, List.getElem_cons_zero, List.getElem_cons_succ, List.setIfInBounds_toArray, List.set_cons_zero, List.set_cons_succ]
    replace hS := hS'
    clear hS'
    refine wpAnyH_ready (rs := [3]) (by kernel_rfl) (by simp) ?_
    refine (AllReadyH.cons rfl (fun K hK => ?_) AllReadyH.nil)
    go_simp
    refine (BDR.out _ hS.2.2.2.2.2.2.2.2.2.2.2.out).mono ?_
    rintro e x3 ⟨p3, c3v, rfl, _, _, hb1⟩
    have hI3 := hS.2.2.2.2.2.2.2.2.2.2.2.out.on hb1
    have HBf := Hid.mk' (HBe.out.below hb1)
    clear hb1
    go_wp2_with fail
    refine hK.out _ _ ?_ (fun hS' => ?_)
    · exact inm_s hI3
    clear hK K
    try simp only [Act.put, List.getElem_toArray, List.getElem_cons_zero, List.getElem_cons_succ, List.setIfInBounds_toArray, List.set_cons_zero, List.set_cons_succ]
    replace hS := hS'
    clear hS'
    refine wpAnyH_take (i := 4) (v := ?v4_92) rfl (by kernel_rfl) (by kernel_rfl) (by kernel_rfl) (fun _ _ _ h => h) (Or.inl ⟨by rfl, ?hy4_92⟩) (by assumption) ?rest4_92
    case hy4_92 => (intro w hSw; (try dsimp only at hSw); go_simp; try (with_reducible rfl))
    simp only [Act.put, List.getElem_toArray, List.getElem_cons_zero, List.getElem_cons_succ, List.setIfInBounds_toArray, List.set_cons_zero, List.set_cons_succ]
    refine wpAnyH_take (i := 5) (v := ?v5_93) rfl (by kernel_rfl) (by kernel_rfl) (by kernel_rfl) (fun _ _ _ h => h) (Or.inl ⟨by rfl, ?hy5_93⟩) (by assumption) ?rest5_93
    case hy5_93 => (intro w hSw; (try dsimp only at hSw); go_simp; try (with_reducible rfl))
    simp only [Act.put, List.getElem_toArray, List.getElem_cons_zero, List.getElem_cons_succ, List.setIfInBounds_toArray, List.set_cons_zero, List.set_cons_succ]
    refine wpAnyH_done (by kernel_rfl) ?_ _
    go_wp2_with fail
    go_meet
    exact ⟨rfl, hS.2.2.2.2.2.2.2.2.2.2.2, HBf⟩
  case rest =>
  obtain ⟨rfl, HI5b, HB5b⟩ := hcut
  clear HI5 HB5 SZ hnn
  obtain ⟨c0, c1, c2, c3, c4, c5, c6, c7, c8, c9, c10⟩ := mbox_cells HI5b.out.box
  go_wp2_with fail
  refine (LF _ HI5b.out).mono ?_
  rintro e w6 ⟨rfl, hb6⟩
  have HI6 := Hid.mk' (HI5b.out.on hb6)
  have HB6 := Hid.mk' (HB5b.out.below hb6)
  clear hb6 HI5b HB5b LF c0 c1 c2 c3 c4 c5 c6 c7 c8 c9 c10
  cases ft
  · have hE2 : err = 14 ∧ b = [] := by
      rcases HE.out with ⟨h1, _, _⟩ | ⟨h1, _⟩ | ⟨_, _, h1, h2⟩
      · rw [HFT.out] at h1; exact absurd h1 (by simp)
      · rw [HMB.out] at h1; exact absurd h1 (by simp)
      · exact ⟨h1, h2⟩
    obtain ⟨rfl, rfl⟩ := hE2
    simp only [List.length_nil] at *
    go_wp2_with fail
    refine (AW _ HI6.out.below).mono ?_
    rintro e w7 ⟨rfl, hb7⟩
    have HB7 := Hid.mk' (HI6.out.on hb7).below
    clear hb7
    go_wp2_with fail
    go_ret
    exact ⟨rfl, HB7.out⟩
  have hE2 : err = 0 ∧ b = body2 (mv m) := by
    rcases HE.out with ⟨_, h1, h2⟩ | ⟨h1, _⟩ | ⟨_, h1, _⟩
    · exact ⟨h1, h2⟩
    · rw [HMB.out] at h1; exact absurd h1 (by simp)
    · rw [HFT.out] at h1; exact absurd h1 (by simp)
  obtain ⟨rfl, hbd⟩ := hE2
  obtain rfl : b = R := by rw [hbd]; exact HRR.out
  have BD1 := BDR.out
  have hcv := fun X (h : BIn X p b) => h.convert (P := Tryd.prog) c 29 5 9 Tryd.underlying29 Tryd.underlying5 Tryd.underlying9
  have hcw := fun X p' c' (h : BIn X p' b) => h.convert (P := Tryd.prog) c' 29 5 9 Tryd.underlying29 Tryd.underlying5 Tryd.underlying9
  have hst : ((strOfNums b).toList == (strOfNums b).toList) = true := by simp
  generalize strOfNums b = st at hcv hcw hst
  clear hbd BDR HE HRR
  go_wp2_with fail
  have hS0 : w6.drew.cell? ⟨w.heap.size, 0, none⟩ = some (.int .i64 m.kind) ∧ w6.drew.cell? ⟨w.heap.size, 1, none⟩ = some (.int .i64 m.frm) ∧ w6.drew.cell? ⟨w.heap.size, 2, none⟩ = some (.int .i64 m.inc) ∧ w6.drew.cell? ⟨w.heap.size, 3, none⟩ = some (.int .i64 m.lo) ∧ w6.drew.cell? ⟨w.heap.size, 4, none⟩ = some (.int .i64 m.hi) ∧ w6.drew.cell? ⟨w.heap.size, 5, none⟩ = some (.int .i64 m.seq) ∧ w6.drew.cell? ⟨w.heap.size, 6, none⟩ = some (.int .i64 m.tgt) ∧ w6.drew.cell? ⟨w.heap.size, 7, none⟩ = some (.int .i64 m.life) ∧ w6.drew.cell? ⟨w.heap.size, 8, none⟩ = some (.int .i64 m.epoch) ∧ w6.drew.cell? ⟨w.heap.size, 9, none⟩ = some (.int .i64 m.base) ∧ w6.drew.cell? ⟨w.heap.size, 10, none⟩ = some (.slice m.p m.recs.length m.cap) ∧ (convert 29 9 (.slice p b.length c)).run Tryd.prog w6.drew = .ok (.string st) w6.drew ∧ Hid (InM w m w6.drew ∧ BIn w6.drew p b) := by
    obtain ⟨c0, c1, c2, c3, c4, c5, c6, c7, c8, c9, c10, hi⟩ := inm_s (HI6.out.on (Below.refl _ _).drew)
    exact ⟨c0, c1, c2, c3, c4, c5, c6, c7, c8, c9, c10, hcv _ (HB6.out.below (Below.refl _ _).drew), hi, HB6.out.below (Below.refl _ _).drew⟩
  have mk : ∀ X, InM w m X → BIn X p b → X.cell? ⟨w.heap.size, 0, none⟩ = some (.int .i64 m.kind) ∧ X.cell? ⟨w.heap.size, 1, none⟩ = some (.int .i64 m.frm) ∧ X.cell? ⟨w.heap.size, 2, none⟩ = some (.int .i64 m.inc) ∧ X.cell? ⟨w.heap.size, 3, none⟩ = some (.int .i64 m.lo) ∧ X.cell? ⟨w.heap.size, 4, none⟩ = some (.int .i64 m.hi) ∧ X.cell? ⟨w.heap.size, 5, none⟩ = some (.int .i64 m.seq) ∧ X.cell? ⟨w.heap.size, 6, none⟩ = some (.int .i64 m.tgt) ∧ X.cell? ⟨w.heap.size, 7, none⟩ = some (.int .i64 m.life) ∧ X.cell? ⟨w.heap.size, 8, none⟩ = some (.int .i64 m.epoch) ∧ X.cell? ⟨w.heap.size, 9, none⟩ = some (.int .i64 m.base) ∧ X.cell? ⟨w.heap.size, 10, none⟩ = some (.slice m.p m.recs.length m.cap) ∧ (convert 29 9 (.slice p b.length c)).run Tryd.prog X = .ok (.string st) X ∧ Hid (InM w m X ∧ BIn X p b) := fun X h1 h2 => by
    obtain ⟨c0, c1, c2, c3, c4, c5, c6, c7, c8, c9, c10, hi⟩ := inm_s h1
    exact ⟨c0, c1, c2, c3, c4, c5, c6, c7, c8, c9, c10, hcv _ h2, hi, h2⟩
  refine wp_region_held_drew (S := fun X => X.cell? ⟨w.heap.size, 0, none⟩ = some (.int .i64 m.kind) ∧ X.cell? ⟨w.heap.size, 1, none⟩ = some (.int .i64 m.frm) ∧ X.cell? ⟨w.heap.size, 2, none⟩ = some (.int .i64 m.inc) ∧ X.cell? ⟨w.heap.size, 3, none⟩ = some (.int .i64 m.lo) ∧ X.cell? ⟨w.heap.size, 4, none⟩ = some (.int .i64 m.hi) ∧ X.cell? ⟨w.heap.size, 5, none⟩ = some (.int .i64 m.seq) ∧ X.cell? ⟨w.heap.size, 6, none⟩ = some (.int .i64 m.tgt) ∧ X.cell? ⟨w.heap.size, 7, none⟩ = some (.int .i64 m.life) ∧ X.cell? ⟨w.heap.size, 8, none⟩ = some (.int .i64 m.epoch) ∧ X.cell? ⟨w.heap.size, 9, none⟩ = some (.int .i64 m.base) ∧ X.cell? ⟨w.heap.size, 10, none⟩ = some (.slice m.p m.recs.length m.cap) ∧ (convert 29 9 (.slice p b.length c)).run Tryd.prog X = .ok (.string st) X ∧ Hid (InM w m X ∧ BIn X p b)) (by kernel_rfl) hS0 (fun hS => ?_)
  clear hS0 HI6 HB6
  generalize w6.drew = wd at hS ⊢
  refine wpAnyH_take (i := 0) (v := ?v0_94) rfl (by kernel_rfl) (by kernel_rfl) (by kernel_rfl) (fun _ _ _ h => h) (Or.inl ⟨by rfl, ?hy0_94⟩) (by assumption) ?rest0_94
  case hy0_94 => (intro w hSw; (try dsimp only at hSw); go_simp; try (with_reducible rfl))
  simp only [Act.put, List.getElem_toArray, List.getElem_cons_zero, List.getElem_cons_succ, List.setIfInBounds_toArray, List.set_cons_zero, List.set_cons_succ]
  refine wpAnyH_take (i := 1) (v := ?v1_95) rfl (by kernel_rfl) (by kernel_rfl) (by kernel_rfl) (fun _ _ _ h => h) (Or.inl ⟨by rfl, ?hy1_95⟩) (by assumption) ?rest1_95
  case hy1_95 => (intro w hSw; (try dsimp only at hSw); go_simp; try (with_reducible rfl))
  simp only [Act.put, List.getElem_toArray, List.getElem_cons_zero, List.getElem_cons_succ, List.setIfInBounds_toArray, List.set_cons_zero, List.set_cons_succ]
  refine wpAnyH_take (i := 2) (v := ?v2_96) rfl (by kernel_rfl) (by kernel_rfl) (by kernel_rfl) (fun _ _ _ h => h) (Or.inl ⟨by rfl, ?hy2_96⟩) (by assumption) ?rest2_96
  case hy2_96 => (intro w hSw; (try dsimp only at hSw); go_simp; try (with_reducible rfl))
  simp only [Act.put, List.getElem_toArray, List.getElem_cons_zero, List.getElem_cons_succ, List.setIfInBounds_toArray, List.set_cons_zero, List.set_cons_succ]
  refine wpAnyH_take (i := 3) (v := ?v3_97) rfl (by kernel_rfl) (by kernel_rfl) (by kernel_rfl) (fun _ _ _ h => h) (Or.inl ⟨by rfl, ?hy3_97⟩) (by assumption) ?rest3_97
  case hy3_97 => (intro w hSw; (try dsimp only at hSw); go_simp; try (with_reducible rfl))
  simp only [Act.put, List.getElem_toArray, List.getElem_cons_zero, List.getElem_cons_succ, List.setIfInBounds_toArray, List.set_cons_zero, List.set_cons_succ]
  refine wpAnyH_take (i := 4) (v := ?v4_98) rfl (by kernel_rfl) (by kernel_rfl) (by kernel_rfl) (fun _ _ _ h => h) (Or.inl ⟨by rfl, ?hy4_98⟩) (by assumption) ?rest4_98
  case hy4_98 => (intro w hSw; (try dsimp only at hSw); go_simp; try (with_reducible rfl))
  simp only [Act.put, List.getElem_toArray, List.getElem_cons_zero, List.getElem_cons_succ, List.setIfInBounds_toArray, List.set_cons_zero, List.set_cons_succ]
  refine wpAnyH_take (i := 5) (v := ?v5_99) rfl (by kernel_rfl) (by kernel_rfl) (by kernel_rfl) (fun _ _ _ h => h) (Or.inl ⟨by rfl, ?hy5_99⟩) (by assumption) ?rest5_99
  case hy5_99 => (intro w hSw; (try dsimp only at hSw); go_simp; try (with_reducible rfl))
  simp only [Act.put, List.getElem_toArray, List.getElem_cons_zero, List.getElem_cons_succ, List.setIfInBounds_toArray, List.set_cons_zero, List.set_cons_succ]
  refine wpAnyH_ready (rs := [6]) (by kernel_rfl) (by simp) ?_
  refine (AllReadyH.cons rfl (fun K hK => ?_) AllReadyH.nil)
  go_simp
  refine (BD1 _ hS.2.2.2.2.2.2.2.2.2.2.2.2.out.1).mono ?_
  rintro e x6 ⟨p6, c6v, rfl, hB6, _, hb6⟩
  have hI6 := hS.2.2.2.2.2.2.2.2.2.2.2.2.out.1.on hb6
  have hP6 := hS.2.2.2.2.2.2.2.2.2.2.2.2.out.2.below hb6
  have cv6 := hcw _ p6 c6v hB6
  clear hb6 hB6
  go_wp2_with fail
  refine hK.out _ _ ?_ (fun hS' => ?_)
  · exact mk _ hI6 hP6
  clear hK K
  try simp only [Act.put, List.getElem_toArray, List.getElem_cons_zero, List.getElem_cons_succ, List.setIfInBounds_toArray, List.set_cons_zero, List.set_cons_succ]
  replace hS := hS'
  clear hS'
  refine wpAnyH_ready (rs := [7]) (by kernel_rfl) (by simp) ?_
  refine (AllReadyH.cons rfl (fun K hK => ?_) AllReadyH.nil)
  go_simp
  refine hK.out _ _ ?_ (fun hS' => ?_)
  · exact hS
  clear hK K
  try simp only [Act.put, List.getElem_toArray, List.getElem_cons_zero, List.getElem_cons_succ, List.setIfInBounds_toArray, List.set_cons_zero, List.set_cons_succ]
  replace hS := hS'
  clear hS'
  refine wpAnyH_take (i := 8) (v := ?v8_100) rfl (by kernel_rfl) (by kernel_rfl) (by kernel_rfl) (fun _ _ _ h => h) (Or.inl ⟨by rfl, ?hy8_100⟩) (by assumption) ?rest8_100
  case hy8_100 => (intro w hSw; (try dsimp only at hSw); go_simp; try (with_reducible rfl))
  simp only [Act.put, List.getElem_toArray, List.getElem_cons_zero, List.getElem_cons_succ, List.setIfInBounds_toArray, List.set_cons_zero, List.set_cons_succ]
  refine wpAnyH_take (i := 9) (v := ?v9_101) rfl (by kernel_rfl) (by kernel_rfl) (by kernel_rfl) (fun _ _ _ h => h) (Or.inl ⟨by rfl, ?hy9_101⟩) (by assumption) ?rest9_101
  case hy9_101 => (intro w hSw; (try dsimp only at hSw); go_simp; try (with_reducible rfl))
  simp only [Act.put, List.getElem_toArray, List.getElem_cons_zero, List.getElem_cons_succ, List.setIfInBounds_toArray, List.set_cons_zero, List.set_cons_succ]
  refine wpAnyH_take (i := 10) (v := ?v10_102) rfl (by kernel_rfl) (by kernel_rfl) (by kernel_rfl) (fun _ _ _ h => h) (Or.inl ⟨by rfl, ?hy10_102⟩) (by assumption) ?rest10_102
  case hy10_102 => (intro w hSw; (try dsimp only at hSw); go_simp; try (with_reducible rfl))
  simp only [Act.put, List.getElem_toArray, List.getElem_cons_zero, List.getElem_cons_succ, List.setIfInBounds_toArray, List.set_cons_zero, List.set_cons_succ]
  refine wpAnyH_ready (rs := [11]) (by kernel_rfl) (by simp) ?_
  refine (AllReadyH.cons rfl (fun K hK => ?_) AllReadyH.nil)
  go_simp
  refine (AW _ hS.2.2.2.2.2.2.2.2.2.2.2.2.out.1.below).mono ?_
  rintro e x11 ⟨rfl, hb11⟩
  have hI11 := hS.2.2.2.2.2.2.2.2.2.2.2.2.out.1.on hb11
  have hP11 := hS.2.2.2.2.2.2.2.2.2.2.2.2.out.2.below hb11
  clear hb11
  go_wp2_with fail
  refine hK.out _ _ ?_ (fun hS' => ?_)
  · exact mk _ hI11 hP11
  clear hK K
  try simp only [Act.put, List.getElem_toArray, List.getElem_cons_zero, List.getElem_cons_succ, List.setIfInBounds_toArray, List.set_cons_zero, List.set_cons_succ]
  replace hS := hS'
  clear hS'
  refine wpAnyH_take (i := 12) (v := ?v12_103) rfl (by kernel_rfl) (by kernel_rfl) (by kernel_rfl) (fun _ _ _ h => h) (Or.inl ⟨by rfl, ?hy12_103⟩) (by assumption) ?rest12_103
  case hy12_103 => (intro w hSw; (try dsimp only at hSw); go_simp; try (with_reducible rfl))
  simp only [Act.put, List.getElem_toArray, List.getElem_cons_zero, List.getElem_cons_succ, List.setIfInBounds_toArray, List.set_cons_zero, List.set_cons_succ]
  refine wpAnyH_take (i := 13) (v := ?v13_104) rfl (by kernel_rfl) (by kernel_rfl) (by kernel_rfl) (fun _ _ _ h => h) (Or.inl ⟨by rfl, ?hy13_104⟩) (by assumption) ?rest13_104
  case hy13_104 => (intro w hSw; (try dsimp only at hSw); go_simp; try (with_reducible rfl))
  simp only [Act.put, List.getElem_toArray, List.getElem_cons_zero, List.getElem_cons_succ, List.setIfInBounds_toArray, List.set_cons_zero, List.set_cons_succ]
  refine wpAnyH_done (by kernel_rfl) ?_ _
  go_wp2
  go_ret
  exact ⟨rfl, hS.2.2.2.2.2.2.2.2.2.2.2.2.out.1.below⟩

end Go.Proofs.YtmejfkhikgcgmaaDoor.gen2Writes
