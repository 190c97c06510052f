/-
  Stage 11: the statements' own Body.
-/
import Derived.Test.YtmfkdohfejklhaaDoorGen1L
namespace Go.Proofs.YtmfkdohfejklhaaDoor
open Go.RowKit
set_option linter.unusedSimpArgs false
set_option linter.unusedVariables false
set_option maxRecDepth 10000
set_option synthInstance.maxSize 2000

theorem InM.onB {w X X' : World} {m : Mg} (h : InM w m X) (k : Below (w.heap.size + 1) X X') : InM w m X' := by
  have hlt : w.heap.size < X.heap.size := (Array.getElem?_eq_some_iff.1 h.box).1
  exact ⟨h.below.trans (k.mono (Nat.le_succ _)), by rw [k.block _ (Nat.lt_succ_self _)]; exact h.box⟩
theorem InM.lt {w X : World} {m : Mg} (h : InM w m X) : w.heap.size + 1 ≤ X.heap.size := (Array.getElem?_eq_some_iff.1 h.box).1

/-- The bytes of a body as far as k records of it. -/
def bodyK (m : Mg) (k : Nat) : List Int := headB (mv m) ++ (rks (m.recs.take k)).flatMap recB
theorem bodyK_len (m : Mg) (k : Nat) : (bodyK m k).length ≤ 15 + 5 * m.recs.length := by
  simp only [bodyK, List.length_append, headB_len, recsB_len, rks_len, List.length_take]
  omega
theorem bodyK_all (m : Mg) : bodyK m m.recs.length = body1 (mv m) := by
  rw [bodyK, List.take_of_length_le (Nat.le_refl _)]; rfl
theorem bodyK_next (m : Mg) (k : Nat) (h : k < m.recs.length) : bodyK m (k + 1) = bodyK m k ++ digB 2 (m.recs.getD k zr).id ++ digB 2 (m.recs.getD k zr).inc ++ digB 1 (lastB (rk (m.recs.getD k zr))) ∨ ¬ (0 ≤ lastB (rk (m.recs.getD k zr)) ∧ lastB (rk (m.recs.getD k zr)) < 256) := by
  by_cases q : 0 ≤ lastB (rk (m.recs.getD k zr)) ∧ lastB (rk (m.recs.getD k zr)) < 256
  · left
    rw [bodyK, rtake_next m.recs k h, rks_append, List.flatMap_append, dig1 _ q.1 q.2]
    simp [bodyK, rks, recB]
    rfl
  · exact .inr q

/-- What a record that fits has. -/
theorem fit_rec {y : Rc} (h : mayR (rk y) = true) : 0 ≤ y.id ∧ y.id ≤ 4095 ∧ 0 ≤ y.inc ∧ 0 ≤ y.st ∧ y.st ≤ 3 ∧ 1 ≤ y.lo ∧ y.lo ≤ y.hi ∧ y.hi ≤ 3 := by
  have hc0 : coreOk (rk y) = true := by simp only [mayR, Bool.and_eq_true] at h; exact h.1.1
  have hc : (decide (0 ≤ y.id ∧ y.id ≤ 4095) && decide (0 ≤ y.inc ∧ y.inc ≤ 281474976710655) && decide (0 ≤ y.st ∧ y.st ≤ 3) && decide (1 ≤ y.lo ∧ y.lo ≤ y.hi ∧ y.hi ≤ 3)) = true := hc0
  simp only [Bool.and_eq_true, decide_eq_true_eq] at hc
  omega

theorem moved_ne {w : World} {v v' : Value} {g : Nat} (h : Moved w v v') (hn : v.ownBlock ≠ some g) (hg : g < w.heap.size) : v'.ownBlock ≠ some g := by
  rcases h with h | ⟨k, h1, h2⟩
  · rw [h]; exact hn
  · rw [h1]; intro q; cases q; omega

set_option maxHeartbeats 8000000 in
theorem lbody_any (m : Mg) (w : World) (hm : MOk w m) (hf : (mv m).fit1) :
    Calls Tryd.prog 13 #[.agg #[.int .i64 m.kind, .int .i64 m.frm, .int .i64 m.inc, .int .i64 m.lo, .int .i64 m.hi, .int .i64 m.seq, .int .i64 m.tgt, .int .i64 m.life, .int .i64 m.epoch, .int .i64 m.base, .slice m.p m.recs.length m.cap]] w fun e w' => ∃ v, e = .returned v ∧ Acc w' (w.heap.size + 1) v (body1 (mv m)) ∧ Below w.heap.size w w' := by
  have HI := Hid.mk' (InM.start w m)
  have hlist := list_may hf.1.2.2
  have hs := okS_yes hf.1.2.1
  have hn := hf.1.1
  unfold MV.nums at hn
  simp only [mv] at hn hs
  have HR := Hid.mk' (show ∀ k, k < m.recs.length → mayR (rk (m.recs.getD k zr)) = true from fun k hk => hlist.2 _ (by simp only [mv, rks, List.mem_map]; exact ⟨m.recs.getD k zr, by simp [List.getD, hk], rfl⟩))
  have HIn := Hid.mk' (show ∀ k, k < m.recs.length → (m.recs.getD k zr).inc ≤ 65535 from fun k hk => (hf.2.2.2.2.2 (rk (m.recs.getD k zr)) (by simp only [mv, rks, List.mem_map]; exact ⟨m.recs.getD k zr, by simp [List.getD, hk], rfl⟩)).1)
  have hl255 : m.recs.length ≤ 255 := by have := hlist.1; simpa [mv, rks_len] using this
  have HP := Hid.mk' hm.rin
  have HHD := Hid.mk' (show headB (mv m) = digB 1 m.kind ++ digB 2 m.frm ++ digB 6 m.inc ++ digB 1 (m.lo * 16 + m.hi) ++ digB 2 m.seq ++ digB 2 m.tgt ++ digB 1 (m.recs.length : Int) by
    rw [dig1 m.kind (by omega) (by omega), dig1 (m.lo * 16 + m.hi) (by omega) (by omega), dig1 (m.recs.length : Int) (by omega) (by omega)]
    simp only [headB, mv, rks_len])
  have k1 : 0 ≤ m.kind ∧ m.kind ≤ 9 := by omega
  have k2 : 0 ≤ m.frm ∧ m.frm ≤ 4095 := by omega
  have k3 : 0 ≤ m.inc ∧ m.inc ≤ 281474976710655 := by omega
  have k4 : 0 ≤ m.lo * 16 + m.hi ∧ m.lo * 16 + m.hi ≤ 255 := by omega
  have k5 : 0 ≤ m.seq ∧ m.seq ≤ 65535 := by omega
  have k6 : 0 ≤ m.tgt ∧ m.tgt ≤ 4095 := by omega
  have k7 : 1 ≤ m.lo ∧ m.lo ≤ 3 ∧ m.hi ≤ 3 ∧ 1 ≤ m.hi := by omega
  have HK := Hid.mk' (And.intro k1 (And.intro k2 (And.intro k3 (And.intro k4 (And.intro k5 k6)))))
  clear hlist hs hn hf hm k1 k2 k3 k4 k5 k6
  obtain ⟨g1, g2, g3, g4⟩ := k7
  go_enter Tryd.func13, Tryd.ntmps13
  have HA0 := Hid.mk' (show Acc (w.alloc (.cells #[.int .i64 m.kind, .int .i64 m.frm, .int .i64 m.inc, .int .i64 m.lo, .int .i64 m.hi, .int .i64 m.seq, .int .i64 m.tgt, .int .i64 m.life, .int .i64 m.epoch, .int .i64 m.base, .slice m.p m.recs.length m.cap] 26)) (w.heap.size + 1) (.slice none 0 0) [] from Acc.nil _ _)
  go_wp2_with fail
  refine (lput_any (w.heap.size + 1) (.slice none 0 0) _ 1 m.kind _ HA0.out HI.out.lt (by omega) (HK.out.1).1 (by have := (HK.out.1).2; omega) (by simp)).mono ?_
  rintro e w1 ⟨v1, rfl, hA, hB, -, -⟩
  have HI1 := Hid.mk' (HI.out.onB hB)
  have HA1 := Hid.mk' hA
  clear hA hB HI HA0
  obtain ⟨c0, c1, c2, c3, c4, c5, c6, c7, c8, c9, c10⟩ := mbox_cells HI1.out.box
  go_wp2_with fail
  refine (lput_any (w.heap.size + 1) v1 _ 2 m.frm _ HA1.out HI1.out.lt (by omega) (HK.out.2.1).1 (by have := (HK.out.2.1).2; omega) (by simp only [List.length_append, digB_len, List.length_nil]; omega)).mono ?_
  rintro e w2 ⟨v2, rfl, hA, hB, -, -⟩
  have HI2 := Hid.mk' (HI1.out.onB hB)
  have HA2 := Hid.mk' hA
  clear hA hB HI1 HA1 c0 c1 c2 c3 c4 c5 c6 c7 c8 c9 c10
  obtain ⟨c0, c1, c2, c3, c4, c5, c6, c7, c8, c9, c10⟩ := mbox_cells HI2.out.box
  go_wp2_with fail
  refine (lput_any (w.heap.size + 1) v2 _ 6 m.inc _ HA2.out HI2.out.lt (by omega) (HK.out.2.2.1).1 (by have := (HK.out.2.2.1).2; omega) (by simp only [List.length_append, digB_len, List.length_nil]; omega)).mono ?_
  rintro e w3 ⟨v3, rfl, hA, hB, -, -⟩
  have HI3 := Hid.mk' (HI2.out.onB hB)
  have HA3 := Hid.mk' hA
  clear hA hB HI2 HA2 c0 c1 c2 c3 c4 c5 c6 c7 c8 c9 c10
  obtain ⟨c0, c1, c2, c3, c4, c5, c6, c7, c8, c9, c10⟩ := mbox_cells HI3.out.box
  go_wp2_with fail
  refine (lput_any (w.heap.size + 1) v3 _ 1 (m.lo * 16 + m.hi) _ HA3.out HI3.out.lt (by omega) (HK.out.2.2.2.1).1 (by have := (HK.out.2.2.2.1).2; omega) (by simp only [List.length_append, digB_len, List.length_nil]; omega)).mono ?_
  rintro e w4 ⟨v4, rfl, hA, hB, -, -⟩
  have HI4 := Hid.mk' (HI3.out.onB hB)
  have HA4 := Hid.mk' hA
  clear hA hB HI3 HA3 c0 c1 c2 c3 c4 c5 c6 c7 c8 c9 c10
  obtain ⟨c0, c1, c2, c3, c4, c5, c6, c7, c8, c9, c10⟩ := mbox_cells HI4.out.box
  go_wp2_with fail
  refine (lput_any (w.heap.size + 1) v4 _ 2 m.seq _ HA4.out HI4.out.lt (by omega) (HK.out.2.2.2.2.1).1 (by have := (HK.out.2.2.2.2.1).2; omega) (by simp only [List.length_append, digB_len, List.length_nil]; omega)).mono ?_
  rintro e w5 ⟨v5, rfl, hA, hB, -, -⟩
  have HI5 := Hid.mk' (HI4.out.onB hB)
  have HA5 := Hid.mk' hA
  clear hA hB HI4 HA4 c0 c1 c2 c3 c4 c5 c6 c7 c8 c9 c10
  obtain ⟨c0, c1, c2, c3, c4, c5, c6, c7, c8, c9, c10⟩ := mbox_cells HI5.out.box
  go_wp2_with fail
  refine (lput_any (w.heap.size + 1) v5 _ 2 m.tgt _ HA5.out HI5.out.lt (by omega) (HK.out.2.2.2.2.2).1 (by have := (HK.out.2.2.2.2.2).2; omega) (by simp only [List.length_append, digB_len, List.length_nil]; omega)).mono ?_
  rintro e w6 ⟨v6, rfl, hA, hB, -, -⟩
  have HI6 := Hid.mk' (HI5.out.onB hB)
  have HA6 := Hid.mk' hA
  clear hA hB HI5 HA5 c0 c1 c2 c3 c4 c5 c6 c7 c8 c9 c10
  obtain ⟨c0, c1, c2, c3, c4, c5, c6, c7, c8, c9, c10⟩ := mbox_cells HI6.out.box
  go_wp2_with fail
  refine (lput_any (w.heap.size + 1) v6 _ 1 (m.recs.length : Int) _ HA6.out HI6.out.lt (by omega) (by omega) (by omega) (by simp only [List.length_append, digB_len, List.length_nil]; omega)).mono ?_
  rintro e w7 ⟨v7, rfl, hA, hB, -, -⟩
  have HI7 := Hid.mk' (HI6.out.onB hB)
  have HA7 := Hid.mk' hA
  clear hA hB HI6 HA6 c0 c1 c2 c3 c4 c5 c6 c7 c8 c9 c10
  rw [List.nil_append, ← HHD.out] at HA7
  have HAK := Hid.mk' (show Acc w7 (w.heap.size + 1) v7 (bodyK m 0) by rw [show bodyK m 0 = headB (mv m) by simp [bodyK, rks]]; exact HA7.out)
  clear HA7 HHD HK g1 g2 g3 g4
  go_wp2_with fail
  go_loopw [3, 4] (fun b i W => ∃ k : Nat, k ≤ m.recs.length ∧ i = .int .i64 k ∧ Hid (Acc W (w.heap.size + 1) b (bodyK m k)) ∧ Hid (InM w m W)) (fun _ i _ => m.recs.length - (intOf i).toNat)
  case atStart => exact ⟨0, by omega, rfl, HAK, HI7⟩
  case round =>
    obtain ⟨k, hk, rfl, HA, HX⟩ := hrel
    clear HAK HI7
    obtain ⟨c0, c1, c2, c3, c4, c5, c6, c7, c8, c9, c10⟩ := mbox_cells HX.out.box
    by_cases t : k < m.recs.length
    · obtain ⟨b, o, hbo, hc⟩ := (HP.out.below HX.out.below).at (by omega)
      obtain ⟨hx, hok⟩ := hc k t
      rw [hbo] at c10
      have hy := HR.out k t
      have hyi := HIn.out k t
      have HNX := Hid.mk' (bodyK_next m k t)
      generalize m.recs.getD k zr = y at hx hok hy hyi HNX
      obtain ⟨e0, e1, e2, e3, e4, e5, e6⟩ := hx
      obtain ⟨y1, y2, y3, y4, y5, y6, y7, y8⟩ := fit_rec hy
      have HLB := Hid.mk' (lastB_range hy)
      have HLV := Hid.mk' (show lastB (rk y) = y.st + 4 * y.lo + 16 * y.hi + (if y.cut = true then 64 else 0) from rfl)
      clear hc hok hbo hy
      obtain ⟨yid, yinc, yst, ylo, yhi, ycut, yp, ycap, ybag⟩ := y
      dsimp only at e0 e1 e2 e3 e4 e5 e6 y1 y2 y3 y4 y5 y6 y7 y8 hyi HNX HLV
      have HX1 := Hid.mk' (HX.out.on ((Below.refl _ _).alloc (Nat.le_refl _) (.cells #[.int .i64 yid, .int .i64 yinc, .int .i64 yst, .int .i64 ylo, .int .i64 yhi, .bool ycut, .slice yp ybag.length ycap] 43)))
      have HA1 := Hid.mk' (HA.out.below ((Below.refl wr.heap.size wr).alloc (Nat.le_refl _) (.cells #[.int .i64 yid, .int .i64 yinc, .int .i64 yst, .int .i64 ylo, .int .i64 yhi, .bool ycut, .slice yp ybag.length ycap] 43)))
      have HG1 := Hid.mk' (heap_alloc_new wr (.cells #[.int .i64 yid, .int .i64 yinc, .int .i64 yst, .int .i64 ylo, .int .i64 yhi, .bool ycut, .slice yp ybag.length ycap] 43))
      have HNE := acc_ne HA.out wr.heap.size (Nat.le_refl _)
      have HBL := Hid.mk' (bodyK_len m k)
      have HLQ := Hid.mk' (show 0 ≤ lastB (rk ⟨yid, yinc, yst, ylo, yhi, ycut, yp, ycap, ybag⟩) ∧ lastB (rk ⟨yid, yinc, yst, ylo, yhi, ycut, yp, ycap, ybag⟩) ≤ 127 from ⟨HLB.out.1, HLB.out.2.1⟩)
      generalize lastB (rk ⟨yid, yinc, yst, ylo, yhi, ycut, yp, ycap, ybag⟩) = lb at HNX HLV HLQ
      have HNX2 := Hid.mk' (show bodyK m (k + 1) = bodyK m k ++ digB 2 yid ++ digB 2 yinc ++ digB 1 lb by
        rcases HNX.out with h | h
        · exact h
        · exact absurd ⟨HLQ.out.1, by have := HLQ.out.2; omega⟩ h)
      clear HNX HLB HA HX
      cases ycut
      case false =>
        obtain rfl : lb = yst + 4 * ylo + 16 * yhi := by rw [HLV.out]; simp
        clear HLV
        go_wp2_with fail
        have hS0 : ((wr.alloc (.cells #[.int .i64 yid, .int .i64 yinc, .int .i64 yst, .int .i64 ylo, .int .i64 yhi, .bool false, .slice yp ybag.length ycap] 43)).drew).cell? ⟨wr.heap.size, 0, none⟩ = some (.int .i64 yid) ∧ ((wr.alloc (.cells #[.int .i64 yid, .int .i64 yinc, .int .i64 yst, .int .i64 ylo, .int .i64 yhi, .bool false, .slice yp ybag.length ycap] 43)).drew).cell? ⟨wr.heap.size, 1, none⟩ = some (.int .i64 yinc) ∧ Hid (InM w m ((wr.alloc (.cells #[.int .i64 yid, .int .i64 yinc, .int .i64 yst, .int .i64 ylo, .int .i64 yhi, .bool false, .slice yp ybag.length ycap] 43)).drew)) := by
          have h1 := HG1.out
          have h2 := HX1.out.on (Below.refl _ _).drew
          have hbx := box_cells (r := ⟨yid, yinc, yst, ylo, yhi, false, yp, ycap, ybag⟩) h1
          exact ⟨hbx.1, hbx.2.1, h2⟩
        have HAd := Hid.mk' (HA1.out.below (Below.refl _ _).drew)
        refine wp_region_held_drew (S := fun X => X.cell? ⟨wr.heap.size, 0, none⟩ = some (.int .i64 yid) ∧ X.cell? ⟨wr.heap.size, 1, none⟩ = some (.int .i64 yinc) ∧ Hid (InM w m X)) (by kernel_rfl) hS0 (fun hS => ?_)
        clear hS0 HA1 HX1 HG1 c0 c1 c2 c3 c4 c5 c6 c7 c8 c9 c10 e0 e1 e2 e3 e4 e5 e6
        generalize (wr.alloc (.cells #[.int .i64 yid, .int .i64 yinc, .int .i64 yst, .int .i64 ylo, .int .i64 yhi, .bool false, .slice yp ybag.length ycap] 43)).drew = wd at hS HAd ⊢
        refine wpAnyH_take (i := 0) (v := ?v0_10) rfl (by kernel_rfl) (by kernel_rfl) (by kernel_rfl) (fun _ _ _ h => h) (Or.inl ⟨by rfl, ?hy0_10⟩) (by assumption) ?rest0_10
        case hy0_10 => (intro w hSw; (try dsimp only at hSw); go_simp; try (with_reducible rfl))
        simp only [Act.put, List.getElem_toArray, List.getElem_cons_zero, List.getElem_cons_succ, List.setIfInBounds_toArray, List.set_cons_zero, List.set_cons_succ]
        refine wpAnyH_take (i := 1) (v := ?v1_11) rfl (by kernel_rfl) (by kernel_rfl) (by kernel_rfl) (fun _ _ _ h => h) (Or.inl ⟨by rfl, ?hy1_11⟩) (by assumption) ?rest1_11
        case hy1_11 => (intro w hSw; (try dsimp only at hSw); go_simp; try (with_reducible rfl))
        simp only [Act.put, List.getElem_toArray, List.getElem_cons_zero, List.getElem_cons_succ, List.setIfInBounds_toArray, List.set_cons_zero, List.set_cons_succ]
        refine wpAnyH_take (i := 2) (v := ?v2_12) rfl (by kernel_rfl) (by kernel_rfl) (by kernel_rfl) (fun _ _ _ h => h) (Or.inl ⟨by rfl, ?hy2_12⟩) (by assumption) ?rest2_12
        case hy2_12 => (intro w hSw; (try dsimp only at hSw); go_simp; try (with_reducible rfl))
        simp only [Act.put, List.getElem_toArray, List.getElem_cons_zero, List.getElem_cons_succ, List.setIfInBounds_toArray, List.set_cons_zero, List.set_cons_succ]
        refine wpAnyH_take (i := 4) (v := ?v4_13) rfl (by kernel_rfl) (by kernel_rfl) (by kernel_rfl) (fun _ _ _ h => h) (Or.inl ⟨by rfl, ?hy4_13⟩) (by assumption) ?rest4_13
        case hy4_13 => (intro w hSw; (try dsimp only at hSw); go_simp; try (with_reducible rfl))
        simp only [Act.put, List.getElem_toArray, List.getElem_cons_zero, List.getElem_cons_succ, List.setIfInBounds_toArray, List.set_cons_zero, List.set_cons_succ]
        refine wpAnyH_take (i := 5) (v := ?v5_14) rfl (by kernel_rfl) (by kernel_rfl) (by kernel_rfl) (fun _ _ _ h => h) (Or.inl ⟨by rfl, ?hy5_14⟩) (by assumption) ?rest5_14
        case hy5_14 => (intro w hSw; (try dsimp only at hSw); go_simp; try (with_reducible rfl))
        simp only [Act.put, List.getElem_toArray, List.getElem_cons_zero, List.getElem_cons_succ, List.setIfInBounds_toArray, List.set_cons_zero, List.set_cons_succ]
        refine wpAnyH_take (i := 7) (v := ?v7_15) rfl (by kernel_rfl) (by kernel_rfl) (by kernel_rfl) (fun _ _ _ h => h) (Or.inl ⟨by rfl, ?hy7_15⟩) (by assumption) ?rest7_15
        case hy7_15 => (intro w hSw; (try dsimp only at hSw); go_simp; try (with_reducible rfl))
        simp only [Act.put, List.getElem_toArray, List.getElem_cons_zero, List.getElem_cons_succ, List.setIfInBounds_toArray, List.set_cons_zero, List.set_cons_succ]
        refine wpAnyH_ready (rs := [3]) (by kernel_rfl) (by simp) ?_
        refine (AllReadyH.cons rfl (fun K hK => ?_) AllReadyH.nil)
        go_simp
        refine (lput_any (w.heap.size + 1) u3 (bodyK m k) 2 yid wd HAd.out hS.2.2.out.lt (by omega) y1 (by omega) (by have := HBL.out; omega)).mono ?_
        rintro e x3 ⟨v3, rfl, hA3, hB3, hF3, hM3⟩
        have hc0 : x3.cell? ⟨wr.heap.size, 0, none⟩ = some (.int .i64 yid) := by rw [hF3.cell (p := ⟨wr.heap.size, 0, none⟩) (lt_of_cell hS.1) HNE]; exact hS.1
        have hc1 : x3.cell? ⟨wr.heap.size, 1, none⟩ = some (.int .i64 yinc) := by rw [hF3.cell (p := ⟨wr.heap.size, 1, none⟩) (lt_of_cell hS.2.1) HNE]; exact hS.2.1
        have hI3 := hS.2.2.out.onB hB3
        have HA3 := Hid.mk' hA3
        have HNE3 := moved_ne hM3 HNE (lt_of_cell hS.1)
        clear hA3 hB3 hF3 hM3 HAd
        go_wp2_with fail
        refine hK.out _ _ ?_ (fun hS' => ?_)
        · exact ⟨hc0, hc1, hI3⟩
        clear hK K
        try simp only [Act.put, List.getElem_toArray, List.getElem_cons_zero, List.getElem_cons_succ, List.setIfInBounds_toArray, List.set_cons_zero, List.set_cons_succ]
        replace hS := hS'
        clear hS'
        refine wpAnyH_ready (rs := [6]) (by kernel_rfl) (by simp) ?_
        refine (AllReadyH.cons rfl (fun K hK => ?_) AllReadyH.nil)
        go_simp
        refine (lput_any (w.heap.size + 1) v3 (bodyK m k ++ digB 2 yid) 2 yinc x3 HA3.out hS.2.2.out.lt (by omega) y3 (by omega) (by have := HBL.out; simp only [List.length_append, digB_len]; omega)).mono ?_
        rintro e x6 ⟨v6, rfl, hA6, hB6, hF6, hM6⟩
        have hd0 : x6.cell? ⟨wr.heap.size, 0, none⟩ = some (.int .i64 yid) := by rw [hF6.cell (p := ⟨wr.heap.size, 0, none⟩) (lt_of_cell hS.1) HNE3]; exact hS.1
        have hd1 : x6.cell? ⟨wr.heap.size, 1, none⟩ = some (.int .i64 yinc) := by rw [hF6.cell (p := ⟨wr.heap.size, 1, none⟩) (lt_of_cell hS.2.1) HNE3]; exact hS.2.1
        have hI6 := hS.2.2.out.onB hB6
        have HA6 := Hid.mk' hA6
        have HNE6 := moved_ne hM6 HNE3 (lt_of_cell hS.1)
        clear hA6 hB6 hF6 hM6 HA3
        go_wp2_with fail
        refine hK.out _ _ ?_ (fun hS' => ?_)
        · exact ⟨hd0, hd1, hI6⟩
        clear hK K
        try simp only [Act.put, List.getElem_toArray, List.getElem_cons_zero, List.getElem_cons_succ, List.setIfInBounds_toArray, List.set_cons_zero, List.set_cons_succ]
        replace hS := hS'
        clear hS'
        refine wpAnyH_ready (rs := [8]) (by kernel_rfl) (by simp) ?_
        refine (AllReadyH.cons rfl (fun K hK => ?_) AllReadyH.nil)
        go_simp
        refine (lput_any (w.heap.size + 1) v6 (bodyK m k ++ digB 2 yid ++ digB 2 yinc) 1 (yst + 4 * ylo + 16 * yhi) x6 HA6.out hS.2.2.out.lt (by omega) (by omega) (by omega) (by have := HBL.out; simp only [List.length_append, digB_len]; omega)).mono ?_
        rintro e x8 ⟨v8, rfl, hA8, hB8, hF8, hM8⟩
        have hf0 : x8.cell? ⟨wr.heap.size, 0, none⟩ = some (.int .i64 yid) := by rw [hF8.cell (p := ⟨wr.heap.size, 0, none⟩) (lt_of_cell hS.1) HNE6]; exact hS.1
        have hf1 : x8.cell? ⟨wr.heap.size, 1, none⟩ = some (.int .i64 yinc) := by rw [hF8.cell (p := ⟨wr.heap.size, 1, none⟩) (lt_of_cell hS.2.1) HNE6]; exact hS.2.1
        have hI8 := hS.2.2.out.onB hB8
        have HA8 := Hid.mk' hA8
        clear hA8 hB8 hF8 hM8 HA6
        go_wp2_with fail
        refine hK.out _ _ ?_ (fun hS' => ?_)
        · exact ⟨hf0, hf1, hI8⟩
        clear hK K
        try simp only [Act.put, List.getElem_toArray, List.getElem_cons_zero, List.getElem_cons_succ, List.setIfInBounds_toArray, List.set_cons_zero, List.set_cons_succ]
        replace hS := hS'
        clear hS'
        refine wpAnyH_take (i := 9) (v := ?v9_16) rfl (by kernel_rfl) (by kernel_rfl) (by kernel_rfl) (fun _ _ _ h => h) (Or.inl ⟨by rfl, ?hy9_16⟩) (by assumption) ?rest9_16
        case hy9_16 => (intro w hSw; (try dsimp only at hSw); go_simp; try (with_reducible rfl))
        simp only [Act.put, List.getElem_toArray, List.getElem_cons_zero, List.getElem_cons_succ, List.setIfInBounds_toArray, List.set_cons_zero, List.set_cons_succ]
        refine wpAnyH_done (by kernel_rfl) ?_ _
        rw [← HNX2.out] at HA8
        have HI8 := hS.2.2
        clear hS hc0 hc1 hd0 hd1 hf0 hf1 hI3 hI6 hI8 HNE HNE3 HNE6
        go_wp2
        go_roundw
        case rel => exact ⟨k + 1, by omega, by go_num, HA8, HI8⟩
        case measure => simp [intOf]; omega
      case true =>
        obtain rfl : lb = yst + 4 * ylo + 16 * yhi + 64 := by rw [HLV.out]; simp
        clear HLV
        go_wp2_with fail
        have hS0 : ((wr.alloc (.cells #[.int .i64 yid, .int .i64 yinc, .int .i64 yst, .int .i64 ylo, .int .i64 yhi, .bool true, .slice yp ybag.length ycap] 43)).drew).cell? ⟨wr.heap.size, 0, none⟩ = some (.int .i64 yid) ∧ ((wr.alloc (.cells #[.int .i64 yid, .int .i64 yinc, .int .i64 yst, .int .i64 ylo, .int .i64 yhi, .bool true, .slice yp ybag.length ycap] 43)).drew).cell? ⟨wr.heap.size, 1, none⟩ = some (.int .i64 yinc) ∧ Hid (InM w m ((wr.alloc (.cells #[.int .i64 yid, .int .i64 yinc, .int .i64 yst, .int .i64 ylo, .int .i64 yhi, .bool true, .slice yp ybag.length ycap] 43)).drew)) := by
          have h1 := HG1.out
          have h2 := HX1.out.on (Below.refl _ _).drew
          have hbx := box_cells (r := ⟨yid, yinc, yst, ylo, yhi, true, yp, ycap, ybag⟩) h1
          exact ⟨hbx.1, hbx.2.1, h2⟩
        have HAd := Hid.mk' (HA1.out.below (Below.refl _ _).drew)
        refine wp_region_held_drew (S := fun X => X.cell? ⟨wr.heap.size, 0, none⟩ = some (.int .i64 yid) ∧ X.cell? ⟨wr.heap.size, 1, none⟩ = some (.int .i64 yinc) ∧ Hid (InM w m X)) (by kernel_rfl) hS0 (fun hS => ?_)
        clear hS0 HA1 HX1 HG1 c0 c1 c2 c3 c4 c5 c6 c7 c8 c9 c10 e0 e1 e2 e3 e4 e5 e6
        generalize (wr.alloc (.cells #[.int .i64 yid, .int .i64 yinc, .int .i64 yst, .int .i64 ylo, .int .i64 yhi, .bool true, .slice yp ybag.length ycap] 43)).drew = wd at hS HAd ⊢
        refine wpAnyH_take (i := 0) (v := ?v0_17) rfl (by kernel_rfl) (by kernel_rfl) (by kernel_rfl) (fun _ _ _ h => h) (Or.inl ⟨by rfl, ?hy0_17⟩) (by assumption) ?rest0_17
        case hy0_17 => (intro w hSw; (try dsimp only at hSw); go_simp; try (with_reducible rfl))
        simp only [Act.put, List.getElem_toArray, List.getElem_cons_zero, List.getElem_cons_succ, List.setIfInBounds_toArray, List.set_cons_zero, List.set_cons_succ]
        refine wpAnyH_take (i := 1) (v := ?v1_18) rfl (by kernel_rfl) (by kernel_rfl) (by kernel_rfl) (fun _ _ _ h => h) (Or.inl ⟨by rfl, ?hy1_18⟩) (by assumption) ?rest1_18
        case hy1_18 => (intro w hSw; (try dsimp only at hSw); go_simp; try (with_reducible rfl))
        simp only [Act.put, List.getElem_toArray, List.getElem_cons_zero, List.getElem_cons_succ, List.setIfInBounds_toArray, List.set_cons_zero, List.set_cons_succ]
        refine wpAnyH_take (i := 2) (v := ?v2_19) rfl (by kernel_rfl) (by kernel_rfl) (by kernel_rfl) (fun _ _ _ h => h) (Or.inl ⟨by rfl, ?hy2_19⟩) (by assumption) ?rest2_19
        case hy2_19 => (intro w hSw; (try dsimp only at hSw); go_simp; try (with_reducible rfl))
        simp only [Act.put, List.getElem_toArray, List.getElem_cons_zero, List.getElem_cons_succ, List.setIfInBounds_toArray, List.set_cons_zero, List.set_cons_succ]
        refine wpAnyH_take (i := 4) (v := ?v4_20) rfl (by kernel_rfl) (by kernel_rfl) (by kernel_rfl) (fun _ _ _ h => h) (Or.inl ⟨by rfl, ?hy4_20⟩) (by assumption) ?rest4_20
        case hy4_20 => (intro w hSw; (try dsimp only at hSw); go_simp; try (with_reducible rfl))
        simp only [Act.put, List.getElem_toArray, List.getElem_cons_zero, List.getElem_cons_succ, List.setIfInBounds_toArray, List.set_cons_zero, List.set_cons_succ]
        refine wpAnyH_take (i := 5) (v := ?v5_21) rfl (by kernel_rfl) (by kernel_rfl) (by kernel_rfl) (fun _ _ _ h => h) (Or.inl ⟨by rfl, ?hy5_21⟩) (by assumption) ?rest5_21
        case hy5_21 => (intro w hSw; (try dsimp only at hSw); go_simp; try (with_reducible rfl))
        simp only [Act.put, List.getElem_toArray, List.getElem_cons_zero, List.getElem_cons_succ, List.setIfInBounds_toArray, List.set_cons_zero, List.set_cons_succ]
        refine wpAnyH_take (i := 7) (v := ?v7_22) rfl (by kernel_rfl) (by kernel_rfl) (by kernel_rfl) (fun _ _ _ h => h) (Or.inl ⟨by rfl, ?hy7_22⟩) (by assumption) ?rest7_22
        case hy7_22 => (intro w hSw; (try dsimp only at hSw); go_simp; try (with_reducible rfl))
        simp only [Act.put, List.getElem_toArray, List.getElem_cons_zero, List.getElem_cons_succ, List.setIfInBounds_toArray, List.set_cons_zero, List.set_cons_succ]
        refine wpAnyH_ready (rs := [3]) (by kernel_rfl) (by simp) ?_
        refine (AllReadyH.cons rfl (fun K hK => ?_) AllReadyH.nil)
        go_simp
        refine (lput_any (w.heap.size + 1) u3 (bodyK m k) 2 yid wd HAd.out hS.2.2.out.lt (by omega) y1 (by omega) (by have := HBL.out; omega)).mono ?_
        rintro e x3 ⟨v3, rfl, hA3, hB3, hF3, hM3⟩
        have hc0 : x3.cell? ⟨wr.heap.size, 0, none⟩ = some (.int .i64 yid) := by rw [hF3.cell (p := ⟨wr.heap.size, 0, none⟩) (lt_of_cell hS.1) HNE]; exact hS.1
        have hc1 : x3.cell? ⟨wr.heap.size, 1, none⟩ = some (.int .i64 yinc) := by rw [hF3.cell (p := ⟨wr.heap.size, 1, none⟩) (lt_of_cell hS.2.1) HNE]; exact hS.2.1
        have hI3 := hS.2.2.out.onB hB3
        have HA3 := Hid.mk' hA3
        have HNE3 := moved_ne hM3 HNE (lt_of_cell hS.1)
        clear hA3 hB3 hF3 hM3 HAd
        go_wp2_with fail
        refine hK.out _ _ ?_ (fun hS' => ?_)
        · exact ⟨hc0, hc1, hI3⟩
        clear hK K
        try simp only [Act.put, List.getElem_toArray, List.getElem_cons_zero, List.getElem_cons_succ, List.setIfInBounds_toArray, List.set_cons_zero, List.set_cons_succ]
        replace hS := hS'
        clear hS'
        refine wpAnyH_ready (rs := [6]) (by kernel_rfl) (by simp) ?_
        refine (AllReadyH.cons rfl (fun K hK => ?_) AllReadyH.nil)
        go_simp
        refine (lput_any (w.heap.size + 1) v3 (bodyK m k ++ digB 2 yid) 2 yinc x3 HA3.out hS.2.2.out.lt (by omega) y3 (by omega) (by have := HBL.out; simp only [List.length_append, digB_len]; omega)).mono ?_
        rintro e x6 ⟨v6, rfl, hA6, hB6, hF6, hM6⟩
        have hd0 : x6.cell? ⟨wr.heap.size, 0, none⟩ = some (.int .i64 yid) := by rw [hF6.cell (p := ⟨wr.heap.size, 0, none⟩) (lt_of_cell hS.1) HNE3]; exact hS.1
        have hd1 : x6.cell? ⟨wr.heap.size, 1, none⟩ = some (.int .i64 yinc) := by rw [hF6.cell (p := ⟨wr.heap.size, 1, none⟩) (lt_of_cell hS.2.1) HNE3]; exact hS.2.1
        have hI6 := hS.2.2.out.onB hB6
        have HA6 := Hid.mk' hA6
        have HNE6 := moved_ne hM6 HNE3 (lt_of_cell hS.1)
        clear hA6 hB6 hF6 hM6 HA3
        go_wp2_with fail
        refine hK.out _ _ ?_ (fun hS' => ?_)
        · exact ⟨hd0, hd1, hI6⟩
        clear hK K
        try simp only [Act.put, List.getElem_toArray, List.getElem_cons_zero, List.getElem_cons_succ, List.setIfInBounds_toArray, List.set_cons_zero, List.set_cons_succ]
        replace hS := hS'
        clear hS'
        refine wpAnyH_ready (rs := [8]) (by kernel_rfl) (by simp) ?_
        refine (AllReadyH.cons rfl (fun K hK => ?_) AllReadyH.nil)
        go_simp
        refine (lput_any (w.heap.size + 1) v6 (bodyK m k ++ digB 2 yid ++ digB 2 yinc) 1 (yst + 4 * ylo + 16 * yhi + 64) x6 HA6.out hS.2.2.out.lt (by omega) (by omega) (by omega) (by have := HBL.out; simp only [List.length_append, digB_len]; omega)).mono ?_
        rintro e x8 ⟨v8, rfl, hA8, hB8, hF8, hM8⟩
        have hf0 : x8.cell? ⟨wr.heap.size, 0, none⟩ = some (.int .i64 yid) := by rw [hF8.cell (p := ⟨wr.heap.size, 0, none⟩) (lt_of_cell hS.1) HNE6]; exact hS.1
        have hf1 : x8.cell? ⟨wr.heap.size, 1, none⟩ = some (.int .i64 yinc) := by rw [hF8.cell (p := ⟨wr.heap.size, 1, none⟩) (lt_of_cell hS.2.1) HNE6]; exact hS.2.1
        have hI8 := hS.2.2.out.onB hB8
        have HA8 := Hid.mk' hA8
        clear hA8 hB8 hF8 hM8 HA6
        go_wp2_with fail
        refine hK.out _ _ ?_ (fun hS' => ?_)
        · exact ⟨hf0, hf1, hI8⟩
        clear hK K
        try simp only [Act.put, List.getElem_toArray, List.getElem_cons_zero, List.getElem_cons_succ, List.setIfInBounds_toArray, List.set_cons_zero, List.set_cons_succ]
        replace hS := hS'
        clear hS'
        refine wpAnyH_take (i := 9) (v := ?v9_23) rfl (by kernel_rfl) (by kernel_rfl) (by kernel_rfl) (fun _ _ _ h => h) (Or.inl ⟨by rfl, ?hy9_23⟩) (by assumption) ?rest9_23
        case hy9_23 => (intro w hSw; (try dsimp only at hSw); go_simp; try (with_reducible rfl))
        simp only [Act.put, List.getElem_toArray, List.getElem_cons_zero, List.getElem_cons_succ, List.setIfInBounds_toArray, List.set_cons_zero, List.set_cons_succ]
        refine wpAnyH_done (by kernel_rfl) ?_ _
        rw [← HNX2.out] at HA8
        have HI8 := hS.2.2
        clear hS hc0 hc1 hd0 hd1 hf0 hf1 hI3 hI6 hI8 HNE HNE3 HNE6
        go_wp2
        go_roundw
        case rel => exact ⟨k + 1, by omega, by go_num, HA8, HI8⟩
        case measure => simp [intOf]; omega
    · obtain rfl : k = m.recs.length := by omega
      rw [bodyK_all] at HA
      go_wp2_with fail
      go_ret
      exact ⟨u3, rfl, HA.out, HX.out.below⟩
end Go.Proofs.YtmfkdohfejklhaaDoor
