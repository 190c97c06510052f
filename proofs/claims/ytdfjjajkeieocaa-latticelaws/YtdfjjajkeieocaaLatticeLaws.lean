/-
  Proved: the statement on the laws of layer 9's joins (LatticeLaws) returns true at every input, and leaves its arguments as they were. No condition.
-/
import Derived.Test.YtdfjjajkeieocaaRows
import Derived.Test.YtdfjjajkeieocaaLatS
import Derived.ShutString
import Derived.ChangeOld
namespace Go.Proofs.Ytdfjjajkeieocaa.latticeLaws
open Go.ChangeShapes Go.WideShapes Go.ChangeAt Go.RowKit
open Go.ChangeMaps (open_string shut_string)
set_option linter.unusedVariables false
set_option synthInstance.maxSize 2000
set_option linter.unusedSimpArgs false

theorem B3 (w : World) (a b c : Rc) : InB3 w a b c (((w.alloc (.cells #[.int .i64 a.id, .int .i64 a.inc, .int .i64 a.st, .int .i64 a.lo, .int .i64 a.hi, .bool a.cut, .slice a.p a.bag.length a.cap] 27)).alloc (.cells #[.int .i64 b.id, .int .i64 b.inc, .int .i64 b.st, .int .i64 b.lo, .int .i64 b.hi, .bool b.cut, .slice b.p b.bag.length b.cap] 27)).alloc (.cells #[.int .i64 c.id, .int .i64 c.inc, .int .i64 c.st, .int .i64 c.lo, .int .i64 c.hi, .bool c.cut, .slice c.p c.bag.length c.cap] 27)) := InB3.of (InB2.start w a b) (by simp) c

set_option maxHeartbeats 8000000 in
set_option maxRecDepth 10000 in
theorem walk (a b c : Rc) (w : World) (ha : ROk w a) (hb : ROk w b) (hc : ROk w c) :
    Calls Try.prog 5 #[.agg #[.int .i64 a.id, .int .i64 a.inc, .int .i64 a.st, .int .i64 a.lo, .int .i64 a.hi, .bool a.cut, .slice a.p a.bag.length a.cap], .agg #[.int .i64 b.id, .int .i64 b.inc, .int .i64 b.st, .int .i64 b.lo, .int .i64 b.hi, .bool b.cut, .slice b.p b.bag.length b.cap], .agg #[.int .i64 c.id, .int .i64 c.inc, .int .i64 c.st, .int .i64 c.lo, .int .i64 c.hi, .bool c.cut, .slice c.p c.bag.length c.cap]] w fun e w' => e = .returned (.bool true) ∧ Below w.heap.size w w' := by
  have AW := fun X => awake9_any X
  have HI := Hid.mk' (B3 w a b c)
  have F := lfew_any (some ⟨w.heap.size + 3, 0, none⟩) 3 [a, b, c] ((((w.alloc (.cells #[.int .i64 a.id, .int .i64 a.inc, .int .i64 a.st, .int .i64 a.lo, .int .i64 a.hi, .bool a.cut, .slice a.p a.bag.length a.cap] 27)).alloc (.cells #[.int .i64 b.id, .int .i64 b.inc, .int .i64 b.st, .int .i64 b.lo, .int .i64 b.hi, .bool b.cut, .slice b.p b.bag.length b.cap] 27)).alloc (.cells #[.int .i64 c.id, .int .i64 c.inc, .int .i64 c.st, .int .i64 c.lo, .int .i64 c.hi, .bool c.cut, .slice c.p c.bag.length c.cap] 27)).alloc (.cells #[.int .i64 a.id, .int .i64 a.inc, .int .i64 a.st, .int .i64 a.lo, .int .i64 a.hi, .bool a.cut, .slice a.p a.bag.length a.cap, .int .i64 b.id, .int .i64 b.inc, .int .i64 b.st, .int .i64 b.lo, .int .i64 b.hi, .bool b.cut, .slice b.p b.bag.length b.cap, .int .i64 c.id, .int .i64 c.inc, .int .i64 c.st, .int .i64 c.lo, .int .i64 c.hi, .bool c.cut, .slice c.p c.bag.length c.cap] 27)) (by
    have hb2 := (Below.refl (((w.alloc (.cells #[.int .i64 a.id, .int .i64 a.inc, .int .i64 a.st, .int .i64 a.lo, .int .i64 a.hi, .bool a.cut, .slice a.p a.bag.length a.cap] 27)).alloc (.cells #[.int .i64 b.id, .int .i64 b.inc, .int .i64 b.st, .int .i64 b.lo, .int .i64 b.hi, .bool b.cut, .slice b.p b.bag.length b.cap] 27)).alloc (.cells #[.int .i64 c.id, .int .i64 c.inc, .int .i64 c.st, .int .i64 c.lo, .int .i64 c.hi, .bool c.cut, .slice c.p c.bag.length c.cap] 27)).heap.size (((w.alloc (.cells #[.int .i64 a.id, .int .i64 a.inc, .int .i64 a.st, .int .i64 a.lo, .int .i64 a.hi, .bool a.cut, .slice a.p a.bag.length a.cap] 27)).alloc (.cells #[.int .i64 b.id, .int .i64 b.inc, .int .i64 b.st, .int .i64 b.lo, .int .i64 b.hi, .bool b.cut, .slice b.p b.bag.length b.cap] 27)).alloc (.cells #[.int .i64 c.id, .int .i64 c.inc, .int .i64 c.st, .int .i64 c.lo, .int .i64 c.hi, .bool c.cut, .slice c.p c.bag.length c.cap] 27))).alloc (Nat.le_refl _) (.cells #[.int .i64 a.id, .int .i64 a.inc, .int .i64 a.st, .int .i64 a.lo, .int .i64 a.hi, .bool a.cut, .slice a.p a.bag.length a.cap, .int .i64 b.id, .int .i64 b.inc, .int .i64 b.st, .int .i64 b.lo, .int .i64 b.hi, .bool b.cut, .slice b.p b.bag.length b.cap, .int .i64 c.id, .int .i64 c.inc, .int .i64 c.st, .int .i64 c.lo, .int .i64 c.hi, .bool c.cut, .slice c.p c.bag.length c.cap] 27)
    have hbb := HI.out.below.trans (hb2.mono HI.out.below.size)
    have hrow := heap_alloc_new (((w.alloc (.cells #[.int .i64 a.id, .int .i64 a.inc, .int .i64 a.st, .int .i64 a.lo, .int .i64 a.hi, .bool a.cut, .slice a.p a.bag.length a.cap] 27)).alloc (.cells #[.int .i64 b.id, .int .i64 b.inc, .int .i64 b.st, .int .i64 b.lo, .int .i64 b.hi, .bool b.cut, .slice b.p b.bag.length b.cap] 27)).alloc (.cells #[.int .i64 c.id, .int .i64 c.inc, .int .i64 c.st, .int .i64 c.lo, .int .i64 c.hi, .bool c.cut, .slice c.p c.bag.length c.cap] 27)) (.cells #[.int .i64 a.id, .int .i64 a.inc, .int .i64 a.st, .int .i64 a.lo, .int .i64 a.hi, .bool a.cut, .slice a.p a.bag.length a.cap, .int .i64 b.id, .int .i64 b.inc, .int .i64 b.st, .int .i64 b.lo, .int .i64 b.hi, .bool b.cut, .slice b.p b.bag.length b.cap, .int .i64 c.id, .int .i64 c.inc, .int .i64 c.st, .int .i64 c.lo, .int .i64 c.hi, .bool c.cut, .slice c.p c.bag.length c.cap] 27)
    rw [show (((w.alloc (.cells #[.int .i64 a.id, .int .i64 a.inc, .int .i64 a.st, .int .i64 a.lo, .int .i64 a.hi, .bool a.cut, .slice a.p a.bag.length a.cap] 27)).alloc (.cells #[.int .i64 b.id, .int .i64 b.inc, .int .i64 b.st, .int .i64 b.lo, .int .i64 b.hi, .bool b.cut, .slice b.p b.bag.length b.cap] 27)).alloc (.cells #[.int .i64 c.id, .int .i64 c.inc, .int .i64 c.st, .int .i64 c.lo, .int .i64 c.hi, .bool c.cut, .slice c.p c.bag.length c.cap] 27)).heap.size = w.heap.size + 3 by simp] at hrow
    exact RIn.of_row (l := [a, b, c]) hrow (by intro f hf; simp at hf; rcases hf with rfl | rfl | rfl; exact ha.below hbb; exact hb.below hbb; exact hc.below hbb)) (by simp [maxLen])
  have HI1 := Hid.mk' (HI.out.on ((Below.refl _ _).alloc (Nat.le_refl _) (.cells #[.int .i64 a.id, .int .i64 a.inc, .int .i64 a.st, .int .i64 a.lo, .int .i64 a.hi, .bool a.cut, .slice a.p a.bag.length a.cap, .int .i64 b.id, .int .i64 b.inc, .int .i64 b.st, .int .i64 b.lo, .int .i64 b.hi, .bool b.cut, .slice b.p b.bag.length b.cap, .int .i64 c.id, .int .i64 c.inc, .int .i64 c.st, .int .i64 c.lo, .int .i64 c.hi, .bool c.cut, .slice c.p c.bag.length c.cap] 27)))
  obtain ⟨fw, hfw⟩ : ∃ f, fewR (rks [a, b, c]) = f := ⟨_, rfl⟩
  rw [hfw] at F
  have HFW := Hid.mk' hfw
  have HA := Hid.mk' ha
  have HB := Hid.mk' hb
  have HC := Hid.mk' hc
  clear HI hfw ha hb hc
  go_enter Try.func5, Try.ntmps5
  go_wp2_with fail
  refine F.mono ?_
  rintro e w1 ⟨rfl, rfl⟩
  clear F
  cases fw
  · go_wp2_with fail
    refine (AW _).mono ?_
    rintro e w2 ⟨rfl, hb2⟩
    have HB2 := Hid.mk' (HI1.out.on hb2).below
    clear hb2
    go_wp2_with fail
    go_ret
    exact ⟨rfl, HB2.out⟩
  have HN := Hid.mk' (show a.bag.length ≤ 1099511627776 ∧ b.bag.length ≤ 1099511627776 ∧ c.bag.length ≤ 1099511627776 from by
    have h := (fewR_yes HFW.out).2
    have h1 := (h a (by simp)).1
    have h2 := (h b (by simp)).1
    have h3 := (h c (by simp)).1
    omega)
  have HI2 := Hid.mk' ((B3 w a { b with id := a.id } { c with id := a.id }).on ((Below.refl _ _).alloc (Nat.le_refl _) (.cells #[.int .i64 a.id, .int .i64 a.inc, .int .i64 a.st, .int .i64 a.lo, .int .i64 a.hi, .bool a.cut, .slice a.p a.bag.length a.cap, .int .i64 b.id, .int .i64 b.inc, .int .i64 b.st, .int .i64 b.lo, .int .i64 b.hi, .bool b.cut, .slice b.p b.bag.length b.cap, .int .i64 c.id, .int .i64 c.inc, .int .i64 c.st, .int .i64 c.lo, .int .i64 c.hi, .bool c.cut, .slice c.p c.bag.length c.cap] 27)))
  have hs0 : St w a.id _ [(w.heap.size, a), (w.heap.size + 1, { b with id := a.id }), (w.heap.size + 1 + 1, { c with id := a.id })] := ⟨by
      intro p hp
      simp only [List.mem_cons, List.not_mem_nil, or_false] at hp
      rcases hp with rfl | rfl | rfl
      · exact ⟨HI2.out.ba⟩
      · exact ⟨HI2.out.bb⟩
      · exact ⟨HI2.out.bc⟩, by
      intro p hp
      simp only [List.mem_cons, List.not_mem_nil, or_false] at hp
      have h1 := HA.out.below HI2.out.below
      have h2 := HB.out.below HI2.out.below
      have h3 := HC.out.below HI2.out.below
      rcases hp with rfl | rfl | rfl
      · exact h1
      · exact ⟨h1.id, h2.inc, h2.st, h2.lo, h2.hi, h2.len, h2.cap, h2.nil, h2.fin, h2.few⟩
      · exact ⟨h1.id, h3.inc, h3.st, h3.lo, h3.hi, h3.len, h3.cap, h3.nil, h3.fin, h3.few⟩, by
      intro p hp
      simp only [List.mem_cons, List.not_mem_nil, or_false] at hp
      rcases hp with rfl | rfl | rfl <;> rfl, by
      intro p hp
      simp only [List.mem_cons, List.not_mem_nil, or_false] at hp
      rcases hp with rfl | rfl | rfl
      · exact HN.out.1
      · exact HN.out.2.1
      · exact HN.out.2.2, HI2.out.below⟩
  have J := joinS hs0 w.heap.size a (w.heap.size + 1) { b with id := a.id } (by simp) (by simp)
  clear HI1 HI2 hs0 HN HFW HA HB HC
  go_wp2_with fail
  refine J.mono ?_
  clear J
  rintro e w2 ⟨ab, rfl, hk, hs, hs'⟩
  generalize ({ b with id := a.id } : Rc) = b' at hk hs hs'
  generalize ({ c with id := a.id } : Rc) = c' at hs hs'
  have HK1 := Hid.mk' hk
  have HS2 := Hid.mk' hs
  have HT2 := Hid.mk' hs'
  clear hk hs hs'
  have J := joinS HT2.out (w.heap.size + 1) b' (w.heap.size) a (by simp) (by simp)
  obtain ⟨fb0, fb1, fb2, fb3, fb4, fb5, fb6⟩ := HS2.out.cells (w.heap.size + 1) b' (by simp)
  have fbl := HS2.out.lt (w.heap.size + 1) b' (by simp)
  obtain ⟨fa0, fa1, fa2, fa3, fa4, fa5, fa6⟩ := HS2.out.cells (w.heap.size) a (by simp)
  have fal := HS2.out.lt (w.heap.size) a (by simp)
  go_wp2_with fail
  refine J.mono ?_
  clear J HS2 HT2 fb0 fb1 fb2 fb3 fb4 fb5 fb6 fbl fa0 fa1 fa2 fa3 fa4 fa5 fa6 fal
  rintro e w3 ⟨ba, rfl, hk, hs, hs'⟩
  have HK2 := Hid.mk' hk
  have HS3 := Hid.mk' hs
  have HT3 := Hid.mk' hs'
  clear hk hs hs'
  have J := joinS HT3.out (w.heap.size) a (w.heap.size) a (by simp) (by simp)
  obtain ⟨fa0, fa1, fa2, fa3, fa4, fa5, fa6⟩ := HS3.out.cells (w.heap.size) a (by simp)
  have fal := HS3.out.lt (w.heap.size) a (by simp)
  go_wp2_with fail
  refine J.mono ?_
  clear J HS3 HT3 fa0 fa1 fa2 fa3 fa4 fa5 fa6 fal
  rintro e w4 ⟨aa, rfl, hk, hs, hs'⟩
  have HK3 := Hid.mk' hk
  have HS4 := Hid.mk' hs
  have HT4 := Hid.mk' hs'
  clear hk hs hs'
  have J := joinS HT4.out (w.heap.size + 1) b' (w.heap.size + 1 + 1) c' (by simp) (by simp)
  obtain ⟨fb0, fb1, fb2, fb3, fb4, fb5, fb6⟩ := HS4.out.cells (w.heap.size + 1) b' (by simp)
  have fbl := HS4.out.lt (w.heap.size + 1) b' (by simp)
  obtain ⟨fc0, fc1, fc2, fc3, fc4, fc5, fc6⟩ := HS4.out.cells (w.heap.size + 1 + 1) c' (by simp)
  have fcl := HS4.out.lt (w.heap.size + 1 + 1) c' (by simp)
  go_wp2_with fail
  refine J.mono ?_
  clear J HS4 HT4 fb0 fb1 fb2 fb3 fb4 fb5 fb6 fbl fc0 fc1 fc2 fc3 fc4 fc5 fc6 fcl
  rintro e w5 ⟨bc, rfl, hk, hs, hs'⟩
  have HK4 := Hid.mk' hk
  have HS5 := Hid.mk' hs
  have HT5 := Hid.mk' hs'
  clear hk hs hs'
  have J := joinS HT5.out (w2.heap.size) ab (w.heap.size + 1 + 1) c' (by simp) (by simp)
  obtain ⟨fab0, fab1, fab2, fab3, fab4, fab5, fab6⟩ := HS5.out.cells (w2.heap.size) ab (by simp)
  have fabl := HS5.out.lt (w2.heap.size) ab (by simp)
  obtain ⟨fc0, fc1, fc2, fc3, fc4, fc5, fc6⟩ := HS5.out.cells (w.heap.size + 1 + 1) c' (by simp)
  have fcl := HS5.out.lt (w.heap.size + 1 + 1) c' (by simp)
  go_wp2_with fail
  refine J.mono ?_
  clear J HS5 HT5 fab0 fab1 fab2 fab3 fab4 fab5 fab6 fabl fc0 fc1 fc2 fc3 fc4 fc5 fc6 fcl
  rintro e w6 ⟨lf, rfl, hk, hs, hs'⟩
  have HK5 := Hid.mk' hk
  have HS6 := Hid.mk' hs
  have HT6 := Hid.mk' hs'
  clear hk hs hs'
  have J := joinS HT6.out (w.heap.size) a (w5.heap.size) bc (by simp) (by simp)
  obtain ⟨fa0, fa1, fa2, fa3, fa4, fa5, fa6⟩ := HS6.out.cells (w.heap.size) a (by simp)
  have fal := HS6.out.lt (w.heap.size) a (by simp)
  obtain ⟨fbc0, fbc1, fbc2, fbc3, fbc4, fbc5, fbc6⟩ := HS6.out.cells (w5.heap.size) bc (by simp)
  have fbcl := HS6.out.lt (w5.heap.size) bc (by simp)
  go_wp2_with fail
  refine J.mono ?_
  clear J HS6 HT6 fa0 fa1 fa2 fa3 fa4 fa5 fa6 fal fbc0 fbc1 fbc2 fbc3 fbc4 fbc5 fbc6 fbcl
  rintro e w7 ⟨rt, rfl, hk, hs, hs'⟩
  have HK6 := Hid.mk' hk
  have HS7 := Hid.mk' hs
  have HT7 := Hid.mk' hs'
  clear hk hs hs'
  have HID := Hid.mk' (show (rk a).id = (rk b').id ∧ (rk b').id = (rk c').id from ⟨(HS7.out.id (w.heap.size, a) (by simp)).trans (HS7.out.id (w.heap.size + 1, b') (by simp)).symm, (HS7.out.id (w.heap.size + 1, b') (by simp)).trans (HS7.out.id (w.heap.size + 1 + 1, c') (by simp)).symm⟩)
  have J := alikeS HT7.out (w2.heap.size) ab (w3.heap.size) ba (by simp) (by simp)
  rw [decide_eq_true (show rk ab = rk ba from by rw [HK1.out, HK2.out]; exact joinK_comm HID.out.1)] at J
  obtain ⟨fab0, fab1, fab2, fab3, fab4, fab5, fab6⟩ := HS7.out.cells (w2.heap.size) ab (by simp)
  have fabl := HS7.out.lt (w2.heap.size) ab (by simp)
  obtain ⟨fba0, fba1, fba2, fba3, fba4, fba5, fba6⟩ := HS7.out.cells (w3.heap.size) ba (by simp)
  have fbal := HS7.out.lt (w3.heap.size) ba (by simp)
  go_wp2_with fail
  refine J.mono ?_
  clear J fab0 fab1 fab2 fab3 fab4 fab5 fab6 fabl fba0 fba1 fba2 fba3 fba4 fba5 fba6 fbal HS7 HT7
  rintro e w8 ⟨rfl, hs⟩
  have HS8 := Hid.mk' hs
  clear hs
  have J := alikeS HS8.out (w4.heap.size) aa (w.heap.size) a (by simp) (by simp)
  rw [decide_eq_true (show rk aa = rk a from by rw [HK3.out]; exact joinK_self _)] at J
  obtain ⟨faa0, faa1, faa2, faa3, faa4, faa5, faa6⟩ := HS8.out.cells (w4.heap.size) aa (by simp)
  have faal := HS8.out.lt (w4.heap.size) aa (by simp)
  obtain ⟨fa0, fa1, fa2, fa3, fa4, fa5, fa6⟩ := HS8.out.cells (w.heap.size) a (by simp)
  have fal := HS8.out.lt (w.heap.size) a (by simp)
  go_wp2_with fail
  refine J.mono ?_
  clear J faa0 faa1 faa2 faa3 faa4 faa5 faa6 faal fa0 fa1 fa2 fa3 fa4 fa5 fa6 fal HS8
  rintro e w9 ⟨rfl, hs⟩
  have HS9 := Hid.mk' hs
  clear hs
  have J := alikeS HS9.out (w6.heap.size) lf (w7.heap.size) rt (by simp) (by simp)
  rw [decide_eq_true (show rk lf = rk rt from by rw [HK5.out, HK6.out, HK1.out, HK4.out]; exact joinK_assoc HID.out.1 HID.out.2)] at J
  obtain ⟨flf0, flf1, flf2, flf3, flf4, flf5, flf6⟩ := HS9.out.cells (w6.heap.size) lf (by simp)
  have flfl := HS9.out.lt (w6.heap.size) lf (by simp)
  obtain ⟨frt0, frt1, frt2, frt3, frt4, frt5, frt6⟩ := HS9.out.cells (w7.heap.size) rt (by simp)
  have frtl := HS9.out.lt (w7.heap.size) rt (by simp)
  go_wp2_with fail
  refine J.mono ?_
  clear J flf0 flf1 flf2 flf3 flf4 flf5 flf6 flfl frt0 frt1 frt2 frt3 frt4 frt5 frt6 frtl HS9
  rintro e w10 ⟨rfl, hs⟩
  have HS10 := Hid.mk' hs
  clear hs
  clear HK2 HK3 HK4 HK5 HK6
  go_upto_region 15 with fail
  go_cut [131] (fun t wx => t = .bool false ∧ Hid (St w a.id wx [(w7.heap.size, rt), (w6.heap.size, lf), (w5.heap.size, bc), (w4.heap.size, aa), (w3.heap.size, ba), (w2.heap.size, ab), (w.heap.size, a), (w.heap.size + 1, b'), (w.heap.size + 1 + 1, c')]))
  case first =>
    have J := belowS HS10.out (w.heap.size) a (w2.heap.size) ab (by simp) (by simp)
    rw [decide_eq_true (show joinK (rk a) (rk ab) = rk ab from by rw [HK1.out]; exact up_left HID.out.1)] at J
    obtain ⟨fa0, fa1, fa2, fa3, fa4, fa5, fa6⟩ := HS10.out.cells (w.heap.size) a (by simp)
    have fal := HS10.out.lt (w.heap.size) a (by simp)
    obtain ⟨fab0, fab1, fab2, fab3, fab4, fab5, fab6⟩ := HS10.out.cells (w2.heap.size) ab (by simp)
    have fabl := HS10.out.lt (w2.heap.size) ab (by simp)
    go_wp2_with fail
    refine J.mono ?_
    clear J fa0 fa1 fa2 fa3 fa4 fa5 fa6 fal fab0 fab1 fab2 fab3 fab4 fab5 fab6 fabl HS10
    rintro e w11 ⟨rfl, hs⟩
    have HS11 := Hid.mk' hs
    clear hs
    have J := belowS HS11.out (w.heap.size + 1) b' (w2.heap.size) ab (by simp) (by simp)
    rw [decide_eq_true (show joinK (rk b') (rk ab) = rk ab from by rw [HK1.out]; exact up_right HID.out.1)] at J
    obtain ⟨fb0, fb1, fb2, fb3, fb4, fb5, fb6⟩ := HS11.out.cells (w.heap.size + 1) b' (by simp)
    have fbl := HS11.out.lt (w.heap.size + 1) b' (by simp)
    obtain ⟨fab0, fab1, fab2, fab3, fab4, fab5, fab6⟩ := HS11.out.cells (w2.heap.size) ab (by simp)
    have fabl := HS11.out.lt (w2.heap.size) ab (by simp)
    go_wp2_with fail
    refine J.mono ?_
    clear J fb0 fb1 fb2 fb3 fb4 fb5 fb6 fbl fab0 fab1 fab2 fab3 fab4 fab5 fab6 fabl HS11
    rintro e w12 ⟨rfl, hs⟩
    have HS12 := Hid.mk' hs
    clear hs
    have J := belowS HS12.out (w.heap.size) a (w.heap.size + 1 + 1) c' (by simp) (by simp)
    obtain ⟨u, hu⟩ : ∃ v, decide (joinK (rk a) (rk c') = rk c') = v := ⟨_, rfl⟩
    rw [hu] at J
    have Hu := Hid.mk' hu
    clear hu
    obtain ⟨fa0, fa1, fa2, fa3, fa4, fa5, fa6⟩ := HS12.out.cells (w.heap.size) a (by simp)
    have fal := HS12.out.lt (w.heap.size) a (by simp)
    obtain ⟨fc0, fc1, fc2, fc3, fc4, fc5, fc6⟩ := HS12.out.cells (w.heap.size + 1 + 1) c' (by simp)
    have fcl := HS12.out.lt (w.heap.size + 1 + 1) c' (by simp)
    go_wp2_with fail
    refine J.mono ?_
    clear J fa0 fa1 fa2 fa3 fa4 fa5 fa6 fal fc0 fc1 fc2 fc3 fc4 fc5 fc6 fcl HS12
    rintro e w13 ⟨rfl, hs⟩
    have HS13 := Hid.mk' hs
    clear hs
    cases u
    · go_wp2_with fail
      go_meet
      exact ⟨rfl, HS13⟩
    have J := belowS HS13.out (w.heap.size + 1) b' (w.heap.size + 1 + 1) c' (by simp) (by simp)
    obtain ⟨z, hz⟩ : ∃ v, decide (joinK (rk b') (rk c') = rk c') = v := ⟨_, rfl⟩
    rw [hz] at J
    have Hz := Hid.mk' hz
    clear hz
    obtain ⟨fb0, fb1, fb2, fb3, fb4, fb5, fb6⟩ := HS13.out.cells (w.heap.size + 1) b' (by simp)
    have fbl := HS13.out.lt (w.heap.size + 1) b' (by simp)
    obtain ⟨fc0, fc1, fc2, fc3, fc4, fc5, fc6⟩ := HS13.out.cells (w.heap.size + 1 + 1) c' (by simp)
    have fcl := HS13.out.lt (w.heap.size + 1 + 1) c' (by simp)
    go_wp2_with fail
    refine J.mono ?_
    clear J fb0 fb1 fb2 fb3 fb4 fb5 fb6 fbl fc0 fc1 fc2 fc3 fc4 fc5 fc6 fcl HS13
    rintro e w14 ⟨rfl, hs⟩
    have HS14 := Hid.mk' hs
    clear hs
    cases z
    · go_wp2_with fail
      go_meet
      exact ⟨rfl, HS14⟩
    have J := belowS HS14.out (w2.heap.size) ab (w.heap.size + 1 + 1) c' (by simp) (by simp)
    rw [decide_eq_true (show joinK (rk ab) (rk c') = rk c' from by rw [HK1.out]; exact up_least HID.out.1 HID.out.2 (of_decide_eq_true Hu.out) (of_decide_eq_true Hz.out))] at J
    obtain ⟨fab0, fab1, fab2, fab3, fab4, fab5, fab6⟩ := HS14.out.cells (w2.heap.size) ab (by simp)
    have fabl := HS14.out.lt (w2.heap.size) ab (by simp)
    obtain ⟨fc0, fc1, fc2, fc3, fc4, fc5, fc6⟩ := HS14.out.cells (w.heap.size + 1 + 1) c' (by simp)
    have fcl := HS14.out.lt (w.heap.size + 1 + 1) c' (by simp)
    go_wp2_with fail
    refine J.mono ?_
    clear J fab0 fab1 fab2 fab3 fab4 fab5 fab6 fabl fc0 fc1 fc2 fc3 fc4 fc5 fc6 fcl HS14
    rintro e w15 ⟨rfl, hs⟩
    have HS15 := Hid.mk' hs
    clear hs
    go_wp2_with fail
    go_meet
    exact ⟨rfl, HS15⟩
  case rest =>
  obtain ⟨rfl, HQ⟩ := hcut
  clear HS10 HK1
  have HS20 := HQ
  clear HQ
  have J := belowS HS20.out (w.heap.size) a (w.heap.size + 1) b' (by simp) (by simp)
  obtain ⟨u, hu⟩ : ∃ v, decide (joinK (rk a) (rk b') = rk b') = v := ⟨_, rfl⟩
  rw [hu] at J
  have Hu := Hid.mk' hu
  clear hu
  obtain ⟨fa0, fa1, fa2, fa3, fa4, fa5, fa6⟩ := HS20.out.cells (w.heap.size) a (by simp)
  have fal := HS20.out.lt (w.heap.size) a (by simp)
  obtain ⟨fb0, fb1, fb2, fb3, fb4, fb5, fb6⟩ := HS20.out.cells (w.heap.size + 1) b' (by simp)
  have fbl := HS20.out.lt (w.heap.size + 1) b' (by simp)
  go_wp2_with fail
  refine J.mono ?_
  clear J fa0 fa1 fa2 fa3 fa4 fa5 fa6 fal fb0 fb1 fb2 fb3 fb4 fb5 fb6 fbl HS20
  rintro e w21 ⟨rfl, hs⟩
  have HS21 := Hid.mk' hs
  clear hs
  cases u
  · skip
    have J := awakeS HS21.out
    go_wp2_with fail
    refine J.mono ?_
    clear J HS21
    rintro e w22 ⟨rfl, hs⟩
    have HB := Hid.mk' hs.below
    clear hs
    go_wp2_with fail
    go_ret
    exact ⟨rfl, HB.out⟩
  have J := belowS HS21.out (w.heap.size + 1) b' (w.heap.size) a (by simp) (by simp)
  obtain ⟨z, hz⟩ : ∃ v, decide (joinK (rk b') (rk a) = rk a) = v := ⟨_, rfl⟩
  rw [hz] at J
  have Hz := Hid.mk' hz
  clear hz
  obtain ⟨fb0, fb1, fb2, fb3, fb4, fb5, fb6⟩ := HS21.out.cells (w.heap.size + 1) b' (by simp)
  have fbl := HS21.out.lt (w.heap.size + 1) b' (by simp)
  obtain ⟨fa0, fa1, fa2, fa3, fa4, fa5, fa6⟩ := HS21.out.cells (w.heap.size) a (by simp)
  have fal := HS21.out.lt (w.heap.size) a (by simp)
  go_wp2_with fail
  refine J.mono ?_
  clear J fb0 fb1 fb2 fb3 fb4 fb5 fb6 fbl fa0 fa1 fa2 fa3 fa4 fa5 fa6 fal HS21
  rintro e w22 ⟨rfl, hs⟩
  have HS22 := Hid.mk' hs
  clear hs
  cases z
  · skip
    have J := awakeS HS22.out
    go_wp2_with fail
    refine J.mono ?_
    clear J HS22
    rintro e w23 ⟨rfl, hs⟩
    have HB := Hid.mk' hs.below
    clear hs
    go_wp2_with fail
    go_ret
    exact ⟨rfl, HB.out⟩
  have J := alikeS HS22.out (w.heap.size) a (w.heap.size + 1) b' (by simp) (by simp)
  rw [decide_eq_true (show rk a = rk b' from by exact up_anti HID.out.1 (of_decide_eq_true Hu.out) (of_decide_eq_true Hz.out))] at J
  obtain ⟨fa0, fa1, fa2, fa3, fa4, fa5, fa6⟩ := HS22.out.cells (w.heap.size) a (by simp)
  have fal := HS22.out.lt (w.heap.size) a (by simp)
  obtain ⟨fb0, fb1, fb2, fb3, fb4, fb5, fb6⟩ := HS22.out.cells (w.heap.size + 1) b' (by simp)
  have fbl := HS22.out.lt (w.heap.size + 1) b' (by simp)
  go_wp2_with fail
  refine J.mono ?_
  clear J fa0 fa1 fa2 fa3 fa4 fa5 fa6 fal fb0 fb1 fb2 fb3 fb4 fb5 fb6 fbl HS22
  rintro e w23 ⟨rfl, hs⟩
  have HS23 := Hid.mk' hs
  clear hs
  have J := awakeS HS23.out
  go_wp2_with fail
  refine J.mono ?_
  clear J HS23
  rintro e w24 ⟨rfl, hs⟩
  have HB := Hid.mk' hs.below
  clear hs
  go_wp2_with fail
  go_ret
  exact ⟨rfl, HB.out⟩

theorem own : ownKnob Try.prog.godebug = none := by kernel_rfl
theorem laidOut : laidOutB Try.prog = true := by kernel_rfl

set_option maxRecDepth 100000 in
theorem lifted (os : Os) (started : os.Started) (H : Type) (enc : TypeId × Value → H) :
    ReturnsInHanded {} Try.checked os 5 .any (Rows.latticeLawsSpec.pre6 enc Try.prog Try.f5 Rows.latticeLawsRow.domain false) (Rows.latticeLawsSpec.post enc Try.prog Try.f5 false true false false) := by
  refine returnsInHanded_of_change_sized (C := Try.checked) own started (by kernel_rfl) Try.func5
    (ChangeSpec.witness6 (enc := enc) (C := Try.checked) false ⟨#[], #[.agg #[.int .i64 0, .int .i64 0, .int .i64 0, .int .i64 0, .int .i64 0, .bool false, .slice none 0 0], .agg #[.int .i64 0, .int .i64 0, .int .i64 0, .int .i64 0, .int .i64 0, .bool false, .slice none 0 0], .agg #[.int .i64 0, .int .i64 0, .int .i64 0, .int .i64 0, .int .i64 0, .bool false, .slice none 0 0]], []⟩ 8 (by kernel_rfl) (by kernel_rfl) (by kernel_rfl) (by kernel_rfl)) ?_
  intro W base args ds gs before hval0 hW hcnd hsz0 _
  have hz : ∀ (j : Nat) t d, Try.f5.params.toList[j]? = some t → ds[j]? = some d → ∀ n ∈ d.weights Try.prog t, n ≤ reachBytes := fun j t d ht hd n hn => by
    have := List.all_eq_true.1 hsz0 n (DataW.weights_mem_each (j := j) (t := t) (d := d) (by rw [List.getElem?_append_left (List.getElem?_eq_some_iff.1 ht).1]; exact ht) (by rw [List.getElem?_append_left (List.getElem?_eq_some_iff.1 hd).1]; exact hd) n hn)
    simpa using this
  have hval : ∀ (j : Nat) t v, Try.f5.params[j]? = some t → args[j]? = some v → Value.okWide Try.prog W .any base t v := hval0
  have hW' := hW
  obtain ⟨p, q, hA0, hV, rfl, hfz, hnd⟩ := hW
  have hA : DataW.TrodAll enc Try.prog W 0 (fun _ => true) true Try.f5.params.toList args.toList ds p := hA0
  rw [Try.params5] at hA hval hz
  obtain ⟨v0, vs0, d0, ds0, p0x, q0, hargs, rfl, rfl, h0, r0⟩ := trodAll_cons hA
  obtain ⟨v1, vs1, d1, ds1, p1x, q1, rfl, rfl, rfl, h1, r1⟩ := trodAll_cons r0
  obtain ⟨v2, vs2, d2, ds2, p2x, q2, rfl, rfl, rfl, h2, r2⟩ := trodAll_cons r1
  obtain ⟨rfl, rfl, rfl⟩ := trodAll_nil r2
  obtain rfl : args = #[v0, v1, v2] := by cases args; simp_all
  obtain ⟨rfl, rfl⟩ := trodVars_none hV
  obtain ⟨cs0, rfl, _⟩ := okWide_struct Try.underlying27 (hval 0 27 v0 rfl rfl)
  have k0 := h0
  have lt0 : ∀ x ∈ p0x, x.block < W.heap.size := by obtain ⟨m, hm⟩ := k0; exact DataW.trod_lt m _ _ _ hm
  obtain ⟨a0, rfl, w0⟩ : ∃ a : Rc, cs0 = #[.int .i64 a.id, .int .i64 a.inc, .int .i64 a.st, .int .i64 a.lo, .int .i64 a.hi, .bool a.cut, .slice a.p a.bag.length a.cap] ∧ ROk W a := by
    obtain ⟨fuel, hf⟩ := h0
    obtain ⟨a, hcs, h1⟩ := opensZ_rc _ _ _ hf (hz 0 27 d0 rfl rfl)
    exact ⟨a, by cases cs0; simpa [Value.cells, Rc.cells] using hcs, h1⟩
  obtain ⟨cs1, rfl, _⟩ := okWide_struct Try.underlying27 (hval 1 27 v1 rfl rfl)
  have k1 := h1
  have lt1 : ∀ x ∈ p1x, x.block < W.heap.size := by obtain ⟨m, hm⟩ := k1; exact DataW.trod_lt m _ _ _ hm
  obtain ⟨a1, rfl, w1⟩ : ∃ a : Rc, cs1 = #[.int .i64 a.id, .int .i64 a.inc, .int .i64 a.st, .int .i64 a.lo, .int .i64 a.hi, .bool a.cut, .slice a.p a.bag.length a.cap] ∧ ROk W a := by
    obtain ⟨fuel, hf⟩ := h1
    obtain ⟨a, hcs, h1⟩ := opensZ_rc _ _ _ hf (hz 1 27 d1 rfl rfl)
    exact ⟨a, by cases cs1; simpa [Value.cells, Rc.cells] using hcs, h1⟩
  obtain ⟨cs2, rfl, _⟩ := okWide_struct Try.underlying27 (hval 2 27 v2 rfl rfl)
  have k2 := h2
  have lt2 : ∀ x ∈ p2x, x.block < W.heap.size := by obtain ⟨m, hm⟩ := k2; exact DataW.trod_lt m _ _ _ hm
  obtain ⟨a2, rfl, w2⟩ : ∃ a : Rc, cs2 = #[.int .i64 a.id, .int .i64 a.inc, .int .i64 a.st, .int .i64 a.lo, .int .i64 a.hi, .bool a.cut, .slice a.p a.bag.length a.cap] ∧ ROk W a := by
    obtain ⟨fuel, hf⟩ := h2
    obtain ⟨a, hcs, h1⟩ := opensZ_rc _ _ _ hf (hz 2 27 d2 rfl rfl)
    exact ⟨a, by cases cs2; simpa [Value.cells, Rc.cells] using hcs, h1⟩
  clear hA0 hval0
  refine (walk a0 a1 a2 W w0 w1 w2).mono fun e W' ⟨he, bel⟩ => ?_
  subst he
  exact ⟨_, rfl, _, _, _, [], _, [], hW', trodAll_mk1 (shut_bool Try.underlying4 _), (trodAll_cons_mk (Below.trod laidOut (by kernel_rfl) (of_decide_eq_true (by kernel_rfl)) k0 bel lt0) (trodAll_cons_mk (Below.trod laidOut (by kernel_rfl) (of_decide_eq_true (by kernel_rfl)) k1 bel lt1) (trodAll_cons_mk (Below.trod laidOut (by kernel_rfl) (of_decide_eq_true (by kernel_rfl)) k2 bel lt2) trodAll_mk0))), rfl, bel.frame _, fun h => by cases h⟩

theorem over : Rows.latticeLawsRow.holds Try.pinned (OpenSpec.ofChange Rows.latticeLawsSpec) :=
  OpenClaim.holds_of_wide 5 Try.f5 rfl rfl rfl rfl rfl rfl rfl ⟨rfl, rfl, rfl, rfl, rfl⟩ rfl rfl rfl rfl rfl (by kernel_rfl) Try.func5 (by kernel_rfl)
    (of_decide_eq_true (by kernel_rfl)) (by unfold Func.isWrapper; first | (rw [if_pos (by decide +kernel)]; kernel_rfl) | (rw [if_neg (by decide +kernel)]; exact ⟨rfl, rfl⟩))
    (fun os started H enc _ => lifted os started H enc)

/-- The given statement. -/
theorem proved : Rows.LatticeLawsSaid := over
#print axioms proved
end Go.Proofs.Ytdfjjajkeieocaa.latticeLaws
