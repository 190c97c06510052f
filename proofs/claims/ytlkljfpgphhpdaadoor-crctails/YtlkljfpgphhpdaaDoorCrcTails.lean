/-
  Proved: the statement on layer 3's 'any two texts, each with its sum behind it, have one sum' (CrcTails) returns true at every input, and leaves its arguments as they were; the package's table reads as the program's text lays it (the card ties it).
-/
import Derived.Test.YtlkljfpgphhpdaaDoorRows
import Derived.Test.YtlkljfpgphhpdaaDoorCards
import Derived.Test.YtlkljfpgphhpdaaDoorTie
import Derived.Test.YtlkljfpgphhpdaaDoorLaw03
import Derived.Test.YtlkljfpgphhpdaaDoorShapes
import Derived.ShutString
import Derived.ChangeOld
import Derived.Stop.Joined
import Derived.SevenTiedAt
namespace Go.Proofs.YtlkljfpgphhpdaaDoor.crcTails
open Go Go.ChangeShapes Go.WideShapes Go.ChangeAt Go.RowKit
open Go.ChangeMaps (open_string shut_string)
set_option linter.unusedVariables false
set_option linter.unusedSimpArgs false

/-- The sum's four bytes. -/
def four (s : Nat) : List Int := [(s : Int) / 16777216, (s : Int) / 65536 % 256, (s : Int) / 256 % 256, (s : Int) % 256]

theorem four_eq (s : Nat) : four s = [((s / 16777216 : Nat) : Int), ((s / 65536 % 256 : Nat) : Int), ((s / 256 % 256 : Nat) : Int), ((s % 256 : Nat) : Int)] := by
  unfold four
  rw [show (s : Int) / 16777216 = ((s / 16777216 : Nat) : Int) by omega, show (s : Int) / 65536 % 256 = ((s / 65536 % 256 : Nat) : Int) by omega, show (s : Int) / 256 % 256 = ((s / 256 % 256 : Nat) : Int) by omega, show (s : Int) % 256 = ((s % 256 : Nat) : Int) by omega]

theorem four_isB (s : Nat) (h : s < 4294967296) : isB (four s) := by
  intro x hx; simp [four] at hx; omega

theorem sum_lt (l : List Int) (hb : isB l) : sumB l < 4294967296 := by have := sumB_lt l hb; rw [p32] at this; exact this

theorem tail_one (l : List Int) (hb : isB l) : sumB (l ++ four (sumB l)) = linN 32 4294967295 ^^^ 4294967295 := by
  have := regB_tail l hb _ rfl
  rw [← four_eq] at this
  rw [show sumB (l ++ four (sumB l)) = regB 4294967295 (l ++ four (sumB l)) ^^^ 4294967295 from rfl, this]

set_option maxRecDepth 10000 in
set_option maxHeartbeats 2000000 in
theorem tail_any (p : Option Addr) (c : Nat) (l : List Int) (w : World) (hT : Tab w) (hB : BIn w p l) (hb : isB l) (hp : p = none → c = 0) (hlen : l.length ≤ 300) :
    Calls Tryd.prog 10 #[.slice p l.length c] w fun e w' => ∃ v, e = .returned v ∧ Acc w' w.heap.size v (l ++ four (sumB l)) ∧ Below w.heap.size w w' := by
  have O := of_one w.heap.size (.slice p l.length c) p c l w 22 rfl hT rfl hB hb (by omega)
  have hs := sum_lt l hb
  generalize sumB l = s at O hs
  have b1 : Below w.heap.size w (w.alloc (.cells #[.slice p l.length c] 22)) := (Below.refl _ _).alloc (Nat.le_refl _) _
  go_enter Tryd.func10, Tryd.ntmps10
  go_wp2_with fail
  refine O.mono ?_
  rintro e w' ⟨rfl, rfl⟩
  have hx1 : w.heap.size ≤ (w.alloc (.cells #[.slice p l.length c] 22)).heap.size := b1.size
  have hB1 := hB.below b1
  generalize w.alloc (.cells #[.slice p l.length c] 22) = w1 at b1 hx1 hB1
  have b2 : Below w.heap.size w (w1.alloc (.cells #[] 5)) := b1.alloc hx1 _
  have hA : Acc (w1.alloc (.cells #[] 5)) w.heap.size (.slice (some ⟨w1.heap.size, 0, none⟩) 0 0) [] := Acc.empty (heap_alloc_new _ _) hx1
  have hsz : w.heap.size ≤ (w1.alloc (.cells #[] 5)).heap.size := b2.size
  have hB2 := hB.below b2
  have HB2 := Hid.mk' b2
  clear O hB hB1 b2 b1
  go_wp2_with (first
    | (at_builtin; refine wpList_acc rfl (.tmp 8) (.tmp 9) rfl w.heap.size _ [] rfl hA hsz p c l rfl hp hB2 (by simp; omega) ?_; intro v3 w3 hA3 hb3; rw [List.nil_append] at hA3; have hb3' := HB2.out.trans hb3; have HB3 := Hid.mk' hb3'; have hs3 := hb3'.size; clear hb3 hb3' hA hsz)
    | (at_builtin; refine wpList_acc rfl (.tmp 11) (.tmp 23) rfl w.heap.size _ l rfl (hA3.below ((Below.refl _ _).alloc (Nat.le_refl _) _)) (by simp; omega) (some ⟨w3.heap.size, 0, none⟩) 4 (four s) rfl (by simp) (BIn.of_block (rest := []) (heap_alloc_new _ _)) (by simp [four]; omega) ?_; intro v4 w4 hA4 hb4))
  go_ret
  exact ⟨_, rfl, hA4, (HB3.out.alloc hs3 _).trans hb4⟩

set_option maxRecDepth 10000 in
set_option maxHeartbeats 2000000 in
theorem walk (p0 : Option Addr) (c0 : Nat) (l0 : List Int) (p1 : Option Addr) (c1 : Nat) (l1 : List Int) (w : World) (hT : Tab w) (hlc0 : l0.length ≤ c0) (hcm0 : c0 ≤ maxLen) (hp0 : p0 = none → c0 = 0) (hin0 : LIn w p0 1 (shInt .u8) l0)
    (hlc1 : l1.length ≤ c1) (hcm1 : c1 ≤ maxLen) (hp1 : p1 = none → c1 = 0) (hin1 : LIn w p1 1 (shInt .u8) l1) :
    Calls Tryd.prog 5 #[.slice p0 l0.length c0, .slice p1 l1.length c1] w fun e w' => e = .returned (.bool true) ∧ Below w.heap.size w w' := by
  unfold maxLen at hcm0 hcm1
  have hB0 := hin0.bytes
  have hb0 := hin0.isB
  have hB1 := hin1.bytes
  have hb1 := hin1.isB
  clear hin0 hin1
  by_cases t : 300 < (l0.length : Int) ∨ 300 < (l1.length : Int)
  · have AW := awake3_any w hT
    by_cases t1 : 300 < (l0.length : Int) <;> by_cases t2 : 300 < (l1.length : Int) <;> first | (exfalso; omega) | skip
    all_goals
      go_enter Tryd.func5, Tryd.ntmps5
      go_wp2_with (go_at_call 7; refine AW.mono ?_; rintro e w' ⟨rfl, hb⟩)
      go_ret
      exact ⟨rfl, hb⟩
  have t1 : ¬ 300 < (l0.length : Int) := fun q => t (.inl q)
  have t2 : ¬ 300 < (l1.length : Int) := fun q => t (.inr q)
  clear t
  have T0 := tail_any p0 c0 l0 w hT hB0 hb0 hp0 (by omega)
  have f0 := (hb0.append (four_isB _ (sum_lt l0 hb0)))
  have f1 := (hb1.append (four_isB _ (sum_lt l1 hb1)))
  have e0 := tail_one l0 hb0
  have e1 := tail_one l1 hb1
  have n0 : (l0 ++ four (sumB l0)).length ≤ 304 := by simp [four]; omega
  have n1 : (l1 ++ four (sumB l1)).length ≤ 304 := by simp [four]; omega
  have T1 := fun w hT hB => tail_any p1 c1 l1 w hT hB hb1 hp1 (by omega)
  generalize l0 ++ four (sumB l0) = m0 at T0 f0 e0 n0
  generalize l1 ++ four (sumB l1) = m1 at T1 f1 e1 n1
  generalize linN 32 4294967295 ^^^ 4294967295 = s at e0 e1
  have HB1 := Hid.mk' hB1
  clear hB0 hB1
  go_enter Tryd.func5, Tryd.ntmps5
  go_wp2_with fail
  refine T0.mono ?_
  rintro e w2 ⟨v2, rfl, hA2, hB2⟩
  clear T0
  obtain ⟨q2, d2, rfl, hq2, _⟩ := hA2.slice
  have O0 := of_one w2.heap.size _ q2 d2 m0 w2 22 rfl (hT.below hB2 hT.pos) rfl hq2 f0 (by omega)
  have hB3 := hB2.alloc (o := .cells #[.slice q2 m0.length d2] 22) hB2.size
  have T1' := T1 _ (hT.below hB3 hT.pos) (HB1.out.below hB3)
  rw [e0] at O0
  have HB3 := Hid.mk' hB3
  clear hA2 hq2 hB2 hB3 T1
  go_wp2_with (go_at_call 8; refine O0.mono ?_; rintro e w' ⟨rfl, rfl⟩)
  refine T1'.mono ?_
  rintro e w4 ⟨v4, rfl, hA4, hB4⟩
  have hB4' := HB3.out.trans (hB4.mono HB3.out.size)
  obtain ⟨q4, d4, rfl, hq4, _⟩ := hA4.slice
  have O1 := of_one w4.heap.size _ q4 d4 m1 w4 22 rfl (hT.below hB4' hT.pos) rfl hq4 f1 (by omega)
  have hB5 := hB4'.alloc (o := .cells #[.slice q4 m1.length d4] 22) hB4'.size
  have AW := awake3_any _ (hT.below hB5 hT.pos)
  rw [e1] at O1
  have HB5 := Hid.mk' hB5
  clear hA4 hq4 hB4 hB4' hB5 T1' O0 HB3
  go_wp2_with (first | (go_at_call 8; refine O1.mono ?_; rintro e w' ⟨rfl, rfl⟩) | (go_at_call 7; refine AW.mono ?_; rintro e w6 ⟨rfl, hb6⟩))
  go_ret
  exact ⟨rfl, HB5.out.trans (hb6.mono HB5.out.size)⟩

theorem own : ownKnob Tryd.prog.godebug = none := by kernel_rfl
theorem laidOut : laidOutB Tryd.prog = true := by kernel_rfl

theorem door_met (os : Os) (args : Array Value) : laidMetH Tryd.prog Rows.crcTailsRow.laid ((World.doorLaid Tryd.prog 400 os).forCall (fun _ _ => 0) ⟨#[], args, []⟩).memory :=
  laidMetH_of_parts3 (fuel := 8) (laidMet_of_run' 8 (by kernel_rfl) (by kernel_rfl)) (by kernel_rfl) (by kernel_rfl)

set_option maxRecDepth 100000 in
theorem lifted (os : Os) (started : os.Started) (H : Type) (enc : TypeId × Value → H) :
    ReturnsInHanded {} Tryd.checked os 5 .any (fun w args => (Rows.crcTailsSpec.pre enc Tryd.prog Tryd.f5 [] false w args ∧ laidMetH Tryd.prog Rows.crcTailsRow.laid w) ∧ sizedMet enc Tryd.prog Tryd.f5 (OpenSpec.ofChange Rows.crcTailsSpec) false w args)
      (Rows.crcTailsSpec.post enc Tryd.prog Tryd.f5 false true false false) := by
  refine returnsInHanded_of_change_and (C := Tryd.checked) (X := (fun w _ => laidMetH Tryd.prog Rows.crcTailsRow.laid w)) (fun _ _ _ hh h => h.of_heap hh) own started (by kernel_rfl) Tryd.func5
    (ChangeSpec.witness_shaped (enc := enc) (C := Tryd.checked) (os := os) (X := (fun w _ => laidMetH Tryd.prog Rows.crcTailsRow.laid w)) false (World.doorLaid Tryd.prog 400 os) #[.slice none 0 0, .slice none 0 0] 8 rfl (World.shaped_of_RefB (by kernel_rfl) (by kernel_rfl)) (by kernel_rfl) (by kernel_rfl) (by kernel_rfl) (door_met os _)) ?_
  intro W base args ds gs before hval0 hW _ _ hL _
  have hval : ∀ (j : Nat) t v, Tryd.f5.params[j]? = some t → args[j]? = some v → Value.okWide Tryd.prog W .any base t v := hval0
  have hW' := hW
  obtain ⟨p, q, hA0, hV, rfl, hfz, hnd⟩ := hW
  have hA : DataW.TrodAll enc Tryd.prog W 0 (fun _ => true) true Tryd.f5.params.toList args.toList ds p := hA0
  rw [Tryd.params5] at hA hval
  obtain ⟨v0, vs0, d0, ds0, p0x, q0, hargs, rfl, rfl, h0, r0⟩ := trodAll_cons hA
  obtain ⟨v1, vs1, d1, ds1, p1x, q1, rfl, rfl, rfl, h1, r1⟩ := trodAll_cons r0
  obtain ⟨rfl, rfl, rfl⟩ := trodAll_nil r1
  obtain rfl : args = #[v0, v1] := by cases args; simp_all
  obtain ⟨rfl, rfl⟩ := trodVars_none hV
  obtain ⟨p0, len0, c0, rfl⟩ := okWide_slice Tryd.underlying22 (hval 0 22 v0 rfl rfl)
  have k0 := h0
  have lt0 : ∀ x ∈ p0x, x.block < W.heap.size := by obtain ⟨m, hm⟩ := k0; exact DataW.trod_lt m _ _ _ hm
  obtain ⟨l0, rfl, hlc0, hcm0, hp0, hin0⟩ : ∃ l : List Int, l.length = len0 ∧ len0 ≤ c0 ∧ c0 ≤ maxLen ∧ (p0 = none → c0 = 0) ∧ LIn W p0 1 (shInt .u8) l := by
    obtain ⟨fuel, hf⟩ := h0
    obtain ⟨l, p, c, hcs, hl1, hl2, hl3, hl4⟩ := opens_slice (size := 1) Tryd.underlying22 (by kernel_rfl) (by decide) (opens_int Tryd.underlying5) _ _ _ hf
    simp [Value.cells] at hcs
    obtain ⟨rfl, rfl, rfl⟩ := hcs
    exact ⟨l, rfl, hl1, hl2, hl3, hl4⟩
  obtain ⟨p1, len1, c1, rfl⟩ := okWide_slice Tryd.underlying22 (hval 1 22 v1 rfl rfl)
  have k1 := h1
  have lt1 : ∀ x ∈ p1x, x.block < W.heap.size := by obtain ⟨m, hm⟩ := k1; exact DataW.trod_lt m _ _ _ hm
  obtain ⟨l1, rfl, hlc1, hcm1, hp1, hin1⟩ : ∃ l : List Int, l.length = len1 ∧ len1 ≤ c1 ∧ c1 ≤ maxLen ∧ (p1 = none → c1 = 0) ∧ LIn W p1 1 (shInt .u8) l := by
    obtain ⟨fuel, hf⟩ := h1
    obtain ⟨l, p, c, hcs, hl1, hl2, hl3, hl4⟩ := opens_slice (size := 1) Tryd.underlying22 (by kernel_rfl) (by decide) (opens_int Tryd.underlying5) _ _ _ hf
    simp [Value.cells] at hcs
    obtain ⟨rfl, rfl, rfl⟩ := hcs
    exact ⟨l, rfl, hl1, hl2, hl3, hl4⟩
  clear hA0 hval0
  refine (walk p0 c0 l0 p1 c1 l1 W (tab_of_laid (by kernel_rfl) (by simp [Rows.crcTailsRow]) hL) hlc0 hcm0 hp0 hin0 hlc1 hcm1 hp1 hin1).mono fun e W' ⟨he, bel⟩ => ?_
  subst he
  exact ⟨_, rfl, _, _, _, [], _, [], hW', trodAll_mk1 (shut_bool Tryd.underlying4 _), (trodAll_cons_mk (Below.trod laidOut (by kernel_rfl) (of_decide_eq_true (by kernel_rfl)) k0 bel lt0) (trodAll_cons_mk (Below.trod laidOut (by kernel_rfl) (of_decide_eq_true (by kernel_rfl)) k1 bel lt1) trodAll_mk0)), rfl, bel.frame _, fun h => by cases h⟩

theorem over : Rows.CrcTailsSaid :=
  OpenClaim.holds_of_wide 5 Tryd.f5 rfl rfl rfl rfl rfl rfl rfl ⟨rfl, rfl, rfl, rfl, rfl⟩ rfl rfl rfl rfl rfl (by kernel_rfl) Tryd.func5 (by kernel_rfl)
    (of_decide_eq_true (by kernel_rfl)) (by unfold Func.isWrapper; first | (rw [if_pos (by decide +kernel)]; kernel_rfl) | (rw [if_neg (by decide +kernel)]; exact ⟨rfl, rfl⟩))
    (fun os started H enc _ => lifted os started H enc)

/-- The given statement: the card, its variables tied to the program's text. -/
theorem proved : Rows.CrcTailsCardSaid :=
  Claim7.holds_tied_plain_at .later [] [.data] true (true, "5e2f1324bc4e4e770a9017a9228d2a9a59162323bd99a58c092da7a91d37423c") false over (fun _ h => by cases h) (by kernel_rfl) (fun _ h => by cases h) crcTails_row_tie rfl ⟨rfl, rfl⟩ (by kernel_rfl) rfl
    (fun f fn hf hfn => by
      obtain rfl : f = 5 := Option.some.inj ((show Tryd.prog.funcNamed "polyglot/polyglotlaw03.CrcTails" = some 5 by kernel_rfl).symm.trans hf) |>.symm
      obtain rfl : fn = Tryd.f5 := (Option.some.inj (Tryd.func5.symm.trans hfn)).symm
      exact ⟨by kernel_rfl, fun j t ht => by
        rw [Tryd.params5] at ht
        have hm : t ∈ [22, 22] := by simpa using Array.mem_of_getElem? ht
        have hall : ([22, 22].all fun u => !Tryd.prog.wantsStandIn u) = true := by kernel_rfl
        exact (show Tryd.prog.wantsStandIn t = false by simpa using List.all_eq_true.1 hall t hm)⟩)
    (by kernel_rfl)
#print axioms proved

end Go.Proofs.YtlkljfpgphhpdaaDoor.crcTails
