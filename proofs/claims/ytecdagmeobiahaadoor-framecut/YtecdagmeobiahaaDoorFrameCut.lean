/-
  Proved: the statement on layer 4's 'a frame that is cut off, or has something behind it, is not opened' (FrameCut) returns true at every input, and leaves its arguments as they were; the package's table reads as the program's text lays it (the card ties it).
-/
import Derived.Test.YtecdagmeobiahaaDoorRows
import Derived.Test.YtecdagmeobiahaaDoorCards
import Derived.Test.YtecdagmeobiahaaDoorTie
import Derived.Test.YtecdagmeobiahaaDoorLaw04
import Derived.Test.YtecdagmeobiahaaDoorShapes
import Derived.ShutString
import Derived.ChangeOld
import Derived.Stop.Joined
import Derived.SevenTiedAt
namespace Go.Proofs.YtecdagmeobiahaaDoor.frameCut
open Go Go.ChangeShapes Go.WideShapes Go.ChangeAt Go.RowKit
open Go.ChangeMaps (open_string shut_string)
set_option linter.unusedVariables false
set_option linter.unusedSimpArgs false

set_option maxRecDepth 10000 in
set_option maxHeartbeats 4000000 in
theorem walk (a0 : Int) (p1 : Option Addr) (c1 : Nat) (l1 : List Int) (a2 : Int) (p3 : Option Addr) (c3 : Nat) (l3 : List Int) (w : World) (hT : Tab w) (w0 : (Lit.int .i64 a0).wf = true) (hlc1 : l1.length ≤ c1) (hcm1 : c1 ≤ maxLen) (hp1 : p1 = none → c1 = 0) (hin1 : LIn w p1 1 (shInt .u8) l1)
    (w2 : (Lit.int .i64 a2).wf = true) (hlc3 : l3.length ≤ c3) (hcm3 : c3 ≤ maxLen) (hp3 : p3 = none → c3 = 0) (hin3 : LIn w p3 1 (shInt .u8) l3) :
    Calls Tryd.prog 7 #[.int .i64 a0, .slice p1 l1.length c1, .int .i64 a2, .slice p3 l3.length c3] w fun e w' => e = .returned (.bool true) ∧ Below w.heap.size w w' := by
  unfold maxLen at hcm1 hcm3
  have h0 := bounds_i64 w0
  have h2 := bounds_i64 w2
  have hB := hin1.bytes
  have hb := hin1.isB
  have hB3 := hin3.bytes
  have hb3 := hin3.isB
  clear hin1 hin3 w0 w2
  by_cases t : 300 < (l1.length : Int) ∨ 300 < (l3.length : Int) ∨ (l3.length : Int) < 1 ∨ a0 < 1 ∨ 3 < a0
  · have AW := awake4_any w hT
    by_cases t1 : 300 < (l1.length : Int) <;> by_cases t2 : 300 < (l3.length : Int) <;> by_cases t3 : (l3.length : Int) < 1 <;> by_cases t4 : a0 < 1 <;> by_cases t5 : 3 < a0 <;> first | (exfalso; omega) | skip
    all_goals
      go_enter Tryd.func7, Tryd.ntmps7
      go_wp2_with (go_at_call 9; refine AW.mono ?_; rintro e w' ⟨rfl, hb⟩)
      go_ret
      exact ⟨rfl, hb⟩
  have t1 : ¬ 300 < (l1.length : Int) := fun q => t (.inl q)
  have t2 : ¬ 300 < (l3.length : Int) := fun q => t (.inr (.inl q))
  have t3 : ¬ (l3.length : Int) < 1 := fun q => t (.inr (.inr (.inl q)))
  have t4 : ¬ a0 < 1 := fun q => t (.inr (.inr (.inr (.inl q))))
  have t5 : ¬ 3 < a0 := fun q => t (.inr (.inr (.inr (.inr q))))
  have S := seal_ok a0 p1 c1 l1 w hT hB hb (by omega) (by omega) (by omega)
  have hfl := fullB_len a0 l1
  have hfb := fullB_isB a0 l1 (by omega) hb (by omega)
  have hob := open_behind a0 l1 l3 (by omega) (by omega) (by omega)
  have HC := Hid.mk' (open_cut a0 l1 (by omega) (by omega))
  generalize fullB a0 l1 = F at *
  have HP := Hid.mk' hB3
  clear t hB hB3
  go_enter Tryd.func7, Tryd.ntmps7
  go_wp2_with fail
  refine S.mono ?_
  rintro e w2 ⟨q, rfl, hq, hblk, hb2⟩
  have hB2 : BIn w2 (some ⟨q, 0, none⟩) F := BIn.of_block (rest := []) (by simpa [cellsB] using hblk)
  have b3 : Below w2.heap.size w2 (w2.alloc (.cells #[] 5)) := (Below.refl _ _).alloc (Nat.le_refl _) _
  have hA : Acc (w2.alloc (.cells #[] 5)) w2.heap.size (.slice (some ⟨w2.heap.size, 0, none⟩) 0 0) [] := Acc.empty (heap_alloc_new _ _) (Nat.le_refl _)
  have hsz : w2.heap.size ≤ (w2.alloc (.cells #[] 5)).heap.size := b3.size
  have hF3 := hB2.below b3
  have HP2 := Hid.mk' (HP.out.below hb2)
  have HB2 := Hid.mk' hb2
  have HFb := Hid.mk' hB2
  have Hb3 := Hid.mk' b3
  have HL := Hid.mk' hfl
  have hsrc : BIn (w2.alloc (.cells #[] 5)) (some ⟨q, 0, none⟩) F := hF3
  clear S hblk hb2 hB2 b3 hF3 HP
  go_wp2_with (at_builtin; refine wpList_acc rfl (.tmp 45) (.tmp 46) rfl w2.heap.size _ [] rfl hA hsz (some ⟨q, 0, none⟩) (l1.length + 8) F (by rw [HL.out]; rfl) (by simp) hsrc (by simp; omega) ?_)
  intro v4 w4 hA4 hb4
  have hb24 := Hb3.out.trans hb4
  have hs4 := hb24.size
  have hP4 := HP2.out.below hb24
  obtain ⟨q4, d4, rfl, _⟩ := hA4.slice
  have HB24 := Hid.mk' hb24
  have hF308 : F.length ≤ 308 := by omega
  clear hb24 hb4 hA hsz hsrc hfl
  go_wp2_with (at_builtin; refine wpList_acc rfl (.tmp 47) (.tmp 48) rfl w2.heap.size _ F rfl hA4 hs4 p3 c3 l3 rfl hp3 hP4 (by omega) ?_)
  intro v5 w5 hA5 hb5
  have hb25 := HB24.out.trans hb5
  have hb05 := HB2.out.trans (hb25.mono HB2.out.size)
  obtain ⟨q5, d5, rfl, hq5, _, hl5, hm5⟩ := hA5.slice
  unfold maxLen at hm5
  have O := open_any q5 d5 (F ++ l3) w5 (hT.below hb05 hT.pos) hq5 (hfb.append hb3) hl5 (by omega)
  rw [hob, List.length_append] at O
  simp only [List.length_nil] at O
  have HB05 := Hid.mk' hb05
  have HF5 := Hid.mk' (HFb.out.below hb25)
  clear hA4 hA5 hb5 hb25 hb05 hq5 hob hP4 HFb HB24 Hb3 HB2 HP2
  go_wp2_with fail
  refine O.mono ?_
  rintro e w6 ⟨p6, c6, rfl, _, hb6⟩
  have hb06 := HB05.out.trans (hb6.mono HB05.out.size)
  have HF6 := Hid.mk' (HF5.out.below hb6)
  have HB6 := Hid.mk' hb06
  clear O HB05 HF5 hb6 hb06 hl5
  by_cases u : a2 < 0 ∨ (l1.length : Int) + 8 ≤ a2
  · have AW := awake4_any w6 (hT.below HB6.out hT.pos)
    by_cases u1 : a2 < 0 <;> by_cases u2 : (l1.length : Int) + 8 ≤ a2 <;> first | (exfalso; omega) | skip
    all_goals
      go_wp2_with (go_at_call 9; refine AW.mono ?_; rintro e w' ⟨rfl, hb⟩)
      go_ret
      exact ⟨rfl, HB6.out.trans (hb.mono HB6.out.size)⟩
  obtain ⟨k, rfl⟩ := Int.eq_ofNat_of_zero_le (show 0 ≤ a2 by omega)
  have hd1 : decide ((k : Int) < 0) = false := decide_eq_false (by omega)
  have hd2 : decide ((l1.length : Int) + 8 ≤ (k : Int)) = false := decide_eq_false (by omega)
  have hk8 : k ≤ l1.length + 8 := by omega
  have hk9 : (k : Int) ≤ (l1.length : Int) + 8 := by omega
  have hkF : k < F.length := by have := HL.out; omega
  have hkl : (F.take k).length = k := by simp; omega
  have O := open_any (some ⟨q, 0, none⟩) (l1.length + 8) (F.take k) w6 (hT.below HB6.out hT.pos) (HF6.out.take k) (hfb.take k) (by omega) (by omega)
  rw [hkl] at O
  have AW := fun x (h : Below w.heap.size w x) => awake4_any x (hT.below h hT.pos)
  by_cases v : 8 ≤ (k : Int)
  · rw [HC.out k hkF (by omega)] at O
    have d8 : decide (8 ≤ (k : Int)) = true := decide_eq_true v
    have d9 : decide ((k : Int) < 8) = false := decide_eq_false (by omega)
    simp only [List.length_nil] at O
    clear u hkF hkl hfb hF308
    go_wp2_with fail
    refine O.mono ?_
    rintro e w7 ⟨p7, c7, rfl, _, hb7⟩
    have hb07 := HB6.out.trans (hb7.mono HB6.out.size)
    have AW7 := AW w7 hb07
    have HB7 := Hid.mk' hb07
    clear O AW hb7 hb07 HB6
    go_wp2_with (go_at_call 9; refine AW7.mono ?_; rintro e w' ⟨rfl, hb⟩)
    go_ret
    exact ⟨rfl, HB7.out.trans (hb.mono HB7.out.size)⟩
  · rw [openR_short (F.take k) (by omega)] at O
    have d8 : decide (8 ≤ (k : Int)) = false := decide_eq_false v
    have d9 : decide ((k : Int) < 8) = true := decide_eq_true (by omega)
    simp only [List.length_nil] at O
    clear u hkF hkl hfb hF308
    go_wp2_with fail
    refine O.mono ?_
    rintro e w7 ⟨p7, c7, rfl, _, hb7⟩
    have hb07 := HB6.out.trans (hb7.mono HB6.out.size)
    have AW7 := AW w7 hb07
    have HB7 := Hid.mk' hb07
    clear O AW hb7 hb07 HB6
    go_wp2_with (go_at_call 9; refine AW7.mono ?_; rintro e w' ⟨rfl, hb⟩)
    go_ret
    exact ⟨rfl, HB7.out.trans (hb.mono HB7.out.size)⟩

theorem own : ownKnob Tryd.prog.godebug = none := by kernel_rfl
theorem laidOut : laidOutB Tryd.prog = true := by kernel_rfl

theorem door_met (os : Os) (args : Array Value) : laidMetH Tryd.prog Rows.frameCutRow.laid ((World.doorLaid Tryd.prog 400 os).forCall (fun _ _ => 0) ⟨#[], args, []⟩).memory :=
  laidMetH_of_parts3 (fuel := 8) (laidMet_of_run' 8 (by kernel_rfl) (by kernel_rfl)) (by kernel_rfl) (by kernel_rfl)

set_option maxRecDepth 100000 in
theorem lifted (os : Os) (started : os.Started) (H : Type) (enc : TypeId × Value → H) :
    ReturnsInHanded {} Tryd.checked os 7 .any (fun w args => (Rows.frameCutSpec.pre enc Tryd.prog Tryd.f7 [] false w args ∧ laidMetH Tryd.prog Rows.frameCutRow.laid w) ∧ sizedMet enc Tryd.prog Tryd.f7 (OpenSpec.ofChange Rows.frameCutSpec) false w args)
      (Rows.frameCutSpec.post enc Tryd.prog Tryd.f7 false true false false) := by
  refine returnsInHanded_of_change_and (C := Tryd.checked) (X := (fun w _ => laidMetH Tryd.prog Rows.frameCutRow.laid w)) (fun _ _ _ hh h => h.of_heap hh) own started (by kernel_rfl) Tryd.func7
    (ChangeSpec.witness_shaped (enc := enc) (C := Tryd.checked) (os := os) (X := (fun w _ => laidMetH Tryd.prog Rows.frameCutRow.laid w)) false (World.doorLaid Tryd.prog 400 os) #[.int .i64 0, .slice none 0 0, .int .i64 0, .slice none 0 0] 8 rfl (World.shaped_of_RefB (by kernel_rfl) (by kernel_rfl)) (by kernel_rfl) (by kernel_rfl) (by kernel_rfl) (door_met os _)) ?_
  intro W base args ds gs before hval0 hW _ hsz0 hL _
  have hval : ∀ (j : Nat) t v, Tryd.f7.params[j]? = some t → args[j]? = some v → Value.okWide Tryd.prog W .any base t v := hval0
  have hW' := hW
  obtain ⟨p, q, hA0, hV, rfl, hfz, hnd⟩ := hW
  have hA : DataW.TrodAll enc Tryd.prog W 0 (fun _ => true) true Tryd.f7.params.toList args.toList ds p := hA0
  rw [Tryd.params7] at hA hval
  obtain ⟨v0, vs0, d0, ds0, p0x, q0, hargs, rfl, rfl, h0, r0⟩ := trodAll_cons hA
  obtain ⟨v1, vs1, d1, ds1, p1x, q1, rfl, rfl, rfl, h1, r1⟩ := trodAll_cons r0
  obtain ⟨v2, vs2, d2, ds2, p2x, q2, rfl, rfl, rfl, h2, r2⟩ := trodAll_cons r1
  obtain ⟨v3, vs3, d3, ds3, p3x, q3, rfl, rfl, rfl, h3, r3⟩ := trodAll_cons r2
  obtain ⟨rfl, rfl, rfl⟩ := trodAll_nil r3
  obtain rfl : args = #[v0, v1, v2, v3] := by cases args; simp_all
  obtain ⟨rfl, rfl⟩ := trodVars_none hV
  obtain ⟨a0, rfl, rfl, rfl, w0⟩ := open_int Tryd.underlying3 (hval 0 3 v0 rfl rfl) h0
  obtain ⟨p1, len1, c1, rfl⟩ := okWide_slice Tryd.underlying22 (hval 1 22 v1 rfl rfl)
  have k1 := h1
  have lt1 : ∀ x ∈ p1x, x.block < W.heap.size := by obtain ⟨m, hm⟩ := k1; exact DataW.trod_lt m _ _ _ hm
  obtain ⟨l1, rfl, hlc1, hcm1, hp1, hin1⟩ : ∃ l : List Int, l.length = len1 ∧ len1 ≤ c1 ∧ c1 ≤ maxLen ∧ (p1 = none → c1 = 0) ∧ LIn W p1 1 (shInt .u8) l := by
    obtain ⟨fuel, hf⟩ := h1
    obtain ⟨l, p, c, hcs, hl1, hl2, hl3, hl4⟩ := opens_slice (size := 1) Tryd.underlying22 (by kernel_rfl) (by decide) (opens_int Tryd.underlying5) _ _ _ hf
    simp [Value.cells] at hcs
    obtain ⟨rfl, rfl, rfl⟩ := hcs
    exact ⟨l, rfl, hl1, hl2, hl3, hl4⟩
  obtain ⟨a2, rfl, rfl, rfl, w2⟩ := open_int Tryd.underlying3 (hval 2 3 v2 rfl rfl) h2
  obtain ⟨p3, len3, c3, rfl⟩ := okWide_slice Tryd.underlying22 (hval 3 22 v3 rfl rfl)
  have k3 := h3
  have lt3 : ∀ x ∈ p3x, x.block < W.heap.size := by obtain ⟨m, hm⟩ := k3; exact DataW.trod_lt m _ _ _ hm
  obtain ⟨l3, rfl, hlc3, hcm3, hp3, hin3⟩ : ∃ l : List Int, l.length = len3 ∧ len3 ≤ c3 ∧ c3 ≤ maxLen ∧ (p3 = none → c3 = 0) ∧ LIn W p3 1 (shInt .u8) l := by
    obtain ⟨fuel, hf⟩ := h3
    obtain ⟨l, p, c, hcs, hl1, hl2, hl3, hl4⟩ := opens_slice (size := 1) Tryd.underlying22 (by kernel_rfl) (by decide) (opens_int Tryd.underlying5) _ _ _ hf
    simp [Value.cells] at hcs
    obtain ⟨rfl, rfl, rfl⟩ := hcs
    exact ⟨l, rfl, hl1, hl2, hl3, hl4⟩
  clear hA0 hval0
  refine (walk a0 p1 c1 l1 a2 p3 c3 l3 W (tab_of_laid (by kernel_rfl) (by simp [Rows.frameCutRow]) hL) w0 hlc1 hcm1 hp1 hin1 w2 hlc3 hcm3 hp3 hin3).mono fun e W' ⟨he, bel⟩ => ?_
  subst he
  exact ⟨_, rfl, _, _, _, [], _, [], hW', trodAll_mk1 (shut_bool Tryd.underlying4 _), (trodAll_cons_mk (shut_int Tryd.underlying3 w0) (trodAll_cons_mk (Below.trod laidOut (by kernel_rfl) (of_decide_eq_true (by kernel_rfl)) k1 bel lt1) (trodAll_cons_mk (shut_int Tryd.underlying3 w2) (trodAll_cons_mk (Below.trod laidOut (by kernel_rfl) (of_decide_eq_true (by kernel_rfl)) k3 bel lt3) trodAll_mk0)))), rfl, bel.frame _, fun h => by cases h⟩

theorem over : Rows.FrameCutSaid :=
  OpenClaim.holds_of_wide 7 Tryd.f7 rfl rfl rfl rfl rfl rfl rfl ⟨rfl, rfl, rfl, rfl, rfl⟩ rfl rfl rfl rfl rfl (by kernel_rfl) Tryd.func7 (by kernel_rfl)
    (of_decide_eq_true (by kernel_rfl)) (by unfold Func.isWrapper; first | (rw [if_pos (by decide +kernel)]; kernel_rfl) | (rw [if_neg (by decide +kernel)]; exact ⟨rfl, rfl⟩))
    (fun os started H enc _ => lifted os started H enc)

/-- The given statement: the card, its variables tied to the program's text. -/
theorem proved : Rows.FrameCutCardSaid :=
  Claim7.holds_tied_plain_at .later [] [.data] true (true, "16995b274c15820a6fde4b16dfa1e6fe51f8fc44bc953471aa0ce251eee9252c") false over (fun _ h => by cases h) (by kernel_rfl) (fun _ h => by cases h) frameCut_row_tie rfl ⟨rfl, rfl⟩ (by kernel_rfl) rfl
    (fun f fn hf hfn => by
      obtain rfl : f = 7 := Option.some.inj ((show Tryd.prog.funcNamed "polyglot/polyglotlaw04.FrameCut" = some 7 by kernel_rfl).symm.trans hf) |>.symm
      obtain rfl : fn = Tryd.f7 := (Option.some.inj (Tryd.func7.symm.trans hfn)).symm
      exact ⟨by kernel_rfl, fun j t ht => by
        rw [Tryd.params7] at ht
        have hm : t ∈ [3, 22, 3, 22] := by simpa using Array.mem_of_getElem? ht
        have hall : ([3, 22, 3, 22].all fun u => !Tryd.prog.wantsStandIn u) = true := by kernel_rfl
        exact (show Tryd.prog.wantsStandIn t = false by simpa using List.all_eq_true.1 hall t hm)⟩)
    (by kernel_rfl)
#print axioms proved
end Go.Proofs.YtecdagmeobiahaaDoor.frameCut
