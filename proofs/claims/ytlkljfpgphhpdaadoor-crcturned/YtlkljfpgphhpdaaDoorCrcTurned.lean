/-
  Proved: the statement on layer 3's 'a turned byte turns the sum' (CrcTurned) returns true at every input, and leaves its arguments as they were; the package's table reads as the program's text lays it (the card ties it).
-/
import Derived.Test.YtlkljfpgphhpdaaDoorRows
import Derived.Test.YtlkljfpgphhpdaaDoorCards
import Derived.Test.YtlkljfpgphhpdaaDoorTie
import Derived.Test.YtlkljfpgphhpdaaDoorLaw03
import Derived.Test.YtlkljfpgphhpdaaDoorShapes
import Derived.ShutString
import Derived.ChangeOld
import Derived.Stop.Joined
import Derived.SevenTiedAt
namespace Go.Proofs.YtlkljfpgphhpdaaDoor.crcTurned
open Go Go.ChangeShapes Go.WideShapes Go.ChangeAt Go.RowKit
open Go.ChangeMaps (open_string shut_string)
set_option linter.unusedVariables false
set_option linter.unusedSimpArgs false

theorem turned_ne (l : List Int) (k : Nat) (y : Int) (hk : k < l.length) (hb : isB l) (hy : 0 ≤ y ∧ y < 256) (h : l.getD k 0 ≠ y) : sumB (l.set k y) ≠ sumB l := by
  have e1 : l.set k y = l.take k ++ y :: l.drop (k + 1) := List.set_eq_take_append_cons_drop .. |>.trans (by rw [if_pos hk])
  have e2 : l = l.take k ++ l.getD k 0 :: l.drop (k + 1) := by
    have : l.getD k 0 = l[k] := by simp [List.getD, hk]
    rw [this, List.getElem_cons_drop, List.take_append_drop]
  rw [e1]
  conv => rhs; rw [e2]
  exact fun e => sumB_turned _ _ _ _ (hb.take k) (hb.drop (k + 1)) (hb.getD k) hy h e.symm

theorem xor_byte (x b : Int) (hx : 0 ≤ x ∧ x < 256) (hb : 0 ≤ b ∧ b < 256) (h : b ≠ 0) : ∃ y, bits .xor .u8 x b = y ∧ 0 ≤ y ∧ y < 256 ∧ x ≠ y := by
  refine ⟨_, u8_xor x b hx.1 hx.2 hb.1 hb.2, by omega, ?_, fun e => ?_⟩
  · have := Nat.xor_lt_two_pow (n := 8) (show x.toNat < 2 ^ 8 by rw [show (2 : Nat) ^ 8 = 256 from rfl]; omega) (show b.toNat < 2 ^ 8 by rw [show (2 : Nat) ^ 8 = 256 from rfl]; omega)
    rw [show (2 : Nat) ^ 8 = 256 from rfl] at this
    omega
  · have e1 : b.toNat ^^^ x.toNat = 0 ^^^ x.toNat := by rw [Nat.zero_xor, Nat.xor_comm]; omega
    have := xor_cancel _ _ _ e1
    omega

set_option maxRecDepth 10000 in
set_option maxHeartbeats 2000000 in
theorem walk (p0 : Option Addr) (c0 : Nat) (l0 : List Int) (a1 a2 : Int) (w : World) (hT : Tab w) (hlc0 : l0.length ≤ c0) (hcm0 : c0 ≤ maxLen) (hp0 : p0 = none → c0 = 0) (hin0 : LIn w p0 1 (shInt .u8) l0) (w1 : (Lit.int .i64 a1).wf = true) (w2 : (Lit.int .u8 a2).wf = true) :
    Calls Tryd.prog 4 #[.slice p0 l0.length c0, .int .i64 a1, .int .u8 a2] w fun e w' => e = .returned (.bool true) ∧ Below w.heap.size w w' := by
  unfold maxLen at hcm0
  have h1 := bounds_i64 w1
  have h2 := bounds_u8 w2
  have hB := hin0.bytes
  have hb := hin0.isB
  clear hin0 w1 w2
  by_cases t : 300 < (l0.length : Int) ∨ a1 < 0 ∨ (l0.length : Int) ≤ a1 ∨ a2 = 0
  · have AW := awake3_any w hT
    by_cases t1 : 300 < (l0.length : Int) <;> by_cases t2 : a1 < 0 <;> by_cases t3 : (l0.length : Int) ≤ a1 <;> by_cases t4 : a2 = 0 <;> first | (exfalso; omega) | skip
    all_goals
      go_enter Tryd.func4, Tryd.ntmps4
      go_wp2_with (go_at_call 7; refine AW.mono ?_; rintro e w' ⟨rfl, hb⟩)
      go_ret
      exact ⟨rfl, hb⟩
  have t1 : ¬ 300 < (l0.length : Int) := fun q => t (.inl q)
  have t2 : ¬ a1 < 0 := fun q => t (.inr (.inl q))
  have t3 : ¬ (l0.length : Int) ≤ a1 := fun q => t (.inr (.inr (.inl q)))
  have t4 : ¬ a2 = 0 := fun q => t (.inr (.inr (.inr q)))
  obtain ⟨k, rfl⟩ := Int.eq_ofNat_of_zero_le (show 0 ≤ a1 by omega)
  obtain ⟨y, hy, hy0, hy1, hxy⟩ := xor_byte (l0.getD k 0) a2 (hb.getD k) (by omega) t4
  have HY := Hid.mk' hy
  have HN := Hid.mk' (turned_ne l0 k y (by omega) hb ⟨hy0, hy1⟩ hxy)
  have HSb := Hid.mk' (show isB (l0.set k y) from fun z hz => by
    rcases List.mem_or_eq_of_mem_set hz with q | rfl
    · exact hb z q
    · exact ⟨hy0, hy1⟩)
  have b0 : Below w.heap.size w (w.alloc (.cells #[] 5)) := (Below.refl _ _).alloc (Nat.le_refl _) _
  have hA : Acc (w.alloc (.cells #[] 5)) w.heap.size (.slice (some ⟨w.heap.size, 0, none⟩) 0 0) [] := Acc.empty (heap_alloc_new _ _) (Nat.le_refl _)
  have hsz : w.heap.size ≤ (w.alloc (.cells #[] 5)).heap.size := b0.size
  have HB0 := Hid.mk' b0
  have HP := Hid.mk' hB
  clear t hxy hy hy0 hy1 b0 hB
  go_enter Tryd.func4, Tryd.ntmps4
  go_wp2_with (at_builtin; refine wpList_acc rfl (.tmp 26) (.tmp 27) rfl w.heap.size _ [] rfl hA hsz p0 c0 l0 rfl hp0 (HP.out.below HB0.out) (by simp; omega) ?_; intro v2 w2 hA2 hB2; rw [List.nil_append] at hA2; have hB2' := HB0.out.trans hB2; obtain ⟨g, cap, rfl, hg, hgs, hlc, hcm, hck, hfz, hset⟩ := hA2.set k (by omega); have HS := Hid.mk' hset; have HB2 := Hid.mk' hB2'; unfold maxLen at hcm; clear hA2 hB2 hB2' hset hA hsz; generalize l0.getD k 0 = x at hck HY)
  rw [HY.out]
  have hA3 := HS.out y
  have hB3 : Below w.heap.size w (w2.setCell ⟨g, k, none⟩ (.int .u8 y)) := HB2.out.setCell hg _
  have hz3 : w2.heap.size = (w2.setCell ⟨g, k, none⟩ (.int .u8 y)).heap.size := by simp [World.setCell]
  obtain ⟨q3, d3, e3, hq3, _⟩ := hA3.slice
  have O1 := of_one w2.heap.size (.slice (some ⟨g, 0, none⟩) l0.length cap) q3 d3 (l0.set k y) _ 22 hz3 (hT.below hB3 hT.pos) e3 hq3 HSb.out (by rw [List.length_set]; omega)
  refine O1.mono ?_
  rintro e w' ⟨rfl, rfl⟩
  have hB4 := hB3.alloc (o := .cells #[.slice (some ⟨g, 0, none⟩) l0.length cap] 22) hB3.size
  have hz4 : w2.heap.size + 1 = ((w2.setCell ⟨g, k, none⟩ (.int .u8 y)).alloc (.cells #[.slice (some ⟨g, 0, none⟩) l0.length cap] 22)).heap.size := by simp [World.setCell]
  generalize (w2.setCell ⟨g, k, none⟩ (.int .u8 y)).alloc (.cells #[.slice (some ⟨g, 0, none⟩) l0.length cap] 22) = w4 at hB4 hz4
  have O2 := of_one w4.heap.size (.slice p0 l0.length c0) p0 c0 l0 w4 22 rfl (hT.below hB4 hT.pos) rfl (HP.out.below hB4) hb (by omega)
  have hB5 := hB4.alloc (o := .cells #[.slice p0 l0.length c0] 22) hB4.size
  have HB5 := Hid.mk' hB5
  have AW := awake3_any _ (hT.below hB5 hT.pos)
  have hne := HN.out
  generalize sumB (l0.set k y) = s1 at hne
  generalize sumB l0 = s2 at hne O2
  have hne' : ((s1 : Int) != (s2 : Int)) = true := by simp; omega
  clear HS HB2 hfz hck hA3 hB3 hz3 e3 hq3 O1 hB4 hB5 hz4 HN hne HY
  go_wp2_with (first | (go_at_call 8; refine O2.mono ?_; rintro e w' ⟨rfl, rfl⟩) | (go_at_call 7; refine AW.mono ?_; rintro e w6 ⟨rfl, hb6⟩))
  go_ret
  exact ⟨rfl, HB5.out.trans (hb6.mono HB5.out.size)⟩

theorem own : ownKnob Tryd.prog.godebug = none := by kernel_rfl
theorem laidOut : laidOutB Tryd.prog = true := by kernel_rfl

theorem door_met (os : Os) (args : Array Value) : laidMetH Tryd.prog Rows.crcTurnedRow.laid ((World.doorLaid Tryd.prog 400 os).forCall (fun _ _ => 0) ⟨#[], args, []⟩).memory :=
  laidMetH_of_parts3 (fuel := 8) (laidMet_of_run' 8 (by kernel_rfl) (by kernel_rfl)) (by kernel_rfl) (by kernel_rfl)

set_option maxRecDepth 100000 in
theorem lifted (os : Os) (started : os.Started) (H : Type) (enc : TypeId × Value → H) :
    ReturnsInHanded {} Tryd.checked os 4 .any (fun w args => (Rows.crcTurnedSpec.pre enc Tryd.prog Tryd.f4 [] false w args ∧ laidMetH Tryd.prog Rows.crcTurnedRow.laid w) ∧ sizedMet enc Tryd.prog Tryd.f4 (OpenSpec.ofChange Rows.crcTurnedSpec) false w args)
      (Rows.crcTurnedSpec.post enc Tryd.prog Tryd.f4 false true false false) := by
  refine returnsInHanded_of_change_and (C := Tryd.checked) (X := (fun w _ => laidMetH Tryd.prog Rows.crcTurnedRow.laid w)) (fun _ _ _ hh h => h.of_heap hh) own started (by kernel_rfl) Tryd.func4
    (ChangeSpec.witness_shaped (enc := enc) (C := Tryd.checked) (os := os) (X := (fun w _ => laidMetH Tryd.prog Rows.crcTurnedRow.laid w)) false (World.doorLaid Tryd.prog 400 os) #[.slice none 0 0, .int .i64 0, .int .u8 0] 8 rfl (World.shaped_of_RefB (by kernel_rfl) (by kernel_rfl)) (by kernel_rfl) (by kernel_rfl) (by kernel_rfl) (door_met os _)) ?_
  intro W base args ds gs before hval0 hW _ _ hL _
  have hval : ∀ (j : Nat) t v, Tryd.f4.params[j]? = some t → args[j]? = some v → Value.okWide Tryd.prog W .any base t v := hval0
  have hW' := hW
  obtain ⟨p, q, hA0, hV, rfl, hfz, hnd⟩ := hW
  have hA : DataW.TrodAll enc Tryd.prog W 0 (fun _ => true) true Tryd.f4.params.toList args.toList ds p := hA0
  rw [Tryd.params4] at hA hval
  obtain ⟨v0, vs0, d0, ds0, p0x, q0, hargs, rfl, rfl, h0, r0⟩ := trodAll_cons hA
  obtain ⟨v1, vs1, d1, ds1, p1x, q1, rfl, rfl, rfl, h1, r1⟩ := trodAll_cons r0
  obtain ⟨v2, vs2, d2, ds2, p2x, q2, rfl, rfl, rfl, h2, r2⟩ := trodAll_cons r1
  obtain ⟨rfl, rfl, rfl⟩ := trodAll_nil r2
  obtain rfl : args = #[v0, v1, v2] := by cases args; simp_all
  obtain ⟨rfl, rfl⟩ := trodVars_none hV
  obtain ⟨p0, len0, c0, rfl⟩ := okWide_slice Tryd.underlying22 (hval 0 22 v0 rfl rfl)
  have k0 := h0
  have lt0 : ∀ x ∈ p0x, x.block < W.heap.size := by obtain ⟨m, hm⟩ := k0; exact DataW.trod_lt m _ _ _ hm
  obtain ⟨l0, rfl, hlc0, hcm0, hp0, hin0⟩ : ∃ l : List Int, l.length = len0 ∧ len0 ≤ c0 ∧ c0 ≤ maxLen ∧ (p0 = none → c0 = 0) ∧ LIn W p0 1 (shInt .u8) l := by
    obtain ⟨fuel, hf⟩ := h0
    obtain ⟨l, p, c, hcs, hl1, hl2, hl3, hl4⟩ := opens_slice (size := 1) Tryd.underlying22 (by kernel_rfl) (by decide) (opens_int Tryd.underlying5) _ _ _ hf
    simp [Value.cells] at hcs
    obtain ⟨rfl, rfl, rfl⟩ := hcs
    exact ⟨l, rfl, hl1, hl2, hl3, hl4⟩
  obtain ⟨a1, rfl, rfl, rfl, w1⟩ := open_int Tryd.underlying3 (hval 1 3 v1 rfl rfl) h1
  obtain ⟨a2, rfl, rfl, rfl, w2⟩ := open_int Tryd.underlying5 (hval 2 5 v2 rfl rfl) h2
  clear hA0 hval0
  refine (walk p0 c0 l0 a1 a2 W (tab_of_laid (by kernel_rfl) (by simp [Rows.crcTurnedRow]) hL) hlc0 hcm0 hp0 hin0 w1 w2).mono fun e W' ⟨he, bel⟩ => ?_
  subst he
  exact ⟨_, rfl, _, _, _, [], _, [], hW', trodAll_mk1 (shut_bool Tryd.underlying4 _), (trodAll_cons_mk (Below.trod laidOut (by kernel_rfl) (of_decide_eq_true (by kernel_rfl)) k0 bel lt0) (trodAll_cons_mk (shut_int Tryd.underlying3 w1) (trodAll_cons_mk (shut_int Tryd.underlying5 w2) trodAll_mk0))), rfl, bel.frame _, fun h => by cases h⟩

theorem over : Rows.CrcTurnedSaid :=
  OpenClaim.holds_of_wide 4 Tryd.f4 rfl rfl rfl rfl rfl rfl rfl ⟨rfl, rfl, rfl, rfl, rfl⟩ rfl rfl rfl rfl rfl (by kernel_rfl) Tryd.func4 (by kernel_rfl)
    (of_decide_eq_true (by kernel_rfl)) (by unfold Func.isWrapper; first | (rw [if_pos (by decide +kernel)]; kernel_rfl) | (rw [if_neg (by decide +kernel)]; exact ⟨rfl, rfl⟩))
    (fun os started H enc _ => lifted os started H enc)

/-- The given statement: the card, its variables tied to the program's text. -/
theorem proved : Rows.CrcTurnedCardSaid :=
  Claim7.holds_tied_plain_at .later [] [.data] true (true, "5e2f1324bc4e4e770a9017a9228d2a9a59162323bd99a58c092da7a91d37423c") false over (fun _ h => by cases h) (by kernel_rfl) (fun _ h => by cases h) crcTurned_row_tie rfl ⟨rfl, rfl⟩ (by kernel_rfl) rfl
    (fun f fn hf hfn => by
      obtain rfl : f = 4 := Option.some.inj ((show Tryd.prog.funcNamed "polyglot/polyglotlaw03.CrcTurned" = some 4 by kernel_rfl).symm.trans hf) |>.symm
      obtain rfl : fn = Tryd.f4 := (Option.some.inj (Tryd.func4.symm.trans hfn)).symm
      exact ⟨by kernel_rfl, fun j t ht => by
        rw [Tryd.params4] at ht
        have hm : t ∈ [22, 3, 5] := by simpa using Array.mem_of_getElem? ht
        have hall : ([22, 3, 5].all fun u => !Tryd.prog.wantsStandIn u) = true := by kernel_rfl
        exact (show Tryd.prog.wantsStandIn t = false by simpa using List.all_eq_true.1 hall t hm)⟩)
    (by kernel_rfl)
#print axioms proved
end Go.Proofs.YtlkljfpgphhpdaaDoor.crcTurned
