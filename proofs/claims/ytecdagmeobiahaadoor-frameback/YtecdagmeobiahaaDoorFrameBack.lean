/-
  Proved: the statement on layer 4's 'what was sealed is opened, and with one byte turned it is not' (FrameBack) returns true at every input, and leaves its arguments as they were; the package's table reads as the program's text lays it (the card ties it).
-/
import Derived.Test.YtecdagmeobiahaaDoorRows
import Derived.Test.YtecdagmeobiahaaDoorCards
import Derived.Test.YtecdagmeobiahaaDoorTie
import Derived.Test.YtecdagmeobiahaaDoorLaw04
import Derived.Test.YtecdagmeobiahaaDoorShapes
import Derived.ShutString
import Derived.ChangeOld
import Derived.Stop.Joined
import Derived.SevenTiedAt
namespace Go.Proofs.YtecdagmeobiahaaDoor.frameBack
open Go Go.ChangeShapes Go.WideShapes Go.ChangeAt Go.RowKit
open Go.ChangeMaps (open_string shut_string)
set_option linter.unusedVariables false
set_option linter.unusedSimpArgs false

theorem xor_byte (x b : Int) (hx : 0 ≤ x ∧ x < 256) (hb : 0 ≤ b ∧ b < 256) (h : b ≠ 0) : ∃ y, bits .xor .u8 x b = y ∧ 0 ≤ y ∧ y < 256 ∧ x ≠ y := by
  refine ⟨_, u8_xor x b hx.1 hx.2 hb.1 hb.2, by omega, ?_, fun e => ?_⟩
  · have := Nat.xor_lt_two_pow (n := 8) (show x.toNat < 2 ^ 8 by rw [show (2 : Nat) ^ 8 = 256 from rfl]; omega) (show b.toNat < 2 ^ 8 by rw [show (2 : Nat) ^ 8 = 256 from rfl]; omega)
    rw [show (2 : Nat) ^ 8 = 256 from rfl] at this
    omega
  · have e1 : b.toNat ^^^ x.toNat = 0 ^^^ x.toNat := by rw [Nat.zero_xor, Nat.xor_comm]; omega
    have := xor_cancel _ _ _ e1
    omega

set_option maxRecDepth 10000 in
set_option maxHeartbeats 4000000 in
theorem walk (a0 : Int) (p1 : Option Addr) (c1 : Nat) (l1 : List Int) (a2 a3 : Int) (w : World) (hT : Tab w) (w0 : (Lit.int .i64 a0).wf = true) (hlc1 : l1.length ≤ c1) (hcm1 : c1 ≤ maxLen) (hp1 : p1 = none → c1 = 0) (hin1 : LIn w p1 1 (shInt .u8) l1) (w2 : (Lit.int .i64 a2).wf = true) (w3 : (Lit.int .u8 a3).wf = true) :
    Calls Tryd.prog 6 #[.int .i64 a0, .slice p1 l1.length c1, .int .i64 a2, .int .u8 a3] w fun e w' => e = .returned (.bool true) ∧ Below w.heap.size w w' := by
  unfold maxLen at hcm1
  have h0 := bounds_i64 w0
  have h2 := bounds_i64 w2
  have h3 := bounds_u8 w3
  have hB := hin1.bytes
  have hb := hin1.isB
  clear hin1 w0 w2 w3
  by_cases t : 300 < (l1.length : Int) ∨ a0 < 1 ∨ 3 < a0
  · have AW := awake4_any w hT
    by_cases t1 : 300 < (l1.length : Int) <;> by_cases t2 : a0 < 1 <;> by_cases t3 : 3 < a0 <;> first | (exfalso; omega) | skip
    all_goals
      go_enter Tryd.func6, Tryd.ntmps6
      go_wp2_with (go_at_call 9; refine AW.mono ?_; rintro e w' ⟨rfl, hb⟩)
      go_ret
      exact ⟨rfl, hb⟩
  have t1 : ¬ 300 < (l1.length : Int) := fun q => t (.inl q)
  have t2 : ¬ a0 < 1 := fun q => t (.inr (.inl q))
  have t3 : ¬ 3 < a0 := fun q => t (.inr (.inr q))
  have S := seal_ok a0 p1 c1 l1 w hT hB hb (by omega) (by omega) (by omega)
  have hfl := fullB_len a0 l1
  have hfb := fullB_isB a0 l1 (by omega) hb (by omega)
  have hof := open_full a0 l1 (by omega) hb (by omega)
  have HT := Hid.mk' (open_turned a0 l1 (by omega) hb (by omega))
  generalize fullB a0 l1 = F at *
  have HP := Hid.mk' hB
  clear t hB
  go_enter Tryd.func6, Tryd.ntmps6
  go_wp2_with fail
  refine S.mono ?_
  rintro e w2 ⟨q, rfl, hq, hblk, hb2⟩
  have hA2 : Acc w2 w.heap.size (.slice (some ⟨q, 0, none⟩) F.length F.length) F := seal_acc hblk hq (by omega)
  have hB2 : BIn w2 (some ⟨q, 0, none⟩) F := BIn.of_block (rest := []) (by simpa [cellsB] using hblk)
  have O := open_any (some ⟨q, 0, none⟩) (l1.length + 8) F w2 (hT.below hb2 hT.pos) hB2 hfb (by omega) (by omega)
  rw [hof, hfl] at O
  simp only [] at O
  have HA := Hid.mk' hA2
  have HB2 := Hid.mk' hb2
  have HF := Hid.mk' hfl
  clear hA2 hB2 hblk hb2 hfl S
  go_wp2_with fail
  refine O.mono ?_
  rintro e w3 ⟨p', c', rfl, hB3, hb3⟩
  have hb03 := HB2.out.trans (hb3.mono HB2.out.size)
  have cv1 := hB3.convert (P := Tryd.prog) c' 22 5 9 Tryd.underlying22 Tryd.underlying5 Tryd.underlying9
  have cv2 := (HP.out.below hb03).convert (P := Tryd.prog) c1 22 5 9 Tryd.underlying22 Tryd.underlying5 Tryd.underlying9
  have HA3 := Hid.mk' (HA.out.below hb3)
  have HB3 := Hid.mk' hb03
  clear O HA HB2 hB3 hb3 hb03 HP
  by_cases u : a2 < 0 ∨ (l1.length : Int) + 8 ≤ a2 ∨ a3 = 0
  · have AW := awake4_any w3 (hT.below HB3.out hT.pos)
    by_cases u1 : a2 < 0 <;> by_cases u2 : (l1.length : Int) + 8 ≤ a2 <;> by_cases u3 : a3 = 0 <;> first | (exfalso; omega) | skip
    all_goals
      go_wp2_with (go_at_call 9; refine AW.mono ?_; rintro e w' ⟨rfl, hb⟩)
      go_ret
      exact ⟨rfl, HB3.out.trans (hb.mono HB3.out.size)⟩
  have u1 : ¬ a2 < 0 := fun q => u (.inl q)
  have u2 : ¬ (l1.length : Int) + 8 ≤ a2 := fun q => u (.inr (.inl q))
  have u3 : ¬ a3 = 0 := fun q => u (.inr (.inr q))
  obtain ⟨k, rfl⟩ := Int.eq_ofNat_of_zero_le (show 0 ≤ a2 by omega)
  have hfl := HF.out
  obtain ⟨y, hy, hy0, hy1, hxy⟩ := xor_byte (F.getD k 0) a3 (hfb.getD k) (by omega) u3
  have hFy : isB (F.set k y) := set_isB F hfb k y ⟨hy0, hy1⟩
  have hne := HT.out k y (by omega) ⟨hy0, hy1⟩ hxy
  obtain ⟨ee, hoy, hee⟩ : ∃ ee, openR (F.set k y) = (0, [], ee) ∧ ee ≠ 0 := ⟨(openR (F.set k y)).2.2, by
    obtain ⟨e1, e2⟩ := openR_err _ hne
    rw [← e1, ← e2], hne⟩
  obtain ⟨g, cap, e1, hg, hgs, _, _, hck, hfz, hset⟩ := HA3.out.set k (by omega)
  simp only [Value.slice.injEq, Option.some.injEq, Addr.mk.injEq, true_and, and_true] at e1
  obtain ⟨rfl, rfl⟩ := e1
  have HY := Hid.mk' hy
  have hA4 := hset y
  have hb4 : Below w.heap.size w (w3.setCell ⟨q, k, none⟩ (.int .u8 y)) := HB3.out.setCell hg _
  obtain ⟨q4, d4, e4, hq4, _⟩ := hA4.slice
  simp only [Value.slice.injEq, List.length_set, true_and] at e4
  obtain ⟨rfl, rfl⟩ := e4
  have O4 := open_any (some ⟨q, 0, none⟩) (l1.length + 8) (F.set k y) _ (hT.below hb4 hT.pos) hq4 hFy (by rw [List.length_set]; omega) (by omega)
  rw [hoy, List.length_set, hfl] at O4
  simp only [List.length_nil] at O4
  generalize F.getD k 0 = x at HY hck
  have HB4 := Hid.mk' hb4
  have hd1 : decide ((k : Int) < 0) = false := decide_eq_false u1
  have hd2 : decide ((l1.length : Int) + 8 ≤ (k : Int)) = false := decide_eq_false u2
  have hd3 : (a3 == 0) = false := by simpa using u3
  have hk8 : k < l1.length + 8 := by omega
  clear u hy hy0 hy1 hxy hFy hne hoy hset hA4 hb4 hq4 hfl HF HT HA3 hfb hof
  go_wp2_with fail
  rw [HY.out]
  refine O4.mono ?_
  rintro e w5 ⟨p5, c5, rfl, hB5, hb5⟩
  have hb05 := HB4.out.trans (hb5.mono HB4.out.size)
  have AW := awake4_any w5 (hT.below hb05 hT.pos)
  have hee' : (ee != 0) = true := by simpa using hee
  have HB5 := Hid.mk' hb05
  clear O4 HB4 hB5 hb5 hb05 HY HB3 hck hfz cv1 cv2
  go_wp2_with (go_at_call 9; refine AW.mono ?_; rintro e w' ⟨rfl, hb⟩)
  go_ret
  exact ⟨rfl, HB5.out.trans (hb.mono HB5.out.size)⟩

theorem own : ownKnob Tryd.prog.godebug = none := by kernel_rfl
theorem laidOut : laidOutB Tryd.prog = true := by kernel_rfl

theorem door_met (os : Os) (args : Array Value) : laidMetH Tryd.prog Rows.frameBackRow.laid ((World.doorLaid Tryd.prog 400 os).forCall (fun _ _ => 0) ⟨#[], args, []⟩).memory :=
  laidMetH_of_parts3 (fuel := 8) (laidMet_of_run' 8 (by kernel_rfl) (by kernel_rfl)) (by kernel_rfl) (by kernel_rfl)

set_option maxRecDepth 100000 in
theorem lifted (os : Os) (started : os.Started) (H : Type) (enc : TypeId × Value → H) :
    ReturnsInHanded {} Tryd.checked os 6 .any (fun w args => (Rows.frameBackSpec.pre enc Tryd.prog Tryd.f6 [] false w args ∧ laidMetH Tryd.prog Rows.frameBackRow.laid w) ∧ sizedMet enc Tryd.prog Tryd.f6 (OpenSpec.ofChange Rows.frameBackSpec) false w args)
      (Rows.frameBackSpec.post enc Tryd.prog Tryd.f6 false true false false) := by
  refine returnsInHanded_of_change_and (C := Tryd.checked) (X := (fun w _ => laidMetH Tryd.prog Rows.frameBackRow.laid w)) (fun _ _ _ hh h => h.of_heap hh) own started (by kernel_rfl) Tryd.func6
    (ChangeSpec.witness_shaped (enc := enc) (C := Tryd.checked) (os := os) (X := (fun w _ => laidMetH Tryd.prog Rows.frameBackRow.laid w)) false (World.doorLaid Tryd.prog 400 os) #[.int .i64 0, .slice none 0 0, .int .i64 0, .int .u8 0] 8 rfl (World.shaped_of_RefB (by kernel_rfl) (by kernel_rfl)) (by kernel_rfl) (by kernel_rfl) (by kernel_rfl) (door_met os _)) ?_
  intro W base args ds gs before hval0 hW _ hsz0 hL _
  have hval : ∀ (j : Nat) t v, Tryd.f6.params[j]? = some t → args[j]? = some v → Value.okWide Tryd.prog W .any base t v := hval0
  have hW' := hW
  obtain ⟨p, q, hA0, hV, rfl, hfz, hnd⟩ := hW
  have hA : DataW.TrodAll enc Tryd.prog W 0 (fun _ => true) true Tryd.f6.params.toList args.toList ds p := hA0
  rw [Tryd.params6] at hA hval
  obtain ⟨v0, vs0, d0, ds0, p0x, q0, hargs, rfl, rfl, h0, r0⟩ := trodAll_cons hA
  obtain ⟨v1, vs1, d1, ds1, p1x, q1, rfl, rfl, rfl, h1, r1⟩ := trodAll_cons r0
  obtain ⟨v2, vs2, d2, ds2, p2x, q2, rfl, rfl, rfl, h2, r2⟩ := trodAll_cons r1
  obtain ⟨v3, vs3, d3, ds3, p3x, q3, rfl, rfl, rfl, h3, r3⟩ := trodAll_cons r2
  obtain ⟨rfl, rfl, rfl⟩ := trodAll_nil r3
  obtain rfl : args = #[v0, v1, v2, v3] := by cases args; simp_all
  obtain ⟨rfl, rfl⟩ := trodVars_none hV
  obtain ⟨a0, rfl, rfl, rfl, w0⟩ := open_int Tryd.underlying3 (hval 0 3 v0 rfl rfl) h0
  obtain ⟨p1, len1, c1, rfl⟩ := okWide_slice Tryd.underlying22 (hval 1 22 v1 rfl rfl)
  have k1 := h1
  have lt1 : ∀ x ∈ p1x, x.block < W.heap.size := by obtain ⟨m, hm⟩ := k1; exact DataW.trod_lt m _ _ _ hm
  obtain ⟨l1, rfl, hlc1, hcm1, hp1, hin1⟩ : ∃ l : List Int, l.length = len1 ∧ len1 ≤ c1 ∧ c1 ≤ maxLen ∧ (p1 = none → c1 = 0) ∧ LIn W p1 1 (shInt .u8) l := by
    obtain ⟨fuel, hf⟩ := h1
    obtain ⟨l, p, c, hcs, hl1, hl2, hl3, hl4⟩ := opens_slice (size := 1) Tryd.underlying22 (by kernel_rfl) (by decide) (opens_int Tryd.underlying5) _ _ _ hf
    simp [Value.cells] at hcs
    obtain ⟨rfl, rfl, rfl⟩ := hcs
    exact ⟨l, rfl, hl1, hl2, hl3, hl4⟩
  obtain ⟨a2, rfl, rfl, rfl, w2⟩ := open_int Tryd.underlying3 (hval 2 3 v2 rfl rfl) h2
  obtain ⟨a3, rfl, rfl, rfl, w3⟩ := open_int Tryd.underlying5 (hval 3 5 v3 rfl rfl) h3
  clear hA0 hval0
  refine (walk a0 p1 c1 l1 a2 a3 W (tab_of_laid (by kernel_rfl) (by simp [Rows.frameBackRow]) hL) w0 hlc1 hcm1 hp1 hin1 w2 w3).mono fun e W' ⟨he, bel⟩ => ?_
  subst he
  exact ⟨_, rfl, _, _, _, [], _, [], hW', trodAll_mk1 (shut_bool Tryd.underlying4 _), (trodAll_cons_mk (shut_int Tryd.underlying3 w0) (trodAll_cons_mk (Below.trod laidOut (by kernel_rfl) (of_decide_eq_true (by kernel_rfl)) k1 bel lt1) (trodAll_cons_mk (shut_int Tryd.underlying3 w2) (trodAll_cons_mk (shut_int Tryd.underlying5 w3) trodAll_mk0)))), rfl, bel.frame _, fun h => by cases h⟩

theorem over : Rows.FrameBackSaid :=
  OpenClaim.holds_of_wide 6 Tryd.f6 rfl rfl rfl rfl rfl rfl rfl ⟨rfl, rfl, rfl, rfl, rfl⟩ rfl rfl rfl rfl rfl (by kernel_rfl) Tryd.func6 (by kernel_rfl)
    (of_decide_eq_true (by kernel_rfl)) (by unfold Func.isWrapper; first | (rw [if_pos (by decide +kernel)]; kernel_rfl) | (rw [if_neg (by decide +kernel)]; exact ⟨rfl, rfl⟩))
    (fun os started H enc _ => lifted os started H enc)

/-- The given statement: the card, its variables tied to the program's text. -/
theorem proved : Rows.FrameBackCardSaid :=
  Claim7.holds_tied_plain_at .later [] [.data] true (true, "16995b274c15820a6fde4b16dfa1e6fe51f8fc44bc953471aa0ce251eee9252c") false over (fun _ h => by cases h) (by kernel_rfl) (fun _ h => by cases h) frameBack_row_tie rfl ⟨rfl, rfl⟩ (by kernel_rfl) rfl
    (fun f fn hf hfn => by
      obtain rfl : f = 6 := Option.some.inj ((show Tryd.prog.funcNamed "polyglot/polyglotlaw04.FrameBack" = some 6 by kernel_rfl).symm.trans hf) |>.symm
      obtain rfl : fn = Tryd.f6 := (Option.some.inj (Tryd.func6.symm.trans hfn)).symm
      exact ⟨by kernel_rfl, fun j t ht => by
        rw [Tryd.params6] at ht
        have hm : t ∈ [3, 22, 3, 5] := by simpa using Array.mem_of_getElem? ht
        have hall : ([3, 22, 3, 5].all fun u => !Tryd.prog.wantsStandIn u) = true := by kernel_rfl
        exact (show Tryd.prog.wantsStandIn t = false by simpa using List.all_eq_true.1 hall t hm)⟩)
    (by kernel_rfl)
#print axioms proved
end Go.Proofs.YtecdagmeobiahaaDoor.frameBack
