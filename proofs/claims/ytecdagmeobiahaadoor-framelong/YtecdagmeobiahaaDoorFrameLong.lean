/-
  Proved: the statement on layer 4's 'too many bytes are refused' (FrameLong) returns true at every input; the package's table reads as the program's text lays it (the card ties it).
-/
import Derived.Test.YtecdagmeobiahaaDoorRows
import Derived.Test.YtecdagmeobiahaaDoorCards
import Derived.Test.YtecdagmeobiahaaDoorTie
import Derived.Test.YtecdagmeobiahaaDoorLaw04
import Derived.Test.YtecdagmeobiahaaDoorShapes
import Derived.ShutString
import Derived.ChangeOld
import Derived.Stop.Joined
import Derived.SevenTiedAt
namespace Go.Proofs.YtecdagmeobiahaaDoor.frameLong
open Go Go.ChangeShapes Go.WideShapes Go.ChangeAt Go.RowKit
open Go.ChangeMaps (open_string shut_string)
set_option linter.unusedVariables false
set_option linter.unusedSimpArgs false

theorem made_zero (n : Nat) : madeCells #[Value.int .u8 0] n = cellsB (List.replicate n 0) := by
  apply Array.ext
  · simp [madeCells, cellsB]
  · intro i h1 h2
    simp [madeCells, cellsB, Nat.mod_one]

set_option maxRecDepth 10000 in
set_option maxHeartbeats 4000000 in
theorem walk (a0 a1 a2 : Int) (w : World) (hT : Tab w) (w0 : (Lit.int .i64 a0).wf = true) (w1 : (Lit.int .i64 a1).wf = true) (w2 : (Lit.int .u8 a2).wf = true) :
    Calls Tryd.prog 5 #[.int .i64 a0, .int .i64 a1, .int .u8 a2] w fun e w' => e = .returned (.bool true) ∧ Below w.heap.size w w' := by
  have h0 := bounds_i64 w0
  have h1 := bounds_i64 w1
  have h2 := bounds_u8 w2
  clear w0 w1 w2
  by_cases t : a0 ≤ 65499 ∨ 70000 < a0 ∨ a1 < 1 ∨ 3 < a1
  · have AW := awake4_any w hT
    by_cases t1 : a0 ≤ 65499 <;> by_cases t2 : 70000 < a0 <;> by_cases t3 : a1 < 1 <;> by_cases t4 : 3 < a1 <;> first | (exfalso; omega) | skip
    all_goals
      go_enter Tryd.func5, Tryd.ntmps5
      go_wp2_with (go_at_call 9; refine AW.mono ?_; rintro e w' ⟨rfl, hb⟩)
      go_ret
      exact ⟨rfl, hb⟩
  obtain ⟨n, rfl⟩ := Int.eq_ofNat_of_zero_le (show 0 ≤ a0 by omega)
  have t1 : ¬ (n : Int) ≤ 65499 := fun q => t (.inl q)
  have t2 : ¬ 70000 < (n : Int) := fun q => t (.inr (.inl q))
  have t3 : ¬ a1 < 1 := fun q => t (.inr (.inr (.inl q)))
  have t4 : ¬ 3 < a1 := fun q => t (.inr (.inr (.inr q)))
  have d1 : decide ((n : Int) ≤ 65499) = false := decide_eq_false t1
  have d2 : decide (70000 < (n : Int)) = false := decide_eq_false t2
  have d3 : decide (a1 < 1) = false := decide_eq_false t3
  have d4 : decide (3 < a1) = false := decide_eq_false t4
  have hmk := fun w => run_make_row' (P := Tryd.prog) 22 5 (.int .u8 0) 1 Tryd.underlying22 infoB rfl .i64 .i64 n (by omega) (by omega) w
  have hb1 : Below w.heap.size w (w.alloc (.cells ((madeCells #[Value.int .u8 0] n).setIfInBounds (n - 1) (.int .u8 a2)) 5)) := (Below.refl _ _).alloc (Nat.le_refl _) _
  have hfz : (w.alloc (.cells (madeCells #[Value.int .u8 0] n) 5)).frozen? ⟨w.heap.size, n - 1, none⟩ = false := by
    have := heap_alloc_new w (.cells (madeCells #[Value.int .u8 0] n) 5)
    simp only [World.frozen?, this]
    simp
  have hce : (w.alloc (.cells (madeCells #[Value.int .u8 0] n) 5)).cell? ⟨w.heap.size, n - 1, none⟩ = some (.int .u8 0) := by
    have h := cellsB_cell4 (w := w.alloc (.cells (madeCells #[Value.int .u8 0] n) 5)) (q := w.heap.size) (l := List.replicate n 0) (by rw [← made_zero]; exact heap_alloc_new _ _) (n - 1) (by rw [List.length_replicate]; omega)
    rw [h, List.getD_eq_getElem?_getD, List.getElem?_replicate]
    split <;> rfl
  have hn1 : (n : Int) - 1 = ((n - 1 : Nat) : Int) := by omega
  have hn2 : n - 1 < n := by omega
  have HW := Hid.mk' (hT.below hb1 hT.pos)
  have HB := Hid.mk' hb1
  clear t hb1
  go_enter Tryd.func5, Tryd.ntmps5
  go_wp2_with fail
  generalize w.alloc (.cells ((madeCells #[Value.int .u8 0] n).setIfInBounds (n - 1) (.int .u8 a2)) 5) = wa at HB HW ⊢
  refine (seal_long a1 (some ⟨w.heap.size, 0, none⟩) n n wa (by omega) (by omega) (by omega) (by omega)).mono ?_
  rintro e w' ⟨rfl, rfl⟩
  have AW := awake4_any wa HW.out
  clear hmk hfz hce
  by_cases u : (n : Int) ≤ 65507
  · have d5 : decide ((n : Int) ≤ 65507) = true := decide_eq_true u
    go_wp2_with (go_at_call 9; refine AW.mono ?_; rintro e w' ⟨rfl, hb⟩)
    go_ret
    exact ⟨rfl, HB.out.trans (hb.mono HB.out.size)⟩
  · have d5 : decide ((n : Int) ≤ 65507) = false := decide_eq_false u
    have O := open_long (some ⟨w.heap.size, 0, none⟩) n n wa (by omega) (by omega)
    go_wp2_with (first | (go_at_call 12; refine O.mono ?_; rintro e w' ⟨rfl, rfl⟩) | (go_at_call 9; refine AW.mono ?_; rintro e w' ⟨rfl, hb⟩))
    go_ret
    exact ⟨rfl, HB.out.trans (hb.mono HB.out.size)⟩

theorem own : ownKnob Tryd.prog.godebug = none := by kernel_rfl
theorem laidOut : laidOutB Tryd.prog = true := by kernel_rfl

theorem door_met (os : Os) (args : Array Value) : laidMetH Tryd.prog Rows.frameLongRow.laid ((World.doorLaid Tryd.prog 400 os).forCall (fun _ _ => 0) ⟨#[], args, []⟩).memory :=
  laidMetH_of_parts3 (fuel := 8) (laidMet_of_run' 8 (by kernel_rfl) (by kernel_rfl)) (by kernel_rfl) (by kernel_rfl)

set_option maxRecDepth 100000 in
theorem lifted (os : Os) (started : os.Started) (H : Type) (enc : TypeId × Value → H) :
    ReturnsInHanded {} Tryd.checked os 5 .any (fun w args => (Rows.frameLongSpec.pre enc Tryd.prog Tryd.f5 [] false w args ∧ laidMetH Tryd.prog Rows.frameLongRow.laid w) ∧ sizedMet enc Tryd.prog Tryd.f5 (OpenSpec.ofChange Rows.frameLongSpec) false w args)
      (Rows.frameLongSpec.post enc Tryd.prog Tryd.f5 false true false false) := by
  refine returnsInHanded_of_change_and (C := Tryd.checked) (X := (fun w _ => laidMetH Tryd.prog Rows.frameLongRow.laid w)) (fun _ _ _ hh h => h.of_heap hh) own started (by kernel_rfl) Tryd.func5
    (ChangeSpec.witness_shaped (enc := enc) (C := Tryd.checked) (os := os) (X := (fun w _ => laidMetH Tryd.prog Rows.frameLongRow.laid w)) false (World.doorLaid Tryd.prog 400 os) #[.int .i64 0, .int .i64 0, .int .u8 0] 8 rfl (World.shaped_of_RefB (by kernel_rfl) (by kernel_rfl)) (by kernel_rfl) (by kernel_rfl) (by kernel_rfl) (door_met os _)) ?_
  intro W base args ds gs before hval0 hW _ hsz0 hL _
  have hval : ∀ (j : Nat) t v, Tryd.f5.params[j]? = some t → args[j]? = some v → Value.okWide Tryd.prog W .any base t v := hval0
  have hW' := hW
  obtain ⟨p, q, hA0, hV, rfl, hfz, hnd⟩ := hW
  have hA : DataW.TrodAll enc Tryd.prog W 0 (fun _ => true) true Tryd.f5.params.toList args.toList ds p := hA0
  rw [Tryd.params5] at hA hval
  obtain ⟨v0, vs0, d0, ds0, p0x, q0, hargs, rfl, rfl, h0, r0⟩ := trodAll_cons hA
  obtain ⟨v1, vs1, d1, ds1, p1x, q1, rfl, rfl, rfl, h1, r1⟩ := trodAll_cons r0
  obtain ⟨v2, vs2, d2, ds2, p2x, q2, rfl, rfl, rfl, h2, r2⟩ := trodAll_cons r1
  obtain ⟨rfl, rfl, rfl⟩ := trodAll_nil r2
  obtain rfl : args = #[v0, v1, v2] := by cases args; simp_all
  obtain ⟨rfl, rfl⟩ := trodVars_none hV
  obtain ⟨a0, rfl, rfl, rfl, w0⟩ := open_int Tryd.underlying3 (hval 0 3 v0 rfl rfl) h0
  obtain ⟨a1, rfl, rfl, rfl, w1⟩ := open_int Tryd.underlying3 (hval 1 3 v1 rfl rfl) h1
  obtain ⟨a2, rfl, rfl, rfl, w2⟩ := open_int Tryd.underlying5 (hval 2 5 v2 rfl rfl) h2
  clear hA0 hval0
  refine (walk a0 a1 a2 W (tab_of_laid (by kernel_rfl) (by simp [Rows.frameLongRow]) hL) w0 w1 w2).mono fun e W' ⟨he, bel⟩ => ?_
  subst he
  exact ⟨_, rfl, _, _, _, [], _, [], hW', trodAll_mk1 (shut_bool Tryd.underlying4 _), (trodAll_cons_mk (shut_int Tryd.underlying3 w0) (trodAll_cons_mk (shut_int Tryd.underlying3 w1) (trodAll_cons_mk (shut_int Tryd.underlying5 w2) trodAll_mk0))), rfl, bel.frame _, fun h => by cases h⟩

theorem over : Rows.FrameLongSaid :=
  OpenClaim.holds_of_wide 5 Tryd.f5 rfl rfl rfl rfl rfl rfl rfl ⟨rfl, rfl, rfl, rfl, rfl⟩ rfl rfl rfl rfl rfl (by kernel_rfl) Tryd.func5 (by kernel_rfl)
    (of_decide_eq_true (by kernel_rfl)) (by unfold Func.isWrapper; first | (rw [if_pos (by decide +kernel)]; kernel_rfl) | (rw [if_neg (by decide +kernel)]; exact ⟨rfl, rfl⟩))
    (fun os started H enc _ => lifted os started H enc)

/-- The given statement: the card, its variables tied to the program's text. -/
theorem proved : Rows.FrameLongCardSaid :=
  Claim7.holds_tied_plain_at .later [] [.data] true (true, "16995b274c15820a6fde4b16dfa1e6fe51f8fc44bc953471aa0ce251eee9252c") false over (fun _ h => by cases h) (by kernel_rfl) (fun _ h => by cases h) frameLong_row_tie rfl ⟨rfl, rfl⟩ (by kernel_rfl) rfl
    (fun f fn hf hfn => by
      obtain rfl : f = 5 := Option.some.inj ((show Tryd.prog.funcNamed "polyglot/polyglotlaw04.FrameLong" = some 5 by kernel_rfl).symm.trans hf) |>.symm
      obtain rfl : fn = Tryd.f5 := (Option.some.inj (Tryd.func5.symm.trans hfn)).symm
      exact ⟨by kernel_rfl, fun j t ht => by
        rw [Tryd.params5] at ht
        have hm : t ∈ [3, 3, 5] := by simpa using Array.mem_of_getElem? ht
        have hall : ([3, 3, 5].all fun u => !Tryd.prog.wantsStandIn u) = true := by kernel_rfl
        exact (show Tryd.prog.wantsStandIn t = false by simpa using List.all_eq_true.1 hall t hm)⟩)
    (by kernel_rfl)
#print axioms proved
end Go.Proofs.YtecdagmeobiahaaDoor.frameLong
