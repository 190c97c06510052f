/-
  Proved: the statement on how many records may stand in a message of layer 10 (MsgMany) returns true at every input, and leaves its arguments as they were; the package's table of kinds reads as the program's text lays it (the card ties it).
-/
import Derived.Test.YtjkimmflngiijaaDoorRows
import Derived.Test.YtjkimmflngiijaaDoorCards
import Derived.Test.YtjkimmflngiijaaDoorTie
import Derived.Test.YtjkimmflngiijaaDoorLaw10A
import Derived.Test.YtjkimmflngiijaaDoorRecP
import Derived.ShutString
import Derived.ChangeOld
import Derived.Stop.Joined
import Derived.SevenTiedAt
namespace Go.Proofs.YtjkimmflngiijaaDoor.msgMany
open Go Go.ChangeShapes Go.WideShapes Go.ChangeAt Go.RowKit
open Go.ChangeMaps (open_string shut_string)
set_option linter.unusedVariables false
set_option linter.unusedSimpArgs false
set_option synthInstance.maxSize 2000

/-- The records that the statement lays. -/
def rm (i : Nat) : Rc := ⟨i, 0, 0, 1, 1, false, none, 0, []⟩
def rms (k : Nat) : List Rc := (List.range k).map rm
theorem rms_len (k : Nat) : (rms k).length = k := by simp [rms]
theorem rms_next (k : Nat) : rms (k + 1) = rms k ++ [rm k] := by simp [rms, List.range_succ]
theorem rm_ok (w : World) (i : Nat) (h : i ≤ 300) : ROk w (rm i) :=
  ⟨by have : rm i = ⟨i, 0, 0, 1, 1, false, none, 0, []⟩ := rfl
      simp [this, Lit.wf, IntKind.min, IntKind.max, IntKind.signed, IntKind.bits]; omega,
    show (Lit.int .i64 0).wf = true by decide, show (Lit.int .i64 0).wf = true by decide, show (Lit.int .i64 1).wf = true by decide, show (Lit.int .i64 1).wf = true by decide, Nat.le_refl _, by simp [rm, maxLen], fun _ => rfl, FIn.empty _ _, by simp [rm]⟩
theorem rms_mem {k : Nat} {x : Rc} (h : x ∈ rms k) : ∃ i, i < k ∧ x = rm i := by
  simp only [rms, List.mem_map, List.mem_range] at h
  obtain ⟨i, h1, h2⟩ := h
  exact ⟨i, h1, h2.symm⟩

/-- From number a on, n of them are sorted. -/
theorem sort_run : ∀ (n a : Nat), a + n ≤ 300 → sortR ((a : Int) - 1) (rks ((List.range' a n).map rm)) = true
  | 0, a, _ => rfl
  | n + 1, a, h => by
    have ih := sort_run n (a + 1) (by omega)
    rw [List.range'_succ, List.map_cons]
    show (mayR (rk (rm a)) && decide ((a : Int) - 1 < (rm a).id) && sortR (rm a).id (rks ((List.range' (a + 1) n).map rm))) = true
    rw [show (rm a).id = (a : Int) from rfl]
    rw [show (((a + 1 : Nat) : Int) - 1) = (a : Int) by omega] at ih
    rw [ih]
    have hc : coreOk (rk (rm a)) = true := by
      simp [coreOk, rk, rm, okS, RK.id, RK.inc, RK.st, RK.lo, RK.hi]; omega
    have hm : mayR (rk (rm a)) = true := by
      rw [mayR, hc]; simp [rk, rm, kys, mayK, szK, tagsK, RK.bag, RK.cut]
    rw [hm]
    simp
    omega
theorem sort_rms (k : Nat) (h : k ≤ 300) : sortR (-1) (rks (rms k)) = true := by
  have := sort_run k 0 (by omega)
  rw [rms, List.range_eq_range']
  simpa using this

def OwnL (W : World) (B : Nat) (a : Value) (k : Nat) : Prop := OwnR 42 7 W B a k ((rms k).flatMap Rc.cells)

theorem wpList_addM {W : World} {ops : Array Oper} {rest : List Oper} {o : Oper} {ac : Act} {Q : Exit → Act → World → Prop} (hgd : o.guard = none) (s x : Operand)
    (ho : o.op = .call { callee := .builtin .append, args := #[s, x], argTypes := #[34, 34] })
    {B : Nat} {a : Value} (k : Nat) (hs : ac.eval s = a) (h3 : OwnL W B a k) (hB : B ≤ W.heap.size) (hx : ac.eval x = .slice (some ⟨W.heap.size, 0, none⟩) 1 1) (hl : k ≤ 1000)
    (h : ∀ a' w', OwnL w' B a' (k + 1) → Below B W w' → wpList Tryd.prog ops Q rest (ac.put o.dst a') w') : wpList Tryd.prog ops Q (o :: rest) ac (W.alloc (.cells #[.int .i64 k, .int .i64 0, .int .i64 0, .int .i64 1, .int .i64 1, .bool false, .slice none 0 0] 42)) := by
  refine wpList_own1 hgd s x 34 ho 42 (.agg #[.int .i64 0, .int .i64 0, .int .i64 0, .int .i64 0, .int .i64 0, .bool false, .slice none 0 0]) 7 72 Tryd.underlying34 infoR rfl (by decide) B a k _ hs h3 hB _ 42 hx rfl (fun u hu => ?_) (by unfold maxLen; omega) (by omega) fun v' w' h1 h2 => h v' w' ?_ h2
  · refine flatR_one [rm k] u ?_
    simpa [Rc.cells, rm] using hu
  · unfold OwnL
    rw [rms_next, flatR_append]
    simpa [Rc.cells, rm] using h1

def mm (a0 : Int) (p : Option Addr) (c : Nat) (k : Nat) : Mg := ⟨a0, 0, 0, 1, 1, 0, 0, 0, 0, 0, p, c, rms k⟩
theorem mm_may (a0 : Int) (p : Option Addr) (c k : Nat) (h : 4 ≤ a0 ∧ a0 ≤ 8) (hk : k ≤ 300) : mayM (mm a0 p c k) = decide ((k : Int) ≤ 255) := by
  have hr : recsOk (mm a0 p c k) = decide ((k : Int) ≤ 255) := by
    have : hasB a0 4 = true := by simp [hasB]; omega
    simp only [recsOk, mm, this, if_true, rms_len, sort_rms k hk, Bool.and_true]
    rw [Bool.eq_iff_iff]; simp; omega
  have hn : numsOk (mm a0 p c k) := by
    simp only [numsOk, mm]
    refine ⟨by omega, by omega, by omega, ⟨by omega, by omega, by omega⟩, ⟨by omega, by omega, by omega, by omega⟩, by omega, ⟨by omega, by omega, ?_⟩, by omega⟩
    omega
  rw [Bool.eq_iff_iff, mayM_nums, ← hr]
  constructor
  · intro h; exact h.2.2
  · intro h; exact ⟨hn, by simp [mm, okS], h⟩

set_option maxRecDepth 10000 in
set_option maxHeartbeats 8000000 in
theorem walk (a0 : Int) (a1 : Int) (w : World) (hK : Kd w) (w0 : (Lit.int .i64 a0).wf = true) (w1 : (Lit.int .i64 a1).wf = true) :
    Calls Tryd.prog 5 #[.int .i64 a0, .int .i64 a1] w fun e w' => e = .returned (.bool true) ∧ Below w.heap.size w w' := by
  have AW := fun X (h : Below w.heap.size w X) => awake10_any X (hK.below h)
  have VD := fun p c k X (h : Below w.heap.size w X) (hm : MOk X (mm a0 p c k)) (hz) => mvalid_any (mm a0 p c k) X hm hz (hK.below h)
  have W0 := Hid.mk' w0
  clear w1 hK w0
  have hor : a1 < 0 ∨ (¬ a1 < 0 ∧ 300 < a1) ∨ (¬ a1 < 0 ∧ ¬ 300 < a1 ∧ a0 < 4) ∨ (¬ a1 < 0 ∧ ¬ 300 < a1 ∧ ¬ a0 < 4 ∧ 8 < a0) ∨ (¬ a1 < 0 ∧ ¬ 300 < a1 ∧ ¬ a0 < 4 ∧ ¬ 8 < a0) := by omega
  rcases hor with h | ⟨h, h2⟩ | ⟨h, h2, h3⟩ | ⟨h, h2, h3, h4⟩ | ⟨h, h2, h3, h4⟩
  iterate 4
    · go_enter Tryd.func5, Tryd.ntmps5
      go_wp2_with fail
      refine (AW _ (Below.refl _ _)).mono ?_
      rintro e w2 ⟨rfl, hb2⟩
      go_wp2_with fail
      go_ret
      exact ⟨rfl, hb2⟩
  obtain ⟨n, rfl⟩ : ∃ n : Nat, a1 = n := ⟨a1.toNat, by omega⟩
  have hn300 : n ≤ 300 := by omega
  go_enter Tryd.func5, Tryd.ntmps5
  go_wp2_with fail
  go_loopw [5, 6] (fun l i W => ∃ k : Nat, k ≤ n ∧ i = .int .i64 k ∧ Hid (OwnL W w.heap.size l k) ∧ Hid (Below w.heap.size w W)) (fun _ i _ => n - (intOf i).toNat)
  case atStart => exact ⟨0, by omega, rfl, OwnR.nil _ _ _ _, Below.refl _ _⟩
  case round =>
    obtain ⟨k, hk, rfl, HO, HB⟩ := hrel
    by_cases t : k < n
    · go_wp2_with (refine wpList_addM rfl (.tmp 28) (.tmp 32) rfl k rfl HO.out HB.out.size rfl (by omega) ?_; intro v' w' hA' hB')
      have HO' := Hid.mk' hA'
      have HB' := Hid.mk' (HB.out.trans hB')
      clear hA' hB'
      go_wp2_with fail
      go_roundw
      case rel => exact ⟨k + 1, by omega, by go_num, HO', HB'⟩
      case measure => simp [intOf]; omega
    · obtain rfl : k = n := by omega
      have own := HO.out
      obtain ⟨p, c, rfl, hrin, hp0, hlc, hcm⟩ := own_rin own (fun f hf => by obtain ⟨i, hi, rfl⟩ := rms_mem hf; exact rm_ok _ i (by omega))
      rw [rms_len] at hlc
      have hbA := (Below.refl wr.heap.size wr).alloc (Nat.le_refl _) (.cells #[.int .i64 a0, .int .i64 0, .int .i64 0, .int .i64 1, .int .i64 1, .int .i64 0, .int .i64 0, .int .i64 0, .int .i64 0, .int .i64 0, .slice p k c] 36)
      have hbB := HB.out.trans (hbA.mono HB.out.size)
      have V := VD p c k _ hbB ⟨W0.out, show (Lit.int .i64 0).wf = true by decide, show (Lit.int .i64 0).wf = true by decide, show (Lit.int .i64 1).wf = true by decide, show (Lit.int .i64 1).wf = true by decide, show (Lit.int .i64 0).wf = true by decide, show (Lit.int .i64 0).wf = true by decide, show (Lit.int .i64 0).wf = true by decide, show (Lit.int .i64 0).wf = true by decide, show (Lit.int .i64 0).wf = true by decide, by rw [mm, rms_len]; exact hlc, hcm, hp0, hrin.below hbA⟩ (fun x hx => by obtain ⟨i, hi, rfl⟩ := rms_mem hx; simp [rm, kys, szK])
      rw [mm_may a0 p c k (by omega) hn300] at V
      simp only [mm, rms_len] at V
      rw [rms_len]
      have HBB := Hid.mk' hbB
      clear hbA hbB hrin own HO VD hp0 hlc hcm HB
      obtain ⟨d, hd⟩ : ∃ d, decide ((k : Int) ≤ 255) = d := ⟨_, rfl⟩
      rw [hd] at V
      have hdd : (d == d) = true := by simp
      go_wp2_with fail
      refine V.mono ?_
      rintro e w3 ⟨rfl, hb3⟩
      have HB3 := Hid.mk' (HBB.out.trans (hb3.mono HBB.out.size))
      clear hb3 HBB V
      go_wp2_with fail
      refine (AW _ HB3.out).mono ?_
      rintro e w4 ⟨rfl, hb4⟩
      have HB4 := Hid.mk' (HB3.out.trans (hb4.mono HB3.out.size))
      clear hb4
      go_wp2_with fail
      go_ret
      exact ⟨rfl, HB4.out⟩

theorem own : ownKnob Tryd.prog.godebug = none := by kernel_rfl
theorem laidOut : laidOutB Tryd.prog = true := by kernel_rfl

theorem door_met (os : Os) (args : Array Value) : laidMetH Tryd.prog Rows.msgManyRow.laid ((World.doorLaid Tryd.prog 400 os).forCall (fun _ _ => 0) ⟨#[], args, []⟩).memory :=
  laidMetH_of_parts3 (fuel := 8) (laidMet_of_run' 8 (by kernel_rfl) (by kernel_rfl)) (by kernel_rfl) (by kernel_rfl)

set_option maxRecDepth 100000 in
theorem lifted (os : Os) (started : os.Started) (H : Type) (enc : TypeId × Value → H) :
    ReturnsInHanded {} Tryd.checked os 5 .any (fun w args => (Rows.msgManySpec.pre enc Tryd.prog Tryd.f5 [] false w args ∧ laidMetH Tryd.prog Rows.msgManyRow.laid w) ∧ sizedMet enc Tryd.prog Tryd.f5 (OpenSpec.ofChange Rows.msgManySpec) false w args)
      (Rows.msgManySpec.post enc Tryd.prog Tryd.f5 false true false false) := by
  refine returnsInHanded_of_change_and (C := Tryd.checked) (X := (fun w _ => laidMetH Tryd.prog Rows.msgManyRow.laid w)) (fun _ _ _ hh h => h.of_heap hh) own started (by kernel_rfl) Tryd.func5
    (ChangeSpec.witness_shaped (enc := enc) (C := Tryd.checked) (os := os) (X := (fun w _ => laidMetH Tryd.prog Rows.msgManyRow.laid w)) false (World.doorLaid Tryd.prog 400 os) #[.int .i64 0, .int .i64 0] 8 rfl (World.shaped_of_RefB (by kernel_rfl) (by kernel_rfl)) (by kernel_rfl) (by kernel_rfl) (by kernel_rfl) (door_met os _)) ?_
  intro W base args ds gs before hval0 hW _ hsz0 hL _
  have hval : ∀ (j : Nat) t v, Tryd.f5.params[j]? = some t → args[j]? = some v → Value.okWide Tryd.prog W .any base t v := hval0
  have hW' := hW
  obtain ⟨p, q, hA0, hV, rfl, hfz, hnd⟩ := hW
  have hA : DataW.TrodAll enc Tryd.prog W 0 (fun _ => true) true Tryd.f5.params.toList args.toList ds p := hA0
  rw [Tryd.params5] at hA hval
  obtain ⟨v0, vs0, d0, ds0, p0x, q0, hargs, rfl, rfl, h0, r0⟩ := trodAll_cons hA
  obtain ⟨v1, vs1, d1, ds1, p1x, q1, rfl, rfl, rfl, h1, r1⟩ := trodAll_cons r0
  obtain ⟨rfl, rfl, rfl⟩ := trodAll_nil r1
  obtain rfl : args = #[v0, v1] := by cases args; simp_all
  obtain ⟨rfl, rfl⟩ := trodVars_none hV
  obtain ⟨a0, rfl, rfl, rfl, w0⟩ := open_int Tryd.underlying3 (hval 0 3 v0 rfl rfl) h0
  obtain ⟨a1, rfl, rfl, rfl, w1⟩ := open_int Tryd.underlying3 (hval 1 3 v1 rfl rfl) h1
  clear hA0 hval0
  refine (walk a0 a1 W (kd_of_laid (by kernel_rfl) (by simp [Rows.msgManyRow]) hL) w0 w1).mono fun e W' ⟨he, bel⟩ => ?_
  subst he
  exact ⟨_, rfl, _, _, _, [], _, [], hW', trodAll_mk1 (shut_bool Tryd.underlying4 _), (trodAll_cons_mk (shut_int Tryd.underlying3 w0) (trodAll_cons_mk (shut_int Tryd.underlying3 w1) trodAll_mk0)), rfl, bel.frame _, fun h => by cases h⟩

theorem over : Rows.MsgManySaid :=
  OpenClaim.holds_of_wide 5 Tryd.f5 rfl rfl rfl rfl rfl rfl rfl ⟨rfl, rfl, rfl, rfl, rfl⟩ rfl rfl rfl rfl rfl (by kernel_rfl) Tryd.func5 (by kernel_rfl)
    (of_decide_eq_true (by kernel_rfl)) (by unfold Func.isWrapper; first | (rw [if_pos (by decide +kernel)]; kernel_rfl) | (rw [if_neg (by decide +kernel)]; exact ⟨rfl, rfl⟩))
    (fun os started H enc _ => lifted os started H enc)

/-- The given statement: the card, its variables tied to the program's text. -/
theorem proved : Rows.MsgManyCardSaid :=
  Claim7.holds_tied_plain_at .later [] [.data] true (true, "af4ab11feb15b1e760458e7e563e999d39a41c0701361c3aebe46f965ee72831") false over (fun _ h => by cases h) (by kernel_rfl) (fun _ h => by cases h) msgMany_row_tie rfl ⟨rfl, rfl⟩ (by kernel_rfl) rfl
    (fun f fn hf hfn => by
      obtain rfl : f = 5 := Option.some.inj ((show Tryd.prog.funcNamed "polyglot/polyglotlaw10.MsgMany" = some 5 by kernel_rfl).symm.trans hf) |>.symm
      obtain rfl : fn = Tryd.f5 := (Option.some.inj (Tryd.func5.symm.trans hfn)).symm
      exact ⟨by kernel_rfl, fun j t ht => by
        rw [Tryd.params5] at ht
        have hm : t ∈ [3, 3] := by simpa using Array.mem_of_getElem? ht
        have hall : ([3, 3].all fun u => !Tryd.prog.wantsStandIn u) = true := by kernel_rfl
        exact (show Tryd.prog.wantsStandIn t = false by simpa using List.all_eq_true.1 hall t hm)⟩)
    (by kernel_rfl)
#print axioms proved
end Go.Proofs.YtjkimmflngiijaaDoor.msgMany
