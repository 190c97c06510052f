/-
  Proved: the statement on layer 10's parts, greetings and names (MsgParts) returns true at every input, and leaves its arguments as they were; the package's table of kinds reads as the program's text lays it (the card ties it).
-/
import Derived.Test.YtjkimmflngiijaaDoorRows
import Derived.Test.YtjkimmflngiijaaDoorCards
import Derived.Test.YtjkimmflngiijaaDoorTie
import Derived.Test.YtjkimmflngiijaaDoorLaw10
import Derived.Test.YtjkimmflngiijaaDoorLaw10A
import Derived.ShutString
import Derived.ChangeOld
import Derived.Stop.Joined
import Derived.SevenTiedAt
namespace Go.Proofs.YtjkimmflngiijaaDoor.msgParts
open Go Go.ChangeShapes Go.WideShapes Go.ChangeAt Go.RowKit
open Go.ChangeMaps (open_string shut_string)
set_option linter.unusedVariables false
set_option linter.unusedSimpArgs false
set_option synthInstance.maxSize 2000

theorem hasM_eq (k p : Int) : hasM k p = (decide (1 ≤ k ∧ k ≤ 9) && hasB k p) := by
  unfold hasM
  by_cases h : 0 ≤ p ∧ p ≤ 4
  · rw [decide_eq_true h]; simp
  · have : hasB k p = false := by
      unfold hasB
      rw [if_neg (by omega), if_neg (by omega), if_neg (by omega), if_neg (by omega)]
      simp; intro; omega
    rw [this]; simp

/-- The last row whose name it is, of the first k. -/
def wantF (s : ByteArray) : Nat → Int
  | 0 => 0
  | k + 1 => if 1 ≤ k ∧ nameK k = s then (k : Int) else wantF s k

theorem kind_want (s : ByteArray) : kindM s = (wantF s 10, decide (0 < wantF s 10)) := by
  have n1 : nameK 1 = helloS := rfl
  have n2 : nameK 2 = welcomeS := rfl
  have n3 : nameK 3 = rejectS := rfl
  have n4 : nameK 4 = pingS := rfl
  have n5 : nameK 5 = ackS := rfl
  have n6 : nameK 6 = askS := rfl
  have n7 : nameK 7 = pushS := rfl
  have n8 : nameK 8 = pullS := rfl
  have n9 : nameK 9 = resetS := rfl
  by_cases h1 : helloS = s
  · subst h1; decide
  by_cases h2 : welcomeS = s
  · subst h2; decide
  by_cases h3 : rejectS = s
  · subst h3; decide
  by_cases h4 : pingS = s
  · subst h4; decide
  by_cases h5 : ackS = s
  · subst h5; decide
  by_cases h6 : askS = s
  · subst h6; decide
  by_cases h7 : pushS = s
  · subst h7; decide
  by_cases h8 : pullS = s
  · subst h8; decide
  by_cases h9 : resetS = s
  · subst h9; decide
  simp [kindM, kindR, wantF, n1, n2, n3, n4, n5, n6, n7, n8, n9, h1, h2, h3, h4, h5, h6, h7, h8, h9]

/-- The list of names, laid by the statement. -/
structure InT (w : World) (b : Nat) (X : World) : Prop where
  it : X.heap[b]? = some (.cells #[.string ⟨#[]⟩, .string helloS, .string welcomeS, .string rejectS, .string pingS, .string ackS, .string askS, .string pushS, .string pullS, .string resetS] 9 (0, 0))
  below : Below w.heap.size w X
theorem InT.on {w X X' : World} {b : Nat} (h : InT w b X) (k : Below X.heap.size X X') : InT w b X' :=
  ⟨by rw [k.block _ (Array.getElem?_eq_some_iff.1 h.it).1]; exact h.it, h.below.trans (k.mono h.below.size)⟩
theorem InT.cell {w X : World} {b : Nat} (h : InT w b X) (k : Nat) (hk : k < 10) : X.cell? ⟨b, k, none⟩ = some (.string (nameK k)) := by
  have hk' : k = 0 ∨ k = 1 ∨ k = 2 ∨ k = 3 ∨ k = 4 ∨ k = 5 ∨ k = 6 ∨ k = 7 ∨ k = 8 ∨ k = 9 := by omega
  rcases hk' with rfl | rfl | rfl | rfl | rfl | rfl | rfl | rfl | rfl | rfl <;> simp [World.cell?, h.it] <;> rfl

set_option maxRecDepth 10000 in
set_option maxHeartbeats 8000000 in
theorem walk (a0 : Int) (a1 : Int) (a2 : ByteArray) (w : World) (hK : Kd w) (w0 : (Lit.int .i64 a0).wf = true) (w1 : (Lit.int .i64 a1).wf = true) (w2 : a2.size ≤ maxLen) :
    Calls Tryd.prog 3 #[.int .i64 a0, .int .i64 a1, .string a2] w fun e w' => e = .returned (.bool true) ∧ Below w.heap.size w w' := by
  have AW := fun X (h : Below w.heap.size w X) => awake10_any X (hK.below h)
  have H1 := mhas_any a0 a1 w hK
  have H2 := fun X => lhas_any a0 a1 X
  have G := fun X => greets_any a0 X
  have KD := fun X (h : Below w.heap.size w X) => mkind_any a2 X (hK.below h)
  have NM := fun X (h : Below w.heap.size w X) => mname_any a0 X (hK.below h)
  rw [kind_want] at KD
  rw [hasM_eq] at H1
  generalize hasB a0 a1 = hb at H1 H2
  simp only [maxLen] at w2
  clear w0 w1 hK
  by_cases t0 : 20 < a2.size
  · go_enter Tryd.func3, Tryd.ntmps3
    go_wp2_with fail
    refine (AW _ (Below.refl _ _)).mono ?_
    rintro e w2 ⟨rfl, hb2⟩
    go_wp2_with fail
    go_ret
    exact ⟨rfl, hb2⟩
  go_enter Tryd.func3, Tryd.ntmps3
  go_upto_region 3 with fail
  go_cut [41] (fun t wx => t = .bool false ∧ w = wx)
  case first =>
    clear AW KD NM
    have hor : a0 < 1 ∨ (1 ≤ a0 ∧ a0 ≤ 3) ∨ (1 ≤ a0 ∧ ¬ a0 ≤ 3 ∧ a0 ≤ 9) ∨ (1 ≤ a0 ∧ ¬ a0 ≤ 3 ∧ ¬ a0 ≤ 9) := by omega
    rcases hor with h | ⟨h, h3⟩ | ⟨h, h3, h9⟩ | ⟨h, h3, h9⟩
    · have h' : ¬ 1 ≤ a0 := by omega
      rw [decide_eq_false (show ¬ (1 ≤ a0 ∧ a0 ≤ 9) by omega), Bool.false_and] at H1
      rw [decide_eq_false (show ¬ (1 ≤ a0 ∧ a0 ≤ 3) by omega)] at G
      go_wp2_with (first | (go_at_call 8; refine H1.mono ?_; rintro e w' ⟨rfl, rfl⟩) | (go_at_call 9; refine (H2 _).mono ?_; rintro e w' ⟨rfl, rfl⟩) | (go_at_call 10; refine (G _).mono ?_; rintro e w' ⟨rfl, rfl⟩))
      go_meet
      exact ⟨by first | rfl | (congr 1; simp; omega), rfl⟩
    · have h9 : a0 ≤ 9 := by omega
      rw [decide_eq_true (show (1 ≤ a0 ∧ a0 ≤ 9) by omega), Bool.true_and] at H1
      rw [decide_eq_true (show (1 ≤ a0 ∧ a0 ≤ 3) by omega)] at G
      cases hb
      all_goals
        go_wp2_with (first | (go_at_call 8; refine H1.mono ?_; rintro e w' ⟨rfl, rfl⟩) | (go_at_call 9; refine (H2 _).mono ?_; rintro e w' ⟨rfl, rfl⟩) | (go_at_call 10; refine (G _).mono ?_; rintro e w' ⟨rfl, rfl⟩))
        go_meet
        exact ⟨by first | rfl | (congr 1; simp; omega), rfl⟩
    · rw [decide_eq_true (show (1 ≤ a0 ∧ a0 ≤ 9) by omega), Bool.true_and] at H1
      rw [decide_eq_false (show ¬ (1 ≤ a0 ∧ a0 ≤ 3) by omega)] at G
      cases hb
      all_goals
        go_wp2_with (first | (go_at_call 8; refine H1.mono ?_; rintro e w' ⟨rfl, rfl⟩) | (go_at_call 9; refine (H2 _).mono ?_; rintro e w' ⟨rfl, rfl⟩) | (go_at_call 10; refine (G _).mono ?_; rintro e w' ⟨rfl, rfl⟩))
        go_meet
        exact ⟨by first | rfl | (congr 1; simp; omega), rfl⟩
    · rw [decide_eq_false (show ¬ (1 ≤ a0 ∧ a0 ≤ 9) by omega), Bool.false_and] at H1
      rw [decide_eq_false (show ¬ (1 ≤ a0 ∧ a0 ≤ 3) by omega)] at G
      go_wp2_with (first | (go_at_call 8; refine H1.mono ?_; rintro e w' ⟨rfl, rfl⟩) | (go_at_call 9; refine (H2 _).mono ?_; rintro e w' ⟨rfl, rfl⟩) | (go_at_call 10; refine (G _).mono ?_; rintro e w' ⟨rfl, rfl⟩))
      go_meet
      exact ⟨by first | rfl | (congr 1; simp; omega), rfl⟩
  case rest =>
  obtain ⟨rfl, rfl⟩ := hcut
  clear H1 H2 G w2 t0
  have HI : Hid (InT w w.heap.size (w.alloc (.cells #[.string ⟨#[]⟩, .string helloS, .string welcomeS, .string rejectS, .string pingS, .string ackS, .string askS, .string pushS, .string pullS, .string resetS] 9))) := ⟨heap_alloc_new w _, (Below.refl _ _).alloc (Nat.le_refl _) _⟩
  go_wp2_with fail
  go_loopw [8, 9] (fun n i W => ∃ k : Nat, 1 ≤ k ∧ k ≤ 10 ∧ i = .int .i64 k ∧ n = .int .i64 (wantF a2 k) ∧ Hid (InT w w.heap.size W)) (fun n i _ => 10 - (intOf i).toNat)
  case atStart => exact ⟨1, by omega, by omega, rfl, rfl, HI⟩
  case round =>
    obtain ⟨k, hk1, hk, rfl, rfl, HI⟩ := hrel
    by_cases t : k < 10
    · have hc := HI.out.cell k t
      have HF := Hid.mk' (show wantF a2 (k + 1) = if 1 ≤ k ∧ nameK k = a2 then (k : Int) else wantF a2 k from rfl)
      have e1 := mtext_eq (nameK k) a2
      generalize nameK k = y at hc HF e1
      generalize wantF a2 k = f0 at HF ⊢
      by_cases t2 : y = a2
      · rw [decide_eq_true t2] at e1
        have HV := Hid.mk' (show wantF a2 (k + 1) = (k : Int) by rw [HF.out, if_pos ⟨hk1, t2⟩])
        clear t2 HF
        go_wp2_with fail
        go_roundw
        case rel => exact ⟨k + 1, by omega, by omega, by go_num, by rw [HV.out], HI⟩
        case measure => simp [intOf]; omega
      · rw [decide_eq_false t2] at e1
        have HV := Hid.mk' (show wantF a2 (k + 1) = f0 by rw [HF.out, if_neg (fun h => t2 h.2)])
        clear t2 HF
        go_wp2_with fail
        go_roundw
        case rel => exact ⟨k + 1, by omega, by omega, by go_num, by rw [HV.out], HI⟩
        case measure => simp [intOf]; omega
    · obtain rfl : k = 10 := by omega
      have tk : ¬ ((10 : Nat) : Int) < 10 := by omega
      generalize wantF a2 10 = f0 at KD ⊢
      go_wp2_with fail
      refine (KD _ HI.out.below).mono ?_
      rintro e w3 ⟨rfl, hb3⟩
      have HI3 := Hid.mk' (HI.out.on hb3)
      clear hb3 HI KD
      obtain ⟨fp, hfp⟩ : ∃ fp, decide (0 < f0) = fp := ⟨_, rfl⟩
      rw [hfp]
      have hnn : (f0 != f0) = false := by simp
      have hpp : (fp != fp) = false := by simp
      by_cases k1 : a0 < 1
      · rw [show nameM a0 = (⟨#[]⟩ : ByteArray) by rw [nameM, if_neg (by omega)]] at NM
        have N1 := NM
        clear NM
        go_wp2_with fail
        refine (N1 _ HI3.out.below).mono ?_
        rintro e w4 ⟨rfl, rfl⟩
        go_wp2_with fail
        refine (AW _ HI3.out.below).mono ?_
        rintro e w4 ⟨rfl, hb4⟩
        have HB4 := Hid.mk' (HI3.out.on hb4).below
        clear hb4
        go_wp2_with fail
        go_ret
        exact ⟨rfl, HB4.out⟩
      by_cases k9 : 9 < a0
      · rw [show nameM a0 = (⟨#[]⟩ : ByteArray) by rw [nameM, if_neg (by omega)]] at NM
        have N1 := NM
        clear NM
        go_wp2_with fail
        refine (N1 _ HI3.out.below).mono ?_
        rintro e w4 ⟨rfl, rfl⟩
        go_wp2_with fail
        refine (AW _ HI3.out.below).mono ?_
        rintro e w4 ⟨rfl, hb4⟩
        have HB4 := Hid.mk' (HI3.out.on hb4).below
        clear hb4
        go_wp2_with fail
        go_ret
        exact ⟨rfl, HB4.out⟩
      obtain ⟨k, rfl⟩ : ∃ k : Nat, a0 = k := ⟨a0.toNat, by omega⟩
      rw [show nameM (k : Int) = nameK k by rw [nameM, if_pos (by omega), Int.toNat_natCast]] at NM
      have N1 := NM
      have hkk : k < 10 := by omega
      have hc := fun X (h : InT w w.heap.size X) => h.cell k hkk
      generalize nameK k = y at N1 hc
      have e0 : (y.toList == y.toList) = true := by simp
      clear NM
      go_wp2_with fail
      have hS0 : w3.drew.cell? ⟨w.heap.size, k, none⟩ = some (.string y) ∧ Hid (InT w w.heap.size w3.drew) := ⟨hc _ (HI3.out.on (Below.refl _ _).drew), HI3.out.on (Below.refl _ _).drew⟩
      refine wp_region_held_drew (S := fun X => X.cell? ⟨w.heap.size, k, none⟩ = some (.string y) ∧ Hid (InT w w.heap.size X)) (by kernel_rfl) hS0 (fun hS => ?_)
      clear hS0 HI3
      have kk10 : (k : Int) < 10 := by omega
      generalize w3.drew = wd at hS ⊢
      refine wpAnyH_take (i := 0) (v := ?v0_19) rfl (by kernel_rfl) (by kernel_rfl) (by kernel_rfl) (fun _ _ _ h => h) (Or.inl ⟨by rfl, ?hy0_19⟩) (by assumption) ?rest0_19
      case hy0_19 => (intro w hSw; (try dsimp only at hSw); go_simp; try (with_reducible rfl))
      simp only [Act.put, List.getElem_toArray, List.getElem_cons_zero, List.getElem_cons_succ, List.setIfInBounds_toArray, List.set_cons_zero, List.set_cons_succ]
      refine wpAnyH_take (i := 2) (v := ?v2_20) rfl (by kernel_rfl) (by kernel_rfl) (by kernel_rfl) (fun _ _ _ h => h) (Or.inl ⟨by rfl, ?hy2_20⟩) (by assumption) ?rest2_20
      case hy2_20 => (intro w hSw; (try dsimp only at hSw); go_simp; try (with_reducible rfl))
      simp only [Act.put, List.getElem_toArray, List.getElem_cons_zero, List.getElem_cons_succ, List.setIfInBounds_toArray, List.set_cons_zero, List.set_cons_succ]
      refine wpAnyH_take (i := 3) (v := ?v3_21) rfl (by kernel_rfl) (by kernel_rfl) (by kernel_rfl) (fun _ _ _ h => h) (Or.inl ⟨by rfl, ?hy3_21⟩) (by assumption) ?rest3_21
      case hy3_21 => (intro w hSw; (try dsimp only at hSw); go_simp; try (with_reducible rfl))
      simp only [Act.put, List.getElem_toArray, List.getElem_cons_zero, List.getElem_cons_succ, List.setIfInBounds_toArray, List.set_cons_zero, List.set_cons_succ]
      refine wpAnyH_take (i := 4) (v := ?v4_22) rfl (by kernel_rfl) (by kernel_rfl) (by kernel_rfl) (fun _ _ _ h => h) (Or.inl ⟨by rfl, ?hy4_22⟩) (by assumption) ?rest4_22
      case hy4_22 => (intro w hSw; (try dsimp only at hSw); go_simp; try (with_reducible rfl))
      simp only [Act.put, List.getElem_toArray, List.getElem_cons_zero, List.getElem_cons_succ, List.setIfInBounds_toArray, List.set_cons_zero, List.set_cons_succ]
      refine wpAnyH_take (i := 5) (v := ?v5_23) rfl (by kernel_rfl) (by kernel_rfl) (by kernel_rfl) (fun _ _ _ h => h) (Or.inl ⟨by rfl, ?hy5_23⟩) (by assumption) ?rest5_23
      case hy5_23 => (intro w hSw; (try dsimp only at hSw); go_simp; try (with_reducible rfl))
      simp only [Act.put, List.getElem_toArray, List.getElem_cons_zero, List.getElem_cons_succ, List.setIfInBounds_toArray, List.set_cons_zero, List.set_cons_succ]
      refine wpAnyH_ready (rs := [1]) (by kernel_rfl) (by simp) ?_
      refine (AllReadyH.cons rfl (fun K hK => ?_) AllReadyH.nil)
      go_simp
      refine (N1 _ hS.2.out.below).mono ?_
      rintro e w5 ⟨rfl, rfl⟩
      go_wp2_with fail
      refine hK.out _ _ ?_ (fun hS' => ?_)
      · exact hS
      clear hK K
      try simp only [Act.put, List.getElem_toArray, List.getElem_cons_zero, List.getElem_cons_succ, List.setIfInBounds_toArray, List.set_cons_zero, List.set_cons_succ]
      replace hS := hS'
      clear hS'
      refine wpAnyH_take (i := 6) (v := ?v6_24) rfl (by kernel_rfl) (by kernel_rfl) (by kernel_rfl) (fun _ _ _ h => h) (Or.inl ⟨by rfl, ?hy6_24⟩) (by assumption) ?rest6_24
      case hy6_24 => (intro w hSw; (try dsimp only at hSw); go_simp; try (with_reducible rfl))
      simp only [Act.put, List.getElem_toArray, List.getElem_cons_zero, List.getElem_cons_succ, List.setIfInBounds_toArray, List.set_cons_zero, List.set_cons_succ]
      refine wpAnyH_take (i := 7) (v := ?v7_25) rfl (by kernel_rfl) (by kernel_rfl) (by kernel_rfl) (fun _ _ _ h => h) (Or.inl ⟨by rfl, ?hy7_25⟩) (by assumption) ?rest7_25
      case hy7_25 => (intro w hSw; (try dsimp only at hSw); go_simp; try (with_reducible rfl))
      simp only [Act.put, List.getElem_toArray, List.getElem_cons_zero, List.getElem_cons_succ, List.setIfInBounds_toArray, List.set_cons_zero, List.set_cons_succ]
      refine wpAnyH_ready (rs := [8]) (by kernel_rfl) (by simp) ?_
      refine (AllReadyH.cons rfl (fun K hK => ?_) AllReadyH.nil)
      go_simp
      refine (AW _ hS.2.out.below).mono ?_
      rintro e w6 ⟨rfl, hb6⟩
      have hI6 := hS.2.out.on hb6
      clear hb6
      go_wp2_with fail
      refine hK.out _ _ ?_ (fun hS' => ?_)
      · exact ⟨hc _ hI6, hI6⟩
      clear hK K
      try simp only [Act.put, List.getElem_toArray, List.getElem_cons_zero, List.getElem_cons_succ, List.setIfInBounds_toArray, List.set_cons_zero, List.set_cons_succ]
      replace hS := hS'
      clear hS'
      refine wpAnyH_take (i := 9) (v := ?v9_26) rfl (by kernel_rfl) (by kernel_rfl) (by kernel_rfl) (fun _ _ _ h => h) (Or.inl ⟨by rfl, ?hy9_26⟩) (by assumption) ?rest9_26
      case hy9_26 => (intro w hSw; (try dsimp only at hSw); go_simp; try (with_reducible rfl))
      simp only [Act.put, List.getElem_toArray, List.getElem_cons_zero, List.getElem_cons_succ, List.setIfInBounds_toArray, List.set_cons_zero, List.set_cons_succ]
      refine wpAnyH_take (i := 10) (v := ?v10_27) rfl (by kernel_rfl) (by kernel_rfl) (by kernel_rfl) (fun _ _ _ h => h) (Or.inl ⟨by rfl, ?hy10_27⟩) (by assumption) ?rest10_27
      case hy10_27 => (intro w hSw; (try dsimp only at hSw); go_simp; try (with_reducible rfl))
      simp only [Act.put, List.getElem_toArray, List.getElem_cons_zero, List.getElem_cons_succ, List.setIfInBounds_toArray, List.set_cons_zero, List.set_cons_succ]
      refine wpAnyH_done (by kernel_rfl) ?_ _
      go_wp2
      go_ret
      exact ⟨rfl, hS.2.out.below⟩

theorem own : ownKnob Tryd.prog.godebug = none := by kernel_rfl
theorem laidOut : laidOutB Tryd.prog = true := by kernel_rfl

theorem door_met (os : Os) (args : Array Value) : laidMetH Tryd.prog Rows.msgPartsRow.laid ((World.doorLaid Tryd.prog 400 os).forCall (fun _ _ => 0) ⟨#[], args, []⟩).memory :=
  laidMetH_of_parts3 (fuel := 8) (laidMet_of_run' 8 (by kernel_rfl) (by kernel_rfl)) (by kernel_rfl) (by kernel_rfl)

set_option maxRecDepth 100000 in
theorem lifted (os : Os) (started : os.Started) (H : Type) (enc : TypeId × Value → H) :
    ReturnsInHanded {} Tryd.checked os 3 .any (fun w args => (Rows.msgPartsSpec.pre enc Tryd.prog Tryd.f3 [] false w args ∧ laidMetH Tryd.prog Rows.msgPartsRow.laid w) ∧ sizedMet enc Tryd.prog Tryd.f3 (OpenSpec.ofChange Rows.msgPartsSpec) false w args)
      (Rows.msgPartsSpec.post enc Tryd.prog Tryd.f3 false true false false) := by
  refine returnsInHanded_of_change_and (C := Tryd.checked) (X := (fun w _ => laidMetH Tryd.prog Rows.msgPartsRow.laid w)) (fun _ _ _ hh h => h.of_heap hh) own started (by kernel_rfl) Tryd.func3
    (ChangeSpec.witness_shaped (enc := enc) (C := Tryd.checked) (os := os) (X := (fun w _ => laidMetH Tryd.prog Rows.msgPartsRow.laid w)) false (World.doorLaid Tryd.prog 400 os) #[.int .i64 0, .int .i64 0, .string ByteArray.empty] 8 rfl (World.shaped_of_RefB (by kernel_rfl) (by kernel_rfl)) (by kernel_rfl) (by kernel_rfl) (by kernel_rfl) (door_met os _)) ?_
  intro W base args ds gs before hval0 hW _ hsz0 hL _
  have hval : ∀ (j : Nat) t v, Tryd.f3.params[j]? = some t → args[j]? = some v → Value.okWide Tryd.prog W .any base t v := hval0
  have hW' := hW
  obtain ⟨p, q, hA0, hV, rfl, hfz, hnd⟩ := hW
  have hA : DataW.TrodAll enc Tryd.prog W 0 (fun _ => true) true Tryd.f3.params.toList args.toList ds p := hA0
  rw [Tryd.params3] at hA hval
  obtain ⟨v0, vs0, d0, ds0, p0x, q0, hargs, rfl, rfl, h0, r0⟩ := trodAll_cons hA
  obtain ⟨v1, vs1, d1, ds1, p1x, q1, rfl, rfl, rfl, h1, r1⟩ := trodAll_cons r0
  obtain ⟨v2, vs2, d2, ds2, p2x, q2, rfl, rfl, rfl, h2, r2⟩ := trodAll_cons r1
  obtain ⟨rfl, rfl, rfl⟩ := trodAll_nil r2
  obtain rfl : args = #[v0, v1, v2] := by cases args; simp_all
  obtain ⟨rfl, rfl⟩ := trodVars_none hV
  obtain ⟨a0, rfl, rfl, rfl, w0⟩ := open_int Tryd.underlying3 (hval 0 3 v0 rfl rfl) h0
  obtain ⟨a1, rfl, rfl, rfl, w1⟩ := open_int Tryd.underlying3 (hval 1 3 v1 rfl rfl) h1
  obtain ⟨a2, rfl, rfl, rfl, w2⟩ := open_string Tryd.underlying9 (hval 2 9 v2 rfl rfl) h2
  clear hA0 hval0
  refine (walk a0 a1 a2 W (kd_of_laid (by kernel_rfl) (by simp [Rows.msgPartsRow]) hL) w0 w1 w2).mono fun e W' ⟨he, bel⟩ => ?_
  subst he
  exact ⟨_, rfl, _, _, _, [], _, [], hW', trodAll_mk1 (shut_bool Tryd.underlying4 _), (trodAll_cons_mk (shut_int Tryd.underlying3 w0) (trodAll_cons_mk (shut_int Tryd.underlying3 w1) (trodAll_cons_mk (shut_string Tryd.underlying9 w2) trodAll_mk0))), rfl, bel.frame _, fun h => by cases h⟩

theorem over : Rows.MsgPartsSaid :=
  OpenClaim.holds_of_wide 3 Tryd.f3 rfl rfl rfl rfl rfl rfl rfl ⟨rfl, rfl, rfl, rfl, rfl⟩ rfl rfl rfl rfl rfl (by kernel_rfl) Tryd.func3 (by kernel_rfl)
    (of_decide_eq_true (by kernel_rfl)) (by unfold Func.isWrapper; first | (rw [if_pos (by decide +kernel)]; kernel_rfl) | (rw [if_neg (by decide +kernel)]; exact ⟨rfl, rfl⟩))
    (fun os started H enc _ => lifted os started H enc)

/-- The given statement: the card, its variables tied to the program's text. -/
theorem proved : Rows.MsgPartsCardSaid :=
  Claim7.holds_tied_plain_at .later [] [.data] true (true, "af4ab11feb15b1e760458e7e563e999d39a41c0701361c3aebe46f965ee72831") false over (fun _ h => by cases h) (by kernel_rfl) (fun _ h => by cases h) msgParts_row_tie rfl ⟨rfl, rfl⟩ (by kernel_rfl) rfl
    (fun f fn hf hfn => by
      obtain rfl : f = 3 := Option.some.inj ((show Tryd.prog.funcNamed "polyglot/polyglotlaw10.MsgParts" = some 3 by kernel_rfl).symm.trans hf) |>.symm
      obtain rfl : fn = Tryd.f3 := (Option.some.inj (Tryd.func3.symm.trans hfn)).symm
      exact ⟨by kernel_rfl, fun j t ht => by
        rw [Tryd.params3] at ht
        have hm : t ∈ [3, 3, 9] := by simpa using Array.mem_of_getElem? ht
        have hall : ([3, 3, 9].all fun u => !Tryd.prog.wantsStandIn u) = true := by kernel_rfl
        exact (show Tryd.prog.wantsStandIn t = false by simpa using List.all_eq_true.1 hall t hm)⟩)
    (by kernel_rfl)
#print axioms proved
end Go.Proofs.YtjkimmflngiijaaDoor.msgParts
