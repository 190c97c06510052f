/-
  Proved: the statement on layer 12's 'what any items come to, or why they come to nothing, and that they are split again' (TlvJoins) returns true at every input, and leaves its arguments as they were. No condition.
-/
import Derived.Test.YtflllegengomnaaRows
import Derived.Test.YtflllegengomnaaLaw12A
import Derived.Test.YtflllegengomnaaLaw12L
import Derived.ShutString
import Derived.ChangeOld
import Derived.Deep.RegionHeld3
import Derived.RegionCalls
namespace Go.Proofs.Ytflllegengomnaa.tlvJoins
open Go.ChangeShapes Go.WideShapes Go.ChangeAt Go.RowKit
open Go.ChangeMaps (open_string shut_string)
set_option linter.unusedVariables false
set_option linter.unusedSimpArgs false
set_option maxRecDepth 10000

theorem flt_small {l : List Fd} (h : ∀ f ∈ l, f.d.length ≤ 400) (ht : ∀ f ∈ l, 0 ≤ f.tag ∧ f.tag ≤ 255) : fltL (kys l) = 0 := fltL_of fun x hx => by
  obtain ⟨f, hf, rfl⟩ := List.mem_map.1 hx
  have := h f hf
  have := ht f hf
  exact fltK_of (by simp only [ky]; omega) (by simp only [ky]; omega) (by simp only [ky]; omega)
theorem flt_five {l : List Fd} (h : ∀ f ∈ l, f.d.length ≤ 400) (hn : fltL (kys l) ≠ 0) : fltL (kys l) = 5 := by
  induction l with
  | nil => exact absurd rfl hn
  | cons f l ih =>
    have h1 := h f (by simp)
    have e : fltL (kys (f :: l)) = if fltK (ky f) = 0 then fltL (kys l) else fltK (ky f) := rfl
    rw [e] at hn ⊢
    split
    · rename_i q
      rw [if_pos q] at hn
      exact ih (fun g hg => h g (by simp [hg])) hn
    · rename_i q
      unfold fltK at q ⊢
      split
      · rfl
      · rename_i q2
        rw [if_neg q2, if_neg (by simp only [ky]; omega)] at q
        exact absurd rfl q
theorem join_bd {l : List Fd} (h : ∀ f ∈ l, f.d.length ≤ 400) : (joinK (kys l)).length ≤ l.length * 403 := by
  induction l with
  | nil => simp [kys, joinK]
  | cons f l ih =>
    have h1 := h f (by simp)
    have h2 := ih (fun g hg => h g (by simp [hg]))
    rw [show kys (f :: l) = ky f :: kys l from rfl, joinK_cons, List.length_append, encK_len]
    simp only [ky, List.length_cons]
    omega

set_option maxHeartbeats 8000000 in
theorem walk (p0 : Option Addr) (c0 : Nat) (l0 : List Fd) (w : World) (hlc0 : l0.length ≤ c0) (hcm0 : c0 ≤ maxLen) (hp0 : p0 = none → c0 = 0) (hin0 : FIn w p0 l0) :
    Calls Try.prog 3 #[.slice p0 l0.length c0] w fun e w' => e = .returned (.bool true) ∧ Below w.heap.size w w' := by
  have n0 := Nat.le_trans hlc0 hcm0
  have F0 := few12_any p0 c0 l0 w hin0 n0
  have AW := fun X => awake12_any X
  by_cases tf : few12 l0 = true
  case neg =>
    have tf' : few12 l0 = false := by simpa using tf
    rw [tf'] at F0
    go_enter Try.func3, Try.ntmps3
    go_wp2_with fail
    refine F0.mono ?_
    rintro e w1 ⟨rfl, rfl⟩
    go_wp2_with (go_at_call 8; refine (AW _).mono ?_; rintro e w' ⟨rfl, hb⟩)
    go_ret
    exact ⟨rfl, hb⟩
  obtain ⟨m0, hd0⟩ := few12_yes tf
  have hbd := join_bd hd0
  rw [tf] at F0
  have JN := tjoin_any p0 c0 l0 w hin0 n0 (by omega)
  have LY := Hid.mk' (fun X (h : Below w.heap.size w X) => lay_any p0 c0 l0 X (hin0.below h) n0 (by omega))
  have HP := Hid.mk' hin0
  have HD := Hid.mk' hd0
  have HIS := Hid.mk' (show isB (joinK (kys l0)) from joinK_isB fun x hx => by
    obtain ⟨f, hf, rfl⟩ := List.mem_map.1 hx
    obtain ⟨i, hi, rfl⟩ := List.getElem_of_mem hf
    obtain ⟨b, o, _, hc⟩ := hin0.at (by omega)
    have := (hc i hi).2.2.isb
    simpa [List.getD, hi, ky] using this)
  clear hlc0 hcm0 hp0 hin0 n0 tf hd0
  have nl : (l0.length : Int) ≤ 30 := by omega
  have HM := Hid.mk' m0
  have HBD := Hid.mk' hbd
  clear m0 hbd
  go_enter Try.func3, Try.ntmps3
  go_wp2_with fail
  refine F0.mono ?_
  rintro e w1 ⟨rfl, rfl⟩
  clear F0
  go_wp2_with fail
  refine JN.mono ?_
  clear JN
  rintro e w1 ⟨hj, hb1⟩
  have HB1 := Hid.mk' hb1
  clear hb1
  rcases hj with ⟨hok, g, rfl, hbi, hgg⟩ | ⟨hno, rfl⟩
  case inr =>
    rw [flt_five HD.out hno]
    have HNO := Hid.mk' hno
    have AWx := AW w1
    clear hno LY
    go_wp2_with fail
    go_loop [5] (fun i => ∃ k : Nat, k ≤ l0.length ∧ i = .int .i64 k ∧ Hid (∀ f ∈ l0.take k, 0 ≤ f.tag ∧ f.tag ≤ 255)) (fun i => l0.length - (intOf i).toNat)
    case atStart => exact ⟨0, by omega, rfl, by simp [Hid]⟩
    case round =>
      obtain ⟨k, hk, rfl, HA⟩ := hrel
      by_cases t : k < l0.length
      · obtain ⟨b, o, rfl, hc⟩ := (HP.out.below HB1.out).at (by omega)
        obtain ⟨e0, e1, hx⟩ := hc k t
        have HN := Hid.mk' (take_next l0 k t)
        generalize l0.getD k zf = y at HN e0 e1
        clear hc hx
        by_cases t1 : y.tag < 0
        · clear HA HN
          go_wp2_with fail
          refine AWx.mono ?_
          rintro e w2 ⟨rfl, hb2⟩
          have HB2 := Hid.mk' (HB1.out.trans (hb2.mono HB1.out.size))
          clear hb2
          go_wp2_with fail
          try rw [Exit.noGoto_ret]
          go_ret
          exact ⟨rfl, HB2.out⟩
        by_cases t2 : 255 < y.tag
        · clear HA HN
          go_wp2_with fail
          refine AWx.mono ?_
          rintro e w2 ⟨rfl, hb2⟩
          have HB2 := Hid.mk' (HB1.out.trans (hb2.mono HB1.out.size))
          clear hb2
          go_wp2_with fail
          try rw [Exit.noGoto_ret]
          go_ret
          exact ⟨rfl, HB2.out⟩
        · have HA2 := Hid.mk' (show ∀ f ∈ l0.take (k + 1), 0 ≤ f.tag ∧ f.tag ≤ 255 from fun f hf => by
            rw [HN.out] at hf
            rcases List.mem_append.1 hf with q | q
            · exact HA.out f q
            · simp at q; subst q; omega)
          go_wp2
          go_round
          case rel => exact ⟨k + 1, by omega, by go_num, HA2⟩
          case measure => simp [intOf]; omega
      · exfalso
        obtain rfl : k = l0.length := by omega
        rw [List.take_of_length_le (Nat.le_refl _)] at HA
        exact HNO.out (flt_small HD.out HA.out)
  case inl =>
    have HT := Hid.mk' (show ∀ f ∈ l0, 0 ≤ f.tag ∧ f.tag ≤ 255 from fun f hf => (fltK_ok (fltL_ok hok (ky f) (List.mem_map.2 ⟨f, hf, rfl⟩))).1)
    have HOK := Hid.mk' hok
    have HBI := Hid.mk' hbi
    clear hok hbi hgg
    go_wp2_with fail
    go_loop [5] (fun i => ∃ k : Nat, k ≤ l0.length ∧ i = .int .i64 k) (fun i => l0.length - (intOf i).toNat)
    case atStart => exact ⟨0, by omega, rfl⟩
    case round =>
      obtain ⟨k, hk, rfl⟩ := hrel
      by_cases t : k < l0.length
      · obtain ⟨b, o, rfl, hc⟩ := (HP.out.below HB1.out).at (by omega)
        obtain ⟨e0, e1, hx⟩ := hc k t
        have ht := HT.out (l0.getD k zf) (by simp [List.getD, t])
        generalize l0.getD k zf = y at ht e0 e1
        clear hc hx
        have t1 : ¬ y.tag < 0 := by omega
        have t2 : ¬ 255 < y.tag := by omega
        clear ht
        go_wp2
        go_round
        case rel => exact ⟨k + 1, by omega, by go_num⟩
        case measure => simp [intOf]; omega
      · have t' : ¬ (k : Int) < l0.length := by omega
        clear hk t
        have cv1 := fun X (h : Below w1.heap.size w1 X) => (HBI.out.below h).convert (P := Try.prog) (joinK (kys l0)).length 25 5 9 Try.underlying25 Try.underlying5 Try.underlying9
        have SP := fun X (h : Below w1.heap.size w1 X) => tsplit_any (some ⟨g, 0, none⟩) (joinK (kys l0)).length (joinK (kys l0)) X (HBI.out.below h) HIS.out (by have := HBD.out; have := HM.out; omega)
        have HSJ := Hid.mk' (split_join (kys l0) HOK.out)
        generalize joinK (kys l0) = J at LY HBI HIS HBD cv1 SP HSJ ⊢
        obtain ⟨st, hst⟩ : ∃ st, strOfNums J = st := ⟨_, rfl⟩
        rw [hst] at cv1
        have HST := Hid.mk' hst
        have hsn : (st.toList != st.toList) = false := by simp
        clear hst
        have hS0 : (convert 25 9 (.slice (some ⟨g, 0, none⟩) J.length J.length)).run Try.prog w1.drew = .ok (.string st) w1.drew ∧ Hid (Below w1.heap.size w1 w1.drew) := ⟨cv1 _ (Below.refl _ _).drew, (Below.refl _ _).drew⟩
        have LYx := fun X (h : Below w1.heap.size w1 X) => LY.out X (HB1.out.trans (h.mono HB1.out.size))
        clear LY
        go_upto_region 9 with fail
        go_wp2_with fail
        refine wp_region_held_drew (S := fun X => (convert 25 9 (.slice (some ⟨g, 0, none⟩) J.length J.length)).run Try.prog X = .ok (.string st) X ∧ Hid (Below w1.heap.size w1 X)) (by kernel_rfl) hS0 (fun hS => ?_)
        clear hS0
        generalize w1.drew = wd at hS ⊢
        refine wpAnyH_take (i := 0) (v := ?v0_33) rfl (by kernel_rfl) (by kernel_rfl) (by kernel_rfl) (fun _ _ _ h => h) (Or.inl ⟨by rfl, ?hy0_33⟩) (by assumption) ?rest0_33
        case hy0_33 => (intro w hSw; (try dsimp only at hSw); go_simp; try (with_reducible rfl))
        simp only [Act.put, List.getElem_toArray, List.getElem_cons_zero, List.getElem_cons_succ, List.setIfInBounds_toArray, List.set_cons_zero, List.set_cons_succ]
        refine wpAnyH_take (i := 1) (v := ?v1_34) rfl (by kernel_rfl) (by kernel_rfl) (by kernel_rfl) (fun _ _ _ h => h) (Or.inl ⟨by rfl, ?hy1_34⟩) (by assumption) ?rest1_34
        case hy1_34 => (intro w hSw; (try dsimp only at hSw); go_simp; try (with_reducible rfl))
        simp only [Act.put, List.getElem_toArray, List.getElem_cons_zero, List.getElem_cons_succ, List.setIfInBounds_toArray, List.set_cons_zero, List.set_cons_succ]
        refine wpAnyH_take (i := 2) (v := ?v2_35) rfl (by kernel_rfl) (by kernel_rfl) (by kernel_rfl) (fun _ _ _ h => h) (Or.inl ⟨by rfl, ?hy2_35⟩) (by assumption) ?rest2_35
        case hy2_35 => (intro w hSw; (try dsimp only at hSw); go_simp; try (with_reducible rfl))
        simp only [Act.put, List.getElem_toArray, List.getElem_cons_zero, List.getElem_cons_succ, List.setIfInBounds_toArray, List.set_cons_zero, List.set_cons_succ]
        refine wpAnyH_take (i := 3) (v := ?v3_36) rfl (by kernel_rfl) (by kernel_rfl) (by kernel_rfl) (fun _ _ _ h => h) (Or.inl ⟨by rfl, ?hy3_36⟩) (by assumption) ?rest3_36
        case hy3_36 => (intro w hSw; (try dsimp only at hSw); go_simp; try (with_reducible rfl))
        simp only [Act.put, List.getElem_toArray, List.getElem_cons_zero, List.getElem_cons_succ, List.setIfInBounds_toArray, List.set_cons_zero, List.set_cons_succ]
        refine wpAnyH_take (i := 4) (v := ?v4_37) rfl (by kernel_rfl) (by kernel_rfl) (by kernel_rfl) (fun _ _ _ h => h) (Or.inl ⟨by rfl, ?hy4_37⟩) (by assumption) ?rest4_37
        case hy4_37 => (intro w hSw; (try dsimp only at hSw); go_simp; try (with_reducible rfl))
        simp only [Act.put, List.getElem_toArray, List.getElem_cons_zero, List.getElem_cons_succ, List.setIfInBounds_toArray, List.set_cons_zero, List.set_cons_succ]
        refine wpAnyH_take (i := 5) (v := ?v5_38) rfl (by kernel_rfl) (by kernel_rfl) (by kernel_rfl) (fun _ _ _ h => h) (Or.inl ⟨by rfl, ?hy5_38⟩) (by assumption) ?rest5_38
        case hy5_38 => (intro w hSw; (try dsimp only at hSw); go_simp; try (with_reducible rfl))
        simp only [Act.put, List.getElem_toArray, List.getElem_cons_zero, List.getElem_cons_succ, List.setIfInBounds_toArray, List.set_cons_zero, List.set_cons_succ]
        refine wpAnyH_ready (rs := [6]) (by kernel_rfl) (by simp) ?_
        refine (AllReadyH.cons rfl (fun K hK => ?_) AllReadyH.nil)
        go_simp
        refine (LYx wd hS.2.out).mono ?_
        rintro e x6 ⟨p6, c6, rfl, hb6, _, hbl6⟩
        have HL6 := Hid.mk' (hS.2.out.trans (hbl6.mono hS.2.out.size))
        have cv6 := hb6.convert (P := Try.prog) c6 25 5 9 Try.underlying25 Try.underlying5 Try.underlying9
        rw [HST.out] at cv6
        have cv6' := cv1 x6 HL6.out
        clear hb6 hbl6
        go_wp2_with fail
        refine hK.out _ _ ?_ (fun hS' => ?_)
        · exact ⟨cv6', HL6⟩
        clear hK K
        try simp only [Act.put, List.getElem_toArray, List.getElem_cons_zero, List.getElem_cons_succ, List.setIfInBounds_toArray, List.set_cons_zero, List.set_cons_succ]
        replace hS := hS'
        clear hS'
        refine wpAnyH_ready (rs := [7]) (by kernel_rfl) (by simp) ?_
        refine (AllReadyH.cons rfl (fun K hK => ?_) AllReadyH.nil)
        go_simp
        refine hK.out _ _ ?_ (fun hS' => ?_)
        · exact hS
        clear hK K
        try simp only [Act.put, List.getElem_toArray, List.getElem_cons_zero, List.getElem_cons_succ, List.setIfInBounds_toArray, List.set_cons_zero, List.set_cons_succ]
        replace hS := hS'
        clear hS'
        refine wpAnyH_take (i := 8) (v := ?v8_39) rfl (by kernel_rfl) (by kernel_rfl) (by kernel_rfl) (fun _ _ _ h => h) (Or.inl ⟨by rfl, ?hy8_39⟩) (by assumption) ?rest8_39
        case hy8_39 => (intro w hSw; (try dsimp only at hSw); go_simp; try (with_reducible rfl))
        simp only [Act.put, List.getElem_toArray, List.getElem_cons_zero, List.getElem_cons_succ, List.setIfInBounds_toArray, List.set_cons_zero, List.set_cons_succ]
        refine wpAnyH_take (i := 9) (v := ?v9_40) rfl (by kernel_rfl) (by kernel_rfl) (by kernel_rfl) (fun _ _ _ h => h) (Or.inl ⟨by rfl, ?hy9_40⟩) (by assumption) ?rest9_40
        case hy9_40 => (intro w hSw; (try dsimp only at hSw); go_simp; try (with_reducible rfl))
        simp only [Act.put, List.getElem_toArray, List.getElem_cons_zero, List.getElem_cons_succ, List.setIfInBounds_toArray, List.set_cons_zero, List.set_cons_succ]
        refine wpAnyH_done (by kernel_rfl) ?_ _
        have HX := hS.2
        have SPx := SP _ HX.out
        clear hS cv1 cv6 cv6' SP LYx
        go_wp2_with fail
        refine SPx.mono ?_
        clear SPx
        rintro e x8 ⟨hsp, hb8⟩
        rcases hsp with ⟨h, _⟩ | ⟨p8, c8, L8, h, rfl, hown⟩
        · rw [HSJ.out] at h; cases h
        rw [HSJ.out] at h
        have hkk : kys L8 = kys l0 := (Option.some.inj h).symm
        obtain ⟨p9, c9, e9, hfin, _, hl9, hm9⟩ := hown.own.fin
        simp only [Value.slice.injEq, true_and] at e9
        obtain ⟨rfl, rfl⟩ := e9
        have HB8 := Hid.mk' ((HB1.out.trans (HX.out.mono HB1.out.size)).trans (hb8.mono (Nat.le_trans HB1.out.size HX.out.size)))
        have SM := same12_any p8 p0 c8 c0 L8 l0 x8 hfin (HP.out.below HB8.out) (Nat.le_trans hl9 hm9) (by have := HM.out; simp only [maxLen]; omega)
        rw [decide_eq_true hkk] at SM
        clear h hb8 hown hfin hl9 hm9 hkk HX HB1 HBI HIS HBD HSJ HST hsn
        go_wp2_with fail
        refine SM.mono ?_
        clear SM
        rintro e x9 ⟨rfl, hb9⟩
        have HB9 := Hid.mk' (HB8.out.trans (hb9.mono HB8.out.size))
        clear hb9 HB8
        go_wp2_with fail
        refine (AW x9).mono ?_
        rintro e x10 ⟨rfl, hb10⟩
        have HB10 := Hid.mk' (HB9.out.trans (hb10.mono HB9.out.size))
        clear hb10 HB9
        go_wp2_with fail
        go_ret
        exact ⟨rfl, HB10.out⟩

theorem own : ownKnob Try.prog.godebug = none := by kernel_rfl
theorem laidOut : laidOutB Try.prog = true := by kernel_rfl

set_option maxRecDepth 100000 in
theorem lifted (os : Os) (started : os.Started) (H : Type) (enc : TypeId × Value → H) :
    ReturnsInHanded {} Try.checked os 3 .any (Rows.tlvJoinsSpec.pre6 enc Try.prog Try.f3 Rows.tlvJoinsRow.domain false) (Rows.tlvJoinsSpec.post enc Try.prog Try.f3 false true false false) := by
  refine returnsInHanded_of_change_sized (C := Try.checked) own started (by kernel_rfl) Try.func3
    (ChangeSpec.witness6 (enc := enc) (C := Try.checked) false ⟨#[], #[.slice none 0 0], []⟩ 8 (by kernel_rfl) (by kernel_rfl) (by kernel_rfl) (by kernel_rfl)) ?_
  intro W base args ds gs before hval0 hW hcnd hsz0 _
  have hz : ∀ (j : Nat) t d, Try.f3.params.toList[j]? = some t → ds[j]? = some d → ∀ n ∈ d.weights Try.prog t, n ≤ reachBytes := fun j t d ht hd n hn => by
    have := List.all_eq_true.1 hsz0 n (DataW.weights_mem_each (j := j) (t := t) (d := d) (by rw [List.getElem?_append_left (List.getElem?_eq_some_iff.1 ht).1]; exact ht) (by rw [List.getElem?_append_left (List.getElem?_eq_some_iff.1 hd).1]; exact hd) n hn)
    simpa using this
  have hval : ∀ (j : Nat) t v, Try.f3.params[j]? = some t → args[j]? = some v → Value.okWide Try.prog W .any base t v := hval0
  have hW' := hW
  obtain ⟨p, q, hA0, hV, rfl, hfz, hnd⟩ := hW
  have hA : DataW.TrodAll enc Try.prog W 0 (fun _ => true) true Try.f3.params.toList args.toList ds p := hA0
  rw [Try.params3] at hA hval hz
  obtain ⟨v0, vs0, d0, ds0, p0x, q0, hargs, rfl, rfl, h0, r0⟩ := trodAll_cons hA
  obtain ⟨rfl, rfl, rfl⟩ := trodAll_nil r0
  obtain rfl : args = #[v0] := by cases args; simp_all
  obtain ⟨rfl, rfl⟩ := trodVars_none hV
  obtain ⟨p0, len0, c0, rfl⟩ := okWide_slice Try.underlying22 (hval 0 22 v0 rfl rfl)
  have k0 := h0
  have lt0 : ∀ x ∈ p0x, x.block < W.heap.size := by obtain ⟨m, hm⟩ := k0; exact DataW.trod_lt m _ _ _ hm
  obtain ⟨l0, rfl, hlc0, hcm0, hp0, hin0⟩ : ∃ l : List Fd, l.length = len0 ∧ len0 ≤ c0 ∧ c0 ≤ maxLen ∧ (p0 = none → c0 = 0) ∧ LIn W p0 2 shFd l := by
    haveI : Inhabited Fd := ⟨zf⟩
    obtain ⟨fuel, hf⟩ := h0
    obtain ⟨l, p, c, hcs, hl1, hl2, hl3, _, hl4⟩ := opensZ_slice (size := 2) (bytes := 32) Try.underlying22 (by kernel_rfl) (by kernel_rfl) (by decide) opensZ_fd _ _ _ hf (hz 0 22 d0 rfl rfl)
    simp [Value.cells] at hcs
    obtain ⟨rfl, rfl, rfl⟩ := hcs
    exact ⟨l, rfl, hl1, hl2, hl3, hl4⟩
  clear hA0 hval0
  refine (walk p0 c0 l0 W hlc0 hcm0 hp0 hin0).mono fun e W' ⟨he, bel⟩ => ?_
  subst he
  exact ⟨_, rfl, _, _, _, [], _, [], hW', trodAll_mk1 (shut_bool Try.underlying4 _), (trodAll_cons_mk (Below.trod laidOut (by kernel_rfl) (of_decide_eq_true (by kernel_rfl)) k0 bel lt0) trodAll_mk0), rfl, bel.frame _, fun h => by cases h⟩

theorem over : Rows.tlvJoinsRow.holds Try.pinned (OpenSpec.ofChange Rows.tlvJoinsSpec) :=
  OpenClaim.holds_of_wide 3 Try.f3 rfl rfl rfl rfl rfl rfl rfl ⟨rfl, rfl, rfl, rfl, rfl⟩ rfl rfl rfl rfl rfl (by kernel_rfl) Try.func3 (by kernel_rfl)
    (of_decide_eq_true (by kernel_rfl)) (by unfold Func.isWrapper; first | (rw [if_pos (by decide +kernel)]; kernel_rfl) | (rw [if_neg (by decide +kernel)]; exact ⟨rfl, rfl⟩))
    (fun os started H enc _ => lifted os started H enc)

/-- The given statement. -/
theorem proved : Rows.TlvJoinsSaid := over
#print axioms proved
end Go.Proofs.Ytflllegengomnaa.tlvJoins
