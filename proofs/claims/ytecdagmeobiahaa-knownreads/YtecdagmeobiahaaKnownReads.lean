/-
  Proved: the statement on layer 7's 'what any bag says of its zone, its load and its build' (KnownReads) returns true at every input, and leaves its arguments as they were.
-/
import Derived.Test.YtecdagmeobiahaaRows
import Derived.Test.YtecdagmeobiahaaLaw07
import Derived.Test.YtecdagmeobiahaaKnowR
import Derived.ShutString
import Derived.ChangeOld
namespace Go.Proofs.Ytecdagmeobiahaa.knownReads
open Go Go.ChangeShapes Go.WideShapes Go.ChangeAt Go.RowKit
open Go.ChangeMaps (open_string shut_string)
set_option linter.unusedVariables false
set_option linter.unusedSimpArgs false

theorem wr64 {x : Int} (h : -9223372036854775808 ≤ x) (h2 : x ≤ 9223372036854775807) : IntKind.i64.wrap x = x := by rw [IntKind.wrap_i64]; omega

theorem one_byte {W : World} {y : Fd} (h : FOk W y) (hl : y.d.length = 1) : ∃ b o x, y.p = some ⟨b, o, none⟩ ∧ y.d = [x] ∧ W.cell? ⟨b, o, none⟩ = some (.int .u8 x) ∧ 0 ≤ x ∧ x < 256 := by
  obtain ⟨b, o, e, hc⟩ := h.bin (by omega)
  have h0 := hc 0 (by omega)
  have hb := h.isb
  obtain ⟨x, hx⟩ : ∃ x, y.d = [x] := List.length_eq_one_iff.1 hl
  rw [hx] at h0 hb
  exact ⟨b, o, x, e, hx, by simpa using h0, hb x (by simp)⟩

theorem two_bytes {W : World} {y : Fd} (h : FOk W y) (hl : y.d.length = 2) : ∃ b o x z, y.p = some ⟨b, o, none⟩ ∧ y.d = [x, z] ∧ W.cell? ⟨b, o, none⟩ = some (.int .u8 x) ∧ W.cell? ⟨b, o + 1, none⟩ = some (.int .u8 z) ∧ (0 ≤ x ∧ x < 256) ∧ 0 ≤ z ∧ z < 256 := by
  obtain ⟨b, o, e, hc⟩ := h.bin (by omega)
  have h0 := hc 0 (by omega)
  have h1 := hc 1 (by omega)
  have hb := h.isb
  obtain ⟨x, z, hx⟩ : ∃ x z, y.d = [x, z] := by match h : y.d, hl with | [x, z], _ => exact ⟨x, z, rfl⟩
  rw [hx] at h0 h1 hb
  exact ⟨b, o, x, z, e, hx, by simpa using h0, by simpa using h1, hb x (by simp), hb z (by simp)⟩

set_option maxRecDepth 10000 in
set_option maxHeartbeats 8000000 in
theorem walk (p0 : Option Addr) (c0 : Nat) (l0 : List Fd) (w : World) (hlc0 : l0.length ≤ c0) (hcm0 : c0 ≤ maxLen) (hp0 : p0 = none → c0 = 0) (hin0 : FIn w p0 l0) :
    Calls Try.prog 7 #[.slice p0 l0.length c0] w fun e w' => e = .returned (.bool true) ∧ Below w.heap.size w w' := by
  have n0 : l0.length ≤ maxLen := Nat.le_trans hlc0 hcm0
  have F0 := few_any p0 c0 l0 w hin0 n0
  have AW := awake7_any
  go_enter Try.func7, Try.ntmps7
  cases hfew : fewK (kys l0)
  · rw [hfew] at F0
    clear hin0 hfew
    go_wp2_with (first | (go_at_call 9; refine F0.mono ?_; rintro e w' ⟨rfl, rfl⟩) | (go_at_call 24; refine (AW _).mono ?_; rintro e w' ⟨rfl, hb⟩))
    go_ret
    exact ⟨rfl, hb⟩
  rw [hfew] at F0
  obtain ⟨hl40, hsz⟩ := few_yes hfew
  obtain ⟨rz, hrz⟩ : ∃ r, numK 1 (getK 32 (kys l0)) = r := ⟨_, rfl⟩
  obtain ⟨rl, hrl⟩ : ∃ r, numK 2 (getK 33 (kys l0)) = r := ⟨_, rfl⟩
  obtain ⟨rb, hrb⟩ : ∃ r, bldK (getK 34 (kys l0)) = r := ⟨_, rfl⟩
  have HIN := Hid.mk' (show ∀ X, Below w.heap.size w X → FIn X p0 l0 from fun X h => hin0.below h)
  have Z := fun X (h : Below w.heap.size w X) => zoneOf_any p0 c0 l0 X (HIN.out X h) n0 (by omega) rz hrz
  have L := fun X (h : Below w.heap.size w X) => loadOf_any p0 c0 l0 X (HIN.out X h) n0 (by omega) rl hrl
  have B := fun X (h : Below w.heap.size w X) => buildOf_any p0 c0 l0 X (HIN.out X h) n0 (by omega) rb hrb
  have FI := fun v X (h : Below w.heap.size w X) => first_any p0 c0 l0 v X (HIN.out X h) n0
  have HZ := Hid.mk' hrz
  have HL := Hid.mk' hrl
  have HB := Hid.mk' hrb
  clear hrz hrl hrb hin0 hfew hsz n0
  go_wp2_with fail
  refine F0.mono ?_
  rintro e w' ⟨rfl, rfl⟩
  clear F0
  go_wp2_with fail
  refine (Z _ (Below.refl _ _)).mono ?_
  rintro e w1 ⟨rfl, hb1⟩
  go_wp2_with fail
  refine (L _ hb1).mono ?_
  rintro e w2 ⟨rfl, hb2⟩
  have hb2' := hb1.trans (hb2.mono hb1.size)
  clear hb1 hb2
  go_wp2_with fail
  refine (B _ hb2').mono ?_
  rintro e w3 ⟨⟨s, rfl, hs⟩, hb3⟩
  have hb3' := hb2'.trans (hb3.mono hb2'.size)
  have HS := Hid.mk' hs
  clear hb2' hb3 hs Z L B
  have F1 := FI 32 _ hb3'
  obtain ⟨i1, hi1⟩ : ∃ i, firstK 32 0 (kys l0) = i := ⟨_, rfl⟩
  rw [hi1] at F1
  have HI1 := Hid.mk' hi1
  have HB3 := Hid.mk' hb3'
  clear hi1 hb3'
  go_wp2_with fail
  refine F1.mono ?_
  rintro e w' ⟨rfl, rfl⟩
  clear F1
  go_upto_region 7 with fail
  go_cut [41] (fun t wx => t = .bool rz.2 ∧ Hid (Below w.heap.size w wx))
  case first =>
    rcases firstK_get 32 l0 0 with ⟨h1, h2⟩ | ⟨q, hq, h1, h2⟩
    · obtain rfl : i1 = -1 := HI1.out.symm.trans h1
      obtain rfl : rz = (0, false) := by rw [← HZ.out, h2]; rfl
      clear h1 h2
      go_wp2_with fail
      go_meet
      exact ⟨rfl, HB3⟩
    · obtain rfl : i1 = (q : Int) := HI1.out.symm.trans (by rw [h1]; simp)
      obtain ⟨b, o, rfl, hc⟩ := (HIN.out _ HB3.out).at (by omega)
      obtain ⟨e0, e1, hy⟩ := hc q hq
      generalize l0.getD q zf = y at h2 e0 e1 hy
      have hq0 : (0 : Int) ≤ (q : Int) := by omega
      by_cases t : y.d.length = 1
      · obtain ⟨v, rfl⟩ : ∃ v, rz = (v, true) := ⟨numB y.d, by rw [← HZ.out, h2]; simp [numK, t]⟩
        rw [t] at e1
        clear h1 h2 hy t hc
        go_wp2_with fail
        go_meet
        exact ⟨rfl, HB3⟩
      · obtain rfl : rz = (0, false) := by rw [← HZ.out, h2]; simp [numK, t]
        have t' : ((y.d.length : Int) == 1) = false := by simp; omega
        clear h1 h2 hy hc
        go_wp2_with fail
        go_meet
        exact ⟨rfl, HB3⟩
  case rest =>
  obtain ⟨rfl, HB3a⟩ := hcut
  clear HB3
  go_upto_if 41 with fail
  go_cut [9] (fun i wx => Hid (Below w.heap.size w wx))
  case first =>
    rcases firstK_get 32 l0 0 with ⟨h1, h2⟩ | ⟨q, hq, h1, h2⟩
    · obtain rfl : i1 = -1 := HI1.out.symm.trans h1
      obtain rfl : rz = (0, false) := by rw [← HZ.out, h2]; rfl
      clear h1 h2
      go_wp2_with fail
      go_meet
      exact HB3a
    · obtain rfl : i1 = (q : Int) := HI1.out.symm.trans (by rw [h1]; simp)
      obtain ⟨b, o, rfl, hc⟩ := (HIN.out _ HB3a.out).at (by omega)
      obtain ⟨e0, e1, hy⟩ := hc q hq
      generalize l0.getD q zf = y at h2 e0 e1 hy
      clear hc
      have hq0 : (0 : Int) ≤ (q : Int) := by omega
      by_cases t : y.d.length = 1
      · obtain ⟨b2, o2, x, hp, hd, hx, hx0, hx1⟩ := one_byte hy t
        obtain rfl : rz = (x, true) := by rw [← HZ.out, h2, hd]; simp [numK, numB]
        rw [hp, t] at e1
        clear h1 h2 hy hp hd t
        go_wp2_with fail
        go_meet
        exact HB3a
      · obtain rfl : rz = (0, false) := by rw [← HZ.out, h2]; simp [numK, t]
        clear h1 h2 hy
        go_wp2_with fail
        go_meet
        exact HB3a
  case rest =>
  have hb4 := hcut.out
  clear hcut HB3a HI1 HZ
  have F2 := FI 33 _ hb4
  obtain ⟨i2, hi2⟩ : ∃ i, firstK 33 0 (kys l0) = i := ⟨_, rfl⟩
  rw [hi2] at F2
  have HI2 := Hid.mk' hi2
  have HB4 := Hid.mk' hb4
  clear hi2 hb4
  go_wp2_with fail
  refine F2.mono ?_
  rintro e w' ⟨rfl, rfl⟩
  clear F2
  go_upto_region 13 with fail
  go_cut [73] (fun t wx => t = .bool rl.2 ∧ Hid (Below w.heap.size w wx))
  case first =>
    rcases firstK_get 33 l0 0 with ⟨h1, h2⟩ | ⟨q, hq, h1, h2⟩
    · obtain rfl : i2 = -1 := HI2.out.symm.trans h1
      obtain rfl : rl = (0, false) := by rw [← HL.out, h2]; rfl
      clear h1 h2
      go_wp2_with fail
      go_meet
      exact ⟨rfl, HB4⟩
    · obtain rfl : i2 = (q : Int) := HI2.out.symm.trans (by rw [h1]; simp)
      obtain ⟨b, o, rfl, hc⟩ := (HIN.out _ HB4.out).at (by omega)
      obtain ⟨e0, e1, hy⟩ := hc q hq
      generalize l0.getD q zf = y at h2 e0 e1 hy
      have hq0 : (0 : Int) ≤ (q : Int) := by omega
      by_cases t : y.d.length = 2
      · obtain ⟨v, rfl⟩ : ∃ v, rl = (v, true) := ⟨numB y.d, by rw [← HL.out, h2]; simp [numK, t]⟩
        rw [t] at e1
        clear h1 h2 hy t hc
        go_wp2_with fail
        go_meet
        exact ⟨rfl, HB4⟩
      · obtain rfl : rl = (0, false) := by rw [← HL.out, h2]; simp [numK, t]
        have t' : ((y.d.length : Int) == 2) = false := by simp; omega
        clear h1 h2 hy hc
        go_wp2_with fail
        go_meet
        exact ⟨rfl, HB4⟩
  case rest =>
  obtain ⟨rfl, HB4a⟩ := hcut
  clear HB4
  go_upto_if 73 with fail
  go_cut [9] (fun i wx => Hid (Below w.heap.size w wx))
  case first =>
    rcases firstK_get 33 l0 0 with ⟨h1, h2⟩ | ⟨q, hq, h1, h2⟩
    · obtain rfl : i2 = -1 := HI2.out.symm.trans h1
      obtain rfl : rl = (0, false) := by rw [← HL.out, h2]; rfl
      clear h1 h2
      go_wp2_with fail
      go_meet
      exact HB4a
    · obtain rfl : i2 = (q : Int) := HI2.out.symm.trans (by rw [h1]; simp)
      obtain ⟨b, o, rfl, hc⟩ := (HIN.out _ HB4a.out).at (by omega)
      obtain ⟨e0, e1, hy⟩ := hc q hq
      generalize l0.getD q zf = y at h2 e0 e1 hy
      clear hc
      have hq0 : (0 : Int) ≤ (q : Int) := by omega
      by_cases t : y.d.length = 2
      · obtain ⟨b2, o2, x, z, hp, hd, hx, hz, ⟨hx0, hx1⟩, hz0, hz1⟩ := two_bytes hy t
        obtain rfl : rl = (x * 256 + z, true) := by rw [← HL.out, h2, hd]; simp [numK, numB]
        rw [hp, t] at e1
        clear h1 h2 hy hp hd t
        have s1 : IntKind.i64.wrap x = x := wr64 (by omega) (by omega)
        have s2 : IntKind.i64.wrap z = z := wr64 (by omega) (by omega)
        have s3 : IntKind.i64.wrap (x * 256) = x * 256 := wr64 (by omega) (by omega)
        have s4 : IntKind.i64.wrap (x * 256 + z) = x * 256 + z := wr64 (by omega) (by omega)
        have s5 : ((x * 256 + z) != (x * 256 + z)) = false := by simp
        go_wp2_with fail
        go_quiet (fail)
        go_wp2_with fail
        go_meet
        exact Hid.mk' (bel_drewN HB4a.out _)
      · obtain rfl : rl = (0, false) := by rw [← HL.out, h2]; simp [numK, t]
        clear h1 h2 hy
        go_wp2_with fail
        go_meet
        exact HB4a
  case rest =>
  have hb5 := hcut.out
  clear hcut HB4a HI2 HL
  have F3 := FI 34 _ hb5
  obtain ⟨i3, hi3⟩ : ∃ i, firstK 34 0 (kys l0) = i := ⟨_, rfl⟩
  rw [hi3] at F3
  have HI3 := Hid.mk' hi3
  have HB5 := Hid.mk' hb5
  clear hi3 hb5
  go_wp2_with fail
  refine F3.mono ?_
  rintro e w' ⟨rfl, rfl⟩
  clear F3 FI
  rcases firstK_get 34 l0 0 with ⟨h1, h2⟩ | ⟨q, hq, h1, h2⟩
  · obtain rfl : i3 = -1 := HI3.out.symm.trans h1
    obtain rfl : rb = ([], false) := by rw [← HB.out, h2]; rfl
    have he := HS.out.empty
    rw [decide_eq_true rfl] at he
    clear h1 h2
    go_wp2_with (go_at_call 24; refine (AW _).mono ?_; rintro e w' ⟨rfl, hb⟩)
    go_ret
    exact ⟨rfl, HB5.out.trans (hb.mono HB5.out.size)⟩
  · obtain rfl : i3 = (q : Int) := HI3.out.symm.trans (by rw [h1]; simp)
    obtain ⟨b, o, rfl, hc⟩ := (HIN.out _ HB5.out).at (by omega)
    obtain ⟨e0, e1, hy⟩ := hc q hq
    generalize l0.getD q zf = y at h2 e0 e1 hy
    clear hc h1
    have hq0 : (0 : Int) ≤ (q : Int) := by omega
    have cv := BIn.convert (P := Try.prog) hy.bin y.cap 30 5 9 Try.underlying30 Try.underlying5 Try.underlying9
    have PL := plain_any (strOfNums y.d) y.d wc (Str.of y.d hy.isb) (by rw [strOfNums_size]; have := hy.len; have := hy.cap; omega)
    have hpb := plain_bd y.d
    have HT := Hid.mk' (Str.of y.d hy.isb)
    have hyl := hy.few
    by_cases t : y.d = []
    · obtain rfl : rb = ([], false) := by rw [← HB.out, h2, t]; rfl
      have t' : ((y.d.length : Int)) = 0 := by rw [t]; rfl
      rw [t] at e1
      have he := HS.out.empty
      rw [decide_eq_true rfl] at he
      clear h2 cv PL hpb hy HT hyl
      go_wp2_with (go_at_call 24; refine (AW _).mono ?_; rintro e w' ⟨rfl, hb⟩)
      go_ret
      exact ⟨rfl, HB5.out.trans (hb.mono HB5.out.size)⟩
    · have t' : (0 : Int) < (y.d.length : Int) := by have := List.length_pos_iff.2 t; omega
      rw [decide_eq_true t, Bool.true_and] at hpb
      cases hpl : plainL y.d
      · rw [hpl] at PL hpb
        obtain rfl : rb = ([], false) := by rw [← HB.out, h2]; simp [bldK, hpb]
        have he := HS.out.empty
        rw [decide_eq_true rfl] at he
        generalize strOfNums y.d = sy at cv PL
        clear h2 hpb hy HT hpl
        go_wp2_with fail
        refine PL.mono ?_
        rintro e w' ⟨rfl, rfl⟩
        go_wp2_with (go_at_call 24; refine (AW _).mono ?_; rintro e w' ⟨rfl, hb⟩)
        go_ret
        exact ⟨rfl, HB5.out.trans (hb.mono HB5.out.size)⟩
      · rw [hpl] at PL hpb
        obtain rfl : rb = (y.d, true) := by rw [← HB.out, h2]; simp [bldK, hpb]
        have he := HS.out.uniq HT.out
        rw [decide_eq_true rfl] at he
        generalize strOfNums y.d = sy at cv PL he
        clear h2 hpb hy HT hpl
        go_wp2_with fail
        refine PL.mono ?_
        rintro e w' ⟨rfl, rfl⟩
        go_wp2_with (go_at_call 24; refine (AW _).mono ?_; rintro e w' ⟨rfl, hb⟩)
        go_ret
        exact ⟨rfl, HB5.out.trans (hb.mono HB5.out.size)⟩

theorem own : ownKnob Try.prog.godebug = none := by kernel_rfl
theorem laidOut : laidOutB Try.prog = true := by kernel_rfl

set_option maxRecDepth 100000 in
theorem lifted (os : Os) (started : os.Started) (H : Type) (enc : TypeId × Value → H) :
    ReturnsInHanded {} Try.checked os 7 .any (Rows.knownReadsSpec.pre6 enc Try.prog Try.f7 Rows.knownReadsRow.domain false) (Rows.knownReadsSpec.post enc Try.prog Try.f7 false true false false) := by
  refine returnsInHanded_of_change_sized (C := Try.checked) own started (by kernel_rfl) Try.func7
    (ChangeSpec.witness6 (enc := enc) (C := Try.checked) false ⟨#[], #[.slice none 0 0], []⟩ 8 (by kernel_rfl) (by kernel_rfl) (by kernel_rfl) (by kernel_rfl)) ?_
  intro W base args ds gs before hval0 hW hcnd hsz0 _
  have hz : ∀ (j : Nat) t d, Try.f7.params.toList[j]? = some t → ds[j]? = some d → ∀ n ∈ d.weights Try.prog t, n ≤ reachBytes := fun j t d ht hd n hn => by
    have := List.all_eq_true.1 hsz0 n (DataW.weights_mem_each (j := j) (t := t) (d := d) (by rw [List.getElem?_append_left (List.getElem?_eq_some_iff.1 ht).1]; exact ht) (by rw [List.getElem?_append_left (List.getElem?_eq_some_iff.1 hd).1]; exact hd) n hn)
    simpa using this
  have hval : ∀ (j : Nat) t v, Try.f7.params[j]? = some t → args[j]? = some v → Value.okWide Try.prog W .any base t v := hval0
  have hW' := hW
  obtain ⟨p, q, hA0, hV, rfl, hfz, hnd⟩ := hW
  have hA : DataW.TrodAll enc Try.prog W 0 (fun _ => true) true Try.f7.params.toList args.toList ds p := hA0
  rw [Try.params7] at hA hval hz
  obtain ⟨v0, vs0, d0, ds0, p0x, q0, hargs, rfl, rfl, h0, r0⟩ := trodAll_cons hA
  obtain ⟨rfl, rfl, rfl⟩ := trodAll_nil r0
  obtain rfl : args = #[v0] := by cases args; simp_all
  obtain ⟨rfl, rfl⟩ := trodVars_none hV
  obtain ⟨p0, len0, c0, rfl⟩ := okWide_slice Try.underlying22 (hval 0 22 v0 rfl rfl)
  have k0 := h0
  have lt0 : ∀ x ∈ p0x, x.block < W.heap.size := by obtain ⟨m, hm⟩ := k0; exact DataW.trod_lt m _ _ _ hm
  obtain ⟨l0, rfl, hlc0, hcm0, hp0, hin0⟩ : ∃ l : List Fd, l.length = len0 ∧ len0 ≤ c0 ∧ c0 ≤ maxLen ∧ (p0 = none → c0 = 0) ∧ LIn W p0 2 shFd l := by
    haveI : Inhabited Fd := ⟨zf⟩
    obtain ⟨fuel, hf⟩ := h0
    obtain ⟨l, p, c, hcs, hl1, hl2, hl3, _, hl4⟩ := opensZ_slice (size := 2) (bytes := 32) Try.underlying22 (by kernel_rfl) (by kernel_rfl) (by decide) opensZ_fd _ _ _ hf (hz 0 22 d0 rfl rfl)
    simp [Value.cells] at hcs
    obtain ⟨rfl, rfl, rfl⟩ := hcs
    exact ⟨l, rfl, hl1, hl2, hl3, hl4⟩
  clear hA0 hval0
  refine (walk p0 c0 l0 W hlc0 hcm0 hp0 hin0).mono fun e W' ⟨he, bel⟩ => ?_
  subst he
  exact ⟨_, rfl, _, _, _, [], _, [], hW', trodAll_mk1 (shut_bool Try.underlying4 _), (trodAll_cons_mk (Below.trod laidOut (by kernel_rfl) (of_decide_eq_true (by kernel_rfl)) k0 bel lt0) trodAll_mk0), rfl, bel.frame _, fun h => by cases h⟩

theorem over : Rows.knownReadsRow.holds Try.pinned (OpenSpec.ofChange Rows.knownReadsSpec) :=
  OpenClaim.holds_of_wide 7 Try.f7 rfl rfl rfl rfl rfl rfl rfl ⟨rfl, rfl, rfl, rfl, rfl⟩ rfl rfl rfl rfl rfl (by kernel_rfl) Try.func7 (by kernel_rfl)
    (of_decide_eq_true (by kernel_rfl)) (by unfold Func.isWrapper; first | (rw [if_pos (by decide +kernel)]; kernel_rfl) | (rw [if_neg (by decide +kernel)]; exact ⟨rfl, rfl⟩))
    (fun os started H enc _ => lifted os started H enc)

/-- The given statement. -/
theorem proved : Rows.KnownReadsSaid := over
#print axioms proved
end Go.Proofs.Ytecdagmeobiahaa.knownReads
