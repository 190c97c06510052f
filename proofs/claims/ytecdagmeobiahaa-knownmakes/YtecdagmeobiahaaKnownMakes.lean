/-
  Proved: the statement on layer 7's 'a zone, a load and a build that may be are made into a bag that tells just them' (KnownMakes) returns true at every input, and leaves its arguments as they were.
-/
import Derived.Test.YtecdagmeobiahaaRows
import Derived.Test.YtecdagmeobiahaaLaw07
import Derived.Test.YtecdagmeobiahaaKnowR
import Derived.ShutString
import Derived.ChangeOld
namespace Go.Proofs.Ytecdagmeobiahaa.knownMakes
open Go Go.ChangeShapes Go.WideShapes Go.ChangeAt Go.RowKit
open Go.ChangeMaps (open_string shut_string)
set_option linter.unusedVariables false
set_option linter.unusedSimpArgs false

theorem wr64 {x : Int} (h : -9223372036854775808 ≤ x) (h2 : x ≤ 9223372036854775807) : IntKind.i64.wrap x = x := by rw [IntKind.wrap_i64]; omega

theorem dig1 (z : Int) (h : 0 ≤ z) (h2 : z ≤ 255) : digB 1 z = [z] := by
  have e : z / 256 ^ (1 - 1 - 0) % 256 = z := by simp; omega
  show [z / 256 ^ (1 - 1 - 0) % 256] = [z]
  rw [e]

theorem dig2 (z : Int) (h : 0 ≤ z) (h2 : z ≤ 65535) : numB (digB 2 z) = z := by
  show ((0 * 256 + z / 256 ^ (2 - 1 - 0) % 256) * 256 + z / 256 ^ (2 - 1 - 1) % 256) = z
  simp
  omega

theorem made_zone (z l : Int) (b : List Int) (h : -1 ≤ z) (h2 : z ≤ 255) : numK 1 (getK 32 (madeK z l b)) = if z = -1 then (0, false) else (z, true) := by
  by_cases t : z = -1
  · by_cases t2 : l = -1 <;> by_cases t3 : b = [] <;> simp [madeK, t, t2, t3, getK, numK]
  · simp only [madeK, if_neg t, List.cons_append, List.nil_append, getK, if_pos, numK, digB_len]
    rw [dig1 z (by omega) h2]; simp [numB]

theorem made_load (z l : Int) (b : List Int) (h : -1 ≤ l) (h2 : l ≤ 65535) : numK 2 (getK 33 (madeK z l b)) = if l = -1 then (0, false) else (l, true) := by
  by_cases t : l = -1
  · by_cases t2 : z = -1 <;> by_cases t3 : b = [] <;> simp [madeK, t, t2, t3, getK, numK]
  · have e := dig2 l (by omega) h2
    by_cases t2 : z = -1 <;> by_cases t3 : b = [] <;> simp [madeK, t, t2, t3, getK, numK, digB_len, e]

theorem made_build (z l : Int) (b : List Int) (h : plainL b = true) : bldK (getK 34 (madeK z l b)) = if b = [] then ([], false) else (b, true) := by
  by_cases t3 : b = []
  · by_cases t : l = -1 <;> by_cases t2 : z = -1 <;> simp [madeK, t, t2, t3, getK, bldK]
  · have e : isBd b = true := by rw [plain_bd, h]; simp [t3]
    by_cases t : l = -1 <;> by_cases t2 : z = -1 <;> simp [madeK, t, t2, t3, getK, bldK, e]

theorem made_rise (z l : Int) (b : List Int) : (madeK z l b).Pairwise (fun x y => x.1 < y.1) := by
  by_cases t : l = -1 <;> by_cases t2 : z = -1 <;> by_cases t3 : b = [] <;> simp [madeK, t, t2, t3]

theorem made_len (z l : Int) (b : List Int) : (madeK z l b).length = (if z = -1 then 0 else 1) + (if l = -1 then 0 else 1) + (if b = [] then 0 else 1) := by
  by_cases t : l = -1 <;> by_cases t2 : z = -1 <;> by_cases t3 : b = [] <;> simp [madeK, t, t2, t3]

theorem rise_at {L : List Fd} {K : List Key} (h : kys L = K) (hp : K.Pairwise (fun x y => x.1 < y.1)) (m : Nat) (hm : m + 1 < L.length) : (L.getD m zf).tag < (L.getD (m + 1) zf).tag := by
  subst h
  have := List.pairwise_iff_getElem.1 hp m (m + 1) (by rw [kys_len]; omega) (by rw [kys_len]; omega) (by omega)
  have h1 : m < L.length := by omega
  simpa [kys, ky, List.getD, h1, hm] using this

theorem made_sz (z l : Int) (b : List Int) (h : b.length ≤ 1000) : szK (madeK z l b) ≤ 2000 := by
  by_cases t : l = -1 <;> by_cases t2 : z = -1 <;> by_cases t3 : b = [] <;> simp [madeK, t, t2, t3, szK, digB_len] <;> omega

set_option maxRecDepth 10000 in
set_option maxHeartbeats 8000000 in
theorem walk (a0 a1 : Int) (a2 : ByteArray) (w : World) (w0 : (Lit.int .i64 a0).wf = true) (w1 : (Lit.int .i64 a1).wf = true) (w2' : a2.size ≤ maxLen) :
    Calls Try.prog 8 #[.int .i64 a0, .int .i64 a1, .string a2] w fun e w' => e = .returned (.bool true) ∧ Below w.heap.size w w' := by
  have AW := awake7_any
  have hs := Str.all a2
  generalize numsOf a2 = b at hs
  clear w0 w1
  by_cases t0 : 40 < a2.size
  · have t0' : 40 < (a2.size : Int) := by omega
    unfold maxLen at w2'
    go_enter Try.func8, Try.ntmps8
    go_wp2_with (go_at_call 24; refine (AW _).mono ?_; rintro e w' ⟨rfl, hb⟩)
    go_ret
    exact ⟨rfl, hb⟩
  have t0' : ¬ 40 < (a2.size : Int) := by omega
  have hbl : b.length ≤ 40 := by rw [← hs.len]; omega
  have M := make_any a0 a1 a2 b w hs (by omega)
  have PL := fun X => plain_any a2 b X hs w2'
  clear w2'
  by_cases t : a0 < -1 ∨ 255 < a0 ∨ a1 < -1 ∨ 65535 < a1
  · rw [make_no t] at M
    by_cases t1 : a0 < -1 <;> by_cases t2 : 255 < a0 <;> by_cases t3 : a1 < -1 <;> by_cases t4 : 65535 < a1 <;> first | (exfalso; omega) | skip
    all_goals
      clear t PL hs
      go_enter Try.func8, Try.ntmps8
      go_wp2_with fail
      refine M.mono ?_
      rintro e w1 ⟨v, L, rfl, hk, hO, hb⟩
      obtain ⟨p, c, rfl, _⟩ := hO.fin
      obtain rfl : L = [] := by cases L; rfl; cases hk
      have HB := Hid.mk' hb
      clear hk hO hb M
      rw [List.length_nil]
      go_wp2_with (go_at_call 24; refine (AW _).mono ?_; rintro e w' ⟨rfl, hb⟩)
      go_ret
      exact ⟨rfl, HB.out.trans (hb.mono HB.out.size)⟩
  have t1 : ¬ a0 < -1 := by omega
  have t2 : ¬ 255 < a0 := by omega
  have t3 : ¬ a1 < -1 := by omega
  have t4 : ¬ 65535 < a1 := by omega
  rw [show makeK a0 a1 b = if plainL b then (0, madeK a0 a1 b) else (4, []) from if_neg t] at M
  clear t
  cases hp : plainL b
  · rw [hp] at M PL
    rw [show (if false = true then ((0 : Int), madeK a0 a1 b) else (4, [])) = (4, []) from rfl] at M
    clear hs
    go_enter Try.func8, Try.ntmps8
    go_wp2_with fail
    refine M.mono ?_
    rintro e w1 ⟨v, L, rfl, hk, hO, hb⟩
    obtain ⟨p, c, rfl, _⟩ := hO.fin
    obtain rfl : L = [] := by cases L; rfl; cases hk
    have HB := Hid.mk' hb
    clear hk hO hb M
    rw [List.length_nil]
    go_wp2_with fail
    refine (PL _).mono ?_
    rintro e w' ⟨rfl, rfl⟩
    go_wp2_with (go_at_call 24; refine (AW _).mono ?_; rintro e w' ⟨rfl, hb⟩)
    go_ret
    exact ⟨rfl, HB.out.trans (hb.mono HB.out.size)⟩
  rw [hp] at M PL
  rw [show (if true = true then ((0 : Int), madeK a0 a1 b) else (4, [])) = (0, madeK a0 a1 b) from rfl] at M
  have HZ := Hid.mk' (made_zone a0 a1 b (by omega) (by omega))
  have HL := Hid.mk' (made_load a0 a1 b (by omega) (by omega))
  have HD := Hid.mk' (made_build a0 a1 b hp)
  have HRI := Hid.mk' (made_rise a0 a1 b)
  have HLN := Hid.mk' (made_len a0 a1 b)
  have HSZ := Hid.mk' (made_sz a0 a1 b (by omega))
  have HST := Hid.mk' hs
  have HE := Hid.mk' hs.empty
  clear hs hp
  go_enter Try.func8, Try.ntmps8
  go_wp2_with fail
  refine M.mono ?_
  rintro e w1 ⟨v, L, rfl, hk, hO, hb⟩
  obtain ⟨p, c, rfl, hf, _⟩ := hO.fin
  obtain ⟨rz, hrz⟩ : ∃ r, (if a0 = -1 then ((0 : Int), false) else (a0, true)) = r := ⟨_, rfl⟩
  obtain ⟨rl, hrl⟩ : ∃ r, (if a1 = -1 then ((0 : Int), false) else (a1, true)) = r := ⟨_, rfl⟩
  obtain ⟨rb, hrb⟩ : ∃ r, (if b = [] then (([] : List Int), false) else (b, true)) = r := ⟨_, rfl⟩
  obtain ⟨nz, hnz⟩ : ∃ n : Nat, (if a0 = -1 then 0 else 1) = n := ⟨_, rfl⟩
  obtain ⟨nl, hnl⟩ : ∃ n : Nat, (if a1 = -1 then 0 else 1) = n := ⟨_, rfl⟩
  obtain ⟨nb, hnb⟩ : ∃ n : Nat, (if b = [] then 0 else 1) = n := ⟨_, rfl⟩
  have hlen : L.length = nz + nl + nb := by rw [← kys_len, hk, HLN.out, hnz, hnl, hnb]
  have hz1 : nz ≤ 1 := by rw [← hnz]; split <;> omega
  have hl1 : nl ≤ 1 := by rw [← hnl]; split <;> omega
  have hb1 : nb ≤ 1 := by rw [← hnb]; split <;> omega
  have hsz : szK (kys L) ≤ 2000 := by rw [hk]; exact HSZ.out
  have HIN := Hid.mk' (show ∀ X, Below w1.heap.size w1 X → FIn X p L from fun X h => hf.below h)
  have Z := fun X (h : Below w1.heap.size w1 X) => zoneOf_any p c L X (HIN.out X h) (by unfold maxLen; omega) (by omega) rz (by rw [hk, HZ.out]; exact hrz)
  have LD := fun X (h : Below w1.heap.size w1 X) => loadOf_any p c L X (HIN.out X h) (by unfold maxLen; omega) (by omega) rl (by rw [hk, HL.out]; exact hrl)
  have BD := fun X (h : Below w1.heap.size w1 X) => buildOf_any p c L X (HIN.out X h) (by unfold maxLen; omega) (by omega) rb (by rw [hk, HD.out]; exact hrb)
  have HR := Hid.mk' (fun m (hm : m + 1 < L.length) => rise_at hk HRI.out m hm)
  have HB := Hid.mk' hb
  have HLEN := Hid.mk' hlen
  have hL3 : L.length ≤ 3 := by omega
  have ZZ := Hid.mk' hrz
  have LL := Hid.mk' hrl
  have BB := Hid.mk' hrb
  have NZ := Hid.mk' hnz
  have NL := Hid.mk' hnl
  have NB := Hid.mk' hnb
  clear hb hf hO hk hrz hrl hrb hnz hnl hnb hlen hsz HZ HL HD HRI HLN HSZ M
  go_wp2_with fail
  refine (PL _).mono ?_
  rintro e w' ⟨rfl, rfl⟩
  clear PL
  go_wp2_with fail
  refine (Z _ (Below.refl _ _)).mono ?_
  rintro e w2 ⟨rfl, hb2⟩
  clear Z
  go_wp2_with fail
  refine (LD _ hb2).mono ?_
  rintro e w3 ⟨rfl, hb3⟩
  have hb3' := hb2.trans (hb3.mono hb2.size)
  clear LD hb2 hb3
  go_wp2_with fail
  refine (BD _ hb3').mono ?_
  rintro e w4 ⟨⟨s, rfl, hs⟩, hb4⟩
  have HB4 := Hid.mk' (hb3'.trans (hb4.mono hb3'.size))
  have HS := Hid.mk' hs
  clear BD hb3' hb4 hs
  go_upto_if 81 with fail
  go_cut [15] (fun n wx => n = .int .i64 (nz : Int) ∧ wx = w4)
  case first =>
    by_cases t : a0 = -1
    · obtain rfl : 0 = nz := by rw [← NZ.out, if_pos t]
      have d : ¬ (0 : Int) ≤ a0 := by omega
      clear t
      go_wp2_with fail
      go_meet
      exact ⟨rfl, rfl⟩
    · obtain rfl : 1 = nz := by rw [← NZ.out, if_neg t]
      have d : (0 : Int) ≤ a0 := by omega
      clear t
      go_wp2_with fail
      go_meet
      exact ⟨rfl, rfl⟩
  case rest =>
  obtain ⟨rfl, rfl⟩ := hcut
  go_upto_if 85 with fail
  go_cut [15] (fun n wx => n = .int .i64 ((nz : Int) + nl) ∧ wx = wc)
  case first =>
    by_cases t : a1 = -1
    · obtain rfl : 0 = nl := by rw [← NL.out, if_pos t]
      have d : ¬ (0 : Int) ≤ a1 := by omega
      clear t
      go_wp2_with fail
      go_meet
      exact ⟨by simp, rfl⟩
    · obtain rfl : 1 = nl := by rw [← NL.out, if_neg t]
      have d : (0 : Int) ≤ a1 := by omega
      clear t
      go_wp2_with fail
      go_meet
      exact ⟨rfl, rfl⟩
  case rest =>
  obtain ⟨rfl, rfl⟩ := hcut
  go_upto_if 89 with fail
  go_cut [15] (fun n wx => n = .int .i64 ((L.length : Int)) ∧ wx = wc)
  case first =>
    by_cases t : b = []
    · obtain rfl : 0 = nb := by rw [← NB.out, if_pos t]
      have he := HE.out
      rw [decide_eq_true t] at he
      have he2 : (!a2.toList.isEmpty) = false := by rw [he]; rfl
      clear t
      rw [he2]
      go_wp2_with fail
      go_meet
      exact ⟨by rw [HLEN.out]; simp, rfl⟩
    · obtain rfl : 1 = nb := by rw [← NB.out, if_neg t]
      have he := HE.out
      rw [decide_eq_false t] at he
      have he2 : (!a2.toList.isEmpty) = true := by rw [he]; rfl
      clear t
      rw [he2]
      go_wp2_with fail
      go_meet
      exact ⟨by rw [HLEN.out]; simp, rfl⟩
  case rest =>
  obtain ⟨rfl, rfl⟩ := hcut
  clear NZ NL NB hz1 hl1 hb1 HLEN
  go_wp2_with fail
  go_loopw [16] (fun i W => ∃ m : Nat, m ≤ 3 ∧ i = .int .i64 ((m : Int) + 1) ∧ Hid (Below w1.heap.size w1 W)) (fun i _ => 4 - (intOf i).toNat)
  case atStart => exact ⟨0, by omega, rfl, HB4⟩
  case round =>
    obtain ⟨m, hm, rfl, HBr⟩ := hrel
    by_cases t : m + 1 < L.length
    · have t' : (m : Int) + 1 < (L.length : Int) := by omega
      obtain ⟨bb, o, rfl, hc⟩ := (HIN.out _ HBr.out).at (by omega)
      obtain ⟨e0, _, _⟩ := hc m (by omega)
      obtain ⟨g0, _, _⟩ := hc (m + 1) t
      have hri := HR.out m t
      generalize L.getD m zf = x at e0 hri
      generalize L.getD (m + 1) zf = y at g0 hri
      have d1 : decide (y.tag ≤ x.tag) = false := decide_eq_false (by omega)
      have s1 : IntKind.i64.wrap ((m : Int) + 1 - 1) = (m : Int) := by rw [show (m : Int) + 1 - 1 = m by omega]; exact wr64 (by omega) (by omega)
      have s2 : IntKind.i64.wrap (m : Int) = (m : Int) := wr64 (by omega) (by omega)
      have s3 : IntKind.i64.wrap ((m : Int) + 1 + 1) = (m : Int) + 1 + 1 := wr64 (by omega) (by omega)
      clear hc
      go_wp2_with fail
      go_quiet (fail)
      go_wp2_with fail
      go_roundw
      case rel => exact ⟨m + 1, by omega, by go_num, bel_drewN HBr.out _⟩
      case measure => simp [intOf]; omega
    · have t' : ¬ (m : Int) + 1 < (L.length : Int) := by omega
      have hu := HS.out.uniq HST.out
      clear HR
      by_cases q1 : a0 = -1 <;> by_cases q2 : a1 = -1 <;> by_cases q3 : b = []
      all_goals
        have he := HE.out
        first | (have z1 := ZZ.out; rw [if_pos q1] at z1; have y1 : ¬ (0 : Int) ≤ a0 := by omega) | (have z1 := ZZ.out; rw [if_neg q1] at z1; have y1 : (0 : Int) ≤ a0 := by omega)
        first | (have z2 := LL.out; rw [if_pos q2] at z2; have y2 : ¬ (0 : Int) ≤ a1 := by omega) | (have z2 := LL.out; rw [if_neg q2] at z2; have y2 : (0 : Int) ≤ a1 := by omega)
        first | (have z3 := BB.out; rw [if_pos q3] at z3; rw [decide_eq_true q3] at he) | (have z3 := BB.out; rw [if_neg q3] at z3; rw [decide_eq_false q3] at he)
        subst z1
        subst z2
        subst z3
        rw [decide_eq_true (by first | rfl | exact q3.symm)] at hu
        clear ZZ LL BB q1 q2 q3
        go_wp2_with (go_at_call 24; refine (AW _).mono ?_; rintro e w' ⟨rfl, hb⟩)
        go_ret
        exact ⟨rfl, (HB.out.trans (HBr.out.mono HB.out.size)).trans (hb.mono (HB.out.trans (HBr.out.mono HB.out.size)).size)⟩

theorem own : ownKnob Try.prog.godebug = none := by kernel_rfl
theorem laidOut : laidOutB Try.prog = true := by kernel_rfl

set_option maxRecDepth 100000 in
theorem lifted (os : Os) (started : os.Started) (H : Type) (enc : TypeId × Value → H) :
    ReturnsInHanded {} Try.checked os 8 .any (Rows.knownMakesSpec.pre6 enc Try.prog Try.f8 Rows.knownMakesRow.domain false) (Rows.knownMakesSpec.post enc Try.prog Try.f8 false true false false) := by
  refine returnsInHanded_of_change (C := Try.checked) own started (by kernel_rfl) Try.func8
    (ChangeSpec.witness6 (enc := enc) (C := Try.checked) false ⟨#[], #[.int .i64 0, .int .i64 0, .string ByteArray.empty], []⟩ 8 (by kernel_rfl) (by kernel_rfl) (by kernel_rfl) (by kernel_rfl)) ?_
  intro W base args ds gs before hval0 hW hcnd _
  have hval : ∀ (j : Nat) t v, Try.f8.params[j]? = some t → args[j]? = some v → Value.okWide Try.prog W .any base t v := hval0
  have hW' := hW
  obtain ⟨p, q, hA0, hV, rfl, hfz, hnd⟩ := hW
  have hA : DataW.TrodAll enc Try.prog W 0 (fun _ => true) true Try.f8.params.toList args.toList ds p := hA0
  rw [Try.params8] at hA hval
  obtain ⟨v0, vs0, d0, ds0, p0x, q0, hargs, rfl, rfl, h0, r0⟩ := trodAll_cons hA
  obtain ⟨v1, vs1, d1, ds1, p1x, q1, rfl, rfl, rfl, h1, r1⟩ := trodAll_cons r0
  obtain ⟨v2, vs2, d2, ds2, p2x, q2, rfl, rfl, rfl, h2, r2⟩ := trodAll_cons r1
  obtain ⟨rfl, rfl, rfl⟩ := trodAll_nil r2
  obtain rfl : args = #[v0, v1, v2] := by cases args; simp_all
  obtain ⟨rfl, rfl⟩ := trodVars_none hV
  obtain ⟨a0, rfl, rfl, rfl, w0⟩ := open_int Try.underlying3 (hval 0 3 v0 rfl rfl) h0
  obtain ⟨a1, rfl, rfl, rfl, w1⟩ := open_int Try.underlying3 (hval 1 3 v1 rfl rfl) h1
  obtain ⟨a2, rfl, rfl, rfl, w2⟩ := open_string Try.underlying9 (hval 2 9 v2 rfl rfl) h2
  clear hA0 hval0
  refine (walk a0 a1 a2 W w0 w1 w2).mono fun e W' ⟨he, bel⟩ => ?_
  subst he
  exact ⟨_, rfl, _, _, _, [], _, [], hW', trodAll_mk1 (shut_bool Try.underlying4 _), (trodAll_cons_mk (shut_int Try.underlying3 w0) (trodAll_cons_mk (shut_int Try.underlying3 w1) (trodAll_cons_mk (shut_string Try.underlying9 w2) trodAll_mk0))), rfl, bel.frame _, fun h => by cases h⟩

theorem over : Rows.knownMakesRow.holds Try.pinned (OpenSpec.ofChange Rows.knownMakesSpec) :=
  OpenClaim.holds_of_wide 8 Try.f8 rfl rfl rfl rfl rfl rfl rfl ⟨rfl, rfl, rfl, rfl, rfl⟩ rfl rfl rfl rfl rfl (by kernel_rfl) Try.func8 (by kernel_rfl)
    (of_decide_eq_true (by kernel_rfl)) (by unfold Func.isWrapper; first | (rw [if_pos (by decide +kernel)]; kernel_rfl) | (rw [if_neg (by decide +kernel)]; exact ⟨rfl, rfl⟩))
    (fun os started H enc _ => lifted os started H enc)

/-- The given statement. -/
theorem proved : Rows.KnownMakesSaid := over
#print axioms proved
end Go.Proofs.Ytecdagmeobiahaa.knownMakes
