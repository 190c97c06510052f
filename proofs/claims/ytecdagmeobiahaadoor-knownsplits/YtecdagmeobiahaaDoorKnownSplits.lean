/-
  Proved: the statement on layer 7's 'which fields of any bag a level's table knows, and which it does not' (KnownSplits) returns true at every input, and leaves its arguments as they were; the package's array of names reads as the program's text lays it (the card ties it).
-/
import Derived.Test.YtecdagmeobiahaaDoorRows
import Derived.Test.YtecdagmeobiahaaDoorCards
import Derived.Test.YtecdagmeobiahaaDoorTie
import Derived.Test.YtecdagmeobiahaaDoorLaw07
import Derived.Test.YtecdagmeobiahaaDoorKnowP
import Derived.ShutString
import Derived.ChangeOld
import Derived.Stop.Joined
import Derived.SevenTiedAt
namespace Go.Proofs.YtecdagmeobiahaaDoor.knownSplits
open Go Go.ChangeShapes Go.WideShapes Go.ChangeAt Go.RowKit
open Go.ChangeMaps (open_string shut_string)
set_option linter.unusedVariables false
set_option linter.unusedSimpArgs false

theorem filt_len (pr : Int → Bool) : ∀ K : List Key, (K.filter (fun x => pr x.1)).length + (K.filter (fun x => !pr x.1)).length = K.length
  | [] => rfl
  | x :: K => by
    have := filt_len pr K
    cases h : pr x.1 <;> simp [h] <;> omega

theorem filt_at (pr : Int → Bool) (K : List Key) (n : Nat) (hn : n < K.length) (h : pr (K[n]).1 = true) : ((K.take n).filter (fun x => pr x.1)).length < (K.filter (fun x => pr x.1)).length ∧ (K.filter (fun x => pr x.1))[((K.take n).filter (fun x => pr x.1)).length]? = some K[n] := by
  have e : K.filter (fun x => pr x.1) = (K.take n).filter (fun x => pr x.1) ++ K[n] :: (K.drop (n + 1)).filter (fun x => pr x.1) := by
    conv => lhs; rw [← List.take_append_drop n K, List.filter_append, List.drop_eq_getElem_cons hn]
    rw [List.filter_cons_of_pos (by simpa using h)]
  rw [e]
  constructor
  · simp
  · rw [List.getElem?_append_right (Nat.le_refl _)]; simp

def cnt (pr : Int → Bool) (l : List Fd) (m : Nat) : Nat := (pickF pr (l.take m)).length

theorem cnt_next (pr : Int → Bool) (l : List Fd) (m : Nat) (h : m < l.length) : cnt pr l (m + 1) = cnt pr l m + if pr (l.getD m zf).tag then 1 else 0 := by
  unfold cnt
  rw [pickF_next pr l m h, List.length_append]
  congr 1
  by_cases t : pr (l.getD m zf).tag <;> simp only [t] <;> rfl

theorem pick_at {pr : Int → Bool} {l l' : List Fd} (hk : kys l' = (kys l).filter (fun x => pr x.1)) (m : Nat) (hm : m < l.length) (h : pr (l.getD m zf).tag = true) : cnt pr l m < l'.length ∧ (l'.getD (cnt pr l m) zf).tag = (l.getD m zf).tag ∧ (l'.getD (cnt pr l m) zf).d = (l.getD m zf).d := by
  have hm' : m < (kys l).length := by rw [kys_len]; exact hm
  have e : (kys l)[m] = ky (l.getD m zf) := by simp [kys, List.getD, hm]
  have hc : cnt pr l m = (((kys l).take m).filter (fun x => pr x.1)).length := by
    unfold cnt
    rw [← kys_len, pickF_kys]
    congr 2
    simp [kys]
  obtain ⟨h1, h2⟩ := filt_at pr (kys l) m hm' (by rw [e]; exact h)
  rw [← hk, ← hc, kys_len] at h1
  rw [← hk, ← hc, e] at h2
  refine ⟨h1, ?_⟩
  simp only [kys, List.getElem?_map] at h2
  have e2 : l'[cnt pr l m]? = some (l'.getD (cnt pr l m) zf) := by simp [List.getD, h1]
  rw [e2] at h2
  simp only [Option.map_some, Option.some.injEq, ky, Prod.mk.injEq] at h2
  exact h2

theorem cnt_le (pr : Int → Bool) (l : List Fd) (m : Nat) : cnt pr l m ≤ l.length := by
  unfold cnt
  refine Nat.le_trans (pickF_len _ _) ?_
  simp; omega

theorem name_empty (t : Int) : (nameS t).toList.isEmpty = decide (¬ (32 ≤ t ∧ t ≤ 34)) := by
  unfold nameS
  by_cases q0 : t = 32
  · rw [if_pos q0]; subst q0; rw [ByteArray.toList_eq]; rfl
  by_cases q1 : t = 33
  · rw [if_neg q0, if_pos q1]; subst q1; rw [ByteArray.toList_eq]; rfl
  by_cases q2 : t = 34
  · rw [if_neg q0, if_neg q1, if_pos q2]; subst q2; rw [ByteArray.toList_eq]; rfl
  rw [if_neg q0, if_neg q1, if_neg q2, decide_eq_true (by omega), ByteArray.toList_eq]; rfl

theorem beq_comm' (a b : List UInt8) : (a == b) = (b == a) := by rw [Bool.eq_iff_iff, beq_iff_eq, beq_iff_eq]; exact eq_comm

set_option maxRecDepth 10000 in
set_option maxHeartbeats 8000000 in
theorem walk (a0 : Int) (p1 : Option Addr) (c1 : Nat) (l1 : List Fd) (a2 : ByteArray) (w : World) (hN : Nm w) (w0 : (Lit.int .i64 a0).wf = true) (hlc1 : l1.length ≤ c1) (hcm1 : c1 ≤ maxLen) (hp1 : p1 = none → c1 = 0) (hin1 : FIn w p1 l1) (w2' : a2.size ≤ maxLen) :
    Calls Tryd.prog 8 #[.int .i64 a0, .slice p1 l1.length c1, .string a2] w fun e w' => e = .returned (.bool true) ∧ Below w.heap.size w w' := by
  have n1 : l1.length ≤ maxLen := Nat.le_trans hlc1 hcm1
  have F0 := few_any p1 c1 l1 w hin1 n1
  have AW := awake7_any
  unfold maxLen at w2'
  cases hfew : fewK (kys l1)
  · rw [hfew] at F0
    clear hin1 hfew hN
    go_enter Tryd.func8, Tryd.ntmps8
    go_wp2_with (first | (go_at_call 13; refine F0.mono ?_; rintro e w' ⟨rfl, rfl⟩) | (go_at_call 14; refine (AW _).mono ?_; rintro e w' ⟨rfl, hb⟩))
    go_ret
    exact ⟨rfl, hb⟩
  rw [hfew] at F0
  obtain ⟨hl40, hsz⟩ := few_yes hfew
  by_cases t0 : 20 < a2.size
  · have t0' : 20 < (a2.size : Int) := by omega
    clear hin1 hfew hN
    go_enter Tryd.func8, Tryd.ntmps8
    go_wp2_with (first | (go_at_call 13; refine F0.mono ?_; rintro e w' ⟨rfl, rfl⟩) | (go_at_call 14; refine (AW _).mono ?_; rintro e w' ⟨rfl, hb⟩))
    go_ret
    exact ⟨rfl, hb⟩
  have t0' : ¬ 20 < (a2.size : Int) := by omega
  have KN := known_any a0 p1 c1 l1 w hin1 (by omega)
  have UN := fun X (h : Below w.heap.size w X) => unknown_any a0 p1 c1 l1 X (hin1.below h) (by omega)
  have HIN := Hid.mk' (show ∀ X, Below w.heap.size w X → FIn X p1 l1 from fun X h => hin1.below h)
  have HNM := Hid.mk' (show ∀ X, Below w.heap.size w X → Nm X from fun X h => hN.below h)
  have NAME := Hid.mk' (fun t X (h : Below w.heap.size w X) (hw : (Lit.int .i64 t).wf = true) => name_any t X (HNM.out X h) hw)
  have TAG := fun X (h : Below w.heap.size w X) => tag_any a2 X (HNM.out X h)
  have KK := fun t X => knows_any a0 t X
  have II := fun t X => in_any a0 t X
  clear hin1 hfew hN hsz n1
  go_enter Tryd.func8, Tryd.ntmps8
  go_wp2_with fail
  refine F0.mono ?_
  rintro e w' ⟨rfl, rfl⟩
  clear F0
  go_wp2_with fail
  refine KN.mono ?_
  rintro e w1 ⟨gy, ly, rfl, hky, hfy, hb1⟩
  have UN1 := UN w1 hb1
  have HFY := Hid.mk' hfy
  have HB1 := Hid.mk' hb1
  clear KN UN hfy hb1
  go_wp2_with fail
  refine UN1.mono ?_
  rintro e w2 ⟨gn, ln, rfl, hkn, hfn, hb2⟩
  have HFY2 := Hid.mk' (HFY.out.below hb2)
  have HFN := Hid.mk' hfn
  have HB2 := Hid.mk' (HB1.out.trans (hb2.mono HB1.out.size))
  have hsum : ly.length + ln.length = l1.length := by
    have h1 := filt_len (knowsK a0) (kys l1)
    rw [← hky, ← hkn, kys_len, kys_len, kys_len] at h1
    exact h1
  have hd : ((ly.length : Int) + (ln.length : Int) != (l1.length : Int)) = false := by simp; omega
  have HKY := Hid.mk' hky
  have HKN := Hid.mk' hkn
  clear UN1 hfn hb2 HFY HB1 hky hkn
  go_wp2_with fail
  go_loopw [9, 10, 11] (fun i k n W => ∃ m : Nat, m ≤ l1.length ∧ n = .int .i64 m ∧ i = .int .i64 (cnt (knowsK a0) l1 m : Nat) ∧ k = .int .i64 (cnt (fun t => !knowsK a0 t) l1 m : Nat) ∧ Hid (Below w2.heap.size w2 W)) (fun _ _ n _ => l1.length - (intOf n).toNat)
  case atStart => exact ⟨0, by omega, rfl, rfl, rfl, Below.refl _ _⟩
  case round =>
    obtain ⟨m, hm, rfl, rfl, rfl, HB⟩ := hrel
    have HBW := Hid.mk' (HB2.out.trans (HB.out.mono HB2.out.size))
    by_cases t : m < l1.length
    · have t' : (m : Int) < (l1.length : Int) := by omega
      obtain ⟨b, o, hbo, hc⟩ := (HIN.out _ HBW.out).at (by omega)
      subst hbo
      obtain ⟨e0, e1, hy⟩ := hc m t
      have HCY := Hid.mk' (cnt_next (knowsK a0) l1 m t)
      have HCN := Hid.mk' (cnt_next (fun t => !knowsK a0 t) l1 m t)
      have HPY := Hid.mk' (fun h => pick_at HKY.out m t h)
      have HPN := Hid.mk' (fun h => pick_at (pr := fun t => !knowsK a0 t) HKN.out m t h)
      have hcy := cnt_le (knowsK a0) l1 m
      have hcn := cnt_le (fun t => !knowsK a0 t) l1 m
      generalize l1.getD m zf = y at e0 e1 hy HCY HCN HPY HPN
      generalize hci : cnt (knowsK a0) l1 m = ci at HCY HPY hcy
      generalize hck : cnt (fun t => !knowsK a0 t) l1 m = ck at HCN HPN hcn
      have N := NAME.out y.tag _ HBW.out hy.tag
      have K := KK y.tag wr
      have I := II y.tag wr
      have ne := name_empty y.tag
      have cv := conv_any hy
      have hst := str_inj y.d y.d hy.isb hy.isb
      rw [decide_eq_true rfl] at hst
      clear hc hy hci hck
      generalize nameS y.tag = s at N ne
      generalize hkn : knowsK a0 y.tag = kn at K I HCY HCN HPY HPN
      have HKB := Hid.mk' hkn
      clear hkn
      go_upto_region 13 with fail
      go_cut [67] (fun t wx => t = .bool false ∧ wx = wr)
      case first =>
        clear cv hst e0 e1
        by_cases q : 32 ≤ y.tag ∧ y.tag ≤ 34
        · obtain ⟨q1, q2⟩ := q
          rw [decide_eq_false (by omega)] at ne
          cases kn
          all_goals
            go_wp2_with (first | (go_at_call 17; refine K.mono ?_; rintro e w' ⟨rfl, rfl⟩) | (go_at_call 18; refine I.mono ?_; rintro e w' ⟨rfl, rfl⟩) | (go_at_call 19; refine N.mono ?_; rintro e w' ⟨rfl, rfl⟩))
            go_meet
            exact ⟨rfl, rfl⟩
        · rw [decide_eq_true (by omega)] at ne
          have q' : y.tag < 32 ∨ (32 ≤ y.tag ∧ ¬ y.tag ≤ 34) := by omega
          clear q
          rcases q' with q1 | ⟨q1, q2⟩
          all_goals
            cases kn
            all_goals
              go_wp2_with (first | (go_at_call 17; refine K.mono ?_; rintro e w' ⟨rfl, rfl⟩) | (go_at_call 18; refine I.mono ?_; rintro e w' ⟨rfl, rfl⟩) | (go_at_call 19; refine N.mono ?_; rintro e w' ⟨rfl, rfl⟩))
              go_meet
              exact ⟨by first | rfl | (congr 1; exact decide_eq_false (by omega)), rfl⟩
      case rest =>
      obtain ⟨rfl, rfl⟩ := hcut
      clear N K ne
      cases kn
      · obtain ⟨p1, p2, p3⟩ := HPN.out rfl
        obtain ⟨b2, o2, hbo2, hc2⟩ := (HFN.out.below HB.out).at (by omega)
        obtain ⟨f0, f1, hz⟩ := hc2 ck p1
        have cv2 := conv_any hz
        rw [p2] at f0
        rw [p3] at f1 cv2
        generalize ln.getD ck zf = z at f1 cv2
        simp at hbo2
        obtain ⟨rfl, rfl⟩ := hbo2
        rw [Nat.zero_add] at f0 f1
        have s0 : decide ((ln.length : Int) ≤ (ck : Int)) = false := decide_eq_false (by omega)
        have s1 : (y.tag != y.tag) = false := by simp
        have HCY' := Hid.mk' (show cnt (knowsK a0) l1 (m + 1) = ci by rw [HCY.out]; simp)
        have HCN' := Hid.mk' (show cnt (fun t => !knowsK a0 t) l1 (m + 1) = ck + 1 by rw [HCN.out]; simp)
        clear hc2 hz p2 p3 HPY HPN HCY HCN HKB
        go_wp2_with (go_at_call 18; refine I.mono ?_; rintro e w' ⟨rfl, rfl⟩)
        go_quiet (fail)
        go_wp2_with fail
        go_roundw
        case rel => exact ⟨m + 1, by omega, by go_num, by rw [HCY'.out], by rw [HCN'.out]; go_num, bel_drewN HB.out _⟩
        case measure => simp [intOf]; omega
      · obtain ⟨p1, p2, p3⟩ := HPY.out rfl
        obtain ⟨b2, o2, hbo2, hc2⟩ := (HFY2.out.below HB.out).at (by omega)
        obtain ⟨f0, f1, hz⟩ := hc2 ci p1
        have cv2 := conv_any hz
        rw [p2] at f0
        rw [p3] at f1 cv2
        generalize ly.getD ci zf = z at f1 cv2
        simp at hbo2
        obtain ⟨rfl, rfl⟩ := hbo2
        rw [Nat.zero_add] at f0 f1
        have s0 : decide ((ly.length : Int) ≤ (ci : Int)) = false := decide_eq_false (by omega)
        have s1 : (y.tag != y.tag) = false := by simp
        have HCY' := Hid.mk' (show cnt (knowsK a0) l1 (m + 1) = ci + 1 by rw [HCY.out]; simp)
        have HCN' := Hid.mk' (show cnt (fun t => !knowsK a0 t) l1 (m + 1) = ck by rw [HCN.out]; simp)
        clear hc2 hz p2 p3 HPY HPN HCY HCN HKB
        go_wp2_with (go_at_call 18; refine I.mono ?_; rintro e w' ⟨rfl, rfl⟩)
        go_quiet (fail)
        go_wp2_with fail
        go_roundw
        case rel => exact ⟨m + 1, by omega, by go_num, by rw [HCY'.out]; go_num, by rw [HCN'.out], bel_drewN HB.out _⟩
        case measure => simp [intOf]; omega
    · have t' : ¬ (m : Int) < (l1.length : Int) := by omega
      have T := TAG _ HBW.out
      have N0 := NAME.out 32 _ HBW.out (by decide)
      have N1 := NAME.out 33 _ HBW.out (by decide)
      have N2 := NAME.out 34 _ HBW.out (by decide)
      rw [show nameS 32 = zoneS from rfl] at N0
      rw [show nameS 33 = loadS from rfl] at N1
      rw [show nameS 34 = buildS from rfl] at N2
      have z0 := zone_eq a2
      have z1 := load_eq a2
      have z2 := build_eq a2
      have y0 := (beq_comm' a2.toList [122, 111, 110, 101]).trans z0
      have y1 := (beq_comm' a2.toList [108, 111, 97, 100]).trans z1
      have y2 := (beq_comm' a2.toList [98, 117, 105, 108, 100]).trans z2
      generalize cnt (knowsK a0) l1 m = ci
      generalize cnt (fun t => !knowsK a0 t) l1 m = ck
      have FIN := Hid.mk' (fun w' (hb : Below wr.heap.size wr w') => HBW.out.trans (hb.mono HBW.out.size))
      have HTS := Hid.mk' (show tagS a2 = if zoneS = a2 then (32, true) else if loadS = a2 then (33, true) else if buildS = a2 then (34, true) else (0, false) from rfl)
      generalize tagS a2 = r at T HTS
      have HE := Hid.mk' (And.intro (And.intro z0 y0) (And.intro (And.intro z1 y1) (And.intro z2 y2)))
      clear HKY HKN HFY2 HFN HIN HNM NAME KK II TAG HB HB2 HBW z0 z1 z2 y0 y1 y2
      go_wp2_with fail
      refine T.mono ?_
      rintro e w' ⟨rfl, rfl⟩
      clear T
      go_upto_region 23 with fail
      go_cut [164] (fun t wx => t = .bool false ∧ wx = wr)
      case first =>
        obtain ⟨⟨z0, y0⟩, ⟨z1, y1⟩, z2, y2⟩ := HE.out
        by_cases q0 : zoneS = a2
        · obtain rfl : r = (32, true) := by rw [HTS.out, if_pos q0]
          rw [decide_eq_true q0] at z0 y0
          rw [decide_eq_false (by rw [← q0]; decide)] at z1 y1 z2 y2
          clear q0 HTS HE AW
          go_wp2_with fail
          refine N0.mono ?_
          rintro e w' ⟨rfl, rfl⟩
          go_wp2_with fail
          go_meet
          exact ⟨rfl, rfl⟩
        by_cases q1 : loadS = a2
        · obtain rfl : r = (33, true) := by rw [HTS.out, if_neg q0, if_pos q1]
          rw [decide_eq_false q0] at z0 y0
          rw [decide_eq_true q1] at z1 y1
          rw [decide_eq_false (by rw [← q1]; decide)] at z2 y2
          clear q0 q1 HTS HE AW
          go_wp2_with fail
          refine N1.mono ?_
          rintro e w' ⟨rfl, rfl⟩
          go_wp2_with fail
          go_meet
          exact ⟨rfl, rfl⟩
        by_cases q2 : buildS = a2
        · obtain rfl : r = (34, true) := by rw [HTS.out, if_neg q0, if_neg q1, if_pos q2]
          rw [decide_eq_false q0] at z0 y0
          rw [decide_eq_false q1] at z1 y1
          rw [decide_eq_true q2] at z2 y2
          clear q0 q1 q2 HTS HE AW
          go_wp2_with fail
          refine N2.mono ?_
          rintro e w' ⟨rfl, rfl⟩
          go_wp2_with fail
          go_meet
          exact ⟨rfl, rfl⟩
        obtain rfl : r = (0, false) := by rw [HTS.out, if_neg q0, if_neg q1, if_neg q2]
        rw [decide_eq_false q0] at z0 y0
        rw [decide_eq_false q1] at z1 y1
        rw [decide_eq_false q2] at z2 y2
        clear q0 q1 q2 HTS HE AW
        go_wp2_with fail
        go_meet
        exact ⟨rfl, rfl⟩
      case rest =>
      obtain ⟨rfl, rfl⟩ := hcut
      clear HE HTS
      go_wp2_with fail
      refine N0.mono ?_
      rintro e w' ⟨rfl, rfl⟩
      go_wp2_with fail
      refine N1.mono ?_
      rintro e w' ⟨rfl, rfl⟩
      go_wp2_with fail
      refine N2.mono ?_
      rintro e w' ⟨rfl, rfl⟩
      go_wp2_with fail
      refine (AW _).mono ?_
      rintro e w' ⟨rfl, hb⟩
      go_wp2_with fail
      go_ret
      exact ⟨rfl, FIN.out _ hb⟩

theorem own : ownKnob Tryd.prog.godebug = none := by kernel_rfl
theorem laidOut : laidOutB Tryd.prog = true := by kernel_rfl

theorem door_met (os : Os) (args : Array Value) : laidMetH Tryd.prog Rows.knownSplitsRow.laid ((World.doorLaid Tryd.prog 400 os).forCall (fun _ _ => 0) ⟨#[], args, []⟩).memory :=
  laidMetH_of_parts3 (fuel := 8) (laidMet_of_run' 8 (by kernel_rfl) (by kernel_rfl)) (by kernel_rfl) (by kernel_rfl)

set_option maxRecDepth 100000 in
theorem lifted (os : Os) (started : os.Started) (H : Type) (enc : TypeId × Value → H) :
    ReturnsInHanded {} Tryd.checked os 8 .any (fun w args => (Rows.knownSplitsSpec.pre enc Tryd.prog Tryd.f8 [] false w args ∧ laidMetH Tryd.prog Rows.knownSplitsRow.laid w) ∧ sizedMet enc Tryd.prog Tryd.f8 (OpenSpec.ofChange Rows.knownSplitsSpec) false w args)
      (Rows.knownSplitsSpec.post enc Tryd.prog Tryd.f8 false true false false) := by
  refine returnsInHanded_of_change_and (C := Tryd.checked) (X := (fun w _ => laidMetH Tryd.prog Rows.knownSplitsRow.laid w)) (fun _ _ _ hh h => h.of_heap hh) own started (by kernel_rfl) Tryd.func8
    (ChangeSpec.witness_shaped (enc := enc) (C := Tryd.checked) (os := os) (X := (fun w _ => laidMetH Tryd.prog Rows.knownSplitsRow.laid w)) false (World.doorLaid Tryd.prog 400 os) #[.int .i64 0, .slice none 0 0, .string ByteArray.empty] 8 rfl (World.shaped_of_RefB (by kernel_rfl) (by kernel_rfl)) (by kernel_rfl) (by kernel_rfl) (by kernel_rfl) (door_met os _)) ?_
  intro W base args ds gs before hval0 hW _ hsz0 hL _
  have hz : ∀ (j : Nat) t d, Tryd.f8.params.toList[j]? = some t → ds[j]? = some d → ∀ n ∈ d.weights Tryd.prog t, n ≤ reachBytes := fun j t d ht hd n hn => by
    have := List.all_eq_true.1 hsz0 n (DataW.weights_mem_each (j := j) (t := t) (d := d) (by rw [List.getElem?_append_left (List.getElem?_eq_some_iff.1 ht).1]; exact ht) (by rw [List.getElem?_append_left (List.getElem?_eq_some_iff.1 hd).1]; exact hd) n hn)
    simpa using this
  have hval : ∀ (j : Nat) t v, Tryd.f8.params[j]? = some t → args[j]? = some v → Value.okWide Tryd.prog W .any base t v := hval0
  have hW' := hW
  obtain ⟨p, q, hA0, hV, rfl, hfz, hnd⟩ := hW
  have hA : DataW.TrodAll enc Tryd.prog W 0 (fun _ => true) true Tryd.f8.params.toList args.toList ds p := hA0
  rw [Tryd.params8] at hA hval hz
  obtain ⟨v0, vs0, d0, ds0, p0x, q0, hargs, rfl, rfl, h0, r0⟩ := trodAll_cons hA
  obtain ⟨v1, vs1, d1, ds1, p1x, q1, rfl, rfl, rfl, h1, r1⟩ := trodAll_cons r0
  obtain ⟨v2, vs2, d2, ds2, p2x, q2, rfl, rfl, rfl, h2, r2⟩ := trodAll_cons r1
  obtain ⟨rfl, rfl, rfl⟩ := trodAll_nil r2
  obtain rfl : args = #[v0, v1, v2] := by cases args; simp_all
  obtain ⟨rfl, rfl⟩ := trodVars_none hV
  obtain ⟨a0, rfl, rfl, rfl, w0⟩ := open_int Tryd.underlying3 (hval 0 3 v0 rfl rfl) h0
  obtain ⟨p1, len1, c1, rfl⟩ := okWide_slice Tryd.underlying35 (hval 1 35 v1 rfl rfl)
  have k1 := h1
  have lt1 : ∀ x ∈ p1x, x.block < W.heap.size := by obtain ⟨m, hm⟩ := k1; exact DataW.trod_lt m _ _ _ hm
  obtain ⟨l1, rfl, hlc1, hcm1, hp1, hin1⟩ : ∃ l : List Fd, l.length = len1 ∧ len1 ≤ c1 ∧ c1 ≤ maxLen ∧ (p1 = none → c1 = 0) ∧ LIn W p1 2 shFd l := by
    haveI : Inhabited Fd := ⟨zf⟩
    obtain ⟨fuel, hf⟩ := h1
    obtain ⟨l, p, c, hcs, hl1, hl2, hl3, _, hl4⟩ := opensZ_slice (size := 2) (bytes := 32) Tryd.underlying35 (by kernel_rfl) (by kernel_rfl) (by decide) opensZ_fd _ _ _ hf (hz 1 35 d1 rfl rfl)
    simp [Value.cells] at hcs
    obtain ⟨rfl, rfl, rfl⟩ := hcs
    exact ⟨l, rfl, hl1, hl2, hl3, hl4⟩
  obtain ⟨a2, rfl, rfl, rfl, w2⟩ := open_string Tryd.underlying9 (hval 2 9 v2 rfl rfl) h2
  clear hA0 hval0
  refine (walk a0 p1 c1 l1 a2 W (nm_of_laid (by kernel_rfl) (by simp [Rows.knownSplitsRow]) hL) w0 hlc1 hcm1 hp1 hin1 w2).mono fun e W' ⟨he, bel⟩ => ?_
  subst he
  exact ⟨_, rfl, _, _, _, [], _, [], hW', trodAll_mk1 (shut_bool Tryd.underlying4 _), (trodAll_cons_mk (shut_int Tryd.underlying3 w0) (trodAll_cons_mk (Below.trod laidOut (by kernel_rfl) (of_decide_eq_true (by kernel_rfl)) k1 bel lt1) (trodAll_cons_mk (shut_string Tryd.underlying9 w2) trodAll_mk0))), rfl, bel.frame _, fun h => by cases h⟩

theorem over : Rows.KnownSplitsSaid :=
  OpenClaim.holds_of_wide 8 Tryd.f8 rfl rfl rfl rfl rfl rfl rfl ⟨rfl, rfl, rfl, rfl, rfl⟩ rfl rfl rfl rfl rfl (by kernel_rfl) Tryd.func8 (by kernel_rfl)
    (of_decide_eq_true (by kernel_rfl)) (by unfold Func.isWrapper; first | (rw [if_pos (by decide +kernel)]; kernel_rfl) | (rw [if_neg (by decide +kernel)]; exact ⟨rfl, rfl⟩))
    (fun os started H enc _ => lifted os started H enc)

/-- The given statement: the card, its variables tied to the program's text. -/
theorem proved : Rows.KnownSplitsCardSaid :=
  Claim7.holds_tied_plain_at .later [] [.data] true (true, "16995b274c15820a6fde4b16dfa1e6fe51f8fc44bc953471aa0ce251eee9252c") false over (fun _ h => by cases h) (by kernel_rfl) (fun _ h => by cases h) knownSplits_row_tie rfl ⟨rfl, rfl⟩ (by kernel_rfl) rfl
    (fun f fn hf hfn => by
      obtain rfl : f = 8 := Option.some.inj ((show Tryd.prog.funcNamed "polyglot/polyglotlaw07.KnownSplits" = some 8 by kernel_rfl).symm.trans hf) |>.symm
      obtain rfl : fn = Tryd.f8 := (Option.some.inj (Tryd.func8.symm.trans hfn)).symm
      exact ⟨by kernel_rfl, fun j t ht => by
        rw [Tryd.params8] at ht
        have hm : t ∈ [3, 35, 9] := by simpa using Array.mem_of_getElem? ht
        have hall : ([3, 35, 9].all fun u => !Tryd.prog.wantsStandIn u) = true := by kernel_rfl
        exact (show Tryd.prog.wantsStandIn t = false by simpa using List.all_eq_true.1 hall t hm)⟩)
    (by kernel_rfl)
#print axioms proved
end Go.Proofs.YtecdagmeobiahaaDoor.knownSplits
