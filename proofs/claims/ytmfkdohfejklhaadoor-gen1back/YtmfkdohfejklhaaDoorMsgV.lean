/-
  Package msg: which messages may be; whether two are the same; Head.
-/
import Derived.Test.YtmfkdohfejklhaaDoorMsgN
import Derived.Test.YtmfkdohfejklhaaDoorRecL
namespace Go.Proofs.YtmfkdohfejklhaaDoor
open Go.RowKit
set_option linter.unusedSimpArgs false
set_option linter.unusedVariables false
set_option maxRecDepth 10000
set_option synthInstance.maxSize 2000

set_option maxHeartbeats 1600000 in
theorem target_any (m : Mg) (w : World) : Calls Tryd.prog 57 #[.agg #[.int .i64 m.kind, .int .i64 m.frm, .int .i64 m.inc, .int .i64 m.lo, .int .i64 m.hi, .int .i64 m.seq, .int .i64 m.tgt, .int .i64 m.life, .int .i64 m.epoch, .int .i64 m.base, .slice m.p m.recs.length m.cap]] w fun e w' => e = .returned (.bool (mayP m 1)) ∧ Below w.heap.size w w' := by
  have HB := Hid.mk' (InM.start w m).below
  by_cases t : m.kind = 3
  · have C := fun X => mwithin_any m.tgt 1 3 X
    rw [show mayP m 1 = decide (1 ≤ m.tgt ∧ m.tgt ≤ 3) by simp [mayP, t]]
    generalize decide (1 ≤ m.tgt ∧ m.tgt ≤ 3) = b at C ⊢
    have t' : (m.kind == 3) = true := by simp [t]
    clear t
    go_enter Tryd.func57, Tryd.ntmps57
    go_wp2_with fail
    refine (C _).mono ?_
    rintro e w1 ⟨rfl, rfl⟩
    go_wp2_with fail
    go_ret
    exact ⟨rfl, HB.out⟩
  · have C := fun X => mwithin_any m.tgt 0 4095 X
    rw [show mayP m 1 = decide (0 ≤ m.tgt ∧ m.tgt ≤ 4095) by simp [mayP, t]]
    generalize decide (0 ≤ m.tgt ∧ m.tgt ≤ 4095) = b at C ⊢
    have t' : (m.kind == 3) = false := by simp [t]
    go_enter Tryd.func57, Tryd.ntmps57
    go_wp2_with fail
    refine (C _).mono ?_
    rintro e w1 ⟨rfl, rfl⟩
    go_wp2_with fail
    go_ret
    exact ⟨rfl, HB.out⟩

set_option maxHeartbeats 1600000 in
theorem life_any (m : Mg) (w : World) : Calls Tryd.prog 58 #[.agg #[.int .i64 m.kind, .int .i64 m.frm, .int .i64 m.inc, .int .i64 m.lo, .int .i64 m.hi, .int .i64 m.seq, .int .i64 m.tgt, .int .i64 m.life, .int .i64 m.epoch, .int .i64 m.base, .slice m.p m.recs.length m.cap]] w fun e w' => e = .returned (.bool (mayP m 2)) ∧ Below w.heap.size w w' := by
  have HB := Hid.mk' (InM.start w m).below
  by_cases t : m.epoch = 0
  · have HM := Hid.mk' (show mayP m 2 = (decide (m.life = 0) && decide (m.kind ≠ 9)) by simp [mayP, t])
    generalize mayP m 2 = q at HM ⊢
    have t' : (m.epoch == 0) = true := by simp [t]
    clear t
    have q0 : (m.life == 0) = decide (m.life = 0) := rfl
    have q1 : (m.kind != 9) = decide (m.kind ≠ 9) := by by_cases h : m.kind = 9 <;> simp [h]
    generalize decide (m.life = 0) = b0 at HM q0
    generalize decide (m.kind ≠ 9) = b1 at HM q1
    go_enter Tryd.func58, Tryd.ntmps58
    cases b0
    · go_wp2_with fail
      go_ret
      exact ⟨by rw [HM.out]; simp, HB.out⟩
    go_wp2_with fail
    go_ret
    exact ⟨by rw [HM.out]; simp, HB.out⟩
  · have HM := Hid.mk' (show mayP m 2 = (decide (0 ≤ m.life ∧ m.life ≤ 281474976710655) && decide (0 ≤ m.epoch ∧ m.epoch ≤ 65535)) by simp [mayP, t])
    generalize mayP m 2 = q at HM ⊢
    have C := fun X => mwithin_any m.life 0 281474976710655 X
    have D := fun X => mwithin_any m.epoch 0 65535 X
    have t' : (m.epoch == 0) = false := by simp [t]
    generalize decide (0 ≤ m.life ∧ m.life ≤ 281474976710655) = b0 at HM C
    generalize decide (0 ≤ m.epoch ∧ m.epoch ≤ 65535) = b1 at HM D
    go_enter Tryd.func58, Tryd.ntmps58
    go_wp2_with fail
    refine (C _).mono ?_
    rintro e w1 ⟨rfl, rfl⟩
    cases b0
    · go_wp2_with fail
      go_ret
      exact ⟨by rw [HM.out]; simp, HB.out⟩
    go_wp2_with fail
    refine (D _).mono ?_
    rintro e w1 ⟨rfl, rfl⟩
    go_wp2_with fail
    go_ret
    exact ⟨by rw [HM.out]; simp, HB.out⟩

set_option maxHeartbeats 4000000 in
theorem mayBe_any (m : Mg) (p : Int) (w : World) (hm : MOk w m) (hz : ∀ x ∈ m.recs, szK (kys x.bag) ≤ 4611686018427387904) (hp : 0 ≤ p ∧ p ≤ 4) :
    Calls Tryd.prog 43 #[.agg #[.int .i64 m.kind, .int .i64 m.frm, .int .i64 m.inc, .int .i64 m.lo, .int .i64 m.hi, .int .i64 m.seq, .int .i64 m.tgt, .int .i64 m.life, .int .i64 m.epoch, .int .i64 m.base, .slice m.p m.recs.length m.cap], .int .i64 p] w fun e w' => e = .returned (.bool (mayP m p)) ∧ Below w.heap.size w w' := by
  have HI := Hid.mk' (InM.start w m)
  have hp5 : p = 0 ∨ p = 1 ∨ p = 2 ∨ p = 3 ∨ p = 4 := by omega
  clear hp
  rcases hp5 with rfl | rfl | rfl | rfl | rfl
  · have C := fun X => mwithin_any m.seq 0 65535 X
    rw [show mayP m 0 = decide (0 ≤ m.seq ∧ m.seq ≤ 65535) by simp [mayP]]
    generalize decide (0 ≤ m.seq ∧ m.seq ≤ 65535) = b at C ⊢
    go_enter Tryd.func43, Tryd.ntmps43
    go_wp2_with fail
    refine (C _).mono ?_
    rintro e w1 ⟨rfl, rfl⟩
    go_wp2_with fail
    go_ret
    exact ⟨rfl, HI.out.below⟩
  · have C := fun X => target_any m X
    generalize mayP m 1 = b at C ⊢
    go_enter Tryd.func43, Tryd.ntmps43
    go_wp2_with fail
    refine (C _).mono ?_
    rintro e w1 ⟨rfl, hb⟩
    have HB := Hid.mk' (HI.out.on hb).below
    clear hb
    go_wp2_with fail
    go_ret
    exact ⟨rfl, HB.out⟩
  · have C := fun X => life_any m X
    generalize mayP m 2 = b at C ⊢
    go_enter Tryd.func43, Tryd.ntmps43
    go_wp2_with fail
    refine (C _).mono ?_
    rintro e w1 ⟨rfl, hb⟩
    have HB := Hid.mk' (HI.out.on hb).below
    clear hb
    go_wp2_with fail
    go_ret
    exact ⟨rfl, HB.out⟩
  · have HM := Hid.mk' (show mayP m 3 = decide (m.base = 0 ∨ 1 ≤ m.base ∧ m.base < m.epoch) by simp [mayP])
    generalize mayP m 3 = q at HM ⊢
    by_cases t0 : m.base = 0
    · have t0' : (m.base == 0) = true := by simp [t0]
      obtain rfl : q = true := by rw [HM.out]; simp [t0]
      clear HM t0
      go_enter Tryd.func43, Tryd.ntmps43
      go_wp2_with fail
      go_ret
      exact ⟨rfl, HI.out.below⟩
    have t0' : (m.base == 0) = false := by simp [t0]
    by_cases t1 : 1 ≤ m.base
    · by_cases t2 : m.base < m.epoch
      · obtain rfl : q = true := by rw [HM.out]; simp [t1, t2]
        clear HM
        go_enter Tryd.func43, Tryd.ntmps43
        go_wp2_with fail
        go_ret
        exact ⟨rfl, HI.out.below⟩
      · obtain rfl : q = false := by rw [HM.out]; simp; omega
        clear HM
        go_enter Tryd.func43, Tryd.ntmps43
        go_wp2_with fail
        go_ret
        exact ⟨rfl, HI.out.below⟩
    · obtain rfl : q = false := by rw [HM.out]; simp; omega
      clear HM
      go_enter Tryd.func43, Tryd.ntmps43
      go_wp2_with fail
      go_ret
      exact ⟨rfl, HI.out.below⟩
  · have HM := Hid.mk' (show mayP m 4 = (decide (m.recs.length ≤ 255) && sortR (-1) (rks m.recs)) by simp [mayP])
    generalize mayP m 4 = q at HM ⊢
    have C := fun X (h : InM w m X) => sorted_any m.p m.cap m.recs X (hm.rin.below h.below) hm.lenM hz
    generalize sortR (-1) (rks m.recs) = b at C HM
    clear hz hm
    by_cases t0 : m.recs.length ≤ 255
    · have HV := Hid.mk' (show q = b by rw [HM.out, decide_eq_true t0]; simp)
      clear HM
      go_enter Tryd.func43, Tryd.ntmps43
      go_wp2_with fail
      refine (C _ HI.out).mono ?_
      rintro e w1 ⟨rfl, hb⟩
      have HB := Hid.mk' (HI.out.on hb).below
      clear hb
      go_wp2_with fail
      go_ret
      exact ⟨by rw [HV.out]; rfl, HB.out⟩
    · obtain rfl : q = false := by rw [HM.out, decide_eq_false t0]; simp
      clear HM
      have t0' : ¬ (m.recs.length : Int) ≤ 255 := by omega
      go_enter Tryd.func43, Tryd.ntmps43
      go_wp2_with fail
      go_ret
      exact ⟨rfl, HI.out.below⟩

set_option maxHeartbeats 4000000 in
theorem isNone_any (m : Mg) (p : Int) (w : World) (hp : 0 ≤ p ∧ p ≤ 4) :
    Calls Tryd.prog 44 #[.agg #[.int .i64 m.kind, .int .i64 m.frm, .int .i64 m.inc, .int .i64 m.lo, .int .i64 m.hi, .int .i64 m.seq, .int .i64 m.tgt, .int .i64 m.life, .int .i64 m.epoch, .int .i64 m.base, .slice m.p m.recs.length m.cap], .int .i64 p] w fun e w' => e = .returned (.bool (noneP m p)) ∧ Below w.heap.size w w' := by
  have HB := Hid.mk' (InM.start w m).below
  have hp5 : p = 0 ∨ p = 1 ∨ p = 2 ∨ p = 3 ∨ p = 4 := by omega
  clear hp
  rcases hp5 with rfl | rfl | rfl | rfl | rfl
  · have HM := Hid.mk' (show noneP m 0 = (m.seq == 0) by simp only [noneP]; rfl)
    generalize noneP m 0 = q at HM ⊢
    go_enter Tryd.func44, Tryd.ntmps44
    go_wp2_with fail
    go_ret
    exact ⟨by rw [HM.out]; rfl, HB.out⟩
  · have HM := Hid.mk' (show noneP m 1 = (m.tgt == 0) by simp only [noneP]; rfl)
    generalize noneP m 1 = q at HM ⊢
    go_enter Tryd.func44, Tryd.ntmps44
    go_wp2_with fail
    go_ret
    exact ⟨by rw [HM.out]; rfl, HB.out⟩
  · have HM := Hid.mk' (show noneP m 2 = (decide (m.life = 0) && decide (m.epoch = 0)) by simp [noneP])
    generalize noneP m 2 = q at HM ⊢
    have q0 : (m.life == 0) = decide (m.life = 0) := rfl
    have q1 : (m.epoch == 0) = decide (m.epoch = 0) := rfl
    generalize decide (m.life = 0) = b0 at HM q0
    generalize decide (m.epoch = 0) = b1 at HM q1
    go_enter Tryd.func44, Tryd.ntmps44
    cases b0
    · go_wp2_with fail
      go_ret
      exact ⟨by rw [HM.out]; simp, HB.out⟩
    go_wp2_with fail
    go_ret
    exact ⟨by rw [HM.out]; simp, HB.out⟩
  · have HM := Hid.mk' (show noneP m 3 = (m.base == 0) by simp only [noneP]; rfl)
    generalize noneP m 3 = q at HM ⊢
    go_enter Tryd.func44, Tryd.ntmps44
    go_wp2_with fail
    go_ret
    exact ⟨by rw [HM.out]; rfl, HB.out⟩
  · have HM := Hid.mk' (show noneP m 4 = ((m.recs.length : Int) == 0) by
      simp only [noneP]; rw [Bool.eq_iff_iff]; simp)
    generalize noneP m 4 = q at HM ⊢
    go_enter Tryd.func44, Tryd.ntmps44
    go_wp2_with fail
    go_ret
    exact ⟨by rw [HM.out]; rfl, HB.out⟩

set_option maxHeartbeats 1600000 in
theorem sender_any (m : Mg) (w : World) : Calls Tryd.prog 21 #[.agg #[.int .i64 m.kind, .int .i64 m.frm, .int .i64 m.inc, .int .i64 m.lo, .int .i64 m.hi, .int .i64 m.seq, .int .i64 m.tgt, .int .i64 m.life, .int .i64 m.epoch, .int .i64 m.base, .slice m.p m.recs.length m.cap]] w
    fun e w' => e = .returned (.bool (decide (0 ≤ m.frm ∧ m.frm ≤ 4095) && decide (0 ≤ m.inc ∧ m.inc ≤ 281474976710655) && okS m.lo m.hi)) ∧ Below w.heap.size w w' := by
  have HI := Hid.mk' (InM.start w m).below
  have C := fun X => mwithin_any m.frm 0 4095 X
  have D := fun X => mwithin_any m.inc 0 281474976710655 X
  have E := fun X => okS_any m.lo m.hi X
  generalize decide (0 ≤ m.frm ∧ m.frm ≤ 4095) = b0 at C ⊢
  generalize decide (0 ≤ m.inc ∧ m.inc ≤ 281474976710655) = b1 at D ⊢
  generalize okS m.lo m.hi = b2 at E ⊢
  go_enter Tryd.func21, Tryd.ntmps21
  go_wp2_with fail
  refine (C _).mono ?_
  rintro e w1 ⟨rfl, rfl⟩
  cases b0
  · go_wp2_with fail
    go_ret
    exact ⟨by simp, HI.out⟩
  go_wp2_with fail
  refine (D _).mono ?_
  rintro e w1 ⟨rfl, rfl⟩
  cases b1
  · go_wp2_with fail
    go_ret
    exact ⟨by simp, HI.out⟩
  go_wp2_with fail
  refine (E _).mono ?_
  rintro e w1 ⟨rfl, rfl⟩
  go_wp2_with fail
  go_ret
  exact ⟨by simp, HI.out.alloc HI.out.size _⟩

theorem partsP_next (m : Mg) (k : Nat) (h : k < 5) : partsP m (5 - k) = (partP m k && partsP m (5 - (k + 1))) := by
  rw [show 5 - k = (5 - (k + 1)) + 1 by omega, partsP, show (4 : Int) - ((5 - (k + 1) : Nat) : Int) = (k : Int) by omega]

set_option maxHeartbeats 4000000 in
theorem parts_any (m : Mg) (w : World) (hm : MOk w m) (hz : ∀ x ∈ m.recs, szK (kys x.bag) ≤ 4611686018427387904) (hK : Kd w) (hk : 1 ≤ m.kind ∧ m.kind ≤ 9) :
    Calls Tryd.prog 22 #[.agg #[.int .i64 m.kind, .int .i64 m.frm, .int .i64 m.inc, .int .i64 m.lo, .int .i64 m.hi, .int .i64 m.seq, .int .i64 m.tgt, .int .i64 m.life, .int .i64 m.epoch, .int .i64 m.base, .slice m.p m.recs.length m.cap]] w fun e w' => e = .returned (.bool (partsP m 5)) ∧ Below w.heap.size w w' := by
  obtain ⟨r, hr⟩ : ∃ r, partsP m 5 = r := ⟨_, rfl⟩
  rw [hr]
  have HT := Hid.mk' hr.symm
  clear hr
  have HI := Hid.mk' (InM.start w m)
  have Q := fun (k : Nat) (h : k < 5) (X : World) (hb : Below w.heap.size w X) => hasM_kind (p := (k : Int)) hk (show 0 ≤ (k : Int) ∧ (k : Int) ≤ 4 by omega) ▸ mhas_any m.kind k X (hK.below hb)
  have V := fun (k : Nat) (h : k < 5) (X : World) (hb : Below w.heap.size w X) => mayBe_any m k X (hm.below hb) hz (show 0 ≤ (k : Int) ∧ (k : Int) ≤ 4 by omega)
  have Z := fun (k : Nat) (h : k < 5) (X : World) => isNone_any m k X (show 0 ≤ (k : Int) ∧ (k : Int) ≤ 4 by omega)
  clear hm hz hK hk
  go_enter Tryd.func22, Tryd.ntmps22
  go_wp2_with fail
  go_loopw [3] (fun i W => ∃ k : Nat, k ≤ 5 ∧ i = .int .i64 k ∧ Hid (r = partsP m (5 - k)) ∧ Hid (InM w m W)) (fun i _ => 5 - (intOf i).toNat)
  case atStart => exact ⟨0, by omega, rfl, HT, HI⟩
  case round =>
    obtain ⟨k, hk, rfl, HR, HI0⟩ := hrel
    clear HI HT
    have S := fun X => isPart_any (k : Int) X
    by_cases t : k < 5
    · rw [decide_eq_true (show 0 ≤ (k : Int) ∧ (k : Int) ≤ 4 by omega)] at S
      have H1 := Q k t
      have V1 := V k t
      have Z1 := Z k t
      have HR' := Hid.mk' (show r = ((if hasB m.kind k = true then mayP m k else noneP m k) && partsP m (5 - (k + 1))) by rw [HR.out, partsP_next m k t]; rfl)
      generalize hasB m.kind k = hb at H1 HR'
      generalize mayP m k = mb at V1 HR'
      generalize noneP m k = nb at Z1 HR'
      clear HR Q V Z
      obtain ⟨c0, c1, c2, c3, c4, c5, c6, c7, c8, c9, c10⟩ := mbox_cells HI0.out.box
      go_wp2_with fail
      refine (S _).mono ?_
      rintro e w1 ⟨rfl, rfl⟩
      go_wp2_with fail
      refine (H1 _ HI0.out.below).mono ?_
      rintro e w1 ⟨rfl, rfl⟩
      cases hb
      · go_wp2_with fail
        refine (H1 _ HI0.out.below).mono ?_
        rintro e w1 ⟨rfl, rfl⟩
        go_wp2_with fail
        refine (Z1 _).mono ?_
        rintro e w2 ⟨rfl, hb2⟩
        have HI2 := Hid.mk' (HI0.out.on hb2)
        clear hb2 HI0 c0 c1 c2 c3 c4 c5 c6 c7 c8 c9 c10
        cases nb
        · obtain rfl : r = false := by rw [HR'.out]; simp
          go_wp2_with fail
          try rw [Exit.noGoto_ret]
          go_ret
          exact ⟨rfl, HI2.out.below⟩
        · have HV := Hid.mk' (show r = partsP m (5 - (k + 1)) by rw [HR'.out]; simp)
          go_wp2_with fail
          go_roundw
          case rel => exact ⟨k + 1, by omega, by go_num, HV, HI2⟩
          case measure => simp [intOf]; omega
      · go_wp2_with fail
        refine (V1 _ HI0.out.below).mono ?_
        rintro e w2 ⟨rfl, hb2⟩
        have HI2 := Hid.mk' (HI0.out.on hb2)
        clear hb2 HI0 c0 c1 c2 c3 c4 c5 c6 c7 c8 c9 c10
        cases mb
        · obtain rfl : r = false := by rw [HR'.out]; simp
          go_wp2_with fail
          try rw [Exit.noGoto_ret]
          go_ret
          exact ⟨rfl, HI2.out.below⟩
        · have HV := Hid.mk' (show r = partsP m (5 - (k + 1)) by rw [HR'.out]; simp)
          obtain ⟨c0, _, _, _, _, _, _, _, _, _, _⟩ := mbox_cells HI2.out.box
          go_wp2_with fail
          refine (H1 _ HI2.out.below).mono ?_
          rintro e w3 ⟨rfl, rfl⟩
          go_wp2_with fail
          go_roundw
          case rel => exact ⟨k + 1, by omega, by go_num, HV, HI2⟩
          case measure => simp [intOf]; omega
    · obtain rfl : k = 5 := by omega
      obtain rfl : r = true := by rw [HR.out]; rfl
      rw [decide_eq_false (show ¬ (0 ≤ ((5 : Nat) : Int) ∧ ((5 : Nat) : Int) ≤ 4) by omega)] at S
      go_wp2_with fail
      refine (S _).mono ?_
      rintro e w1 ⟨rfl, rfl⟩
      go_wp2_with fail
      go_ret
      exact ⟨rfl, HI0.out.below⟩

set_option maxHeartbeats 1600000 in
theorem mvalid_any (m : Mg) (w : World) (hm : MOk w m) (hz : ∀ x ∈ m.recs, szK (kys x.bag) ≤ 4611686018427387904) (hK : Kd w) :
    Calls Tryd.prog 12 #[.agg #[.int .i64 m.kind, .int .i64 m.frm, .int .i64 m.inc, .int .i64 m.lo, .int .i64 m.hi, .int .i64 m.seq, .int .i64 m.tgt, .int .i64 m.life, .int .i64 m.epoch, .int .i64 m.base, .slice m.p m.recs.length m.cap]] w fun e w' => e = .returned (.bool (mayM m)) ∧ Below w.heap.size w w' := by
  have HM := Hid.mk' (show mayM m = (decide (1 ≤ m.kind ∧ m.kind ≤ 9) && (decide (0 ≤ m.frm ∧ m.frm ≤ 4095) && decide (0 ≤ m.inc ∧ m.inc ≤ 281474976710655) && okS m.lo m.hi) && partsP m 5) from rfl)
  generalize mayM m = q at HM ⊢
  have HI := Hid.mk' (InM.start w m)
  have C := fun X => isKind_any m.kind X
  have D := fun X => sender_any m X
  generalize (decide (0 ≤ m.frm ∧ m.frm ≤ 4095) && decide (0 ≤ m.inc ∧ m.inc ≤ 281474976710655) && okS m.lo m.hi) = b1 at D HM
  have E := fun (hk : 1 ≤ m.kind ∧ m.kind ≤ 9) X (h : InM w m X) => parts_any m X (hm.below h.below) hz (hK.below h.below) hk
  generalize partsP m 5 = b2 at E HM
  clear hm hz hK
  by_cases t : 1 ≤ m.kind ∧ m.kind ≤ 9
  · rw [decide_eq_true t] at C HM
    have E1 := E t
    clear E t
    go_enter Tryd.func12, Tryd.ntmps12
    go_wp2_with fail
    refine (C _).mono ?_
    rintro e w1 ⟨rfl, rfl⟩
    go_wp2_with fail
    refine (D _).mono ?_
    rintro e w2 ⟨rfl, hb2⟩
    have HI2 := Hid.mk' (HI.out.on hb2)
    clear hb2 HI
    cases b1
    · go_wp2_with fail
      go_ret
      exact ⟨by rw [HM.out]; simp, HI2.out.below⟩
    obtain ⟨c0, c1, c2, c3, c4, c5, c6, c7, c8, c9, c10⟩ := mbox_cells HI2.out.box
    go_wp2_with fail
    refine (E1 _ HI2.out).mono ?_
    rintro e w3 ⟨rfl, hb3⟩
    have HI3 := Hid.mk' (HI2.out.on hb3)
    clear hb3 HI2 c0 c1 c2 c3 c4 c5 c6 c7 c8 c9 c10
    go_wp2_with fail
    go_ret
    exact ⟨by rw [HM.out]; simp, HI3.out.below⟩
  · rw [decide_eq_false t] at C HM
    go_enter Tryd.func12, Tryd.ntmps12
    go_wp2_with fail
    refine (C _).mono ?_
    rintro e w1 ⟨rfl, rfl⟩
    go_wp2_with fail
    go_ret
    exact ⟨by rw [HM.out]; simp, HI.out.below⟩




/-- A message without its records. -/
def headM (m : Mg) : Mg := ⟨m.kind, m.frm, m.inc, m.lo, m.hi, m.seq, m.tgt, m.life, m.epoch, m.base, none, 0, []⟩
theorem headM_ok {w w' : World} {m : Mg} (h : MOk w m) : MOk w' (headM m) := ⟨h.kind, h.frm, h.inc, h.lo, h.hi, h.seq, h.tgt, h.life, h.epoch, h.base, Nat.le_refl _, by simp [headM, maxLen], fun _ => rfl, RIn.empty _ _⟩


end Go.Proofs.YtmfkdohfejklhaaDoor
