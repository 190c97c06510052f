/-
  Package msg: which messages may be; whether two are the same; Head.
-/
import Derived.Test.YtjkimmflngiijaaDoorMsgN
import Derived.Test.YtjkimmflngiijaaDoorRecL
namespace Go.Proofs.YtjkimmflngiijaaDoor
open Go.RowKit
set_option linter.unusedSimpArgs false
set_option linter.unusedVariables false
set_option maxRecDepth 10000
set_option synthInstance.maxSize 2000

set_option maxHeartbeats 1600000 in
theorem target_any (m : Mg) (w : World) : Calls Tryd.prog 38 #[.agg #[.int .i64 m.kind, .int .i64 m.frm, .int .i64 m.inc, .int .i64 m.lo, .int .i64 m.hi, .int .i64 m.seq, .int .i64 m.tgt, .int .i64 m.life, .int .i64 m.epoch, .int .i64 m.base, .slice m.p m.recs.length m.cap]] w fun e w' => e = .returned (.bool (mayP m 1)) ∧ Below w.heap.size w w' := by
  have HB := Hid.mk' (InM.start w m).below
  by_cases t : m.kind = 3
  · have C := fun X => mwithin_any m.tgt 1 3 X
    rw [show mayP m 1 = decide (1 ≤ m.tgt ∧ m.tgt ≤ 3) by simp [mayP, t]]
    generalize decide (1 ≤ m.tgt ∧ m.tgt ≤ 3) = b at C ⊢
    have t' : (m.kind == 3) = true := by simp [t]
    clear t
    go_enter Tryd.func38, Tryd.ntmps38
    go_wp2_with fail
    refine (C _).mono ?_
    rintro e w1 ⟨rfl, rfl⟩
    go_wp2_with fail
    go_ret
    exact ⟨rfl, HB.out⟩
  · have C := fun X => mwithin_any m.tgt 0 4095 X
    rw [show mayP m 1 = decide (0 ≤ m.tgt ∧ m.tgt ≤ 4095) by simp [mayP, t]]
    generalize decide (0 ≤ m.tgt ∧ m.tgt ≤ 4095) = b at C ⊢
    have t' : (m.kind == 3) = false := by simp [t]
    go_enter Tryd.func38, Tryd.ntmps38
    go_wp2_with fail
    refine (C _).mono ?_
    rintro e w1 ⟨rfl, rfl⟩
    go_wp2_with fail
    go_ret
    exact ⟨rfl, HB.out⟩

set_option maxHeartbeats 1600000 in
theorem life_any (m : Mg) (w : World) : Calls Tryd.prog 39 #[.agg #[.int .i64 m.kind, .int .i64 m.frm, .int .i64 m.inc, .int .i64 m.lo, .int .i64 m.hi, .int .i64 m.seq, .int .i64 m.tgt, .int .i64 m.life, .int .i64 m.epoch, .int .i64 m.base, .slice m.p m.recs.length m.cap]] w fun e w' => e = .returned (.bool (mayP m 2)) ∧ Below w.heap.size w w' := by
  have HB := Hid.mk' (InM.start w m).below
  by_cases t : m.epoch = 0
  · have HM := Hid.mk' (show mayP m 2 = (decide (m.life = 0) && decide (m.kind ≠ 9)) by simp [mayP, t])
    generalize mayP m 2 = q at HM ⊢
    have t' : (m.epoch == 0) = true := by simp [t]
    clear t
    have q0 : (m.life == 0) = decide (m.life = 0) := rfl
    have q1 : (m.kind != 9) = decide (m.kind ≠ 9) := by by_cases h : m.kind = 9 <;> simp [h]
    generalize decide (m.life = 0) = b0 at HM q0
    generalize decide (m.kind ≠ 9) = b1 at HM q1
    go_enter Tryd.func39, Tryd.ntmps39
    cases b0
    · go_wp2_with fail
      go_ret
      exact ⟨by rw [HM.out]; simp, HB.out⟩
    go_wp2_with fail
    go_ret
    exact ⟨by rw [HM.out]; simp, HB.out⟩
  · have HM := Hid.mk' (show mayP m 2 = (decide (0 ≤ m.life ∧ m.life ≤ 281474976710655) && decide (0 ≤ m.epoch ∧ m.epoch ≤ 65535)) by simp [mayP, t])
    generalize mayP m 2 = q at HM ⊢
    have C := fun X => mwithin_any m.life 0 281474976710655 X
    have D := fun X => mwithin_any m.epoch 0 65535 X
    have t' : (m.epoch == 0) = false := by simp [t]
    generalize decide (0 ≤ m.life ∧ m.life ≤ 281474976710655) = b0 at HM C
    generalize decide (0 ≤ m.epoch ∧ m.epoch ≤ 65535) = b1 at HM D
    go_enter Tryd.func39, Tryd.ntmps39
    go_wp2_with fail
    refine (C _).mono ?_
    rintro e w1 ⟨rfl, rfl⟩
    cases b0
    · go_wp2_with fail
      go_ret
      exact ⟨by rw [HM.out]; simp, HB.out⟩
    go_wp2_with fail
    refine (D _).mono ?_
    rintro e w1 ⟨rfl, rfl⟩
    go_wp2_with fail
    go_ret
    exact ⟨by rw [HM.out]; simp, HB.out⟩

set_option maxHeartbeats 4000000 in
theorem mayBe_any (m : Mg) (p : Int) (w : World) (hm : MOk w m) (hz : ∀ x ∈ m.recs, szK (kys x.bag) ≤ 4611686018427387904) (hp : 0 ≤ p ∧ p ≤ 4) :
    Calls Tryd.prog 32 #[.agg #[.int .i64 m.kind, .int .i64 m.frm, .int .i64 m.inc, .int .i64 m.lo, .int .i64 m.hi, .int .i64 m.seq, .int .i64 m.tgt, .int .i64 m.life, .int .i64 m.epoch, .int .i64 m.base, .slice m.p m.recs.length m.cap], .int .i64 p] w fun e w' => e = .returned (.bool (mayP m p)) ∧ Below w.heap.size w w' := by
  have HI := Hid.mk' (InM.start w m)
  have hp5 : p = 0 ∨ p = 1 ∨ p = 2 ∨ p = 3 ∨ p = 4 := by omega
  clear hp
  rcases hp5 with rfl | rfl | rfl | rfl | rfl
  · have C := fun X => mwithin_any m.seq 0 65535 X
    rw [show mayP m 0 = decide (0 ≤ m.seq ∧ m.seq ≤ 65535) by simp [mayP]]
    generalize decide (0 ≤ m.seq ∧ m.seq ≤ 65535) = b at C ⊢
    go_enter Tryd.func32, Tryd.ntmps32
    go_wp2_with fail
    refine (C _).mono ?_
    rintro e w1 ⟨rfl, rfl⟩
    go_wp2_with fail
    go_ret
    exact ⟨rfl, HI.out.below⟩
  · have C := fun X => target_any m X
    generalize mayP m 1 = b at C ⊢
    go_enter Tryd.func32, Tryd.ntmps32
    go_wp2_with fail
    refine (C _).mono ?_
    rintro e w1 ⟨rfl, hb⟩
    have HB := Hid.mk' (HI.out.on hb).below
    clear hb
    go_wp2_with fail
    go_ret
    exact ⟨rfl, HB.out⟩
  · have C := fun X => life_any m X
    generalize mayP m 2 = b at C ⊢
    go_enter Tryd.func32, Tryd.ntmps32
    go_wp2_with fail
    refine (C _).mono ?_
    rintro e w1 ⟨rfl, hb⟩
    have HB := Hid.mk' (HI.out.on hb).below
    clear hb
    go_wp2_with fail
    go_ret
    exact ⟨rfl, HB.out⟩
  · have HM := Hid.mk' (show mayP m 3 = decide (m.base = 0 ∨ 1 ≤ m.base ∧ m.base < m.epoch) by simp [mayP])
    generalize mayP m 3 = q at HM ⊢
    by_cases t0 : m.base = 0
    · have t0' : (m.base == 0) = true := by simp [t0]
      obtain rfl : q = true := by rw [HM.out]; simp [t0]
      clear HM t0
      go_enter Tryd.func32, Tryd.ntmps32
      go_wp2_with fail
      go_ret
      exact ⟨rfl, HI.out.below⟩
    have t0' : (m.base == 0) = false := by simp [t0]
    by_cases t1 : 1 ≤ m.base
    · by_cases t2 : m.base < m.epoch
      · obtain rfl : q = true := by rw [HM.out]; simp [t1, t2]
        clear HM
        go_enter Tryd.func32, Tryd.ntmps32
        go_wp2_with fail
        go_ret
        exact ⟨rfl, HI.out.below⟩
      · obtain rfl : q = false := by rw [HM.out]; simp; omega
        clear HM
        go_enter Tryd.func32, Tryd.ntmps32
        go_wp2_with fail
        go_ret
        exact ⟨rfl, HI.out.below⟩
    · obtain rfl : q = false := by rw [HM.out]; simp; omega
      clear HM
      go_enter Tryd.func32, Tryd.ntmps32
      go_wp2_with fail
      go_ret
      exact ⟨rfl, HI.out.below⟩
  · have HM := Hid.mk' (show mayP m 4 = (decide (m.recs.length ≤ 255) && sortR (-1) (rks m.recs)) by simp [mayP])
    generalize mayP m 4 = q at HM ⊢
    have C := fun X (h : InM w m X) => sorted_any m.p m.cap m.recs X (hm.rin.below h.below) hm.lenM hz
    generalize sortR (-1) (rks m.recs) = b at C HM
    clear hz hm
    by_cases t0 : m.recs.length ≤ 255
    · have HV := Hid.mk' (show q = b by rw [HM.out, decide_eq_true t0]; simp)
      clear HM
      go_enter Tryd.func32, Tryd.ntmps32
      go_wp2_with fail
      refine (C _ HI.out).mono ?_
      rintro e w1 ⟨rfl, hb⟩
      have HB := Hid.mk' (HI.out.on hb).below
      clear hb
      go_wp2_with fail
      go_ret
      exact ⟨by rw [HV.out]; rfl, HB.out⟩
    · obtain rfl : q = false := by rw [HM.out, decide_eq_false t0]; simp
      clear HM
      have t0' : ¬ (m.recs.length : Int) ≤ 255 := by omega
      go_enter Tryd.func32, Tryd.ntmps32
      go_wp2_with fail
      go_ret
      exact ⟨rfl, HI.out.below⟩

set_option maxHeartbeats 4000000 in
theorem isNone_any (m : Mg) (p : Int) (w : World) (hp : 0 ≤ p ∧ p ≤ 4) :
    Calls Tryd.prog 33 #[.agg #[.int .i64 m.kind, .int .i64 m.frm, .int .i64 m.inc, .int .i64 m.lo, .int .i64 m.hi, .int .i64 m.seq, .int .i64 m.tgt, .int .i64 m.life, .int .i64 m.epoch, .int .i64 m.base, .slice m.p m.recs.length m.cap], .int .i64 p] w fun e w' => e = .returned (.bool (noneP m p)) ∧ Below w.heap.size w w' := by
  have HB := Hid.mk' (InM.start w m).below
  have hp5 : p = 0 ∨ p = 1 ∨ p = 2 ∨ p = 3 ∨ p = 4 := by omega
  clear hp
  rcases hp5 with rfl | rfl | rfl | rfl | rfl
  · have HM := Hid.mk' (show noneP m 0 = (m.seq == 0) by simp only [noneP]; rfl)
    generalize noneP m 0 = q at HM ⊢
    go_enter Tryd.func33, Tryd.ntmps33
    go_wp2_with fail
    go_ret
    exact ⟨by rw [HM.out]; rfl, HB.out⟩
  · have HM := Hid.mk' (show noneP m 1 = (m.tgt == 0) by simp only [noneP]; rfl)
    generalize noneP m 1 = q at HM ⊢
    go_enter Tryd.func33, Tryd.ntmps33
    go_wp2_with fail
    go_ret
    exact ⟨by rw [HM.out]; rfl, HB.out⟩
  · have HM := Hid.mk' (show noneP m 2 = (decide (m.life = 0) && decide (m.epoch = 0)) by simp [noneP])
    generalize noneP m 2 = q at HM ⊢
    have q0 : (m.life == 0) = decide (m.life = 0) := rfl
    have q1 : (m.epoch == 0) = decide (m.epoch = 0) := rfl
    generalize decide (m.life = 0) = b0 at HM q0
    generalize decide (m.epoch = 0) = b1 at HM q1
    go_enter Tryd.func33, Tryd.ntmps33
    cases b0
    · go_wp2_with fail
      go_ret
      exact ⟨by rw [HM.out]; simp, HB.out⟩
    go_wp2_with fail
    go_ret
    exact ⟨by rw [HM.out]; simp, HB.out⟩
  · have HM := Hid.mk' (show noneP m 3 = (m.base == 0) by simp only [noneP]; rfl)
    generalize noneP m 3 = q at HM ⊢
    go_enter Tryd.func33, Tryd.ntmps33
    go_wp2_with fail
    go_ret
    exact ⟨by rw [HM.out]; rfl, HB.out⟩
  · have HM := Hid.mk' (show noneP m 4 = ((m.recs.length : Int) == 0) by
      simp only [noneP]; rw [Bool.eq_iff_iff]; simp)
    generalize noneP m 4 = q at HM ⊢
    go_enter Tryd.func33, Tryd.ntmps33
    go_wp2_with fail
    go_ret
    exact ⟨by rw [HM.out]; rfl, HB.out⟩

set_option maxHeartbeats 1600000 in
theorem sender_any (m : Mg) (w : World) : Calls Tryd.prog 23 #[.agg #[.int .i64 m.kind, .int .i64 m.frm, .int .i64 m.inc, .int .i64 m.lo, .int .i64 m.hi, .int .i64 m.seq, .int .i64 m.tgt, .int .i64 m.life, .int .i64 m.epoch, .int .i64 m.base, .slice m.p m.recs.length m.cap]] w
    fun e w' => e = .returned (.bool (decide (0 ≤ m.frm ∧ m.frm ≤ 4095) && decide (0 ≤ m.inc ∧ m.inc ≤ 281474976710655) && okS m.lo m.hi)) ∧ Below w.heap.size w w' := by
  have HI := Hid.mk' (InM.start w m).below
  have C := fun X => mwithin_any m.frm 0 4095 X
  have D := fun X => mwithin_any m.inc 0 281474976710655 X
  have E := fun X => okS_any m.lo m.hi X
  generalize decide (0 ≤ m.frm ∧ m.frm ≤ 4095) = b0 at C ⊢
  generalize decide (0 ≤ m.inc ∧ m.inc ≤ 281474976710655) = b1 at D ⊢
  generalize okS m.lo m.hi = b2 at E ⊢
  go_enter Tryd.func23, Tryd.ntmps23
  go_wp2_with fail
  refine (C _).mono ?_
  rintro e w1 ⟨rfl, rfl⟩
  cases b0
  · go_wp2_with fail
    go_ret
    exact ⟨by simp, HI.out⟩
  go_wp2_with fail
  refine (D _).mono ?_
  rintro e w1 ⟨rfl, rfl⟩
  cases b1
  · go_wp2_with fail
    go_ret
    exact ⟨by simp, HI.out⟩
  go_wp2_with fail
  refine (E _).mono ?_
  rintro e w1 ⟨rfl, rfl⟩
  go_wp2_with fail
  go_ret
  exact ⟨by simp, HI.out.alloc HI.out.size _⟩

theorem partsP_next (m : Mg) (k : Nat) (h : k < 5) : partsP m (5 - k) = (partP m k && partsP m (5 - (k + 1))) := by
  rw [show 5 - k = (5 - (k + 1)) + 1 by omega, partsP, show (4 : Int) - ((5 - (k + 1) : Nat) : Int) = (k : Int) by omega]

set_option maxHeartbeats 4000000 in
theorem parts_any (m : Mg) (w : World) (hm : MOk w m) (hz : ∀ x ∈ m.recs, szK (kys x.bag) ≤ 4611686018427387904) (hK : Kd w) (hk : 1 ≤ m.kind ∧ m.kind ≤ 9) :
    Calls Tryd.prog 24 #[.agg #[.int .i64 m.kind, .int .i64 m.frm, .int .i64 m.inc, .int .i64 m.lo, .int .i64 m.hi, .int .i64 m.seq, .int .i64 m.tgt, .int .i64 m.life, .int .i64 m.epoch, .int .i64 m.base, .slice m.p m.recs.length m.cap]] w fun e w' => e = .returned (.bool (partsP m 5)) ∧ Below w.heap.size w w' := by
  obtain ⟨r, hr⟩ : ∃ r, partsP m 5 = r := ⟨_, rfl⟩
  rw [hr]
  have HT := Hid.mk' hr.symm
  clear hr
  have HI := Hid.mk' (InM.start w m)
  have Q := fun (k : Nat) (h : k < 5) (X : World) (hb : Below w.heap.size w X) => hasM_kind (p := (k : Int)) hk (show 0 ≤ (k : Int) ∧ (k : Int) ≤ 4 by omega) ▸ mhas_any m.kind k X (hK.below hb)
  have V := fun (k : Nat) (h : k < 5) (X : World) (hb : Below w.heap.size w X) => mayBe_any m k X (hm.below hb) hz (show 0 ≤ (k : Int) ∧ (k : Int) ≤ 4 by omega)
  have Z := fun (k : Nat) (h : k < 5) (X : World) => isNone_any m k X (show 0 ≤ (k : Int) ∧ (k : Int) ≤ 4 by omega)
  clear hm hz hK hk
  go_enter Tryd.func24, Tryd.ntmps24
  go_wp2_with fail
  go_loopw [3] (fun i W => ∃ k : Nat, k ≤ 5 ∧ i = .int .i64 k ∧ Hid (r = partsP m (5 - k)) ∧ Hid (InM w m W)) (fun i _ => 5 - (intOf i).toNat)
  case atStart => exact ⟨0, by omega, rfl, HT, HI⟩
  case round =>
    obtain ⟨k, hk, rfl, HR, HI0⟩ := hrel
    clear HI HT
    have S := fun X => isPart_any (k : Int) X
    by_cases t : k < 5
    · rw [decide_eq_true (show 0 ≤ (k : Int) ∧ (k : Int) ≤ 4 by omega)] at S
      have H1 := Q k t
      have V1 := V k t
      have Z1 := Z k t
      have HR' := Hid.mk' (show r = ((if hasB m.kind k = true then mayP m k else noneP m k) && partsP m (5 - (k + 1))) by rw [HR.out, partsP_next m k t]; rfl)
      generalize hasB m.kind k = hb at H1 HR'
      generalize mayP m k = mb at V1 HR'
      generalize noneP m k = nb at Z1 HR'
      clear HR Q V Z
      obtain ⟨c0, c1, c2, c3, c4, c5, c6, c7, c8, c9, c10⟩ := mbox_cells HI0.out.box
      go_wp2_with fail
      refine (S _).mono ?_
      rintro e w1 ⟨rfl, rfl⟩
      go_wp2_with fail
      refine (H1 _ HI0.out.below).mono ?_
      rintro e w1 ⟨rfl, rfl⟩
      cases hb
      · go_wp2_with fail
        refine (H1 _ HI0.out.below).mono ?_
        rintro e w1 ⟨rfl, rfl⟩
        go_wp2_with fail
        refine (Z1 _).mono ?_
        rintro e w2 ⟨rfl, hb2⟩
        have HI2 := Hid.mk' (HI0.out.on hb2)
        clear hb2 HI0 c0 c1 c2 c3 c4 c5 c6 c7 c8 c9 c10
        cases nb
        · obtain rfl : r = false := by rw [HR'.out]; simp
          go_wp2_with fail
          try rw [Exit.noGoto_ret]
          go_ret
          exact ⟨rfl, HI2.out.below⟩
        · have HV := Hid.mk' (show r = partsP m (5 - (k + 1)) by rw [HR'.out]; simp)
          go_wp2_with fail
          go_roundw
          case rel => exact ⟨k + 1, by omega, by go_num, HV, HI2⟩
          case measure => simp [intOf]; omega
      · go_wp2_with fail
        refine (V1 _ HI0.out.below).mono ?_
        rintro e w2 ⟨rfl, hb2⟩
        have HI2 := Hid.mk' (HI0.out.on hb2)
        clear hb2 HI0 c0 c1 c2 c3 c4 c5 c6 c7 c8 c9 c10
        cases mb
        · obtain rfl : r = false := by rw [HR'.out]; simp
          go_wp2_with fail
          try rw [Exit.noGoto_ret]
          go_ret
          exact ⟨rfl, HI2.out.below⟩
        · have HV := Hid.mk' (show r = partsP m (5 - (k + 1)) by rw [HR'.out]; simp)
          obtain ⟨c0, _, _, _, _, _, _, _, _, _, _⟩ := mbox_cells HI2.out.box
          go_wp2_with fail
          refine (H1 _ HI2.out.below).mono ?_
          rintro e w3 ⟨rfl, rfl⟩
          go_wp2_with fail
          go_roundw
          case rel => exact ⟨k + 1, by omega, by go_num, HV, HI2⟩
          case measure => simp [intOf]; omega
    · obtain rfl : k = 5 := by omega
      obtain rfl : r = true := by rw [HR.out]; rfl
      rw [decide_eq_false (show ¬ (0 ≤ ((5 : Nat) : Int) ∧ ((5 : Nat) : Int) ≤ 4) by omega)] at S
      go_wp2_with fail
      refine (S _).mono ?_
      rintro e w1 ⟨rfl, rfl⟩
      go_wp2_with fail
      go_ret
      exact ⟨rfl, HI0.out.below⟩

set_option maxHeartbeats 1600000 in
theorem mvalid_any (m : Mg) (w : World) (hm : MOk w m) (hz : ∀ x ∈ m.recs, szK (kys x.bag) ≤ 4611686018427387904) (hK : Kd w) :
    Calls Tryd.prog 15 #[.agg #[.int .i64 m.kind, .int .i64 m.frm, .int .i64 m.inc, .int .i64 m.lo, .int .i64 m.hi, .int .i64 m.seq, .int .i64 m.tgt, .int .i64 m.life, .int .i64 m.epoch, .int .i64 m.base, .slice m.p m.recs.length m.cap]] w fun e w' => e = .returned (.bool (mayM m)) ∧ Below w.heap.size w w' := by
  have HM := Hid.mk' (show mayM m = (decide (1 ≤ m.kind ∧ m.kind ≤ 9) && (decide (0 ≤ m.frm ∧ m.frm ≤ 4095) && decide (0 ≤ m.inc ∧ m.inc ≤ 281474976710655) && okS m.lo m.hi) && partsP m 5) from rfl)
  generalize mayM m = q at HM ⊢
  have HI := Hid.mk' (InM.start w m)
  have C := fun X => isKind_any m.kind X
  have D := fun X => sender_any m X
  generalize (decide (0 ≤ m.frm ∧ m.frm ≤ 4095) && decide (0 ≤ m.inc ∧ m.inc ≤ 281474976710655) && okS m.lo m.hi) = b1 at D HM
  have E := fun (hk : 1 ≤ m.kind ∧ m.kind ≤ 9) X (h : InM w m X) => parts_any m X (hm.below h.below) hz (hK.below h.below) hk
  generalize partsP m 5 = b2 at E HM
  clear hm hz hK
  by_cases t : 1 ≤ m.kind ∧ m.kind ≤ 9
  · rw [decide_eq_true t] at C HM
    have E1 := E t
    clear E t
    go_enter Tryd.func15, Tryd.ntmps15
    go_wp2_with fail
    refine (C _).mono ?_
    rintro e w1 ⟨rfl, rfl⟩
    go_wp2_with fail
    refine (D _).mono ?_
    rintro e w2 ⟨rfl, hb2⟩
    have HI2 := Hid.mk' (HI.out.on hb2)
    clear hb2 HI
    cases b1
    · go_wp2_with fail
      go_ret
      exact ⟨by rw [HM.out]; simp, HI2.out.below⟩
    obtain ⟨c0, c1, c2, c3, c4, c5, c6, c7, c8, c9, c10⟩ := mbox_cells HI2.out.box
    go_wp2_with fail
    refine (E1 _ HI2.out).mono ?_
    rintro e w3 ⟨rfl, hb3⟩
    have HI3 := Hid.mk' (HI2.out.on hb3)
    clear hb3 HI2 c0 c1 c2 c3 c4 c5 c6 c7 c8 c9 c10
    go_wp2_with fail
    go_ret
    exact ⟨by rw [HM.out]; simp, HI3.out.below⟩
  · rw [decide_eq_false t] at C HM
    go_enter Tryd.func15, Tryd.ntmps15
    go_wp2_with fail
    refine (C _).mono ?_
    rintro e w1 ⟨rfl, rfl⟩
    go_wp2_with fail
    go_ret
    exact ⟨by rw [HM.out]; simp, HI.out.below⟩

set_option maxHeartbeats 1600000 in
theorem sameSender_any (a b : Mg) (w : World) : Calls Tryd.prog 28 #[.agg #[.int .i64 a.kind, .int .i64 a.frm, .int .i64 a.inc, .int .i64 a.lo, .int .i64 a.hi, .int .i64 a.seq, .int .i64 a.tgt, .int .i64 a.life, .int .i64 a.epoch, .int .i64 a.base, .slice a.p a.recs.length a.cap], .agg #[.int .i64 b.kind, .int .i64 b.frm, .int .i64 b.inc, .int .i64 b.lo, .int .i64 b.hi, .int .i64 b.seq, .int .i64 b.tgt, .int .i64 b.life, .int .i64 b.epoch, .int .i64 b.base, .slice b.p b.recs.length b.cap]] w fun e w' => e = .returned (.bool (sender a b)) ∧ Below w.heap.size w w' := by
  have HM := Hid.mk' (show sender a b = (decide (a.kind = b.kind) && decide (a.frm = b.frm) && decide (a.inc = b.inc) && (decide (a.lo = b.lo) && decide (a.hi = b.hi))) from rfl)
  have HB := Hid.mk' (InM2.start w a b).below
  have q0 : (a.kind == b.kind) = decide (a.kind = b.kind) := rfl
  have q1 : (a.frm == b.frm) = decide (a.frm = b.frm) := rfl
  have q2 : (a.inc == b.inc) = decide (a.inc = b.inc) := rfl
  have q3 : (a.lo == b.lo) = decide (a.lo = b.lo) := rfl
  have q4 : (a.hi == b.hi) = decide (a.hi = b.hi) := rfl
  generalize sender a b = q at HM ⊢
  generalize decide (a.kind = b.kind) = b0 at HM q0
  generalize decide (a.frm = b.frm) = b1 at HM q1
  generalize decide (a.inc = b.inc) = b2 at HM q2
  generalize decide (a.lo = b.lo) = b3 at HM q3
  generalize decide (a.hi = b.hi) = b4 at HM q4
  go_enter Tryd.func28, Tryd.ntmps28
  cases b0
  · go_wp2_with fail
    go_ret
    exact ⟨by rw [HM.out]; simp, HB.out⟩
  cases b1
  · go_wp2_with fail
    go_ret
    exact ⟨by rw [HM.out]; simp, HB.out⟩
  cases b2
  · go_wp2_with fail
    go_ret
    exact ⟨by rw [HM.out]; simp, HB.out⟩
  cases b3
  · go_wp2_with fail
    go_ret
    exact ⟨by rw [HM.out]; simp, HB.out⟩
  cases b4
  · go_wp2_with fail
    go_ret
    exact ⟨by rw [HM.out]; simp, HB.out⟩
  go_wp2_with fail
  go_ret
  exact ⟨by rw [HM.out]; simp, HB.out⟩

set_option maxHeartbeats 1600000 in
theorem sameNumbers_any (a b : Mg) (w : World) : Calls Tryd.prog 29 #[.agg #[.int .i64 a.kind, .int .i64 a.frm, .int .i64 a.inc, .int .i64 a.lo, .int .i64 a.hi, .int .i64 a.seq, .int .i64 a.tgt, .int .i64 a.life, .int .i64 a.epoch, .int .i64 a.base, .slice a.p a.recs.length a.cap], .agg #[.int .i64 b.kind, .int .i64 b.frm, .int .i64 b.inc, .int .i64 b.lo, .int .i64 b.hi, .int .i64 b.seq, .int .i64 b.tgt, .int .i64 b.life, .int .i64 b.epoch, .int .i64 b.base, .slice b.p b.recs.length b.cap]] w fun e w' => e = .returned (.bool (numbers a b)) ∧ Below w.heap.size w w' := by
  have HM := Hid.mk' (show numbers a b = (decide (a.seq = b.seq) && decide (a.tgt = b.tgt) && decide (a.life = b.life) && decide (a.epoch = b.epoch) && decide (a.base = b.base)) from rfl)
  have HB := Hid.mk' (InM2.start w a b).below
  have q0 : (a.seq == b.seq) = decide (a.seq = b.seq) := rfl
  have q1 : (a.tgt == b.tgt) = decide (a.tgt = b.tgt) := rfl
  have q2 : (a.life == b.life) = decide (a.life = b.life) := rfl
  have q3 : (a.epoch == b.epoch) = decide (a.epoch = b.epoch) := rfl
  have q4 : (a.base == b.base) = decide (a.base = b.base) := rfl
  generalize numbers a b = q at HM ⊢
  generalize decide (a.seq = b.seq) = b0 at HM q0
  generalize decide (a.tgt = b.tgt) = b1 at HM q1
  generalize decide (a.life = b.life) = b2 at HM q2
  generalize decide (a.epoch = b.epoch) = b3 at HM q3
  generalize decide (a.base = b.base) = b4 at HM q4
  go_enter Tryd.func29, Tryd.ntmps29
  cases b0
  · go_wp2_with fail
    go_ret
    exact ⟨by rw [HM.out]; simp, HB.out⟩
  cases b1
  · go_wp2_with fail
    go_ret
    exact ⟨by rw [HM.out]; simp, HB.out⟩
  cases b2
  · go_wp2_with fail
    go_ret
    exact ⟨by rw [HM.out]; simp, HB.out⟩
  cases b3
  · go_wp2_with fail
    go_ret
    exact ⟨by rw [HM.out]; simp, HB.out⟩
  go_wp2_with fail
  go_ret
  exact ⟨by rw [HM.out]; simp, HB.out⟩

set_option maxHeartbeats 1600000 in
theorem msame_any (a b : Mg) (w : World) (ha : MOk w a) (hb : MOk w b) : Calls Tryd.prog 18 #[.agg #[.int .i64 a.kind, .int .i64 a.frm, .int .i64 a.inc, .int .i64 a.lo, .int .i64 a.hi, .int .i64 a.seq, .int .i64 a.tgt, .int .i64 a.life, .int .i64 a.epoch, .int .i64 a.base, .slice a.p a.recs.length a.cap], .agg #[.int .i64 b.kind, .int .i64 b.frm, .int .i64 b.inc, .int .i64 b.lo, .int .i64 b.hi, .int .i64 b.seq, .int .i64 b.tgt, .int .i64 b.life, .int .i64 b.epoch, .int .i64 b.base, .slice b.p b.recs.length b.cap]] w fun e w' => e = .returned (.bool (sameM a b)) ∧ Below w.heap.size w w' := by
  have HM := Hid.mk' (show sameM a b = (sender a b && numbers a b && decide (rks a.recs = rks b.recs)) from rfl)
  have HI := Hid.mk' (InM2.start w a b)
  have C := fun X => sameSender_any a b X
  have D := fun X => sameNumbers_any a b X
  have E := fun X (h : InM2 w a b X) => requal_any a.p b.p a.cap b.cap a.recs b.recs X (ha.rin.below h.below) (hb.rin.below h.below) ha.lenM hb.lenM
  generalize sameM a b = q at HM ⊢
  generalize sender a b = b0 at HM C
  generalize numbers a b = b1 at HM D
  generalize decide (rks a.recs = rks b.recs) = b2 at HM E
  clear ha hb
  go_enter Tryd.func18, Tryd.ntmps18
  go_wp2_with fail
  refine (C _).mono ?_
  rintro e w1 ⟨rfl, hb1⟩
  have HI1 := Hid.mk' (HI.out.on hb1)
  clear hb1 HI
  cases b0
  · go_wp2_with fail
    go_ret
    exact ⟨by rw [HM.out]; simp, HI1.out.below⟩
  obtain ⟨c0, c1, c2, c3, c4, c5, c6, c7, c8, c9, c10⟩ := mbox_cells HI1.out.ba
  obtain ⟨d0, d1, d2, d3, d4, d5, d6, d7, d8, d9, d10⟩ := mbox_cells HI1.out.bb
  go_wp2_with fail
  refine (D _).mono ?_
  rintro e w2 ⟨rfl, hb2⟩
  have HI2 := Hid.mk' (HI1.out.on hb2)
  clear hb2 HI1 c0 c1 c2 c3 c4 c5 c6 c7 c8 c9 c10 d0 d1 d2 d3 d4 d5 d6 d7 d8 d9 d10
  cases b1
  · go_wp2_with fail
    go_ret
    exact ⟨by rw [HM.out]; simp, HI2.out.below⟩
  obtain ⟨_, _, _, _, _, _, _, _, _, _, c10⟩ := mbox_cells HI2.out.ba
  obtain ⟨_, _, _, _, _, _, _, _, _, _, d10⟩ := mbox_cells HI2.out.bb
  go_wp2_with fail
  refine (E _ HI2.out).mono ?_
  rintro e w3 ⟨rfl, hb3⟩
  have HI3 := Hid.mk' (HI2.out.on hb3)
  clear hb3 HI2
  go_wp2_with fail
  go_ret
  exact ⟨by rw [HM.out]; simp, HI3.out.below⟩

/-- A message without its records. -/
def headM (m : Mg) : Mg := ⟨m.kind, m.frm, m.inc, m.lo, m.hi, m.seq, m.tgt, m.life, m.epoch, m.base, none, 0, []⟩
theorem headM_ok {w w' : World} {m : Mg} (h : MOk w m) : MOk w' (headM m) := ⟨h.kind, h.frm, h.inc, h.lo, h.hi, h.seq, h.tgt, h.life, h.epoch, h.base, Nat.le_refl _, by simp [headM, maxLen], fun _ => rfl, RIn.empty _ _⟩

set_option maxHeartbeats 1600000 in
theorem mhead_any (m : Mg) (w : World) : Calls Tryd.prog 14 #[.agg #[.int .i64 m.kind, .int .i64 m.frm, .int .i64 m.inc, .int .i64 m.lo, .int .i64 m.hi, .int .i64 m.seq, .int .i64 m.tgt, .int .i64 m.life, .int .i64 m.epoch, .int .i64 m.base, .slice m.p m.recs.length m.cap]] w fun e w' => e = .returned (.agg #[.int .i64 m.kind, .int .i64 m.frm, .int .i64 m.inc, .int .i64 m.lo, .int .i64 m.hi, .int .i64 m.seq, .int .i64 m.tgt, .int .i64 m.life, .int .i64 m.epoch, .int .i64 m.base, .slice none 0 0]) ∧ Below w.heap.size w w' := by
  have HB := Hid.mk' (((Below.refl w.heap.size w).alloc (Nat.le_refl _) (.cells #[.int .i64 m.kind, .int .i64 m.frm, .int .i64 m.inc, .int .i64 m.lo, .int .i64 m.hi, .int .i64 m.seq, .int .i64 m.tgt, .int .i64 m.life, .int .i64 m.epoch, .int .i64 m.base, .slice none 0 0] 36)).alloc (by simp) (.cells #[.int .i64 m.kind, .int .i64 m.frm, .int .i64 m.inc, .int .i64 m.lo, .int .i64 m.hi, .int .i64 m.seq, .int .i64 m.tgt, .int .i64 m.life, .int .i64 m.epoch, .int .i64 m.base, .slice none 0 0] 36))
  go_enter Tryd.func14, Tryd.ntmps14
  go_wp2_with fail
  exact bodyPost_ret (v := .agg #[.int .i64 m.kind, .int .i64 m.frm, .int .i64 m.inc, .int .i64 m.lo, .int .i64 m.hi, .int .i64 m.seq, .int .i64 m.tgt, .int .i64 m.life, .int .i64 m.epoch, .int .i64 m.base, .slice none 0 0]) (by simp [results, Tryd.results14, go_sem]) rfl ⟨rfl, HB.out⟩
end Go.Proofs.YtjkimmflngiijaaDoor
