/-
  Proved: the statement on layer 12's 'the item of any number, and the number of any item' (TlvNums) returns true at every input, and leaves its arguments as they were. No condition.
-/
import Derived.Test.YtflllegengomnaaRows
import Derived.Test.YtflllegengomnaaLaw12A
import Derived.ShutString
import Derived.ChangeOld
namespace Go.Proofs.Ytflllegengomnaa.tlvNums
open Go.ChangeShapes Go.WideShapes Go.ChangeAt Go.RowKit
open Go.ChangeMaps (open_string shut_string)
set_option linter.unusedVariables false
set_option linter.unusedSimpArgs false
set_option maxRecDepth 10000

theorem pow_small (j : Nat) (h : j ≤ 7) : (0 : Int) < 256 ^ j ∧ (256 : Int) ^ j ≤ 72057594037927936 := by
  refine ⟨pow_pos j, ?_⟩
  have : j = 0 ∨ j = 1 ∨ j = 2 ∨ j = 3 ∨ j = 4 ∨ j = 5 ∨ j = 6 ∨ j = 7 := by omega
  rcases this with rfl | rfl | rfl | rfl | rfl | rfl | rfl | rfl <;> decide
theorem pow_next (j : Nat) (h : j < 7) : IntKind.i64.wrap ((256 : Int) ^ j * 256) = 256 ^ (j + 1) := by
  have h1 := pow_small j (by omega)
  have h2 := pow_small (j + 1) (by omega)
  rw [Int.pow_succ] at h2 ⊢
  rw [IntKind.wrap_i64]
  omega

/-- May it not be a number of n bytes? -/
def badN (n v : Int) : Bool := decide (n < 1) || decide (7 < n) || decide (v < 0) || decide (256 ^ n.toNat ≤ v)

set_option maxHeartbeats 8000000 in
theorem walk (a0 a1 a2 : Int) (a3 : Fd) (a4 : Int) (w : World) (w0 : (Lit.int .i64 a0).wf = true) (w1 : (Lit.int .i64 a1).wf = true) (w2 : (Lit.int .i64 a2).wf = true) (w3 : FOk w a3) (w4 : (Lit.int .i64 a4).wf = true) :
    Calls Try.prog 6 #[.int .i64 a0, .int .i64 a1, .int .i64 a2, .agg #[.int .i64 a3.tag, .slice a3.p a3.d.length a3.cap], .int .i64 a4] w fun e w' => e = .returned (.bool true) ∧ Below w.heap.size w w' := by
  have AW := fun X => awake12_any X
  have HI := Hid.mk' (InBF.start w a3)
  by_cases t1 : 400 < (a3.d.length : Int)
  · go_enter Try.func6, Try.ntmps6
    clear w0 w1 w2 w4
    go_wp2_with (go_at_call 8; refine (AW _).mono ?_; rintro e w' ⟨rfl, hb⟩)
    go_ret
    exact ⟨rfl, HI.out.below.trans (hb.mono HI.out.below.size)⟩
  have h1 := bounds_i64 w1
  have h2 := bounds_i64 w2
  have h4 := bounds_i64 w4
  have NM := fun X => tnum_any a0 a1 a2 X w0 w1 w2
  have HD := Hid.mk' (show a3.d.length ≤ 400 by omega)
  have HF := Hid.mk' w3
  have HW1 := Hid.mk' w1
  have HW4 := Hid.mk' w4
  have d1 : decide (400 < (a3.d.length : Int)) = false := decide_eq_false t1
  clear t1 w0 w1 w2 w3 w4
  go_enter Try.func6, Try.ntmps6
  go_wp2_with fail
  generalize w.alloc (.cells #[.int .i64 a3.tag, .slice a3.p a3.d.length a3.cap] 30) = x0 at HI ⊢
  refine (NM x0).mono ?_
  clear NM
  rintro e x1 ⟨p, c, rfl, hok, _, hb1⟩
  have hbox := box_bel HI.out.box hb1
  have hba := (Below.refl x1.heap.size x1).alloc (Nat.le_refl _) (.cells #[.int .i64 a0, .slice p (numD a1 a2).length c] 30)
  have HBX := Hid.mk' (box_bel hbox hba)
  have HOK := Hid.mk' (hok.below hba)
  have HXN := Hid.mk' (heap_alloc_new x1 (.cells #[.int .i64 a0, .slice p (numD a1 a2).length c] 30))
  have HB1 := Hid.mk' ((HI.out.below.trans (hb1.mono HI.out.below.size)).trans (hba.mono (Nat.le_trans HI.out.below.size hb1.size)))
  clear hok hb1 hbox hba HI
  go_wp2_with fail
  generalize x1.alloc (.cells #[.int .i64 a0, .slice p (numD a1 a2).length c] 30) = x2 at HBX HOK HXN HB1 ⊢
  generalize x1.heap.size = g at HXN ⊢
  go_loop [12, 13] (fun v i => ∃ j : Nat, j ≤ 7 ∧ i = .int .i64 j ∧ v = .int .i64 (256 ^ j) ∧ Hid ((j : Int) ≤ a1 ∨ j = 0)) (fun _ i => 7 - (intOf i).toNat)
  case atStart => exact ⟨0, by omega, rfl, rfl, .inr rfl⟩
  case round =>
    obtain ⟨j, hj, rfl, rfl, HJ⟩ := hrel
    by_cases t : (j : Int) < a1 ∧ j < 7
    · obtain ⟨t, t2⟩ := t
      have t2' : (j : Int) < 7 := by omega
      have hps := pow_small j hj
      have hps2 := pow6 j (by omega)
      have HPN := Hid.mk' (show (256 : Int) ^ j * 256 = 256 ^ (j + 1) from (Int.pow_succ _ _).symm)
      generalize (256 : Int) ^ j = y at hps hps2 HPN ⊢
      go_wp2
      go_round
      case rel => exact ⟨j + 1, by omega, by go_num, by rw [HPN.out], .inl (by omega)⟩
      case measure => simp [intOf]; omega
    · have HBN := Hid.mk' (show badN a1 a2 = (decide (a1 < 1) || decide (7 < a1) || decide (a2 < 0) || decide ((256 : Int) ^ j ≤ a2)) by
        unfold badN
        by_cases q1 : a1 < 1
        · simp [q1]
        · by_cases q2 : 7 < a1
          · simp [q2]
          · have : a1.toNat = j := by rcases HJ.out with h | h <;> omega
            rw [this])
      have hps := pow_small j hj
      obtain ⟨y, hy⟩ : ∃ y, (256 : Int) ^ j = y := ⟨_, rfl⟩
      rw [hy] at HBN hps ⊢
      obtain ⟨bn, hbn⟩ : ∃ bn, badN a1 a2 = bn := ⟨_, rfl⟩
      rw [hbn] at HBN
      have HBB := Hid.mk' hbn
      obtain ⟨c0, c1, _⟩ := two_cells HXN.out
      have dd : (a0 != a0) = false := by simp
      have HYY := Hid.mk' hy
      clear hy hps
      by_cases q : (j : Int) < a1
      · have q7 : ¬ (j : Int) < 7 := by omega
        clear t
        go_upto_region 11 with fail
        go_cut [58] (fun t wx => t = .bool bn ∧ x2 = wx)
        case first =>
          by_cases q1 : a1 < 1
          · obtain rfl : bn = true := by rw [HBN.out]; simp [q1]
            go_wp2_with fail
            go_meet
            exact ⟨rfl, rfl⟩
          by_cases q2 : 7 < a1
          · obtain rfl : bn = true := by rw [HBN.out]; simp [q2]
            go_wp2_with fail
            go_meet
            exact ⟨rfl, rfl⟩
          by_cases q3 : a2 < 0
          · obtain rfl : bn = true := by rw [HBN.out]; simp [q3]
            go_wp2_with fail
            go_meet
            exact ⟨rfl, rfl⟩
          · obtain ⟨z, hz⟩ : ∃ z, decide (y ≤ a2) = z := ⟨_, rfl⟩
            obtain rfl : bn = z := by rw [HBN.out, hz]; simp [q1, q2, q3]
            go_wp2_with fail
            go_meet
            exact ⟨rfl, rfl⟩
        case rest =>
        obtain ⟨rfl, rfl⟩ := hcut
        cases bn
        · have hg := HBB.out
          simp only [badN, Bool.or_eq_false_iff, decide_eq_false_iff_not] at hg
          obtain ⟨⟨⟨g1, g2⟩, g3⟩, g4⟩ := hg
          obtain ⟨k, rfl⟩ := Int.eq_ofNat_of_zero_le (show 0 ≤ a1 by omega)
          rw [Int.toNat_natCast] at g4
          have hdd := numD_yes (n := k) (v := a2) (by omega) (by omega) (by omega) (by omega)
          have VX := tvalue_any ⟨a0, p, c, numD k a2⟩ k x2 HOK.out HW1.out
          have hvk : valK (numD k a2) k = (a2, true) := by
            rw [hdd]
            unfold valK
            rw [if_pos ⟨⟨by omega, by omega⟩, by rw [digB_len]⟩, num_digs k a2 (by omega) (by omega)]
          simp only [hvk] at VX
          rw [hdd, digB_len] at VX
          rw [hdd, digB_len] at c1
          have dk : ((k : Int) != (k : Int)) = false := by simp
          have d2 : (a2 != a2) = false := by simp
          have HXN2 : Hid (x2.heap[g]? = some (.cells #[.int .i64 a0, .slice p k c] 30 (0, 0))) := by
            have h := HXN.out
            rw [hdd, digB_len] at h
            exact h
          clear HBB HBN hvk hdd g1 g2 g3 g4 HOK HXN
          go_wp2_with fail
          refine VX.mono ?_
          clear VX
          rintro e x3 ⟨rfl, hb3⟩
          have HBX3 := Hid.mk' (box_bel HBX.out hb3)
          have HB3 := Hid.mk' (HB1.out.trans (hb3.mono HB1.out.size))
          obtain ⟨c0, c1, _⟩ := two_cells (box_bel HXN2.out hb3)
          clear hb3 HBX HB1 HXN2
          obtain ⟨e0, e1, _⟩ := two_cells HBX3.out
          have VF := tvalue_any a3 a4 x3 (HF.out.below HB3.out) HW4.out
          obtain ⟨r1, hr1⟩ : ∃ r, (valK a3.d a4).1 = r := ⟨_, rfl⟩
          obtain ⟨r2, hr2⟩ : ∃ r, (valK a3.d a4).2 = r := ⟨_, rfl⟩
          rw [hr1, hr2] at VF
          have HV := Hid.mk' (show valK a3.d a4 = (r1, r2) by rw [← hr1, ← hr2])
          clear hr1 hr2
          go_wp2_with fail
          refine VF.mono ?_
          clear VF e0 e1
          rintro e x5 ⟨rfl, hb5⟩
          have HBX5 := Hid.mk' (box_bel HBX3.out hb5)
          have HB5 := Hid.mk' (HB3.out.trans (hb5.mono HB3.out.size))
          obtain ⟨e0, e1, _⟩ := two_cells HBX5.out
          obtain ⟨bm, hbm⟩ : ∃ bm, (decide (a4 < 1) || decide (7 < a4) || ((a3.d.length : Int) != a4)) = bm := ⟨_, rfl⟩
          have HBM := Hid.mk' hbm
          clear hb5 hbm HB3 HBX3
          go_upto_region 18 with fail
          go_cut [101] (fun t wx => t = .bool bm ∧ x5 = wx)
          case first =>
            by_cases q1 : a4 < 1
            · obtain rfl : bm = true := by rw [← HBM.out]; simp [q1]
              go_wp2_with fail
              go_meet
              exact ⟨rfl, rfl⟩
            by_cases q2 : 7 < a4
            · obtain rfl : bm = true := by rw [← HBM.out]; simp [q2]
              go_wp2_with fail
              go_meet
              exact ⟨rfl, rfl⟩
            · obtain ⟨z, hz⟩ : ∃ z, ((a3.d.length : Int) != a4) = z := ⟨_, rfl⟩
              obtain rfl : bm = z := by rw [← HBM.out, hz]; simp [q1, q2]
              go_wp2_with fail
              go_meet
              exact ⟨rfl, rfl⟩
          case rest =>
          obtain ⟨rfl, rfl⟩ := hcut
          cases bm
          · have hm := HBM.out
            simp only [Bool.or_eq_false_iff, decide_eq_false_iff_not, bne_eq_false_iff_eq] at hm
            obtain ⟨⟨hm1, hm2⟩, hm3⟩ := hm
            obtain ⟨m, rfl⟩ := Int.eq_ofNat_of_zero_le (show 0 ≤ a4 by omega)
            have hmn : a3.d.length = m := by omega
            have hvv := HV.out
            unfold valK at hvv
            rw [if_pos ⟨⟨by omega, by omega⟩, hm3⟩] at hvv
            obtain ⟨rfl, rfl⟩ : numB a3.d = r1 ∧ true = r2 := by simpa using hvv
            have HMN := Hid.mk' hmn
            have HM7 := Hid.mk' (show m ≤ 7 by omega)
            have HIB := Hid.mk' HF.out.isb
            have HBN5 := Hid.mk' (HF.out.below HB5.out).bin
            clear HBM hvv HV hm1 hm2 hm3 hmn
            go_wp2_with fail
            go_loop [18, 19] (fun v i => ∃ j : Nat, j ≤ m ∧ i = .int .i64 j ∧ v = .int .i64 (numB (a3.d.take j))) (fun _ i => m - (intOf i).toNat)
            case atStart => exact ⟨0, by omega, rfl, by simp [numB]⟩
            case round =>
              obtain ⟨j, hj, rfl, rfl⟩ := hrel
              by_cases t : j < m
              · have hjl : j < a3.d.length := by have := HMN.out; omega
                obtain ⟨b, o, hbo, hcs⟩ := HBN5.out (by omega)
                have hcj := hcs j hjl
                have hxr := HIB.out.getD j
                have HNX := Hid.mk' (numB_take a3.d j hjl)
                have hns := numB_small a3.d HIB.out j (by have := HM7.out; omega)
                rw [hbo] at e1
                generalize a3.d.getD j 0 = xj at hcj hxr HNX
                obtain ⟨y, hy⟩ : ∃ y, numB (a3.d.take j) = y := ⟨_, rfl⟩
                rw [hy] at HNX hns ⊢
                have u1 : IntKind.i64.wrap (y * 256) = y * 256 := by rw [IntKind.wrap_i64]; omega
                have u2 : IntKind.i64.wrap (y * 256 + xj) = y * 256 + xj := by rw [IntKind.wrap_i64]; omega
                have u3 : IntKind.i64.wrap xj = xj := by rw [IntKind.wrap_i64]; omega
                have hjl' : (j : Int) < a3.d.length := by omega
                clear hcs hy
                go_wp2
                go_round
                case rel => exact ⟨j + 1, by omega, by go_num, by rw [HNX.out]⟩
                case measure => simp [intOf]; omega
              · obtain rfl : j = m := by omega
                rw [List.take_of_length_le (by have := HMN.out; omega)]
                have AWx := AW x5
                go_wp2_with (go_at_call 8; refine AWx.mono ?_; rintro e w' ⟨rfl, hb⟩)
                go_ret
                exact ⟨rfl, HB5.out.trans (hb.mono HB5.out.size)⟩
          · have hvv := HV.out
            unfold valK at hvv
            rw [if_neg (by
              rintro ⟨⟨z1, z2⟩, z3⟩
              have hm := HBM.out
              rw [z3] at hm
              simp at hm
              omega)] at hvv
            obtain ⟨rfl, rfl⟩ : 0 = r1 ∧ false = r2 := by simpa using hvv
            have AWx := AW x5
            clear hvv HV HBM
            go_wp2_with (go_at_call 8; refine AWx.mono ?_; rintro e w' ⟨rfl, hb⟩)
            go_ret
            exact ⟨rfl, HB5.out.trans (hb.mono HB5.out.size)⟩
        · have hg := HBB.out
          have hdd : numD a1 a2 = [] := numD_no (by
            simp only [badN, Bool.or_eq_true, decide_eq_true_eq] at hg
            rcases hg with ((h | h) | h) | h
            · exact .inl h
            · exact .inr (.inl h)
            · exact .inr (.inr (.inl h))
            · exact .inr (.inr (.inr h)))
          rw [hdd] at c1
          simp only [List.length_nil] at c1
          clear hg hdd HBB HBN HOK HXN
          obtain ⟨e0, e1, _⟩ := two_cells HBX.out
          have VF := tvalue_any a3 a4 x2 (HF.out.below HB1.out) HW4.out
          obtain ⟨r1, hr1⟩ : ∃ r, (valK a3.d a4).1 = r := ⟨_, rfl⟩
          obtain ⟨r2, hr2⟩ : ∃ r, (valK a3.d a4).2 = r := ⟨_, rfl⟩
          rw [hr1, hr2] at VF
          have HV := Hid.mk' (show valK a3.d a4 = (r1, r2) by rw [← hr1, ← hr2])
          clear hr1 hr2
          go_wp2_with fail
          refine VF.mono ?_
          clear VF e0 e1
          rintro e x5 ⟨rfl, hb5⟩
          have HBX5 := Hid.mk' (box_bel HBX.out hb5)
          have HB5 := Hid.mk' (HB1.out.trans (hb5.mono HB1.out.size))
          obtain ⟨e0, e1, _⟩ := two_cells HBX5.out
          obtain ⟨bm, hbm⟩ : ∃ bm, (decide (a4 < 1) || decide (7 < a4) || ((a3.d.length : Int) != a4)) = bm := ⟨_, rfl⟩
          have HBM := Hid.mk' hbm
          clear hb5 hbm HB1 HBX
          go_upto_region 18 with fail
          go_cut [101] (fun t wx => t = .bool bm ∧ x5 = wx)
          case first =>
            by_cases q1 : a4 < 1
            · obtain rfl : bm = true := by rw [← HBM.out]; simp [q1]
              go_wp2_with fail
              go_meet
              exact ⟨rfl, rfl⟩
            by_cases q2 : 7 < a4
            · obtain rfl : bm = true := by rw [← HBM.out]; simp [q2]
              go_wp2_with fail
              go_meet
              exact ⟨rfl, rfl⟩
            · obtain ⟨z, hz⟩ : ∃ z, ((a3.d.length : Int) != a4) = z := ⟨_, rfl⟩
              obtain rfl : bm = z := by rw [← HBM.out, hz]; simp [q1, q2]
              go_wp2_with fail
              go_meet
              exact ⟨rfl, rfl⟩
          case rest =>
          obtain ⟨rfl, rfl⟩ := hcut
          cases bm
          · have hm := HBM.out
            simp only [Bool.or_eq_false_iff, decide_eq_false_iff_not, bne_eq_false_iff_eq] at hm
            obtain ⟨⟨hm1, hm2⟩, hm3⟩ := hm
            obtain ⟨m, rfl⟩ := Int.eq_ofNat_of_zero_le (show 0 ≤ a4 by omega)
            have hmn : a3.d.length = m := by omega
            have hvv := HV.out
            unfold valK at hvv
            rw [if_pos ⟨⟨by omega, by omega⟩, hm3⟩] at hvv
            obtain ⟨rfl, rfl⟩ : numB a3.d = r1 ∧ true = r2 := by simpa using hvv
            have HMN := Hid.mk' hmn
            have HM7 := Hid.mk' (show m ≤ 7 by omega)
            have HIB := Hid.mk' HF.out.isb
            have HBN5 := Hid.mk' (HF.out.below HB5.out).bin
            clear HBM hvv HV hm1 hm2 hm3 hmn
            go_wp2_with fail
            go_loop [18, 19] (fun v i => ∃ j : Nat, j ≤ m ∧ i = .int .i64 j ∧ v = .int .i64 (numB (a3.d.take j))) (fun _ i => m - (intOf i).toNat)
            case atStart => exact ⟨0, by omega, rfl, by simp [numB]⟩
            case round =>
              obtain ⟨j, hj, rfl, rfl⟩ := hrel
              by_cases t : j < m
              · have hjl : j < a3.d.length := by have := HMN.out; omega
                obtain ⟨b, o, hbo, hcs⟩ := HBN5.out (by omega)
                have hcj := hcs j hjl
                have hxr := HIB.out.getD j
                have HNX := Hid.mk' (numB_take a3.d j hjl)
                have hns := numB_small a3.d HIB.out j (by have := HM7.out; omega)
                rw [hbo] at e1
                generalize a3.d.getD j 0 = xj at hcj hxr HNX
                obtain ⟨y, hy⟩ : ∃ y, numB (a3.d.take j) = y := ⟨_, rfl⟩
                rw [hy] at HNX hns ⊢
                have u1 : IntKind.i64.wrap (y * 256) = y * 256 := by rw [IntKind.wrap_i64]; omega
                have u2 : IntKind.i64.wrap (y * 256 + xj) = y * 256 + xj := by rw [IntKind.wrap_i64]; omega
                have u3 : IntKind.i64.wrap xj = xj := by rw [IntKind.wrap_i64]; omega
                have hjl' : (j : Int) < a3.d.length := by omega
                clear hcs hy
                go_wp2
                go_round
                case rel => exact ⟨j + 1, by omega, by go_num, by rw [HNX.out]⟩
                case measure => simp [intOf]; omega
              · obtain rfl : j = m := by omega
                rw [List.take_of_length_le (by have := HMN.out; omega)]
                have AWx := AW x5
                go_wp2_with (go_at_call 8; refine AWx.mono ?_; rintro e w' ⟨rfl, hb⟩)
                go_ret
                exact ⟨rfl, HB5.out.trans (hb.mono HB5.out.size)⟩
          · have hvv := HV.out
            unfold valK at hvv
            rw [if_neg (by
              rintro ⟨⟨z1, z2⟩, z3⟩
              have hm := HBM.out
              rw [z3] at hm
              simp at hm
              omega)] at hvv
            obtain ⟨rfl, rfl⟩ : 0 = r1 ∧ false = r2 := by simpa using hvv
            have AWx := AW x5
            clear hvv HV HBM
            go_wp2_with (go_at_call 8; refine AWx.mono ?_; rintro e w' ⟨rfl, hb⟩)
            go_ret
            exact ⟨rfl, HB5.out.trans (hb.mono HB5.out.size)⟩
      · clear t
        go_upto_region 11 with fail
        go_cut [58] (fun t wx => t = .bool bn ∧ x2 = wx)
        case first =>
          by_cases q1 : a1 < 1
          · obtain rfl : bn = true := by rw [HBN.out]; simp [q1]
            go_wp2_with fail
            go_meet
            exact ⟨rfl, rfl⟩
          by_cases q2 : 7 < a1
          · obtain rfl : bn = true := by rw [HBN.out]; simp [q2]
            go_wp2_with fail
            go_meet
            exact ⟨rfl, rfl⟩
          by_cases q3 : a2 < 0
          · obtain rfl : bn = true := by rw [HBN.out]; simp [q3]
            go_wp2_with fail
            go_meet
            exact ⟨rfl, rfl⟩
          · obtain ⟨z, hz⟩ : ∃ z, decide (y ≤ a2) = z := ⟨_, rfl⟩
            obtain rfl : bn = z := by rw [HBN.out, hz]; simp [q1, q2, q3]
            go_wp2_with fail
            go_meet
            exact ⟨rfl, rfl⟩
        case rest =>
        obtain ⟨rfl, rfl⟩ := hcut
        cases bn
        · have hg := HBB.out
          simp only [badN, Bool.or_eq_false_iff, decide_eq_false_iff_not] at hg
          obtain ⟨⟨⟨g1, g2⟩, g3⟩, g4⟩ := hg
          obtain ⟨k, rfl⟩ := Int.eq_ofNat_of_zero_le (show 0 ≤ a1 by omega)
          rw [Int.toNat_natCast] at g4
          have hdd := numD_yes (n := k) (v := a2) (by omega) (by omega) (by omega) (by omega)
          have VX := tvalue_any ⟨a0, p, c, numD k a2⟩ k x2 HOK.out HW1.out
          have hvk : valK (numD k a2) k = (a2, true) := by
            rw [hdd]
            unfold valK
            rw [if_pos ⟨⟨by omega, by omega⟩, by rw [digB_len]⟩, num_digs k a2 (by omega) (by omega)]
          simp only [hvk] at VX
          rw [hdd, digB_len] at VX
          rw [hdd, digB_len] at c1
          have dk : ((k : Int) != (k : Int)) = false := by simp
          have d2 : (a2 != a2) = false := by simp
          have HXN2 : Hid (x2.heap[g]? = some (.cells #[.int .i64 a0, .slice p k c] 30 (0, 0))) := by
            have h := HXN.out
            rw [hdd, digB_len] at h
            exact h
          clear HBB HBN hvk hdd g1 g2 g3 g4 HOK HXN
          go_wp2_with fail
          refine VX.mono ?_
          clear VX
          rintro e x3 ⟨rfl, hb3⟩
          have HBX3 := Hid.mk' (box_bel HBX.out hb3)
          have HB3 := Hid.mk' (HB1.out.trans (hb3.mono HB1.out.size))
          obtain ⟨c0, c1, _⟩ := two_cells (box_bel HXN2.out hb3)
          clear hb3 HBX HB1 HXN2
          obtain ⟨e0, e1, _⟩ := two_cells HBX3.out
          have VF := tvalue_any a3 a4 x3 (HF.out.below HB3.out) HW4.out
          obtain ⟨r1, hr1⟩ : ∃ r, (valK a3.d a4).1 = r := ⟨_, rfl⟩
          obtain ⟨r2, hr2⟩ : ∃ r, (valK a3.d a4).2 = r := ⟨_, rfl⟩
          rw [hr1, hr2] at VF
          have HV := Hid.mk' (show valK a3.d a4 = (r1, r2) by rw [← hr1, ← hr2])
          clear hr1 hr2
          go_wp2_with fail
          refine VF.mono ?_
          clear VF e0 e1
          rintro e x5 ⟨rfl, hb5⟩
          have HBX5 := Hid.mk' (box_bel HBX3.out hb5)
          have HB5 := Hid.mk' (HB3.out.trans (hb5.mono HB3.out.size))
          obtain ⟨e0, e1, _⟩ := two_cells HBX5.out
          obtain ⟨bm, hbm⟩ : ∃ bm, (decide (a4 < 1) || decide (7 < a4) || ((a3.d.length : Int) != a4)) = bm := ⟨_, rfl⟩
          have HBM := Hid.mk' hbm
          clear hb5 hbm HB3 HBX3
          go_upto_region 18 with fail
          go_cut [101] (fun t wx => t = .bool bm ∧ x5 = wx)
          case first =>
            by_cases q1 : a4 < 1
            · obtain rfl : bm = true := by rw [← HBM.out]; simp [q1]
              go_wp2_with fail
              go_meet
              exact ⟨rfl, rfl⟩
            by_cases q2 : 7 < a4
            · obtain rfl : bm = true := by rw [← HBM.out]; simp [q2]
              go_wp2_with fail
              go_meet
              exact ⟨rfl, rfl⟩
            · obtain ⟨z, hz⟩ : ∃ z, ((a3.d.length : Int) != a4) = z := ⟨_, rfl⟩
              obtain rfl : bm = z := by rw [← HBM.out, hz]; simp [q1, q2]
              go_wp2_with fail
              go_meet
              exact ⟨rfl, rfl⟩
          case rest =>
          obtain ⟨rfl, rfl⟩ := hcut
          cases bm
          · have hm := HBM.out
            simp only [Bool.or_eq_false_iff, decide_eq_false_iff_not, bne_eq_false_iff_eq] at hm
            obtain ⟨⟨hm1, hm2⟩, hm3⟩ := hm
            obtain ⟨m, rfl⟩ := Int.eq_ofNat_of_zero_le (show 0 ≤ a4 by omega)
            have hmn : a3.d.length = m := by omega
            have hvv := HV.out
            unfold valK at hvv
            rw [if_pos ⟨⟨by omega, by omega⟩, hm3⟩] at hvv
            obtain ⟨rfl, rfl⟩ : numB a3.d = r1 ∧ true = r2 := by simpa using hvv
            have HMN := Hid.mk' hmn
            have HM7 := Hid.mk' (show m ≤ 7 by omega)
            have HIB := Hid.mk' HF.out.isb
            have HBN5 := Hid.mk' (HF.out.below HB5.out).bin
            clear HBM hvv HV hm1 hm2 hm3 hmn
            go_wp2_with fail
            go_loop [18, 19] (fun v i => ∃ j : Nat, j ≤ m ∧ i = .int .i64 j ∧ v = .int .i64 (numB (a3.d.take j))) (fun _ i => m - (intOf i).toNat)
            case atStart => exact ⟨0, by omega, rfl, by simp [numB]⟩
            case round =>
              obtain ⟨j, hj, rfl, rfl⟩ := hrel
              by_cases t : j < m
              · have hjl : j < a3.d.length := by have := HMN.out; omega
                obtain ⟨b, o, hbo, hcs⟩ := HBN5.out (by omega)
                have hcj := hcs j hjl
                have hxr := HIB.out.getD j
                have HNX := Hid.mk' (numB_take a3.d j hjl)
                have hns := numB_small a3.d HIB.out j (by have := HM7.out; omega)
                rw [hbo] at e1
                generalize a3.d.getD j 0 = xj at hcj hxr HNX
                obtain ⟨y, hy⟩ : ∃ y, numB (a3.d.take j) = y := ⟨_, rfl⟩
                rw [hy] at HNX hns ⊢
                have u1 : IntKind.i64.wrap (y * 256) = y * 256 := by rw [IntKind.wrap_i64]; omega
                have u2 : IntKind.i64.wrap (y * 256 + xj) = y * 256 + xj := by rw [IntKind.wrap_i64]; omega
                have u3 : IntKind.i64.wrap xj = xj := by rw [IntKind.wrap_i64]; omega
                have hjl' : (j : Int) < a3.d.length := by omega
                clear hcs hy
                go_wp2
                go_round
                case rel => exact ⟨j + 1, by omega, by go_num, by rw [HNX.out]⟩
                case measure => simp [intOf]; omega
              · obtain rfl : j = m := by omega
                rw [List.take_of_length_le (by have := HMN.out; omega)]
                have AWx := AW x5
                go_wp2_with (go_at_call 8; refine AWx.mono ?_; rintro e w' ⟨rfl, hb⟩)
                go_ret
                exact ⟨rfl, HB5.out.trans (hb.mono HB5.out.size)⟩
          · have hvv := HV.out
            unfold valK at hvv
            rw [if_neg (by
              rintro ⟨⟨z1, z2⟩, z3⟩
              have hm := HBM.out
              rw [z3] at hm
              simp at hm
              omega)] at hvv
            obtain ⟨rfl, rfl⟩ : 0 = r1 ∧ false = r2 := by simpa using hvv
            have AWx := AW x5
            clear hvv HV HBM
            go_wp2_with (go_at_call 8; refine AWx.mono ?_; rintro e w' ⟨rfl, hb⟩)
            go_ret
            exact ⟨rfl, HB5.out.trans (hb.mono HB5.out.size)⟩
        · have hg := HBB.out
          have hdd : numD a1 a2 = [] := numD_no (by
            simp only [badN, Bool.or_eq_true, decide_eq_true_eq] at hg
            rcases hg with ((h | h) | h) | h
            · exact .inl h
            · exact .inr (.inl h)
            · exact .inr (.inr (.inl h))
            · exact .inr (.inr (.inr h)))
          rw [hdd] at c1
          simp only [List.length_nil] at c1
          clear hg hdd HBB HBN HOK HXN
          obtain ⟨e0, e1, _⟩ := two_cells HBX.out
          have VF := tvalue_any a3 a4 x2 (HF.out.below HB1.out) HW4.out
          obtain ⟨r1, hr1⟩ : ∃ r, (valK a3.d a4).1 = r := ⟨_, rfl⟩
          obtain ⟨r2, hr2⟩ : ∃ r, (valK a3.d a4).2 = r := ⟨_, rfl⟩
          rw [hr1, hr2] at VF
          have HV := Hid.mk' (show valK a3.d a4 = (r1, r2) by rw [← hr1, ← hr2])
          clear hr1 hr2
          go_wp2_with fail
          refine VF.mono ?_
          clear VF e0 e1
          rintro e x5 ⟨rfl, hb5⟩
          have HBX5 := Hid.mk' (box_bel HBX.out hb5)
          have HB5 := Hid.mk' (HB1.out.trans (hb5.mono HB1.out.size))
          obtain ⟨e0, e1, _⟩ := two_cells HBX5.out
          obtain ⟨bm, hbm⟩ : ∃ bm, (decide (a4 < 1) || decide (7 < a4) || ((a3.d.length : Int) != a4)) = bm := ⟨_, rfl⟩
          have HBM := Hid.mk' hbm
          clear hb5 hbm HB1 HBX
          go_upto_region 18 with fail
          go_cut [101] (fun t wx => t = .bool bm ∧ x5 = wx)
          case first =>
            by_cases q1 : a4 < 1
            · obtain rfl : bm = true := by rw [← HBM.out]; simp [q1]
              go_wp2_with fail
              go_meet
              exact ⟨rfl, rfl⟩
            by_cases q2 : 7 < a4
            · obtain rfl : bm = true := by rw [← HBM.out]; simp [q2]
              go_wp2_with fail
              go_meet
              exact ⟨rfl, rfl⟩
            · obtain ⟨z, hz⟩ : ∃ z, ((a3.d.length : Int) != a4) = z := ⟨_, rfl⟩
              obtain rfl : bm = z := by rw [← HBM.out, hz]; simp [q1, q2]
              go_wp2_with fail
              go_meet
              exact ⟨rfl, rfl⟩
          case rest =>
          obtain ⟨rfl, rfl⟩ := hcut
          cases bm
          · have hm := HBM.out
            simp only [Bool.or_eq_false_iff, decide_eq_false_iff_not, bne_eq_false_iff_eq] at hm
            obtain ⟨⟨hm1, hm2⟩, hm3⟩ := hm
            obtain ⟨m, rfl⟩ := Int.eq_ofNat_of_zero_le (show 0 ≤ a4 by omega)
            have hmn : a3.d.length = m := by omega
            have hvv := HV.out
            unfold valK at hvv
            rw [if_pos ⟨⟨by omega, by omega⟩, hm3⟩] at hvv
            obtain ⟨rfl, rfl⟩ : numB a3.d = r1 ∧ true = r2 := by simpa using hvv
            have HMN := Hid.mk' hmn
            have HM7 := Hid.mk' (show m ≤ 7 by omega)
            have HIB := Hid.mk' HF.out.isb
            have HBN5 := Hid.mk' (HF.out.below HB5.out).bin
            clear HBM hvv HV hm1 hm2 hm3 hmn
            go_wp2_with fail
            go_loop [18, 19] (fun v i => ∃ j : Nat, j ≤ m ∧ i = .int .i64 j ∧ v = .int .i64 (numB (a3.d.take j))) (fun _ i => m - (intOf i).toNat)
            case atStart => exact ⟨0, by omega, rfl, by simp [numB]⟩
            case round =>
              obtain ⟨j, hj, rfl, rfl⟩ := hrel
              by_cases t : j < m
              · have hjl : j < a3.d.length := by have := HMN.out; omega
                obtain ⟨b, o, hbo, hcs⟩ := HBN5.out (by omega)
                have hcj := hcs j hjl
                have hxr := HIB.out.getD j
                have HNX := Hid.mk' (numB_take a3.d j hjl)
                have hns := numB_small a3.d HIB.out j (by have := HM7.out; omega)
                rw [hbo] at e1
                generalize a3.d.getD j 0 = xj at hcj hxr HNX
                obtain ⟨y, hy⟩ : ∃ y, numB (a3.d.take j) = y := ⟨_, rfl⟩
                rw [hy] at HNX hns ⊢
                have u1 : IntKind.i64.wrap (y * 256) = y * 256 := by rw [IntKind.wrap_i64]; omega
                have u2 : IntKind.i64.wrap (y * 256 + xj) = y * 256 + xj := by rw [IntKind.wrap_i64]; omega
                have u3 : IntKind.i64.wrap xj = xj := by rw [IntKind.wrap_i64]; omega
                have hjl' : (j : Int) < a3.d.length := by omega
                clear hcs hy
                go_wp2
                go_round
                case rel => exact ⟨j + 1, by omega, by go_num, by rw [HNX.out]⟩
                case measure => simp [intOf]; omega
              · obtain rfl : j = m := by omega
                rw [List.take_of_length_le (by have := HMN.out; omega)]
                have AWx := AW x5
                go_wp2_with (go_at_call 8; refine AWx.mono ?_; rintro e w' ⟨rfl, hb⟩)
                go_ret
                exact ⟨rfl, HB5.out.trans (hb.mono HB5.out.size)⟩
          · have hvv := HV.out
            unfold valK at hvv
            rw [if_neg (by
              rintro ⟨⟨z1, z2⟩, z3⟩
              have hm := HBM.out
              rw [z3] at hm
              simp at hm
              omega)] at hvv
            obtain ⟨rfl, rfl⟩ : 0 = r1 ∧ false = r2 := by simpa using hvv
            have AWx := AW x5
            clear hvv HV HBM
            go_wp2_with (go_at_call 8; refine AWx.mono ?_; rintro e w' ⟨rfl, hb⟩)
            go_ret
            exact ⟨rfl, HB5.out.trans (hb.mono HB5.out.size)⟩

theorem own : ownKnob Try.prog.godebug = none := by kernel_rfl
theorem laidOut : laidOutB Try.prog = true := by kernel_rfl

set_option maxRecDepth 100000 in
theorem lifted (os : Os) (started : os.Started) (H : Type) (enc : TypeId × Value → H) :
    ReturnsInHanded {} Try.checked os 6 .any (Rows.tlvNumsSpec.pre6 enc Try.prog Try.f6 Rows.tlvNumsRow.domain false) (Rows.tlvNumsSpec.post enc Try.prog Try.f6 false true false false) := by
  refine returnsInHanded_of_change_sized (C := Try.checked) own started (by kernel_rfl) Try.func6
    (ChangeSpec.witness6 (enc := enc) (C := Try.checked) false ⟨#[], #[.int .i64 0, .int .i64 0, .int .i64 0, .agg #[.int .i64 0, .slice none 0 0], .int .i64 0], []⟩ 8 (by kernel_rfl) (by kernel_rfl) (by kernel_rfl) (by kernel_rfl)) ?_
  intro W base args ds gs before hval0 hW hcnd hsz0 _
  have hz : ∀ (j : Nat) t d, Try.f6.params.toList[j]? = some t → ds[j]? = some d → ∀ n ∈ d.weights Try.prog t, n ≤ reachBytes := fun j t d ht hd n hn => by
    have := List.all_eq_true.1 hsz0 n (DataW.weights_mem_each (j := j) (t := t) (d := d) (by rw [List.getElem?_append_left (List.getElem?_eq_some_iff.1 ht).1]; exact ht) (by rw [List.getElem?_append_left (List.getElem?_eq_some_iff.1 hd).1]; exact hd) n hn)
    simpa using this
  have hval : ∀ (j : Nat) t v, Try.f6.params[j]? = some t → args[j]? = some v → Value.okWide Try.prog W .any base t v := hval0
  have hW' := hW
  obtain ⟨p, q, hA0, hV, rfl, hfz, hnd⟩ := hW
  have hA : DataW.TrodAll enc Try.prog W 0 (fun _ => true) true Try.f6.params.toList args.toList ds p := hA0
  rw [Try.params6] at hA hval hz
  obtain ⟨v0, vs0, d0, ds0, p0x, q0, hargs, rfl, rfl, h0, r0⟩ := trodAll_cons hA
  obtain ⟨v1, vs1, d1, ds1, p1x, q1, rfl, rfl, rfl, h1, r1⟩ := trodAll_cons r0
  obtain ⟨v2, vs2, d2, ds2, p2x, q2, rfl, rfl, rfl, h2, r2⟩ := trodAll_cons r1
  obtain ⟨v3, vs3, d3, ds3, p3x, q3, rfl, rfl, rfl, h3, r3⟩ := trodAll_cons r2
  obtain ⟨v4, vs4, d4, ds4, p4x, q4, rfl, rfl, rfl, h4, r4⟩ := trodAll_cons r3
  obtain ⟨rfl, rfl, rfl⟩ := trodAll_nil r4
  obtain rfl : args = #[v0, v1, v2, v3, v4] := by cases args; simp_all
  obtain ⟨rfl, rfl⟩ := trodVars_none hV
  obtain ⟨a0, rfl, rfl, rfl, w0⟩ := open_int Try.underlying3 (hval 0 3 v0 rfl rfl) h0
  obtain ⟨a1, rfl, rfl, rfl, w1⟩ := open_int Try.underlying3 (hval 1 3 v1 rfl rfl) h1
  obtain ⟨a2, rfl, rfl, rfl, w2⟩ := open_int Try.underlying3 (hval 2 3 v2 rfl rfl) h2
  obtain ⟨cs3, rfl, _⟩ := okWide_struct Try.underlying30 (hval 3 30 v3 rfl rfl)
  have k3 := h3
  have lt3 : ∀ x ∈ p3x, x.block < W.heap.size := by obtain ⟨m, hm⟩ := k3; exact DataW.trod_lt m _ _ _ hm
  obtain ⟨a3, rfl, w3⟩ : ∃ a : Fd, cs3 = #[.int .i64 a.tag, .slice a.p a.d.length a.cap] ∧ FOk W a := by
    obtain ⟨fuel, hf⟩ := h3
    obtain ⟨a, hcs, h1⟩ := opensZ_fd _ _ _ hf (hz 3 30 d3 rfl rfl)
    exact ⟨a, by cases cs3; simpa [Value.cells, Fd.cells] using hcs, h1⟩
  obtain ⟨a4, rfl, rfl, rfl, w4⟩ := open_int Try.underlying3 (hval 4 3 v4 rfl rfl) h4
  clear hA0 hval0
  refine (walk a0 a1 a2 a3 a4 W w0 w1 w2 w3 w4).mono fun e W' ⟨he, bel⟩ => ?_
  subst he
  exact ⟨_, rfl, _, _, _, [], _, [], hW', trodAll_mk1 (shut_bool Try.underlying4 _), (trodAll_cons_mk (shut_int Try.underlying3 w0) (trodAll_cons_mk (shut_int Try.underlying3 w1) (trodAll_cons_mk (shut_int Try.underlying3 w2) (trodAll_cons_mk (Below.trod laidOut (by kernel_rfl) (of_decide_eq_true (by kernel_rfl)) k3 bel lt3) (trodAll_cons_mk (shut_int Try.underlying3 w4) trodAll_mk0))))), rfl, bel.frame _, fun h => by cases h⟩

theorem over : Rows.tlvNumsRow.holds Try.pinned (OpenSpec.ofChange Rows.tlvNumsSpec) :=
  OpenClaim.holds_of_wide 6 Try.f6 rfl rfl rfl rfl rfl rfl rfl ⟨rfl, rfl, rfl, rfl, rfl⟩ rfl rfl rfl rfl rfl (by kernel_rfl) Try.func6 (by kernel_rfl)
    (of_decide_eq_true (by kernel_rfl)) (by unfold Func.isWrapper; first | (rw [if_pos (by decide +kernel)]; kernel_rfl) | (rw [if_neg (by decide +kernel)]; exact ⟨rfl, rfl⟩))
    (fun os started H enc _ => lifted os started H enc)

/-- The given statement. -/
theorem proved : Rows.TlvNumsSaid := over
#print axioms proved
end Go.Proofs.Ytflllegengomnaa.tlvNums
