/-
  Stage 6: the statements' own functions: Few, size, may, alike, order.
-/
import Derived.Test.YtecdagmeobiahaaBagC
import Derived.Deep.QuietTactic
import Derived.BigQuiet
namespace Go.Proofs.Ytecdagmeobiahaa
open Go.RowKit
set_option linter.unusedSimpArgs false
set_option linter.unusedVariables false
set_option maxRecDepth 10000

def fewK (l : List Key) : Bool := decide (l.length ≤ 40) && decide (szK l ≤ 5000)
theorem few_yes {l : List Fd} (h : fewK (kys l) = true) : l.length ≤ 40 ∧ szK (kys l) ≤ 5000 := by simpa [fewK, kys_len] using h

set_option maxHeartbeats 1600000 in
theorem few_any (p : Option Addr) (c : Nat) (l : List Fd) (w : World) (hp : FIn w p l) (hn : l.length ≤ maxLen) :
    Calls Try.prog 9 #[.slice p l.length c] w fun e w' => e = .returned (.bool (fewK (kys l))) ∧ w = w' := by
  have HF := Hid.mk' (show fewK (kys l) = (decide (l.length ≤ 40) && decide (szK (kys l) ≤ 5000)) by rw [fewK, kys_len])
  simp only [maxLen] at hn
  generalize fewK (kys l) = r at HF ⊢
  go_enter Try.func9, Try.ntmps9
  by_cases t0 : l.length ≤ 40
  · go_wp2
    go_loop [3, 4] (fun n i => ∃ k : Nat, k ≤ l.length ∧ i = .int .i64 k ∧ n = .int .i64 (szK (kys (l.take k)) : Nat) ∧ szK (kys (l.take k)) ≤ 5000) (fun n i => l.length - (intOf i).toNat)
    case atStart => exact ⟨0, by omega, rfl, rfl, by simp [szK, kys]⟩
    case round =>
      obtain ⟨k, hk, rfl, rfl, hz⟩ := hrel
      by_cases t : k < l.length
      · obtain ⟨b, o, rfl, hc⟩ := hp.at (by omega)
        obtain ⟨e0, e1, hx⟩ := hc k t
        have HN := Hid.mk' (sz_next l k t)
        have HL := Hid.mk' (sz_take_le l (k + 1))
        have h1 := hx.few
        generalize l.getD k zf = y at HN e0 e1 h1
        clear hc hx
        by_cases t2 : szK (kys (l.take k)) + y.d.length ≤ 5000
        · have t2' : ¬ 5000 < (szK (kys (l.take k)) : Int) + (y.d.length : Int) := by omega
          go_wp2
          go_round
          case rel => exact ⟨k + 1, by omega, by go_num, by rw [HN.out]; go_num, by rw [HN.out]; exact t2⟩
          case measure => simp [intOf]; omega
        · have t2' : 5000 < (szK (kys (l.take k)) : Int) + (y.d.length : Int) := by omega
          have hle := HL.out
          rw [HN.out] at hle
          obtain rfl : r = false := by rw [HF.out]; simp [t0]; omega
          clear hle
          go_wp2
          try rw [Exit.noGoto_ret]
          go_ret
          exact ⟨rfl, rfl⟩
      · obtain rfl : k = l.length := by omega
        rw [List.take_of_length_le (Nat.le_refl _)] at hz
        obtain rfl : r = true := by rw [HF.out]; simp [t0, hz]
        go_wp2
        go_ret
        exact ⟨rfl, rfl⟩
  · obtain rfl : r = false := by rw [HF.out]; simp [t0]
    go_wp2
    go_ret
    exact ⟨rfl, rfl⟩

set_option maxHeartbeats 1600000 in
theorem sizeR_any (p : Option Addr) (c : Nat) (l : List Fd) (w : World) (hp : FIn w p l) (hn : l.length ≤ maxLen) (hz : szK (kys l) ≤ 4611686018427387904) :
    Calls Try.prog 14 #[.slice p l.length c] w fun e w' => e = .returned (.int .i64 (szK (kys l))) ∧ w = w' := by
  simp only [maxLen] at hn
  go_enter Try.func14, Try.ntmps14
  go_wp2
  go_loop [3, 4] (fun n i => ∃ k : Nat, k ≤ l.length ∧ i = .int .i64 k ∧ n = .int .i64 (szK (kys (l.take k)) : Nat)) (fun n i => l.length - (intOf i).toNat)
  case atStart => exact ⟨0, by omega, rfl, rfl⟩
  case round =>
    obtain ⟨k, hk, rfl, rfl⟩ := hrel
    by_cases t : k < l.length
    · obtain ⟨b, o, rfl, hc⟩ := hp.at (by omega)
      obtain ⟨e0, e1, _⟩ := hc k t
      have HN := Hid.mk' (sz_next l k t)
      have hle := sz_take_le l (k + 1)
      rw [HN.out] at hle
      generalize l.getD k zf = y at HN e0 e1 hle
      clear hc
      go_wp2
      go_round
      case rel => exact ⟨k + 1, by omega, by go_num, by rw [HN.out]; go_num⟩
      case measure => simp [intOf]; omega
    · obtain rfl : k = l.length := by omega
      rw [List.take_of_length_le (Nat.le_refl _)]
      go_wp2
      go_ret
      exact ⟨rfl, rfl⟩

theorem conv_any {w : World} {x : Fd} (h : FOk w x) (n : Nat) : (convert 30 9 (.slice x.p x.d.length x.cap)).run Try.prog (w.drewN n) = .ok (.string (strOfNums x.d)) (w.drewN n) :=
  BIn.convert (P := Try.prog) (w := w.drewN n) (show BIn (w.drewN n) x.p x.d from h.bin) x.cap 30 5 9 Try.underlying30 Try.underlying5 Try.underlying9

set_option maxHeartbeats 4000000 in
theorem alike_any (p q : Option Addr) (c d : Nat) (a b : List Fd) (w : World) (hp : FIn w p a) (hq : FIn w q b) (hn : a.length ≤ maxLen) (hm : b.length ≤ maxLen) :
    Calls Try.prog 16 #[.slice p a.length c, .slice q b.length d] w fun e w' => e = .returned (.bool (decide (kys a = kys b))) ∧ Below w.heap.size w w' := by
  simp only [maxLen] at hn hm
  obtain ⟨r, hr⟩ : ∃ r, decide (kys a = kys b) = r := ⟨_, rfl⟩
  rw [hr]
  go_enter Try.func16, Try.ntmps16
  by_cases t0 : a.length = b.length
  · go_wp2
    go_loopw [5] (fun i W => ∃ k : Nat, k ≤ a.length ∧ i = .int .i64 k ∧ r = decide (kys (a.drop k) = kys (b.drop k)) ∧ Below w.heap.size w W) (fun i _ => a.length - (intOf i).toNat)
    case atStart => exact ⟨0, by omega, rfl, hr.symm, Below.refl _ _⟩
    case round =>
      obtain ⟨k, hk, rfl, ht, hb⟩ := hrel
      by_cases t : k < a.length
      · have t2 : k < b.length := by omega
        obtain ⟨b1, o1, rfl, hc⟩ := (hp.below hb).at (by omega)
        obtain ⟨e0, e1, hx⟩ := hc k t
        obtain ⟨b2, o2, rfl, hc2⟩ := (hq.below hb).at (by omega)
        obtain ⟨f0, f1, hy⟩ := hc2 k t2
        rw [drop_next a k t, drop_next b k t2] at ht
        simp only [kys, List.map_cons, List.cons.injEq, ky, Prod.mk.injEq] at ht
        generalize a.getD k zf = x at ht e0 e1 hx
        generalize b.getD k zf = y at ht f0 f1 hy
        have cx := conv_any hx
        have cy := conv_any hy
        have hst := str_inj x.d y.d hx.isb hy.isb
        have HT := Hid.mk' ht
        have HB := Hid.mk' hb
        clear ht hc hc2 hx hy hb
        by_cases t3 : x.tag = y.tag
        · have d3 : (x.tag != y.tag) = false := by simpa using t3
          by_cases t4 : x.d = y.d
          · rw [decide_eq_true t4] at hst
            have HV := Hid.mk' (show r = decide (List.map ky (List.drop (k + 1) a) = List.map ky (List.drop (k + 1) b)) by rw [HT.out]; simp [t3, t4])
            clear HT t4
            go_wp2_with fail
            go_quiet (fail)
            go_wp2
            go_roundw
            case rel => exact ⟨k + 1, by omega, by go_num, HV.out, bel_drewN HB.out _⟩
            case measure => simp [intOf]; omega
          · rw [decide_eq_false t4] at hst
            obtain rfl : r = false := by rw [HT.out]; simp [t4]
            clear HT t4
            go_wp2_with fail
            go_quiet (fail)
            go_wp2
            try rw [Exit.noGoto_ret]
            go_ret
            exact ⟨rfl, bel_drewN HB.out _⟩
        · have d3 : (x.tag != y.tag) = true := by simpa using t3
          obtain rfl : r = false := by rw [HT.out]; simp [t3]
          clear HT hst cx cy
          go_wp2_with fail
          go_quiet (fail)
          go_wp2
          try rw [Exit.noGoto_ret]
          go_ret
          exact ⟨rfl, bel_drewN HB.out _⟩
      · rw [List.drop_of_length_le (l := a) (by omega), List.drop_of_length_le (l := b) (by omega)] at ht
        obtain rfl : r = true := by simpa using ht
        clear ht hr
        go_wp2
        go_ret
        exact ⟨rfl, hb⟩
  · have t0' : ¬ (a.length : Int) = (b.length : Int) := by omega
    have d0 : ((a.length : Int) != (b.length : Int)) = true := by simp; omega
    obtain rfl : r = false := by
      rw [← hr]
      simp
      intro h
      have := congrArg List.length h
      rw [kys_len, kys_len] at this
      omega
    go_wp2
    go_ret
    exact ⟨rfl, Below.refl _ _⟩

set_option maxHeartbeats 4000000 in
theorem order_any (p q : Option Addr) (c d : Nat) (a b : List Fd) (w : World) (hp : FIn w p a) (hq : FIn w q b) (hn : a.length ≤ maxLen) (hm : b.length ≤ maxLen) :
    Calls Try.prog 20 #[.slice p a.length c, .slice q b.length d] w fun e w' => e = .returned (.int .i64 (cmpK (kys a) (kys b))) ∧ Below w.heap.size w w' := by
  simp only [maxLen] at hn hm
  obtain ⟨r, hr⟩ : ∃ r, cmpK (kys a) (kys b) = r := ⟨_, rfl⟩
  rw [hr]
  go_enter Try.func20, Try.ntmps20
  go_wp2
  go_loopw [5] (fun i W => ∃ k : Nat, k ≤ a.length ∧ k ≤ b.length ∧ i = .int .i64 k ∧ r = cmpK (kys (a.drop k)) (kys (b.drop k)) ∧ Below w.heap.size w W) (fun i _ => a.length - (intOf i).toNat)
  case atStart => exact ⟨0, by omega, by omega, rfl, hr.symm, Below.refl _ _⟩
  case round =>
    obtain ⟨k, hk, hk2, rfl, ht, hb⟩ := hrel
    by_cases t : k < a.length ∧ k < b.length
    · obtain ⟨t, t2⟩ := t
      obtain ⟨b1, o1, rfl, hc⟩ := (hp.below hb).at (by omega)
      obtain ⟨e0, e1, hx⟩ := hc k t
      obtain ⟨b2, o2, rfl, hc2⟩ := (hq.below hb).at (by omega)
      obtain ⟨f0, f1, hy⟩ := hc2 k t2
      rw [drop_next a k t, drop_next b k t2] at ht
      simp only [kys, List.map_cons] at ht
      rw [cmpK_cons] at ht
      simp only [cmpK1, pairC, ky] at ht
      generalize a.getD k zf = x at ht e0 e1 hx
      generalize b.getD k zf = y at ht f0 f1 hy
      have cx := conv_any hx
      have cy := conv_any hy
      have s1 := strLess x.d y.d hx.isb hy.isb
      have s2 := strLess y.d x.d hy.isb hx.isb
      rw [cmpB_ord.anti x.d y.d] at s2
      have s3 : ((strOfNums x.d).toList == (strOfNums y.d).toList) = decide (cmpB x.d y.d = 0) := by
        rw [str_inj x.d y.d hx.isb hy.isb]; simp [cmpB_ord.eq]
      have hrg := cmpB_ord.rng x.d y.d
      have HT := Hid.mk' ht
      have HB := Hid.mk' hb
      clear ht hc hc2 hx hy hb
      by_cases t3 : x.tag < y.tag
      · obtain rfl : r = -1 := by rw [HT.out]; simp [cmpI, t3]
        clear HT s1 s2 s3 cx cy hrg
        go_wp2_with fail
        go_quiet (fail)
        go_wp2
        try rw [Exit.noGoto_ret]
        go_ret
        exact ⟨rfl, bel_drewN HB.out _⟩
      · by_cases t4 : y.tag < x.tag
        · obtain rfl : r = 1 := by rw [HT.out]; simp [cmpI, t3, t4]
          have d3 : decide (x.tag < y.tag) = false := decide_eq_false t3
          clear HT s1 s2 s3 cx cy hrg
          go_wp2_with fail
          go_quiet (fail)
          go_wp2_with fail
          go_quiet (fail)
          go_wp2
          try rw [Exit.noGoto_ret]
          go_ret
          exact ⟨rfl, bel_drewN (bel_drewN HB.out _) _⟩
        · have d3 : decide (x.tag < y.tag) = false := decide_eq_false t3
          have d4 : decide (y.tag < x.tag) = false := decide_eq_false t4
          have HV := Hid.mk' (show r = if cmpB x.d y.d = 0 then cmpK (kys (a.drop (k + 1))) (kys (b.drop (k + 1))) else cmpB x.d y.d by rw [HT.out]; simp [cmpI, t3, t4, kys])
          generalize cmpB x.d y.d = v at HV s1 s2 s3 hrg
          clear HT
          rcases hrg with rfl | rfl | rfl
          · obtain rfl : r = -1 := by rw [HV.out]; rfl
            have s1' : Op.bytesLess (strOfNums x.d).toList (strOfNums y.d).toList = true := s1
            clear HV s1 s2 s3
            go_wp2_with fail
            go_quiet (fail)
            go_wp2_with fail
            go_quiet (fail)
            go_wp2_with fail
            go_quiet (fail)
            go_wp2
            try rw [Exit.noGoto_ret]
            go_ret
            exact ⟨rfl, bel_drewN (bel_drewN (bel_drewN HB.out _) _) _⟩
          · have s1' : Op.bytesLess (strOfNums x.d).toList (strOfNums y.d).toList = false := s1
            have s3' : ((strOfNums x.d).toList == (strOfNums y.d).toList) = true := s3
            clear s1 s2 s3
            go_wp2_with fail
            go_quiet (fail)
            go_wp2_with fail
            go_quiet (fail)
            go_wp2_with fail
            go_quiet (fail)
            go_wp2_with fail
            go_quiet (fail)
            go_wp2
            go_roundw
            case rel => exact ⟨k + 1, by omega, by omega, by go_num, HV.out, bel_drewN HB.out _⟩
            case measure => simp [intOf]; omega
          · obtain rfl : r = 1 := by rw [HV.out]; rfl
            have s1' : Op.bytesLess (strOfNums x.d).toList (strOfNums y.d).toList = false := s1
            have s3' : ((strOfNums x.d).toList == (strOfNums y.d).toList) = false := s3
            clear HV s1 s2 s3
            go_wp2_with fail
            go_quiet (fail)
            go_wp2_with fail
            go_quiet (fail)
            go_wp2_with fail
            go_quiet (fail)
            go_wp2_with fail
            go_quiet (fail)
            go_wp2
            try rw [Exit.noGoto_ret]
            go_ret
            exact ⟨rfl, bel_drewN (bel_drewN (bel_drewN (bel_drewN HB.out _) _) _) _⟩
    · have HB := Hid.mk' hb
      clear hb
      by_cases t1 : k < a.length
      · have t2 : ¬ k < b.length := fun q => t ⟨t1, q⟩
        obtain rfl : k = b.length := by omega
        rw [drop_next a b.length t1, List.drop_of_length_le (l := b) (Nat.le_refl _)] at ht
        obtain rfl : r = 1 := ht
        clear t
        go_wp2_with fail
        go_ret
        exact ⟨rfl, HB.out⟩
      · obtain rfl : k = a.length := by omega
        rw [List.drop_of_length_le (l := a) (Nat.le_refl _)] at ht
        clear t
        by_cases t2 : a.length < b.length
        · rw [drop_next b a.length t2] at ht
          obtain rfl : r = -1 := ht
          go_wp2_with fail
          go_ret
          exact ⟨rfl, HB.out⟩
        · rw [List.drop_of_length_le (l := b) (by omega)] at ht
          obtain rfl : r = 0 := ht
          have t3 : a.length = b.length := by omega
          go_wp2_with fail
          go_ret
          exact ⟨rfl, HB.out⟩

def prevT (l : List Fd) (k : Nat) : Int := if k = 0 then 32 else (l.getD (k - 1) zf).tag

set_option maxHeartbeats 4000000 in
theorem mayR_any (p : Option Addr) (c : Nat) (l : List Fd) (w : World) (hp : FIn w p l) (hn : l.length ≤ maxLen) (hz : szK (kys l) ≤ 4611686018427387904) :
    Calls Try.prog 12 #[.slice p l.length c] w fun e w' => e = .returned (.bool (mayK (kys l))) ∧ Below w.heap.size w w' := by
  have HM := Hid.mk' (show mayK (kys l) = (decide (l.length ≤ 32) && tagsK 32 (kys l) && decide (szK (kys l) ≤ 4096)) by rw [mayK, kys_len])
  have S := sizeR_any p c l w hp hn hz
  simp only [maxLen] at hn
  generalize mayK (kys l) = r at HM ⊢
  generalize szK (kys l) = z at HM S hz
  go_enter Try.func12, Try.ntmps12
  by_cases t0 : l.length ≤ 32
  · go_wp2_with fail
    refine S.mono ?_
    rintro e w' ⟨rfl, rfl⟩
    clear S
    by_cases t1 : 4096 < (z : Int)
    · obtain rfl : r = false := by rw [HM.out]; simp; omega
      go_wp2
      go_ret
      exact ⟨rfl, Below.refl _ _⟩
    · have HR := Hid.mk' (show r = tagsK 32 (kys l) by rw [HM.out]; simp [t0]; omega)
      clear HM
      go_wp2
      go_loopw [3] (fun i W => ∃ k : Nat, k ≤ l.length ∧ i = .int .i64 k ∧ r = tagsK (prevT l k) (kys (l.drop k)) ∧ 32 ≤ prevT l k ∧ Below w.heap.size w W) (fun i _ => l.length - (intOf i).toNat)
      case atStart => exact ⟨0, by omega, rfl, HR.out, by simp [prevT], Below.refl _ _⟩
      case round =>
        obtain ⟨k, hk, rfl, ht, hpr, hb⟩ := hrel
        by_cases t : k < l.length
        · obtain ⟨b1, o1, rfl, hc⟩ := (hp.below hb).at (by omega)
          obtain ⟨e0, e1, hx⟩ := hc k t
          rw [drop_next l k t] at ht
          simp only [kys, List.map_cons, tagsK, ky] at ht
          have hpn : prevT l (k + 1) = (l.getD k zf).tag := by simp [prevT]
          have HB := Hid.mk' hb
          by_cases k0 : k = 0
          · subst k0
            simp only [prevT, if_true] at ht
            generalize l.getD 0 zf = x at ht e0 e1 hx hpn
            simp only [Nat.zero_mul, Nat.add_zero] at e0 e1
            have HT := Hid.mk' ht
            have HP := Hid.mk' hpn
            clear hc hb ht hpn hx
            by_cases t2 : x.tag < 32
            · obtain rfl : r = false := by rw [HT.out]; simp; intro h1; omega
              clear HT
              go_wp2_with fail
              go_quiet (fail)
              go_wp2
              try rw [Exit.noGoto_ret]
              go_ret
              exact ⟨rfl, bel_drewN HB.out _⟩
            · have d2 : decide (x.tag < 32) = false := decide_eq_false t2
              by_cases t3 : 255 < x.tag
              · obtain rfl : r = false := by rw [HT.out]; simp; intro h1; omega
                clear HT
                go_wp2_with fail
                go_quiet (fail)
                go_wp2
                try rw [Exit.noGoto_ret]
                go_ret
                exact ⟨rfl, bel_drewN HB.out _⟩
              · have d3 : decide (255 < x.tag) = false := decide_eq_false t3
                go_wp2_with fail
                go_quiet (fail)
                go_wp2
                go_roundw
                case rel => exact ⟨1, by omega, by go_num, by rw [HT.out, HP.out]; simp [kys, show (32 : Int) ≤ x.tag by omega, show x.tag ≤ 255 by omega], by rw [HP.out]; omega, bel_drewN HB.out _⟩
                case measure => simp [intOf]; omega
          · obtain ⟨m, rfl⟩ : ∃ m, k = m + 1 := ⟨k - 1, by omega⟩
            obtain ⟨g0, g1, hy⟩ := hc m (by omega)
            have hpv : prevT l (m + 1) = (l.getD m zf).tag := by simp [prevT]
            rw [hpv] at ht hpr
            generalize l.getD (m + 1) zf = x at ht e0 e1 hx hpn
            generalize l.getD m zf = y at ht g0 g1 hy hpr
            have HT := Hid.mk' ht
            have HP := Hid.mk' hpn
            clear hc hb ht hpn hx hpv hy
            by_cases t2 : x.tag < 32
            · obtain rfl : r = false := by rw [HT.out]; simp; intro h1; omega
              clear HT
              go_wp2_with fail
              go_quiet (fail)
              go_wp2
              try rw [Exit.noGoto_ret]
              go_ret
              exact ⟨rfl, bel_drewN HB.out _⟩
            · have d2 : decide (x.tag < 32) = false := decide_eq_false t2
              by_cases t3 : 255 < x.tag
              · obtain rfl : r = false := by rw [HT.out]; simp; intro h1; omega
                clear HT
                go_wp2_with fail
                go_quiet (fail)
                go_wp2
                try rw [Exit.noGoto_ret]
                go_ret
                exact ⟨rfl, bel_drewN HB.out _⟩
              · have d3 : decide (255 < x.tag) = false := decide_eq_false t3
                have hpos : (0 : Int) < ((m + 1 : Nat) : Int) := by omega
                by_cases t4 : x.tag < y.tag
                · obtain rfl : r = false := by rw [HT.out]; simp; intro h1; omega
                  clear HT
                  go_wp2_with fail
                  go_quiet (fail)
                  go_wp2
                  try rw [Exit.noGoto_ret]
                  go_ret
                  exact ⟨rfl, bel_drewN HB.out _⟩
                · have d4 : decide (x.tag < y.tag) = false := decide_eq_false t4
                  go_wp2_with fail
                  go_quiet (fail)
                  go_wp2
                  go_roundw
                  case rel => exact ⟨m + 2, by omega, by go_num, by rw [HT.out, HP.out]; simp [kys, show y.tag ≤ x.tag by omega, show x.tag ≤ 255 by omega], by rw [HP.out]; omega, bel_drewN HB.out _⟩
                  case measure => simp [intOf]; omega
        · obtain rfl : k = l.length := by omega
          rw [List.drop_of_length_le (Nat.le_refl _)] at ht
          obtain rfl : r = true := ht
          go_wp2
          go_ret
          exact ⟨rfl, hb⟩
  · obtain rfl : r = false := by rw [HM.out]; simp [t0]
    go_wp2
    go_ret
    exact ⟨rfl, Below.refl _ _⟩
end Go.Proofs.Ytecdagmeobiahaa
