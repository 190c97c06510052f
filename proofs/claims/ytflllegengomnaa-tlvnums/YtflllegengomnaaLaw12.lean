/-
  Stage 12: the statements' own functions: few, lay, same, awake.
-/
import Derived.Test.YtflllegengomnaaTlvK
import Derived.Test.YtflllegengomnaaTlvN
import Derived.Test.YtflllegengomnaaTlvS
import Derived.Deep.QuietTactic
namespace Go.Proofs.Ytflllegengomnaa
open Go.RowKit
set_option linter.unusedSimpArgs false
set_option linter.unusedVariables false
set_option maxRecDepth 10000

/-- 'append(v, y)' of one field that was laid for it, as one step of a region that draws its order. -/
theorem step_addN {W : World} {ops : Array Oper} {o : Oper} {ac : Act} {K : Act → World → Prop} {Q : Exit → Act → World → Prop} {E : Prop} (hgd : o.guard = none) (s x : Operand)
    (ho : o.op = .call { callee := .builtin .append, args := #[s, x], argTypes := #[22, 22] })
    {B : Nat} {v : Value} {L : List Fd} (hs : ac.eval s = v) (h3 : OwnF B W v L) (hB : B ≤ W.heap.size) (tg : Int) (p : Option Addr) (n cp : Nat) (d : List Int) (hn : d.length = n) (hy : FOk W ⟨tg, p, cp, d⟩) (hoff : 0 < d.length → ∀ a, p = some a → v.ownBlock ≠ some a.block) (hx : ac.eval x = .slice (some ⟨W.heap.size, 0, none⟩) 1 1) (hl : L.length ≤ 1000000)
    (h : ∀ v' w', OwnF B w' v' (L ++ [⟨tg, p, cp, d⟩]) → Below B W w' → K (ac.put o.dst v') w') : if Region.wanted o (yielded ops ac.tmps) = true then Oper.wp Try.prog o ac (W.alloc (.cells #[.int .i64 tg, .slice p n cp] 30)) K Q else E := by
  subst hn
  obtain ⟨y, hyy⟩ : ∃ y : Fd, y = ⟨tg, p, cp, d⟩ := ⟨_, rfl⟩
  rw [← hyy] at hy h
  rw [show W.alloc (.cells #[.int .i64 tg, .slice p d.length cp] 30) = W.alloc (.cells #[.int .i64 y.tag, .slice y.p y.d.length y.cap] 30) by rw [hyy]]
  obtain ⟨i0, hi, hz0, hz1, hz2⟩ := info_parts infoF
  have hb : Below W.heap.size W (W.alloc (.cells #[.int .i64 y.tag, .slice y.p y.d.length y.cap] 30)) := (Below.refl _ _).alloc (Nat.le_refl _) _
  refine step_append_fr hgd s x 22 ho 30 i0 _ 2 32 Try.underlying22 hi hz0 hz1 hz2 rfl (by decide) v L.length _ hs (h3.on hb).own.owns (some ⟨W.heap.size, 0, none⟩) 1 1 ([y].flatMap Fd.cells) hx (by simp) (by simp [Fd.cells]) (fun _ => ?_) (flat_one _) (by unfold maxLen; omega) (by omega) fun v' w' hA => ?_
  · refine ⟨_, rfl, fun j u hj => ?_⟩
    have hg := heap_alloc_new W (.cells #[.int .i64 y.tag, .slice y.p y.d.length y.cap] 30)
    rw [Go.WideShapes.add_plain]
    generalize W.alloc (.cells #[.int .i64 y.tag, .slice y.p y.d.length y.cap] 30) = X at hg ⊢
    simp [World.cell?, hg]
    simpa [Fd.cells] using hj
  · obtain ⟨k1, k2⟩ := (h3.on hb).add (f := y) (Nat.le_trans hB hb.size) (hy.below hb) (by rw [hyy]; exact hoff) hA
    exact h v' w' k1 ((hb.mono hB).trans k2)

def few12 (l : List Fd) : Bool := decide (l.length ≤ 30) && l.all fun f => decide (f.d.length ≤ 400)
theorem few12_yes {l : List Fd} (h : few12 l = true) : l.length ≤ 30 ∧ ∀ f ∈ l, f.d.length ≤ 400 := by simpa [few12] using h

set_option maxHeartbeats 1600000 in
theorem few12_any (p : Option Addr) (c : Nat) (l : List Fd) (w : World) (hp : FIn w p l) (hn : l.length ≤ maxLen) :
    Calls Try.prog 7 #[.slice p l.length c] w fun e w' => e = .returned (.bool (few12 l)) ∧ w = w' := by
  have HF := Hid.mk' (show few12 l = (decide (l.length ≤ 30) && l.all fun f => decide (f.d.length ≤ 400)) from rfl)
  simp only [maxLen] at hn
  generalize few12 l = r at HF ⊢
  go_enter Try.func7, Try.ntmps7
  by_cases t0 : l.length ≤ 30
  · have t0' : ¬ (30 : Int) < l.length := by omega
    go_wp2
    go_loop [3] (fun i => ∃ k : Nat, k ≤ l.length ∧ i = .int .i64 k ∧ Hid (∀ f ∈ l.take k, f.d.length ≤ 400)) (fun i => l.length - (intOf i).toNat)
    case atStart => exact ⟨0, by omega, rfl, by simp [Hid]⟩
    case round =>
      obtain ⟨k, hk, rfl, HA⟩ := hrel
      by_cases t : k < l.length
      · obtain ⟨b, o, rfl, hc⟩ := hp.at (by omega)
        obtain ⟨e0, e1, hx⟩ := hc k t
        have HN := Hid.mk' (take_next l k t)
        have HM := Hid.mk' (show l.getD k zf ∈ l by simp [List.getD, t])
        have hfew := hx.few
        generalize l.getD k zf = y at HN HM e0 e1 hfew
        clear hc hx
        by_cases t2 : y.d.length ≤ 400
        · have t2' : ¬ (400 : Int) < y.d.length := by omega
          have HA2 := Hid.mk' (show ∀ f ∈ l.take (k + 1), f.d.length ≤ 400 from fun f hf => by
            rw [HN.out] at hf
            rcases List.mem_append.1 hf with q | q
            · exact HA.out f q
            · simp at q; subst q; exact t2)
          go_wp2
          go_round
          case rel => exact ⟨k + 1, by omega, by go_num, HA2⟩
          case measure => simp [intOf]; omega
        · have t2' : (400 : Int) < y.d.length := by omega
          obtain rfl : r = false := by
            rw [HF.out]
            have : (l.all fun f => decide (f.d.length ≤ 400)) = false := by
              rw [Bool.eq_false_iff]
              intro h
              rw [List.all_eq_true] at h
              have := h y HM.out
              simp at this
              omega
            rw [this]; simp
          go_wp2
          try rw [Exit.noGoto_ret]
          go_ret
          exact ⟨rfl, rfl⟩
      · obtain rfl : k = l.length := by omega
        rw [List.take_of_length_le (Nat.le_refl _)] at HA
        obtain rfl : r = true := by
          rw [HF.out]
          have : (l.all fun f => decide (f.d.length ≤ 400)) = true := List.all_eq_true.2 fun f hf => by simpa using HA.out f hf
          rw [this]; simp [t0]
        go_wp2
        go_ret
        exact ⟨rfl, rfl⟩
  · have t0' : (30 : Int) < l.length := by omega
    obtain rfl : r = false := by rw [HF.out]; simp [t0]
    go_wp2
    go_ret
    exact ⟨rfl, rfl⟩

set_option maxHeartbeats 4000000 in
theorem same12_any (p q : Option Addr) (c d : Nat) (a b : List Fd) (w : World) (hp : FIn w p a) (hq : FIn w q b) (hn : a.length ≤ maxLen) (hm : b.length ≤ maxLen) :
    Calls Try.prog 12 #[.slice p a.length c, .slice q b.length d] w fun e w' => e = .returned (.bool (decide (kys a = kys b))) ∧ Below w.heap.size w w' := by
  simp only [maxLen] at hn hm
  obtain ⟨r, hr⟩ : ∃ r, decide (kys a = kys b) = r := ⟨_, rfl⟩
  rw [hr]
  go_enter Try.func12, Try.ntmps12
  by_cases t0 : a.length = b.length
  · go_wp2
    go_loopw [5] (fun i W => ∃ k : Nat, k ≤ a.length ∧ i = .int .i64 k ∧ r = decide (kys (a.drop k) = kys (b.drop k)) ∧ Below w.heap.size w W) (fun i _ => a.length - (intOf i).toNat)
    case atStart => exact ⟨0, by omega, rfl, hr.symm, Below.refl _ _⟩
    case round =>
      obtain ⟨k, hk, rfl, ht, hb⟩ := hrel
      by_cases t : k < a.length
      · have t2 : k < b.length := by omega
        obtain ⟨b1, o1, rfl, hc⟩ := (hp.below hb).at (by omega)
        obtain ⟨e0, e1, hx⟩ := hc k t
        obtain ⟨b2, o2, rfl, hc2⟩ := (hq.below hb).at (by omega)
        obtain ⟨f0, f1, hy⟩ := hc2 k t2
        rw [drop_next a k t, drop_next b k t2] at ht
        simp only [kys, List.map_cons, List.cons.injEq, ky, Prod.mk.injEq] at ht
        generalize a.getD k zf = x at ht e0 e1 hx
        generalize b.getD k zf = y at ht f0 f1 hy
        have cx := conv_any hx
        have cy := conv_any hy
        have hst := str_inj x.d y.d hx.isb hy.isb
        have HT := Hid.mk' ht
        have HB := Hid.mk' hb
        clear ht hc hc2 hx hy hb
        by_cases t3 : x.tag = y.tag
        · have d3 : (x.tag != y.tag) = false := by simpa using t3
          by_cases t4 : x.d = y.d
          · rw [decide_eq_true t4] at hst
            have HV := Hid.mk' (show r = decide (List.map ky (List.drop (k + 1) a) = List.map ky (List.drop (k + 1) b)) by rw [HT.out]; simp [t3, t4])
            clear HT t4
            go_wp2_with fail
            go_quiet (fail)
            go_wp2
            go_roundw
            case rel => exact ⟨k + 1, by omega, by go_num, HV.out, bel_drewN HB.out _⟩
            case measure => simp [intOf]; omega
          · rw [decide_eq_false t4] at hst
            obtain rfl : r = false := by rw [HT.out]; simp [t4]
            clear HT t4
            go_wp2_with fail
            go_quiet (fail)
            go_wp2
            try rw [Exit.noGoto_ret]
            go_ret
            exact ⟨rfl, bel_drewN HB.out _⟩
        · have d3 : (x.tag != y.tag) = true := by simpa using t3
          obtain rfl : r = false := by rw [HT.out]; simp [t3]
          clear HT hst cx cy
          go_wp2_with fail
          go_quiet (fail)
          go_wp2
          try rw [Exit.noGoto_ret]
          go_ret
          exact ⟨rfl, bel_drewN HB.out _⟩
      · rw [List.drop_of_length_le (l := a) (by omega), List.drop_of_length_le (l := b) (by omega)] at ht
        obtain rfl : r = true := by simpa using ht
        clear ht hr
        go_wp2
        go_ret
        exact ⟨rfl, hb⟩
  · have t0' : ¬ (a.length : Int) = (b.length : Int) := by omega
    have d0 : ((a.length : Int) != (b.length : Int)) = true := by simp; omega
    obtain rfl : r = false := by
      rw [← hr]
      simp
      intro h
      have := congrArg List.length h
      rw [kys_len, kys_len] at this
      omega
    go_wp2
    go_ret
    exact ⟨rfl, Below.refl _ _⟩
end Go.Proofs.Ytflllegengomnaa
