/-
  Stage 6: the statements' own functions: Few, size, may, alike, order.
-/
import Derived.Test.YtnladolpcocchaaBagC
import Derived.Deep.QuietTactic
import Derived.BigQuiet
namespace Go.Proofs.Ytnladolpcocchaa
open Go.RowKit
set_option linter.unusedSimpArgs false
set_option linter.unusedVariables false
set_option maxRecDepth 10000

def fewK (l : List Key) : Bool := decide (l.length ≤ 40) && decide (szK l ≤ 5000)
theorem few_yes {l : List Fd} (h : fewK (kys l) = true) : l.length ≤ 40 ∧ szK (kys l) ≤ 5000 := by simpa [fewK, kys_len] using h

set_option maxHeartbeats 1600000 in
theorem few_any (p : Option Addr) (c : Nat) (l : List Fd) (w : World) (hp : FIn w p l) (hn : l.length ≤ maxLen) :
    Calls Try.prog 17 #[.slice p l.length c] w fun e w' => e = .returned (.bool (fewK (kys l))) ∧ w = w' := by
  have HF := Hid.mk' (show fewK (kys l) = (decide (l.length ≤ 40) && decide (szK (kys l) ≤ 5000)) by rw [fewK, kys_len])
  simp only [maxLen] at hn
  generalize fewK (kys l) = r at HF ⊢
  go_enter Try.func17, Try.ntmps17
  by_cases t0 : l.length ≤ 40
  · go_wp2
    go_loop [3, 4] (fun n i => ∃ k : Nat, k ≤ l.length ∧ i = .int .i64 k ∧ n = .int .i64 (szK (kys (l.take k)) : Nat) ∧ szK (kys (l.take k)) ≤ 5000) (fun n i => l.length - (intOf i).toNat)
    case atStart => exact ⟨0, by omega, rfl, rfl, by simp [szK, kys]⟩
    case round =>
      obtain ⟨k, hk, rfl, rfl, hz⟩ := hrel
      by_cases t : k < l.length
      · obtain ⟨b, o, rfl, hc⟩ := hp.at (by omega)
        obtain ⟨e0, e1, hx⟩ := hc k t
        have HN := Hid.mk' (sz_next l k t)
        have HL := Hid.mk' (sz_take_le l (k + 1))
        have h1 := hx.few
        generalize l.getD k zf = y at HN e0 e1 h1
        clear hc hx
        by_cases t2 : szK (kys (l.take k)) + y.d.length ≤ 5000
        · have t2' : ¬ 5000 < (szK (kys (l.take k)) : Int) + (y.d.length : Int) := by omega
          go_wp2
          go_round
          case rel => exact ⟨k + 1, by omega, by go_num, by rw [HN.out]; go_num, by rw [HN.out]; exact t2⟩
          case measure => simp [intOf]; omega
        · have t2' : 5000 < (szK (kys (l.take k)) : Int) + (y.d.length : Int) := by omega
          have hle := HL.out
          rw [HN.out] at hle
          obtain rfl : r = false := by rw [HF.out]; simp [t0]; omega
          clear hle
          go_wp2
          try rw [Exit.noGoto_ret]
          go_ret
          exact ⟨rfl, rfl⟩
      · obtain rfl : k = l.length := by omega
        rw [List.take_of_length_le (Nat.le_refl _)] at hz
        obtain rfl : r = true := by rw [HF.out]; simp [t0, hz]
        go_wp2
        go_ret
        exact ⟨rfl, rfl⟩
  · obtain rfl : r = false := by rw [HF.out]; simp [t0]
    go_wp2
    go_ret
    exact ⟨rfl, rfl⟩


theorem conv_any {w : World} {x : Fd} (h : FOk w x) (n : Nat) : (convert 53 9 (.slice x.p x.d.length x.cap)).run Try.prog (w.drewN n) = .ok (.string (strOfNums x.d)) (w.drewN n) :=
  BIn.convert (P := Try.prog) (w := w.drewN n) (show BIn (w.drewN n) x.p x.d from h.bin) x.cap 53 5 9 Try.underlying53 Try.underlying5 Try.underlying9



def prevT (l : List Fd) (k : Nat) : Int := if k = 0 then 32 else (l.getD (k - 1) zf).tag


end Go.Proofs.Ytnladolpcocchaa
