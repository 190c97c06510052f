/-
  Stage 6: the statements' own functions: Few, size, may, alike, order.
-/
import Derived.Test.YtflllegengomnaaBagC
import Derived.Deep.QuietTactic
import Derived.BigQuiet
namespace Go.Proofs.Ytflllegengomnaa
open Go.RowKit
set_option linter.unusedSimpArgs false
set_option linter.unusedVariables false
set_option maxRecDepth 10000

def fewK (l : List Key) : Bool := decide (l.length ≤ 40) && decide (szK l ≤ 5000)
theorem few_yes {l : List Fd} (h : fewK (kys l) = true) : l.length ≤ 40 ∧ szK (kys l) ≤ 5000 := by simpa [fewK, kys_len] using h



theorem conv_any {w : World} {x : Fd} (h : FOk w x) (n : Nat) : (convert 25 9 (.slice x.p x.d.length x.cap)).run Try.prog (w.drewN n) = .ok (.string (strOfNums x.d)) (w.drewN n) :=
  BIn.convert (P := Try.prog) (w := w.drewN n) (show BIn (w.drewN n) x.p x.d from h.bin) x.cap 25 5 9 Try.underlying25 Try.underlying5 Try.underlying9



def prevT (l : List Fd) (k : Nat) : Int := if k = 0 then 32 else (l.getD (k - 1) zf).tag


end Go.Proofs.Ytflllegengomnaa
