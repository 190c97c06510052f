/-
  Stage 10: the statements' own May: its parts joined.
-/
import Derived.Test.YtjkimmflngiijaaDoorLaw10M4
import Derived.Test.YtjkimmflngiijaaDoorLaw10M5
namespace Go.Proofs.YtjkimmflngiijaaDoor
open Go.RowKit
set_option linter.unusedSimpArgs false
set_option linter.unusedVariables false
set_option maxRecDepth 10000
set_option synthInstance.maxSize 2000

theorem lmayM_any (m : Mg) (w : World) (hm : MOk w m) (hz : ∀ x ∈ m.recs, szK (kys x.bag) ≤ 4611686018427387904) : Calls Tryd.prog 16 #[.agg #[.int .i64 m.kind, .int .i64 m.frm, .int .i64 m.inc, .int .i64 m.lo, .int .i64 m.hi, .int .i64 m.seq, .int .i64 m.tgt, .int .i64 m.life, .int .i64 m.epoch, .int .i64 m.base, .slice m.p m.recs.length m.cap]] w fun e w' => e = .returned (.bool (mayM m)) ∧ Below w.heap.size w w' :=
  (mayPart1 m w).2 ⟨(mayPart2 m w).2 ⟨(mayPart3 m w).2.2 ⟨mayPart4 m w, mayPart5 m w⟩⟩⟩ hm hz
end Go.Proofs.YtjkimmflngiijaaDoor
