/-
  Layer 3: the table as the program's text lays it; the statements' own example and their helper 'tail'.
-/
import Derived.Test.YtecdagmeobiahaaDoorCrc
import Derived.Test.YtecdagmeobiahaaDoorAcc
import Derived.LaidMore
import Derived.MakeChecks
import Derived.Lib.SlBytesConst
namespace Go.Proofs.YtecdagmeobiahaaDoor
open Go.RowKit
set_option linter.unusedSimpArgs false
set_option linter.unusedVariables false

theorem laidVars_mem {P : Program} {w : World} {n : String} {d : DataW Unit} : ∀ {L : List (String × DataW Unit)} {ps : List MemPlace}, DataW.LaidVars P w L ps → (n, d) ∈ L →
    ∃ g t cs fuel p, P.globalNamed n = some g ∧ (P.globals[g]?).map (·.type) = some t ∧ w.var? P n = some cs ∧ DataW.trod (fun _ => ()) P w 0 (fun _ => true) false fuel t cs.toList = some (d, p)
  | [], _, _, hm => by cases hm
  | (m, e) :: r, ps, h, hm => by
    obtain ⟨g, t, cs, fuel, p, q, h1, h2, h3, h4, h5, _⟩ := h
    rcases List.mem_cons.1 hm with hm | hm
    · cases hm; exact ⟨g, t, cs, fuel, p, h1, h2, h3, h4⟩
    · exact laidVars_mem h5 hm

def halvesZ : List Int := [0, 79764919, 159529838, 222504665, 319059676, 398814059, 445009330, 507990021, 638119352, 583659535, 797628118, 726387553, 890018660, 835552979, 1015980042, 944750013]

theorem halvesZ_tab (i : Nat) (h : i < 16) : halvesZ[i]? = some ((tabR i : Nat) : Int) := by
  have all : ∀ i : Fin 16, halvesZ[i.val]? = some ((tabR i.val : Nat) : Int) := by decide +kernel
  exact all ⟨i, h⟩

/-- What the listed variable reads as is the table. -/
theorem tab_of_laid {L : List (String × DataW Unit)} (hp : (L.all fun x => x.2.handleName?.isNone) = true) (hm : ("polyglot/crc.halves", Rows.laid_polyglot_crc_halves) ∈ L) {W : World} (h : laidMetH Tryd.prog L W) : Tab W := by
  rw [MakeChecks.laidMetH_plain _ _ _ hp] at h
  obtain ⟨ps, hL, _, _⟩ := h
  obtain ⟨g, t, cs, fuel, p, hg, ht, hv, hd⟩ := laidVars_mem hL hm
  obtain rfl := Option.some.inj ((show Tryd.prog.globalNamed "polyglot/crc.halves" = some 1 by kernel_rfl).symm.trans hg)
  obtain rfl := Option.some.inj ((show (Tryd.prog.globals[1]?).map (·.type) = some 66 by kernel_rfl).symm.trans ht)
  have hc := Lib.cells_of_tab (k := .u32) (zs := halvesZ) Tryd.underlying66 Tryd.underlying46 (by kernel_rfl) (by kernel_rfl) hd
  intro i hi
  have := World.var?_cell hg hv i
  rw [← Array.getElem?_toList, hc, List.getElem?_map, halvesZ_tab i hi] at this
  exact this

end Go.Proofs.YtecdagmeobiahaaDoor
