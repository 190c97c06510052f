/-
  Texts as lists of bytes; package known: mayStand, isBuild, Knows.
-/
import Derived.Test.YtflllegengomnaaBagP
import Derived.Test.YtflllegengomnaaOctetW
import Derived.Test.YtflllegengomnaaLaw06
import Derived.PlainAid
namespace Go.Proofs.Ytflllegengomnaa
open Go.RowKit
set_option linter.unusedSimpArgs false
set_option linter.unusedVariables false

/-- The text s has the bytes l. -/
structure Str (s : ByteArray) (l : List Int) : Prop where
  len : s.size = l.length
  get : ∀ (n : Nat) (h : n < s.size), ((s[n]'h).toNat : Int) = l.getD n 0
  isb : isB l
  str : s = strOfNums l

def numsOf (s : ByteArray) : List Int := s.data.toList.map fun b => (b.toNat : Int)

theorem str_nums (s : ByteArray) : strOfNums (numsOf s) = s := by
  cases s with
  | mk d =>
    simp only [strOfNums, numsOf, List.map_map]
    congr 1
    apply Array.ext'
    simp [Function.comp_def]

theorem Str.of (l : List Int) (h : isB l) : Str (strOfNums l) l := by
  refine ⟨strOfNums_size l, fun n hn => ?_, h, rfl⟩
  have hl : n < l.length := by rw [← strOfNums_size l]; exact hn
  have hx := h l[n] (List.getElem_mem hl)
  have e : (strOfNums l)[n]'hn = UInt8.ofNat l[n].toNat := by
    show (strOfNums l).data[n]'hn = _
    simp [strOfNums]
  rw [e]
  simp [List.getD, hl, UInt8.toNat_ofNat']
  omega

theorem nums_isB (s : ByteArray) : isB (numsOf s) := fun x hx => by
  simp [numsOf] at hx
  obtain ⟨b, _, rfl⟩ := hx
  have := b.toNat_lt
  omega

theorem Str.all (s : ByteArray) : Str s (numsOf s) := by
  have := Str.of (numsOf s) (nums_isB s)
  rwa [str_nums] at this

theorem Str.uniq {s t : ByteArray} {l m : List Int} (h : Str s l) (k : Str t m) : (s.toList == t.toList) = decide (l = m) := by
  rw [h.str, k.str]; exact str_inj l m h.isb k.isb

/-- A byte that may stand in a build. -/
def mayC (c : Int) : Bool := decide (97 ≤ c ∧ c ≤ 122) || decide (48 ≤ c ∧ c ≤ 57) || decide (c = 46) || decide (c = 45)
def isBd (l : List Int) : Bool := decide (1 ≤ l.length) && decide (l.length ≤ 16) && l.all mayC
def plainL (l : List Int) : Bool := decide (l.length ≤ 16) && l.all mayC

theorem plain_bd (l : List Int) : isBd l = (decide (l ≠ []) && plainL l) := by
  cases l <;> simp [isBd, plainL]


theorem all_drop {p : Int → Bool} (l : List Int) (k : Nat) (h : k < l.length) : (l.drop k).all p = (p (l.getD k 0) && (l.drop (k + 1)).all p) := by
  rw [List.drop_eq_getElem_cons h, List.all_cons]; simp [List.getD, h]



/-- Is a tag in the level's table? -/
def knowsK (level tag : Int) : Bool := (decide (level = 2) || decide (level = 3)) && (decide (tag = 32) || decide (tag = 33)) || decide (level = 3) && decide (tag = 34)


end Go.Proofs.Ytflllegengomnaa
