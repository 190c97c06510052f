/-
  Texts as lists of bytes; package known: mayStand, isBuild, Knows.
-/
import Derived.Test.YtecdagmeobiahaaDoorBagP
import Derived.Test.YtecdagmeobiahaaDoorOctetW
import Derived.Test.YtecdagmeobiahaaDoorLaw06
import Derived.PlainAid
namespace Go.Proofs.YtecdagmeobiahaaDoor
open Go.RowKit
set_option linter.unusedSimpArgs false
set_option linter.unusedVariables false

/-- The text s has the bytes l. -/
structure Str (s : ByteArray) (l : List Int) : Prop where
  len : s.size = l.length
  get : ∀ (n : Nat) (h : n < s.size), ((s[n]'h).toNat : Int) = l.getD n 0
  isb : isB l
  str : s = strOfNums l

def numsOf (s : ByteArray) : List Int := s.data.toList.map fun b => (b.toNat : Int)

theorem str_nums (s : ByteArray) : strOfNums (numsOf s) = s := by
  cases s with
  | mk d =>
    simp only [strOfNums, numsOf, List.map_map]
    congr 1
    apply Array.ext'
    simp [Function.comp_def]

theorem Str.of (l : List Int) (h : isB l) : Str (strOfNums l) l := by
  refine ⟨strOfNums_size l, fun n hn => ?_, h, rfl⟩
  have hl : n < l.length := by rw [← strOfNums_size l]; exact hn
  have hx := h l[n] (List.getElem_mem hl)
  have e : (strOfNums l)[n]'hn = UInt8.ofNat l[n].toNat := by
    show (strOfNums l).data[n]'hn = _
    simp [strOfNums]
  rw [e]
  simp [List.getD, hl, UInt8.toNat_ofNat']
  omega

theorem nums_isB (s : ByteArray) : isB (numsOf s) := fun x hx => by
  simp [numsOf] at hx
  obtain ⟨b, _, rfl⟩ := hx
  have := b.toNat_lt
  omega

theorem Str.all (s : ByteArray) : Str s (numsOf s) := by
  have := Str.of (numsOf s) (nums_isB s)
  rwa [str_nums] at this

theorem Str.uniq {s t : ByteArray} {l m : List Int} (h : Str s l) (k : Str t m) : (s.toList == t.toList) = decide (l = m) := by
  rw [h.str, k.str]; exact str_inj l m h.isb k.isb

/-- A byte that may stand in a build. -/
def mayC (c : Int) : Bool := decide (97 ≤ c ∧ c ≤ 122) || decide (48 ≤ c ∧ c ≤ 57) || decide (c = 46) || decide (c = 45)
def isBd (l : List Int) : Bool := decide (1 ≤ l.length) && decide (l.length ≤ 16) && l.all mayC
def plainL (l : List Int) : Bool := decide (l.length ≤ 16) && l.all mayC

theorem plain_bd (l : List Int) : isBd l = (decide (l ≠ []) && plainL l) := by
  cases l <;> simp [isBd, plainL]

set_option maxHeartbeats 1600000 in
theorem mayStand_any (c : Int) (w : World) :
    Calls Tryd.prog 48 #[.int .u8 c] w fun e w' => e = .returned (.bool (mayC c)) ∧ w = w' := by
  have HM := Hid.mk' (show mayC c = (decide (97 ≤ c ∧ c ≤ 122) || decide (48 ≤ c ∧ c ≤ 57) || decide (c = 46) || decide (c = 45)) from rfl)
  generalize mayC c = r at HM ⊢
  by_cases t1 : 97 ≤ c
  · by_cases t2 : c ≤ 122
    · obtain rfl : r = true := by rw [HM.out]; simp; omega
      go_enter Tryd.func48, Tryd.ntmps48
      go_wp2
      go_ret
      exact ⟨rfl, rfl⟩
    · obtain rfl : r = false := by rw [HM.out]; simp; omega
      have t3 : 48 ≤ c := by omega
      have t4 : ¬ c ≤ 57 := by omega
      have t5 : (c == 46) = false := by simp; omega
      have t6 : (c == 45) = false := by simp; omega
      go_enter Tryd.func48, Tryd.ntmps48
      go_wp2
      go_ret
      exact ⟨rfl, rfl⟩
  · by_cases t3 : 48 ≤ c
    · by_cases t4 : c ≤ 57
      · obtain rfl : r = true := by rw [HM.out]; simp; omega
        go_enter Tryd.func48, Tryd.ntmps48
        go_wp2
        go_ret
        exact ⟨rfl, rfl⟩
      · obtain rfl : r = false := by rw [HM.out]; simp; omega
        have t5 : (c == 46) = false := by simp; omega
        have t6 : (c == 45) = false := by simp; omega
        go_enter Tryd.func48, Tryd.ntmps48
        go_wp2
        go_ret
        exact ⟨rfl, rfl⟩
    · by_cases t5 : c = 46
      · subst t5
        obtain rfl : r = true := by rw [HM.out]; decide
        go_enter Tryd.func48, Tryd.ntmps48
        go_wp2
        go_ret
        exact ⟨rfl, rfl⟩
      · by_cases t6 : c = 45
        · subst t6
          obtain rfl : r = true := by rw [HM.out]; decide
          go_enter Tryd.func48, Tryd.ntmps48
          go_wp2
          go_ret
          exact ⟨rfl, rfl⟩
        · obtain rfl : r = false := by rw [HM.out]; simp; omega
          have u5 : (c == 46) = false := by simp; omega
          have u6 : (c == 45) = false := by simp; omega
          go_enter Tryd.func48, Tryd.ntmps48
          go_wp2
          go_ret
          exact ⟨rfl, rfl⟩

theorem all_drop {p : Int → Bool} (l : List Int) (k : Nat) (h : k < l.length) : (l.drop k).all p = (p (l.getD k 0) && (l.drop (k + 1)).all p) := by
  rw [List.drop_eq_getElem_cons h, List.all_cons]; simp [List.getD, h]

set_option maxHeartbeats 1600000 in
theorem isBuild_any (s : ByteArray) (l : List Int) (w : World) (hs : Str s l) (hm : s.size ≤ maxLen) :
    Calls Tryd.prog 40 #[.string s] w fun e w' => e = .returned (.bool (isBd l)) ∧ w = w' := by
  have HM := Hid.mk' (show isBd l = (decide (1 ≤ l.length) && decide (l.length ≤ 16) && l.all mayC) from rfl)
  have HL := Hid.mk' hs.len
  have HG := Hid.mk' hs.get
  unfold maxLen at hm
  generalize isBd l = r at HM ⊢
  by_cases t1 : s.size < 1
  · obtain rfl : r = false := by have := HL.out; rw [HM.out]; simp; omega
    go_enter Tryd.func40, Tryd.ntmps40
    go_wp2
    go_ret
    exact ⟨rfl, rfl⟩
  by_cases t2 : 16 < s.size
  · obtain rfl : r = false := by have := HL.out; rw [HM.out]; simp; omega
    have t1' : ¬ (s.size : Int) < 1 := by omega
    have t2' : 16 < (s.size : Int) := by omega
    go_enter Tryd.func40, Tryd.ntmps40
    go_wp2
    go_ret
    exact ⟨rfl, rfl⟩
  have HR := Hid.mk' (show r = l.all mayC by have := HL.out; rw [HM.out]; simp; omega)
  have t1' : ¬ (s.size : Int) < 1 := by omega
  have t2' : ¬ 16 < (s.size : Int) := by omega
  clear HM
  go_enter Tryd.func40, Tryd.ntmps40
  go_wp2
  go_loop [14] (fun i => ∃ k : Nat, k ≤ s.size ∧ i = .int .i64 k ∧ Hid (r = (l.drop k).all mayC)) (fun i => s.size - (intOf i).toNat)
  case atStart => exact ⟨0, by omega, rfl, by rw [List.drop_zero]; exact HR.out⟩
  case round =>
    obtain ⟨k, hk, rfl, HT⟩ := hrel
    by_cases t : k < s.size
    · have g := HG.out k t
      have HD := Hid.mk' (all_drop (p := mayC) l k (by rw [← HL.out]; exact t))
      generalize l.getD k 0 = c at g HD
      have C := mayStand_any c w
      generalize hm : mayC c = m at C HD
      go_wp2_with fail
      refine C.mono ?_
      rintro e w' ⟨rfl, rfl⟩
      cases m
      · obtain rfl : r = false := by rw [HT.out, HD.out]; rfl
        go_wp2_with fail
        try rw [Exit.noGoto_ret]
        go_ret
        exact ⟨rfl, rfl⟩
      · go_wp2_with fail
        go_round
        case rel => exact ⟨k + 1, by omega, by go_num, by rw [HT.out, HD.out]; rfl⟩
        case measure => simp [intOf]; omega
    · obtain rfl : k = s.size := by omega
      obtain rfl : r = true := by rw [HT.out, HL.out]; simp
      go_wp2
      go_ret
      exact ⟨rfl, rfl⟩


/-- Is a tag in the level's table? -/
def knowsK (level tag : Int) : Bool := (decide (level = 2) || decide (level = 3)) && (decide (tag = 32) || decide (tag = 33)) || decide (level = 3) && decide (tag = 34)

set_option maxHeartbeats 1600000 in
theorem knows_any (v t : Int) (w : World) :
    Calls Tryd.prog 17 #[.int .i64 v, .int .i64 t] w fun e w' => e = .returned (.bool (knowsK v t)) ∧ w = w' := by
  have HM := Hid.mk' (show knowsK v t = ((decide (v = 2) || decide (v = 3)) && (decide (t = 32) || decide (t = 33)) || decide (v = 3) && decide (t = 34)) from rfl)
  generalize knowsK v t = r at HM ⊢
  by_cases a1 : v = 3 <;> by_cases a2 : v = 2 <;> by_cases b1 : t = 32 <;> by_cases b2 : t = 33 <;> by_cases b3 : t = 34 <;> first | (exfalso; omega) | skip
  all_goals
    obtain ⟨q, hq⟩ : ∃ q, ((decide (v = 2) || decide (v = 3)) && (decide (t = 32) || decide (t = 33)) || decide (v = 3) && decide (t = 34)) = q := ⟨_, rfl⟩
    have HQ := Hid.mk' (HM.out.trans hq)
    simp [a1, a2, b1, b2, b3] at hq
    subst hq
    obtain rfl := HQ.out
    clear HQ HM
    have c1 : (v == 3) = decide (v = 3) := rfl
    have c2 : (v == 2) = decide (v = 2) := rfl
    have d1 : (t == 32) = decide (t = 32) := rfl
    have d2 : (t == 33) = decide (t = 33) := rfl
    have d3 : (t == 34) = decide (t = 34) := rfl
    simp only [a1, a2, b1, b2, b3, decide_true, decide_false] at c1 c2 d1 d2 d3
    try subst a1
    try subst a2
    try subst b1
    try subst b2
    try subst b3
    go_enter Tryd.func17, Tryd.ntmps17
    go_wp2
    go_ret
    exact ⟨rfl, rfl⟩
end Go.Proofs.YtecdagmeobiahaaDoor
