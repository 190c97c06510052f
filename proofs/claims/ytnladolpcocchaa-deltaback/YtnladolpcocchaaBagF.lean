/-
  Fields and bags as plain Lean values; package bag: Size, tagsMayBe, Valid, Light.
-/
import Derived.Test.YtnladolpcocchaaShapesZ
import Derived.Test.YtnladolpcocchaaOwn
import Derived.BigQuiet
import Derived.Test.YtnladolpcocchaaRows
import Derived.WalkSpells
import Derived.WalkLawsBesides
import Derived.WalkKit
namespace Go.Proofs.Ytnladolpcocchaa
open Go.RowKit
set_option linter.unusedSimpArgs false
set_option linter.unusedVariables false
set_option maxRecDepth 10000

/-- A field: its tag, and where its bytes lie. -/
structure Fd where
  tag : Int
  p : Option Addr
  cap : Nat
  d : List Int
def zf : Fd := ⟨0, none, 0, []⟩
def Fd.cells (f : Fd) : List Value := [.int .i64 f.tag, .slice f.p f.d.length f.cap]

structure FOk (w : World) (f : Fd) : Prop where
  tag : (Lit.int .i64 f.tag).wf = true
  len : f.d.length ≤ f.cap
  cap : f.cap ≤ maxLen
  nil : f.p = none → f.cap = 0
  bin : BIn w f.p f.d
  isb : isB f.d
  few : f.d.length ≤ 140737488355328

def shFd : Sh Fd := fun w cs f => cs = f.cells ∧ FOk w f
/-- Fields in a slice. -/
abbrev FIn (w : World) (p : Option Addr) (l : List Fd) : Prop := LIn w p 2 shFd l

/-- What a field says. -/
abbrev Key := Int × List Int
def ky (f : Fd) : Key := (f.tag, f.d)
def kys (l : List Fd) : List Key := l.map ky
def szK (l : List Key) : Nat := (l.map fun x => x.2.length).sum
def tagsK : Int → List Key → Bool
  | _, [] => true
  | a, x :: t => decide (a ≤ x.1) && decide (x.1 ≤ 255) && tagsK x.1 t
def mayK (l : List Key) : Bool := decide (l.length ≤ 32) && tagsK 32 l && decide (szK l ≤ 4096)

theorem opensZ_fd {H : Type} {enc : TypeId × Value → H} {w : World} {base : Nat} {spare : Nat → Bool} {held : Bool} : OpensZ enc Try.prog w base spare held 55 shFd := fun fuel cs x h hz => by
  obtain ⟨⟨t, d⟩, a, b, rfl, ⟨rfl, h1⟩, ⟨p, cap, rfl, h2, h3, h4, h6, h5⟩⟩ := opensZ_struct2 Try.underlying55 rfl (by kernel_rfl) (by kernel_rfl) (opens_int Try.underlying3).z (opensZ_slice (size := 1) (bytes := 1) Try.underlying53 (by kernel_rfl) (by kernel_rfl) (by decide) (opens_int Try.underlying5).z) fuel cs x h hz
  exact ⟨⟨t, p, cap, d⟩, rfl, ⟨h1, h2, h3, h4, h5.bytes, h5.isB, by have := reachBytes_lt; simp only at h6 ⊢; omega⟩⟩

theorem FOk.below {w w' : World} {f : Fd} (h : FOk w f) (k : Below w.heap.size w w') : FOk w' f := ⟨h.tag, h.len, h.cap, h.nil, h.bin.below k, h.isb, h.few⟩

theorem FIn.at {w : World} {p : Option Addr} {l : List Fd} (h : FIn w p l) (hl : 0 < l.length) : ∃ b o, p = some ⟨b, o, none⟩ ∧ ∀ i, i < l.length → w.cell? ⟨b, o + i * 2, none⟩ = some (.int .i64 (l.getD i zf).tag) ∧ w.cell? ⟨b, o + i * 2 + 1, none⟩ = some (.slice (l.getD i zf).p (l.getD i zf).d.length (l.getD i zf).cap) ∧ FOk w (l.getD i zf) := by
  obtain ⟨b, o, rfl, hc⟩ := h hl
  refine ⟨b, o, rfl, fun i hi => ?_⟩
  obtain ⟨cs, _, h1, rfl, h3⟩ := hc i hi
  have h0 := h1 0 (by omega)
  have h2 := h1 1 (by omega)
  simp [List.getD, hi, Fd.cells] at h0 h2 ⊢
  exact ⟨h0, h2, h3⟩

theorem FIn.of {w : World} {b o : Nat} {l : List Fd} (h : ∀ i, i < l.length → w.cell? ⟨b, o + i * 2, none⟩ = some (.int .i64 (l.getD i zf).tag) ∧ w.cell? ⟨b, o + i * 2 + 1, none⟩ = some (.slice (l.getD i zf).p (l.getD i zf).d.length (l.getD i zf).cap) ∧ FOk w (l.getD i zf)) : FIn w (some ⟨b, o, none⟩) l := fun _ => by
  refine ⟨b, o, rfl, fun i hi => ?_⟩
  obtain ⟨h1, h2, h3⟩ := h i hi
  simp [List.getD, hi] at h1 h2 h3
  refine ⟨l[i].cells, rfl, fun j hj => ?_, rfl, h3⟩
  have hj' : j = 0 ∨ j = 1 := by omega
  rcases hj' with rfl | rfl <;> simpa [Fd.cells]

theorem FIn.below {w w' : World} {p : Option Addr} {l : List Fd} (h : FIn w p l) (k : Below w.heap.size w w') : FIn w' p l := fun hl => by
  obtain ⟨b, o, rfl, hc⟩ := h.at hl
  refine FIn.of (fun i hi => ?_) hl
  obtain ⟨h1, h2, h3⟩ := hc i hi
  exact ⟨by rw [k.cell (p := ⟨b, o + i * 2, none⟩) (lt_of_cell h1)]; exact h1, by rw [k.cell (p := ⟨b, o + i * 2 + 1, none⟩) (lt_of_cell h2)]; exact h2, h3.below k⟩

theorem FIn.empty (w : World) (p : Option Addr) : FIn w p [] := LIn.empty _ _ _ _

theorem kys_len (l : List Fd) : (kys l).length = l.length := by simp [kys]
theorem kys_append (a b : List Fd) : kys (a ++ b) = kys a ++ kys b := by simp [kys]
theorem szK_append (a b : List Key) : szK (a ++ b) = szK a + szK b := by simp [szK]
theorem take_next (l : List Fd) (k : Nat) (h : k < l.length) : l.take (k + 1) = l.take k ++ [l.getD k zf] := by
  rw [List.take_succ_eq_append_getElem h]; simp [List.getD, h]
theorem drop_next (l : List Fd) (k : Nat) (h : k < l.length) : l.drop k = l.getD k zf :: l.drop (k + 1) := by
  rw [List.drop_eq_getElem_cons h]; simp [List.getD, h]
theorem sz_next (l : List Fd) (k : Nat) (h : k < l.length) : szK (kys (l.take (k + 1))) = szK (kys (l.take k)) + (l.getD k zf).d.length := by
  rw [take_next l k h, kys_append, szK_append]; simp [szK, kys, ky]
theorem sz_take_le (l : List Fd) (k : Nat) : szK (kys (l.take k)) ≤ szK (kys l) := by
  have h : szK (kys l) = szK (kys (l.take k)) + szK (kys (l.drop k)) := by rw [← szK_append, ← kys_append, List.take_append_drop]
  omega

set_option maxHeartbeats 1600000 in
theorem size_any (p : Option Addr) (c : Nat) (l : List Fd) (w : World) (hp : FIn w p l) (hn : l.length ≤ maxLen) (hz : szK (kys l) ≤ 4611686018427387904) :
    Calls Try.prog 45 #[.slice p l.length c] w fun e w' => e = .returned (.int .i64 (szK (kys l))) ∧ Below w.heap.size w w' := by
  simp only [maxLen] at hn
  go_enter Try.func45, Try.ntmps45
  go_wp2
  go_loopw [3, 8] (fun n i W => ∃ k : Nat, k ≤ l.length ∧ i = .int .i64 k ∧ n = .int .i64 (szK (kys (l.take k)) : Nat) ∧ Below w.heap.size w W) (fun n i _ => l.length - (intOf i).toNat)
  case atStart => exact ⟨0, by omega, rfl, rfl, Below.refl _ _⟩
  case round =>
    obtain ⟨k, hk, rfl, rfl, hb⟩ := hrel
    by_cases t : k < l.length
    · obtain ⟨b, o, rfl, hc⟩ := (hp.below hb).at (by omega)
      obtain ⟨e0, e1, _⟩ := hc k t
      have HN := Hid.mk' (sz_next l k t)
      have hle := sz_take_le l (k + 1)
      rw [HN.out] at hle
      generalize l.getD k zf = y at HN e0 e1 hle
      have HB := Hid.mk' (hb.alloc hb.size (.cells #[.int .i64 y.tag, .slice y.p y.d.length y.cap] 55))
      clear hc hb
      go_wp2
      go_roundw
      case rel => exact ⟨k + 1, by omega, by go_num, by rw [HN.out]; go_num, HB.out⟩
      case measure => simp [intOf]; omega
    · obtain rfl : k = l.length := by omega
      rw [List.take_of_length_le (Nat.le_refl _)]
      go_wp2
      go_ret
      exact ⟨rfl, hb⟩

set_option maxHeartbeats 1600000 in
theorem tags_any (p : Option Addr) (c : Nat) (l : List Fd) (w : World) (hp : FIn w p l) (hn : l.length ≤ maxLen) :
    Calls Try.prog 44 #[.slice p l.length c] w fun e w' => e = .returned (.bool (tagsK 32 (kys l))) ∧ Below w.heap.size w w' := by
  simp only [maxLen] at hn
  go_enter Try.func44, Try.ntmps44
  go_wp2
  go_loopw [3, 8] (fun n i W => ∃ k : Nat, ∃ a : Int, k ≤ l.length ∧ i = .int .i64 k ∧ n = .int .i64 a ∧ tagsK 32 (kys l) = tagsK a (kys (l.drop k)) ∧ Below w.heap.size w W) (fun n i _ => l.length - (intOf i).toNat)
  case atStart => exact ⟨0, 32, by omega, rfl, rfl, rfl, Below.refl _ _⟩
  case round =>
    obtain ⟨k, a, hk, rfl, rfl, ht, hb⟩ := hrel
    by_cases t : k < l.length
    · obtain ⟨b, o, rfl, hc⟩ := (hp.below hb).at (by omega)
      obtain ⟨e0, e1, _⟩ := hc k t
      rw [drop_next l k t] at ht
      have HT := Hid.mk' ht
      clear ht
      generalize l.getD k zf = y at HT e0 e1
      have HB := Hid.mk' (hb.alloc hb.size (.cells #[.int .i64 y.tag, .slice y.p y.d.length y.cap] 55))
      clear hc hb
      by_cases t1 : y.tag < a
      · have tt : tagsK 32 (kys l) = false := by rw [HT.out]; simp [kys, ky, tagsK]; intro h1; omega
        have TT := Hid.mk' tt
        clear tt
        go_wp2
        try rw [Exit.noGoto_ret]
        rw [TT.out]
        go_ret
        exact ⟨rfl, HB.out⟩
      · by_cases t2 : 255 < y.tag
        · have tt : tagsK 32 (kys l) = false := by rw [HT.out]; simp [kys, ky, tagsK]; intro h1 h2; omega
          have TT := Hid.mk' tt
          clear tt
          go_wp2
          try rw [Exit.noGoto_ret]
          rw [TT.out]
          go_ret
          exact ⟨rfl, HB.out⟩
        · go_wp2
          go_roundw
          case rel => exact ⟨k + 1, y.tag, by omega, by go_num, rfl, by rw [HT.out]; simp [kys, ky, tagsK, Int.not_lt.1 t1, Int.not_lt.1 t2], HB.out⟩
          case measure => simp [intOf]; omega
    · obtain rfl : k = l.length := by omega
      rw [List.drop_of_length_le (Nat.le_refl _)] at ht
      have HT := Hid.mk' ht
      clear ht
      go_wp2
      go_ret
      exact ⟨by rw [HT.out]; rfl, hb⟩

set_option maxHeartbeats 1600000 in
theorem valid_any (p : Option Addr) (c : Nat) (l : List Fd) (w : World) (hp : FIn w p l) (hn : l.length ≤ maxLen) (hz : szK (kys l) ≤ 4611686018427387904) :
    Calls Try.prog 34 #[.slice p l.length c] w fun e w' => e = .returned (.bool (mayK (kys l))) ∧ Below w.heap.size w w' := by
  have HM := Hid.mk' (show mayK (kys l) = (decide (l.length ≤ 32) && tagsK 32 (kys l) && decide (szK (kys l) ≤ 4096)) by rw [mayK, kys_len])
  have T := tags_any p c l w hp hn
  have S := fun w1 (hb : Below w.heap.size w w1) => size_any p c l w1 (hp.below hb) hn hz
  simp only [maxLen] at hn
  generalize mayK (kys l) = r at HM ⊢
  generalize tagsK 32 (kys l) = tg at HM T
  generalize szK (kys l) = z at HM S hz
  go_enter Try.func34, Try.ntmps34
  by_cases t1 : l.length ≤ 32
  · go_wp2_with fail
    refine T.mono ?_
    rintro e w1 ⟨rfl, hb⟩
    cases tg
    · go_wp2_with fail
      go_ret
      exact ⟨by rw [HM.out]; simp, hb⟩
    · go_wp2_with fail
      refine (S w1 hb).mono ?_
      rintro e w2 ⟨rfl, hb2⟩
      by_cases t2 : z ≤ 4096
      · go_wp2_with fail
        go_ret
        exact ⟨by rw [HM.out]; simp [t1, t2]; try omega, hb.trans (hb2.mono hb.size)⟩
      · go_wp2_with fail
        go_ret
        exact ⟨by rw [HM.out]; simp [t1, t2]; try omega, hb.trans (hb2.mono hb.size)⟩
  · go_wp2_with fail
    go_ret
    exact ⟨by rw [HM.out]; simp [t1], Below.refl _ _⟩

end Go.Proofs.Ytnladolpcocchaa
