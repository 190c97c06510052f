/-
  Package rec: names, Name, Status, with place over texts.
-/
import Derived.Test.YtecdagmeobiahabRecF
import Derived.Test.YtecdagmeobiahabRecL
namespace Go.Proofs.Ytecdagmeobiahab
open Go.RowKit
set_option linter.unusedSimpArgs false
set_option linter.unusedVariables false
set_option maxRecDepth 10000
set_option synthInstance.maxSize 2000

def aliveS : ByteArray := ⟨#[97, 108, 105, 118, 101]⟩
def suspectS : ByteArray := ⟨#[115, 117, 115, 112, 101, 99, 116]⟩
def deadS : ByteArray := ⟨#[100, 101, 97, 100]⟩
def leftS : ByteArray := ⟨#[108, 101, 102, 116]⟩
def stS (s : Int) : ByteArray := if s = 0 then aliveS else if s = 1 then suspectS else if s = 2 then deadS else if s = 3 then leftS else ⟨#[]⟩

theorem textR_eq (a b : ByteArray) : (a.toList == b.toList) = decide (a = b) := by
  rw [ByteArray.toList_eq, ByteArray.toList_eq, Bool.eq_iff_iff]
  simp
  constructor
  · intro h
    cases a; cases b
    simp at h
    rw [h]
  · rintro rfl; rfl

set_option maxHeartbeats 1600000 in
theorem names_any (w : World) : Calls Try.prog 31 #[] w fun e w' => e = .returned (.agg #[.string aliveS, .string suspectS, .string deadS, .string leftS]) ∧ Below w.heap.size w w' := by
  have HB := Hid.mk' ((Below.refl w.heap.size w).alloc (Nat.le_refl _) (.cells #[.string aliveS, .string suspectS, .string deadS, .string leftS] 51))
  unfold aliveS suspectS deadS leftS at HB ⊢
  go_enter Try.func31, Try.ntmps31
  go_wp2_with fail
  refine bodyPost_ret (v := .agg #[.string ⟨#[97, 108, 105, 118, 101]⟩, .string ⟨#[115, 117, 115, 112, 101, 99, 116]⟩, .string ⟨#[100, 101, 97, 100]⟩, .string ⟨#[108, 101, 102, 116]⟩]) (by simp [results, Try.results31, go_sem]) rfl ⟨rfl, ?_⟩
  exact HB.out

set_option maxHeartbeats 1600000 in
theorem rname_any (s : Int) (w : World) : Calls Try.prog 18 #[.int .i64 s] w fun e w' => e = .returned (.string (stS s)) ∧ Below w.heap.size w w' := by
  have W := fun X => within_any s 3 X
  have x0 : ∀ w, (Instr.index 51 (.agg #[.string aliveS, .string suspectS, .string deadS, .string leftS]) (.int .i64 0)).run Try.prog w = .ok (.string aliveS) w := fun w => rfl
  have x1 : ∀ w, (Instr.index 51 (.agg #[.string aliveS, .string suspectS, .string deadS, .string leftS]) (.int .i64 1)).run Try.prog w = .ok (.string suspectS) w := fun w => rfl
  have x2 : ∀ w, (Instr.index 51 (.agg #[.string aliveS, .string suspectS, .string deadS, .string leftS]) (.int .i64 2)).run Try.prog w = .ok (.string deadS) w := fun w => rfl
  have x3 : ∀ w, (Instr.index 51 (.agg #[.string aliveS, .string suspectS, .string deadS, .string leftS]) (.int .i64 3)).run Try.prog w = .ok (.string leftS) w := fun w => rfl
  by_cases t : 0 ≤ s ∧ s ≤ 3
  · rw [decide_eq_true t] at W
    have ht : s = 0 ∨ s = 1 ∨ s = 2 ∨ s = 3 := by omega
    clear t
    rcases ht with rfl | rfl | rfl | rfl
    · rw [show stS 0 = aliveS from rfl]
      go_enter Try.func18, Try.ntmps18
      go_wp2_with fail
      refine (W _).mono ?_
      rintro e w1 ⟨rfl, rfl⟩
      go_wp2_with fail
      refine (names_any _).mono ?_
      rintro e w2 ⟨rfl, hb⟩
      go_wp2_with fail
      go_ret
      exact ⟨rfl, hb⟩
    · rw [show stS 1 = suspectS from rfl]
      go_enter Try.func18, Try.ntmps18
      go_wp2_with fail
      refine (W _).mono ?_
      rintro e w1 ⟨rfl, rfl⟩
      go_wp2_with fail
      refine (names_any _).mono ?_
      rintro e w2 ⟨rfl, hb⟩
      go_wp2_with fail
      go_ret
      exact ⟨rfl, hb⟩
    · rw [show stS 2 = deadS from rfl]
      go_enter Try.func18, Try.ntmps18
      go_wp2_with fail
      refine (W _).mono ?_
      rintro e w1 ⟨rfl, rfl⟩
      go_wp2_with fail
      refine (names_any _).mono ?_
      rintro e w2 ⟨rfl, hb⟩
      go_wp2_with fail
      go_ret
      exact ⟨rfl, hb⟩
    · rw [show stS 3 = leftS from rfl]
      go_enter Try.func18, Try.ntmps18
      go_wp2_with fail
      refine (W _).mono ?_
      rintro e w1 ⟨rfl, rfl⟩
      go_wp2_with fail
      refine (names_any _).mono ?_
      rintro e w2 ⟨rfl, hb⟩
      go_wp2_with fail
      go_ret
      exact ⟨rfl, hb⟩
  · rw [decide_eq_false t] at W
    rw [show stS s = ⟨#[]⟩ by unfold stS; rw [if_neg (by omega), if_neg (by omega), if_neg (by omega), if_neg (by omega)]]
    clear t
    go_enter Try.func18, Try.ntmps18
    go_wp2_with fail
    refine (W _).mono ?_
    rintro e w1 ⟨rfl, rfl⟩
    go_wp2_with fail
    go_ret
    exact ⟨rfl, Below.refl _ _⟩

set_option maxHeartbeats 800000 in
theorem status1_any (n s : ByteArray) (bt : Nat) (w : World) (hc : w.cell? ⟨bt, 0, none⟩ = some (.string s)) :
    Calls Try.prog 33 #[.string n, .pointer (some ⟨bt, 0, none⟩)] w fun e w' => e = .returned (.bool (n.toList == s.toList)) ∧ w = w' := by
  go_enter Try.func33, Try.ntmps33
  go_wp2_with fail
  go_ret
  exact ⟨rfl, rfl⟩

def fst4 (a b c d : Bool) : Int := if a then 0 else if b then 1 else if c then 2 else if d then 3 else 4

set_option maxHeartbeats 4000000 in
theorem placeS_any (n0 n1 n2 n3 s : ByteArray) (b bt : Nat) (w : World) (h0 : w.cell? ⟨b, 0, none⟩ = some (.string n0)) (h1 : w.cell? ⟨b, 1, none⟩ = some (.string n1)) (h2 : w.cell? ⟨b, 2, none⟩ = some (.string n2)) (h3 : w.cell? ⟨b, 3, none⟩ = some (.string n3)) (hc : w.cell? ⟨bt, 0, none⟩ = some (.string s)) :
    Calls Try.prog 32 #[.slice (some ⟨b, 0, none⟩) 4 4, .func (.func 33) #[] #[.pointer (some ⟨bt, 0, none⟩)]] w fun e w' => e = .returned (.int .i64 (fst4 (n0.toList == s.toList) (n1.toList == s.toList) (n2.toList == s.toList) (n3.toList == s.toList))) ∧ w = w' := by
  have S0 := status1_any n0 s bt w hc
  have S1 := status1_any n1 s bt w hc
  have S2 := status1_any n2 s bt w hc
  have S3 := status1_any n3 s bt w hc
  generalize (n0.toList == s.toList) = c0 at S0 ⊢
  generalize (n1.toList == s.toList) = c1 at S1 ⊢
  generalize (n2.toList == s.toList) = c2 at S2 ⊢
  generalize (n3.toList == s.toList) = c3 at S3 ⊢
  have HR := Hid.mk' (show fst4 c0 c1 c2 c3 = if c0 then 0 else if c1 then 1 else if c2 then 2 else if c3 then 3 else 4 from rfl)
  generalize fst4 c0 c1 c2 c3 = r at HR ⊢
  go_enter Try.func32, Try.ntmps32
  go_wp2
  refine wp_loop_rounds 5 ?_
  rw [rounds_succ]
  go_wp2_with fail
  refine S0.mono ?_
  rintro e w1 ⟨rfl, rfl⟩
  cases c0
  case true =>
    obtain rfl : r = 0 := HR.out
    go_wp2_with fail
    try rw [Exit.noGoto_ret]
    go_ret
    exact ⟨rfl, rfl⟩
  go_wp2_with fail
  rw [rounds_succ]
  go_wp2_with fail
  refine S1.mono ?_
  rintro e w1 ⟨rfl, rfl⟩
  cases c1
  case true =>
    obtain rfl : r = 1 := HR.out
    go_wp2_with fail
    try rw [Exit.noGoto_ret]
    go_ret
    exact ⟨rfl, rfl⟩
  go_wp2_with fail
  rw [rounds_succ]
  go_wp2_with fail
  refine S2.mono ?_
  rintro e w1 ⟨rfl, rfl⟩
  cases c2
  case true =>
    obtain rfl : r = 2 := HR.out
    go_wp2_with fail
    try rw [Exit.noGoto_ret]
    go_ret
    exact ⟨rfl, rfl⟩
  go_wp2_with fail
  rw [rounds_succ]
  go_wp2_with fail
  refine S3.mono ?_
  rintro e w1 ⟨rfl, rfl⟩
  cases c3
  case true =>
    obtain rfl : r = 3 := HR.out
    go_wp2_with fail
    try rw [Exit.noGoto_ret]
    go_ret
    exact ⟨rfl, rfl⟩
  obtain rfl : r = 4 := HR.out
  go_wp2_with fail
  rw [rounds_succ]
  go_wp2_with fail
  go_ret
  exact ⟨rfl, rfl⟩

def statS (s : ByteArray) : Int × Bool := if aliveS = s then (0, true) else if suspectS = s then (1, true) else if deadS = s then (2, true) else if leftS = s then (3, true) else (0, false)

/-- The cells of four texts. -/
theorem four_texts {w : World} {b : Nat} {x y z u : Value} {t : TypeId} (h : w.heap[b]? = some (.cells #[x, y, z, u] t (0, 0))) :
    w.cell? ⟨b, 0, none⟩ = some x ∧ w.cell? ⟨b, 1, none⟩ = some y ∧ w.cell? ⟨b, 2, none⟩ = some z ∧ w.cell? ⟨b, 3, none⟩ = some u := by
  simp [World.cell?, h]

set_option maxHeartbeats 4000000 in
theorem status_any (s : ByteArray) (w : World) : Calls Try.prog 19 #[.string s] w fun e w' => e = .returned (.tuple #[.int .i64 (statS s).1, .bool (statS s).2]) ∧ Below w.heap.size w w' := by
  have HR := Hid.mk' (show (statS s).2 = decide (fst4 (aliveS.toList == s.toList) (suspectS.toList == s.toList) (deadS.toList == s.toList) (leftS.toList == s.toList) ≠ 4) ∧ (statS s).1 = (if fst4 (aliveS.toList == s.toList) (suspectS.toList == s.toList) (deadS.toList == s.toList) (leftS.toList == s.toList) = 4 then 0 else fst4 (aliveS.toList == s.toList) (suspectS.toList == s.toList) (deadS.toList == s.toList) (leftS.toList == s.toList)) by
    simp only [textR_eq, statS, fst4]
    by_cases a1 : aliveS = s <;> by_cases a2 : suspectS = s <;> by_cases a3 : deadS = s <;> by_cases a4 : leftS = s <;> simp [a1, a2, a3, a4])
  generalize statS s = z at HR ⊢
  obtain ⟨z1, z2⟩ := z
  have hB1 := (Below.refl w.heap.size w).alloc (Nat.le_refl _) (.cells #[.string s] 9)
  have hx := heap_alloc_new w (.cells #[.string s] 9)
  go_enter Try.func19, Try.ntmps19
  go_wp2_with fail
  refine (names_any _).mono ?_
  rintro e w1 ⟨rfl, hb1⟩
  have hx1 : w1.heap[w.heap.size]? = some (.cells #[.string s] 9 (0, 0)) := by rw [hb1.block _ (by simp)]; exact hx
  have HB1 := Hid.mk' (hB1.trans (hb1.mono hB1.size))
  clear hx hb1 hB1
  have hB2 := (Below.refl w1.heap.size w1).alloc (Nat.le_refl _) (.cells #[.string aliveS, .string suspectS, .string deadS, .string leftS] 51)
  obtain ⟨q0, q1, q2, q3⟩ := four_texts (heap_alloc_new w1 (.cells #[.string aliveS, .string suspectS, .string deadS, .string leftS] 51))
  have PS := placeS_any aliveS suspectS deadS leftS s w1.heap.size w.heap.size _ q0 q1 q2 q3 (one_cell (by rw [hB2.block _ (Array.getElem?_eq_some_iff.1 hx1).1]; exact hx1))
  have HB2 := Hid.mk' (HB1.out.trans (hB2.mono HB1.out.size))
  clear q0 q1 q2 q3 hx1 hB2 HB1
  generalize fst4 (aliveS.toList == s.toList) (suspectS.toList == s.toList) (deadS.toList == s.toList) (leftS.toList == s.toList) = k at PS HR
  go_wp2_with fail
  refine PS.mono ?_
  rintro e w2 ⟨rfl, rfl⟩
  by_cases t : k = 4
  · subst t
    obtain rfl : z2 = false := by have := HR.out.1; simpa using this
    obtain rfl : z1 = 0 := by have := HR.out.2; simpa using this
    go_wp2_with fail
    exact bodyPost_ret (v := .tuple #[.int .i64 0, .bool false]) (by simp [results, Try.results19, go_sem]) rfl ⟨rfl, HB2.out⟩
  · have d : (k == 4) = false := by simpa using t
    obtain rfl : z2 = true := by have := HR.out.1; simpa [t] using this
    obtain rfl : z1 = k := by have := HR.out.2; simpa [t] using this
    go_wp2_with fail
    exact bodyPost_ret (v := .tuple #[.int .i64 z1, .bool true]) (by simp [results, Try.results19, go_sem]) rfl ⟨rfl, HB2.out⟩
end Go.Proofs.Ytecdagmeobiahab
