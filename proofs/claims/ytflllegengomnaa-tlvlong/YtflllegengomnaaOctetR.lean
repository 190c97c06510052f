/-
  The reader of package octet: what each of its functions does to the world, said of a reader that lies in one block.
-/
import Derived.Test.YtflllegengomnaaRows
import Derived.Test.YtflllegengomnaaBase
import Derived.WalkKit
import Derived.WalkSpells
import Derived.WalkLawsBesides
import Derived.Deep.OwnRows
namespace Go.Proofs.Ytflllegengomnaa
open Go.RowKit
set_option linter.unusedSimpArgs false
set_option linter.unusedVariables false

theorem infoB : (Try.prog.info? 5).map (fun i => (i.zero, i.size, i.bytes)) = some (some (.int .u8 0), 1, 1) := by kernel_rfl
theorem infoB1 : (Try.prog.info? 5).map (·.size) = some 1 := by kernel_rfl

theorem made_len (n : Nat) : (madeCells #[Value.int .u8 0] n).size = n := by simp [madeCells]

theorem splice_all (L cs : List Value) (h : L.length = cs.length) : splice L 0 cs = cs := by
  simp [splice, h.symm]

/-- What 'copy' asks of its source, where the bytes lie in old memory and one block has been laid. -/
theorem src_old {w : World} {p : Option Addr} {l : List Int} (hB : BIn w p l) (o : Obj) (dp : Option Addr) : 0 < (l.map (Value.int .u8)).length → dp = dp ∧ ∃ ad, p = some ad ∧ ∀ j v, (l.map (Value.int .u8))[j]? = some v → (w.alloc o).cell? (ad.add j) = some v := by
  intro h
  obtain ⟨b, o, rfl, hc⟩ := hB (by simpa using h)
  refine ⟨rfl, _, rfl, fun j v hj => ?_⟩
  simp at hj
  obtain ⟨x, hx, rfl⟩ := hj
  have hj : j < l.length := by
    by_cases hh : j < l.length
    · exact hh
    · simp [List.getElem?_eq_none (Nat.le_of_not_lt hh)] at hx
  have hcj := hc j hj
  have hb : b < w.heap.size := lt_of_cell hcj
  rw [Go.WideShapes.add_plain, World.cell?_of_block (a := ⟨b, o + j, none⟩) (heap_alloc_old w _ hb), hcj]
  simp [List.getD, hx]

set_option maxHeartbeats 400000 in
theorem own_any (p : Option Addr) (c : Nat) (l : List Int) (w : World) (hB : BIn w p l) (hn : l.length ≤ 140737488355328) :
    Calls Try.prog 29 #[.slice p l.length c] w fun e w' => e = .returned (.slice (some ⟨w.heap.size, 0, none⟩) l.length l.length) ∧
      w'.heap[w.heap.size]? = some (.cells (cellsB l) 5 (0, 0)) ∧ Below w.heap.size w w' := by
  have hmk := fun w => run_make_row' (P := Try.prog) 25 5 (.int .u8 0) 1 Try.underlying25 infoB rfl .i64 .i64 l.length (by omega) (by omega) w
  go_enter Try.func29, Try.ntmps29
  go_wp2_with (refine wpList_copy_splice rfl (.tmp 7) (.tmp 8) 25 25 rfl 5 Try.underlying25 infoB1 (some ⟨w.heap.size, 0, none⟩) p l.length l.length l.length c rfl rfl w.heap.size 0 (madeCells #[Value.int .u8 0] l.length).toList 5 (by simpa using heap_alloc_new w _) (l.map (Value.int .u8)) (by simp) (src_old hB _ _) (by simp [made_len]) (oneCells l) w.heap.size w ((Below.refl _ _).alloc (Nat.le_refl _) _) (Nat.le_refl _) ?_)
  intro w' hg hb
  go_wp2
  go_ret
  refine ⟨rfl, ?_, hb⟩
  rw [hg.out, splice_all _ _ (by simp [made_len])]
  rfl

/-- At block b lies a reader with the bytes l left; they lie in a block of which Q holds. -/
def RdQ (Q : Nat → Prop) (w : World) (b : Nat) (l : List Int) (bad : Bool) : Prop :=
  ∃ p c, w.heap[b]? = some (.cells #[.slice p l.length c, .bool bad] 59 (0, 0)) ∧ l.length ≤ c ∧ c ≤ maxLen ∧ isB l ∧ BIn w p l ∧ (∀ a, p = some a → a.block ≠ b ∧ Q a.block) ∧ (bad = true → l = [])

/-- The same, wherever they lie. -/
abbrev Rd (w : World) (b : Nat) (l : List Int) (bad : Bool) : Prop := RdQ (fun _ => True) w b l bad

theorem RdQ.any {Q : Nat → Prop} {w : World} {b : Nat} {l : List Int} {bad : Bool} (h : RdQ Q w b l bad) : Rd w b l bad := by
  obtain ⟨p, c, h1, h2, h3, h4, h5, h6, h7⟩ := h
  exact ⟨p, c, h1, h2, h3, h4, h5, fun a ha => ⟨(h6 a ha).1, trivial⟩, h7⟩

theorem RdQ.fr {Q S : Nat → Prop} {w w' : World} {b : Nat} {l : List Int} {bad : Bool} (h : RdQ Q w b l bad) (k : Fr S w w') (hb : ∀ i, S i → w.heap.size ≤ i) : RdQ Q w' b l bad := by
  obtain ⟨p, c, h1, h2, h3, h4, h5, h6, h7⟩ := h
  refine ⟨p, c, ?_, h2, h3, h4, h5.fr k (fun a ha hlt q => by have := hb _ q; omega), h6, h7⟩
  have hlt : b < w.heap.size := (Array.getElem?_eq_some_iff.1 h1).1
  rw [k.block b hlt (fun q => by have := hb _ q; omega)]
  exact h1

theorem RdQ.below {Q : Nat → Prop} {w w' : World} {b : Nat} {l : List Int} {bad : Bool} (h : RdQ Q w b l bad) (k : Below w.heap.size w w') : RdQ Q w' b l bad :=
  h.fr (Fr.of_below k fun _ => False) fun _ q => q.elim

/-- Where all its blocks lie below B, what is written from B on does not touch it. -/
theorem RdQ.low {w w' : World} {B b : Nat} {l : List Int} {bad : Bool} (h : RdQ (fun k => k < B) w b l bad) (hb : b < B) (hB : B ≤ w.heap.size) (k : Below B w w') : RdQ (fun k => k < B) w' b l bad := by
  obtain ⟨p, c, h1, h2, h3, h4, h5, h6, h7⟩ := h
  have f : Fr (fun i => B ≤ i) w w' := ⟨k.os, k.tape, k.output, k.size, fun i _ hn => k.block i (by omega)⟩
  refine ⟨p, c, ?_, h2, h3, h4, h5.fr f (fun a ha _ q => by have := (h6 a ha).2; omega), h6, h7⟩
  rw [k.block b hb]
  exact h1

theorem RdQ.mono {Q Q' : Nat → Prop} {w : World} {b : Nat} {l : List Int} {bad : Bool} (h : RdQ Q w b l bad) (k : ∀ i, Q i → Q' i) : RdQ Q' w b l bad := by
  obtain ⟨p, c, h1, h2, h3, h4, h5, h6, h7⟩ := h
  exact ⟨p, c, h1, h2, h3, h4, h5, fun a ha => ⟨(h6 a ha).1, k _ (h6 a ha).2⟩, h7⟩

set_option maxHeartbeats 400000 in
theorem bad_any (b : Nat) (x : Value) (bad : Bool) (w : World) (h : w.heap[b]? = some (.cells #[x, .bool bad] 59 (0, 0))) :
    Calls Try.prog 22 #[.pointer (some ⟨b, 0, none⟩)] w fun e w' => e = .returned (.bool bad) ∧ w = w' := by
  obtain ⟨c0, c1, f0, f1⟩ := two_cells h
  clear h
  go_enter Try.func22, Try.ntmps22
  go_wp2
  go_ret
  exact ⟨rfl, rfl⟩

set_option maxHeartbeats 400000 in
theorem spoil_any (b : Nat) (x y : Value) (w : World) (h : w.heap[b]? = some (.cells #[x, y] 59 (0, 0))) :
    Calls Try.prog 33 #[.pointer (some ⟨b, 0, none⟩)] w fun e w' => e = .returned (.tuple #[]) ∧ Rd w' b [] true ∧ Fr (fun k => k = b) w w' := by
  obtain ⟨c0, c1, f0, f1⟩ := two_cells h
  have H : Hid (w.heap[b]? = some (.cells #[x, y] 59 (0, 0))) := h
  clear h
  go_enter Try.func33, Try.ntmps33
  go_wp2
  go_end0
  refine ⟨rfl, ⟨none, 0, ?_, Nat.le_refl _, by simp [maxLen], isB.nil, BIn.empty _ _, by simp, by simp⟩, Fr.setCell (S := fun k => k = b) (p := ⟨b, 1, none⟩) (Fr.setCell (S := fun k => k = b) (p := ⟨b, 0, none⟩) (Fr.refl _ _) (.inl rfl) _) (.inl rfl) _⟩
  exact set_second (set_first H.out _) _

theorem block_map {p : Option Addr} {R : Nat → Prop} {k : Nat} (h : ∀ a, p = some a → R a.block) : ∀ a, p.map (fun x => x.add k) = some a → R a.block := by
  intro a ha
  cases p with
  | none => simp at ha
  | some x =>
    simp at ha
    subst ha
    have := h x rfl
    unfold Addr.add
    split <;> simpa using this

/-- A reader that has gone k bytes on. -/
theorem Rd.step {Q : Nat → Prop} {w : World} {b : Nat} {l : List Int} {p : Option Addr} {c k : Nat} (H : w.heap[b]? = some (.cells #[.slice p l.length c, .bool false] 59 (0, 0))) (hk : k ≤ l.length) (h2 : l.length ≤ c) (h3 : c ≤ 2 ^ 63 - 1) (h4 : isB l) (h5 : BIn w p l)
    (h6 : ∀ a, p = some a → a.block ≠ b ∧ Q a.block) (q : Option Addr) (d : Nat) (hd : l.length - k ≤ d) (hd2 : d ≤ c) (hq : BIn w q (l.drop k)) (hqb : ∀ a, q = some a → a.block ≠ b ∧ Q a.block) :
    RdQ Q (w.setCell ⟨b, 0, none⟩ (.slice q (l.length - k) d)) b (l.drop k) false ∧ Fr (fun k => k = b) w (w.setCell ⟨b, 0, none⟩ (.slice q (l.length - k) d)) ∧ BIn (w.setCell ⟨b, 0, none⟩ (.slice q (l.length - k) d)) p (l.take k) := by
  have fr : Fr (fun k => k = b) w (w.setCell ⟨b, 0, none⟩ (.slice q (l.length - k) d)) := Fr.setCell (S := fun k => k = b) (p := ⟨b, 0, none⟩) (Fr.refl _ _) (.inl rfl) _
  refine ⟨⟨q, d, ?_, by simpa using hd, by simp only [maxLen]; omega, h4.drop k, hq.fr fr fun a ha _ => (hqb a ha).1, hqb, by simp⟩, fr, (h5.take k).fr fr fun a ha _ => (h6 a ha).1⟩
  rw [List.length_drop]
  exact set_first H _

set_option maxHeartbeats 400000 in
theorem step_ok {Q : Nat → Prop} (b : Nat) (l : List Int) (k : Nat) (w : World) (h : RdQ Q w b l false) (hk : k ≤ l.length) :
    Calls Try.prog 34 #[.pointer (some ⟨b, 0, none⟩), .int .i64 k] w fun e w' => (∃ p c, e = .returned (.slice p k c) ∧ BIn w' p (l.take k) ∧ k ≤ c) ∧ RdQ Q w' b (l.drop k) false ∧ Fr (fun k => k = b) w w' ∧ w'.heap.size = w.heap.size := by
  obtain ⟨p, c, h1, h2, h3, h4, h5, h6, h7⟩ := h
  obtain ⟨c0, c1, f0, f1⟩ := two_cells h1
  have H : Hid (w.heap[b]? = some (.cells #[.slice p l.length c, .bool false] 59 (0, 0))) := h1
  clear h1 h7
  unfold maxLen at h3
  by_cases hc : c = k
  · subst hc
    have hl : l.drop c = [] := List.drop_eq_nil_of_le h2
    have R := Rd.step H.out hk h2 h3 h4 h5 h6 p 0 (by omega) (by omega) (by rw [hl]; exact BIn.empty _ _) h6
    rw [show l.length - c = 0 by omega] at R
    have HR : Hid _ := R
    clear R hl
    go_enter Try.func34, Try.ntmps34
    go_wp2
    go_ret
    exact ⟨⟨p, c, rfl, HR.out.2.2, by omega⟩, HR.out.1, HR.out.2.1, by simp [World.setCell]⟩
  · have R := Rd.step H.out hk h2 h3 h4 h5 h6 (p.map fun x => x.add k) (c - k) (by omega) (by omega) (h5.cut k) (block_map (R := fun i => i ≠ b ∧ Q i) h6)
    have HR : Hid _ := R
    clear R
    go_enter Try.func34, Try.ntmps34
    go_wp2
    go_ret
    exact ⟨⟨p, c, rfl, HR.out.2.2, by omega⟩, HR.out.1, HR.out.2.1, by simp [World.setCell]⟩

set_option maxHeartbeats 400000 in
theorem step_no {Q : Nat → Prop} (b : Nat) (l : List Int) (bad : Bool) (n : Int) (w : World) (h : RdQ Q w b l bad) (hk : bad = true ∨ n < 0 ∨ (l.length : Int) < n) :
    Calls Try.prog 34 #[.pointer (some ⟨b, 0, none⟩), .int .i64 n] w fun e w' => e = .returned (.slice none 0 0) ∧ Rd w' b [] true ∧ Fr (fun k => k = b) w w' := by
  obtain ⟨p, c, h1, h2, h3, h4, h5, h6, h7⟩ := h
  obtain ⟨c0, c1, f0, f1⟩ := two_cells h1
  have S := spoil_any b _ _ w h1
  have B := bad_any b _ _ w h1
  clear h1 h7 h5 h6
  unfold maxLen at h3
  have go : ∀ (hk : bad = true ∨ (bad = false ∧ n < 0) ∨ (bad = false ∧ ¬ n < 0 ∧ (l.length : Int) < n)), Calls Try.prog 34 #[.pointer (some ⟨b, 0, none⟩), .int .i64 n] w fun e w' => e = .returned (.slice none 0 0) ∧ Rd w' b [] true ∧ Fr (fun k => k = b) w w' := by
    intro hk
    rcases hk with rfl | ⟨rfl, hn⟩ | ⟨rfl, hn, hn2⟩
    all_goals
      go_enter Try.func34, Try.ntmps34
      go_wp2_with (first | (go_at_call 22; refine B.mono ?_; rintro e w' ⟨rfl, rfl⟩) | (go_at_call 33; refine S.mono ?_; rintro e w' ⟨rfl, hR, hF⟩))
      go_ret
      exact ⟨rfl, hR, hF⟩
  apply go
  cases bad with
  | true => exact .inl rfl
  | false =>
    right
    by_cases hn : n < 0
    · exact .inl ⟨rfl, hn⟩
    · exact .inr ⟨rfl, hn, by rcases hk with h | h | h; cases h; exact absurd h hn; exact h⟩

/-- What bytes are as a number, the highest first. -/
def numB (l : List Int) : Int := l.foldl (fun v x => v * 256 + x) 0
theorem numB_snoc (l : List Int) (x : Int) : numB (l ++ [x]) = numB l * 256 + x := by simp [numB]
theorem numB_take (l : List Int) (j : Nat) (hj : j < l.length) : numB (l.take (j + 1)) = numB (l.take j) * 256 + l.getD j 0 := by
  rw [List.take_succ_eq_append_getElem hj, numB_snoc]; simp [List.getD, hj]
theorem numB_bound (l : List Int) (h : isB l) : 0 ≤ numB l ∧ numB l < 256 ^ l.length := by
  have : ∀ (l : List Int) (v : Int), isB l → 0 ≤ v → 0 ≤ l.foldl (fun v x => v * 256 + x) v ∧ l.foldl (fun v x => v * 256 + x) v < (v + 1) * 256 ^ l.length := by
    intro l
    induction l with
    | nil => intro v _ hv; simp; omega
    | cons x l ih =>
      intro v hl hv
      have hx := hl x (by simp)
      obtain ⟨i1, i2⟩ := ih (v * 256 + x) (fun y hy => hl y (by simp [hy])) (by omega)
      refine ⟨by simpa using i1, ?_⟩
      simp only [List.foldl_cons, List.length_cons]
      refine Int.lt_of_lt_of_le i2 ?_
      rw [Int.pow_succ, Int.mul_comm (256 ^ l.length) 256, ← Int.mul_assoc]
      exact Int.mul_le_mul_of_nonneg_right (by omega) (Int.le_of_lt (Int.pow_pos (by omega)))
  have := this l 0 h (Int.le_refl _)
  simpa [numB] using this
theorem pow6 (n : Nat) (h : n ≤ 6) : (256 : Int) ^ n ≤ 281474976710656 := by
  have : n = 0 ∨ n = 1 ∨ n = 2 ∨ n = 3 ∨ n = 4 ∨ n = 5 ∨ n = 6 := by omega
  rcases this with rfl | rfl | rfl | rfl | rfl | rfl | rfl <;> decide
theorem numB_small (l : List Int) (h : isB l) (j : Nat) (hj : j ≤ 6) : 0 ≤ numB (l.take j) ∧ numB (l.take j) < 281474976710656 := by
  have := numB_bound _ (h.take j)
  exact ⟨this.1, Int.lt_of_lt_of_le this.2 (pow6 _ (by simp; omega))⟩
theorem i64_or8 (x y : Int) (h1 : 0 ≤ x) (h2 : x < 281474976710656) (h3 : 0 ≤ y) (h4 : y < 256) : bits .or .i64 (x * 256) y = x * 256 + y :=
  bits_join .i64 63 (by decide) (fun n a b => by rw [IntKind.wrap_i64]; omega) 8 (x * 256) y (by omega) (by omega) (by omega) h3 (by omega) (by omega)

set_option maxHeartbeats 400000 in
theorem num_ok {Q : Nat → Prop} (b : Nat) (l : List Int) (k : Nat) (w : World) (h : RdQ Q w b l false) (hk : k ≤ l.length) (hk1 : 1 ≤ k) (hk7 : k ≤ 7) :
    Calls Try.prog 24 #[.pointer (some ⟨b, 0, none⟩), .int .i64 k] w fun e w' => e = .returned (.int .i64 (numB (l.take k))) ∧ RdQ Q w' b (l.drop k) false ∧ Fr (fun k => k = b) w w' ∧ w'.heap.size = w.heap.size := by
  have S := step_ok b l k w h hk
  have hB : isB l := by obtain ⟨p, c, h1, h2, h3, h4, _⟩ := h; exact h4
  clear h
  go_enter Try.func24, Try.ntmps24
  go_wp2_with (go_at_call 34; refine S.mono ?_; rintro e w1 ⟨⟨p, c, rfl, hbin, hkc⟩, hR, hF, hz⟩)
  obtain ⟨g, o, rfl, hc⟩ := hbin (by simp; omega)
  have HR := Hid.mk' hR
  go_loop [5, 20] (fun v i => ∃ j : Nat, j ≤ k ∧ i = .int .i64 j ∧ v = .int .i64 (numB (l.take j))) (fun _ i => k - (intOf i).toNat)
  case atStart => exact ⟨0, Nat.zero_le _, rfl, rfl⟩
  case round =>
    obtain ⟨j, hj, rfl, rfl⟩ := hrel
    by_cases hlt : j < k
    · have hjl : j < l.length := by omega
      have hcj := hc j (by simp; omega)
      rw [show (List.take k l).getD j 0 = l[j] by simp [List.getD, hlt, hjl]] at hcj
      have hn := numB_small l hB j (by omega)
      have hx := hB l[j] (List.getElem_mem hjl)
      have HN : Hid (numB (l.take (j + 1)) = numB (l.take j) * 256 + l[j]) := by
        have h := numB_take l j hjl
        rw [show l.getD j 0 = l[j] by simp [List.getD, hjl]] at h
        exact h
      have HO := Hid.mk' (i64_or8 (numB (l.take j)) l[j] hn.1 hn.2 hx.1 hx.2)
      go_wp2
      go_round
      case rel => exact ⟨j + 1, by omega, by go_num, by rw [HO.out, HN.out]⟩
      case measure => simp [intOf]; omega
    · obtain rfl : j = k := by omega
      go_wp2
      go_ret
      exact ⟨rfl, HR.out, hF, hz⟩

set_option maxHeartbeats 400000 in
theorem num_no {Q : Nat → Prop} (b : Nat) (l : List Int) (bad : Bool) (n : Int) (w : World) (h : RdQ Q w b l bad) (hk : bad = true ∨ n < 1 ∨ 7 < n ∨ (l.length : Int) < n) :
    Calls Try.prog 24 #[.pointer (some ⟨b, 0, none⟩), .int .i64 n] w fun e w' => e = .returned (.int .i64 0) ∧ Rd w' b [] true ∧ Fr (fun k => k = b) w w' := by
  have hl : (l.length : Int) ≤ 9223372036854775807 := by obtain ⟨p, c, h1, h2, h3, _⟩ := h; unfold maxLen at h3; omega
  have S := step_no b l bad n w h
  have P := fun x y h => spoil_any b x y w h
  obtain ⟨p, c, h1, _⟩ := h
  have P := P _ _ h1
  clear h1
  by_cases hn : n < 1
  · go_enter Try.func24, Try.ntmps24
    go_wp2_with (go_at_call 33; refine P.mono ?_; rintro e w' ⟨rfl, hR, hF⟩)
    go_ret
    exact ⟨rfl, hR, hF⟩
  · by_cases hn7 : 7 < n
    · go_enter Try.func24, Try.ntmps24
      go_wp2_with (go_at_call 33; refine P.mono ?_; rintro e w' ⟨rfl, hR, hF⟩)
      go_ret
      exact ⟨rfl, hR, hF⟩
    · have S := S (by rcases hk with h | h | h | h; exact .inl h; exact absurd h hn; exact absurd h hn7; exact .inr (.inr h))
      clear hk P
      go_enter Try.func24, Try.ntmps24
      go_wp2_with (go_at_call 34; refine S.mono ?_; rintro e w' ⟨rfl, hR, hF⟩)
      refine wp_loop_rounds 1 ?_
      rw [rounds_succ]
      go_wp2
      go_ret
      exact ⟨rfl, hR, hF⟩

set_option maxHeartbeats 400000 in
theorem take_ok {Q : Nat → Prop} (b : Nat) (l : List Int) (k : Nat) (w : World) (h : RdQ Q w b l false) (hk : k ≤ l.length) (hb : l.length ≤ 140737488355328) :
    Calls Try.prog 30 #[.pointer (some ⟨b, 0, none⟩), .int .i64 k] w fun e w' => e = .returned (.slice (some ⟨w.heap.size, 0, none⟩) k k) ∧ BIn w' (some ⟨w.heap.size, 0, none⟩) (l.take k) ∧ RdQ Q w' b (l.drop k) false ∧ Fr (fun k => k = b) w w' := by
  have S := step_ok b l k w h hk
  have hl : (l.take k).length = k := by simp; omega
  have HL := Hid.mk' hl
  clear h hl
  go_enter Try.func30, Try.ntmps30
  go_wp2_with (go_at_call 34; refine S.mono ?_; rintro e w1 ⟨⟨p, c, rfl, hbin, hkc⟩, hR, hF, hz⟩)
  have O := own_any p c (l.take k) w1 hbin (by rw [HL.out]; omega)
  rw [HL.out, hz] at O
  refine O.mono ?_
  rintro e w2 ⟨rfl, hblk, hbel⟩
  go_wp2
  go_ret
  refine ⟨rfl, ?_, hR.below (by rw [hz]; exact hbel), hF.trans (Fr.of_below (by rw [hz]; exact hbel) fun _ => False) fun _ q => q.elim⟩
  exact BIn.of_block (rest := []) (by simpa [cellsB] using hblk)

set_option maxHeartbeats 400000 in
theorem take_no {Q : Nat → Prop} (b : Nat) (l : List Int) (bad : Bool) (n : Int) (w : World) (h : RdQ Q w b l bad) (hk : bad = true ∨ n < 0 ∨ (l.length : Int) < n) :
    Calls Try.prog 30 #[.pointer (some ⟨b, 0, none⟩), .int .i64 n] w fun e w' => (∃ g, e = .returned (.slice (some ⟨g, 0, none⟩) 0 0)) ∧ Rd w' b [] true ∧ Fr (fun k => k = b) w w' := by
  have S := step_no b l bad n w h hk
  clear h
  go_enter Try.func30, Try.ntmps30
  go_wp2_with (go_at_call 34; refine S.mono ?_; rintro e w1 ⟨rfl, hR, hF⟩)
  refine (own_any none 0 [] w1 (BIn.empty _ _) (by simp)).mono ?_
  rintro e w2 ⟨rfl, hblk, hbel⟩
  go_wp2
  go_ret
  exact ⟨⟨_, rfl⟩, hR.below hbel, hF.trans (Fr.of_below hbel fun _ => False) fun _ q => q.elim⟩

set_option maxHeartbeats 400000 in
theorem left_any {Q : Nat → Prop} (b : Nat) (l : List Int) (bad : Bool) (w : World) (h : RdQ Q w b l bad) :
    Calls Try.prog 20 #[.pointer (some ⟨b, 0, none⟩)] w fun e w' => e = .returned (.int .i64 l.length) ∧ w = w' := by
  obtain ⟨p, c, h1, h2, h3, h4, h5, h6, h7⟩ := h
  have B := bad_any b _ _ w h1
  obtain ⟨c0, c1, f0, f1⟩ := two_cells h1
  unfold maxLen at h3
  clear h1 h4 h5 h6
  cases bad
  · clear h7
    go_enter Try.func20, Try.ntmps20
    go_wp2_with (go_at_call 22; refine B.mono ?_; rintro e w' ⟨rfl, rfl⟩)
    go_ret
    exact ⟨rfl, rfl⟩
  · obtain rfl := h7 rfl
    go_enter Try.func20, Try.ntmps20
    go_wp2_with (go_at_call 22; refine B.mono ?_; rintro e w' ⟨rfl, rfl⟩)
    go_ret
    exact ⟨rfl, rfl⟩

set_option maxHeartbeats 400000 in
theorem done_any {Q : Nat → Prop} (b : Nat) (l : List Int) (bad : Bool) (w : World) (h : RdQ Q w b l bad) :
    Calls Try.prog 25 #[.pointer (some ⟨b, 0, none⟩)] w fun e w' => e = .returned (.bool (!bad && ((l.length : Int) == 0))) ∧ w = w' := by
  obtain ⟨p, c, h1, h2, h3, h4, h5, h6, h7⟩ := h
  have B := bad_any b _ _ w h1
  obtain ⟨c0, c1, f0, f1⟩ := two_cells h1
  unfold maxLen at h3
  clear h1 h4 h5 h6 h7
  cases bad
  all_goals
    go_enter Try.func25, Try.ntmps25
    go_wp2_with (go_at_call 22; refine B.mono ?_; rintro e w' ⟨rfl, rfl⟩)
    go_ret
    exact ⟨rfl, rfl⟩

theorem badR_any {Q : Nat → Prop} (b : Nat) (l : List Int) (bad : Bool) (w : World) (h : RdQ Q w b l bad) :
    Calls Try.prog 22 #[.pointer (some ⟨b, 0, none⟩)] w fun e w' => e = .returned (.bool bad) ∧ w = w' := by
  obtain ⟨p, c, h1, _⟩ := h
  exact bad_any b _ _ w h1

set_option maxHeartbeats 400000 in
theorem read_at (p : Option Addr) (c : Nat) (l : List Int) (w : World) (hB : BIn w p l) (hl : isB l) (hn : l.length ≤ 140737488355328) :
    Calls Try.prog 19 #[.slice p l.length c] w fun e w' => ∃ b, e = .returned (.pointer (some ⟨b, 0, none⟩)) ∧ w.heap.size ≤ b ∧ b < w'.heap.size ∧ RdQ (fun k => w.heap.size ≤ k ∧ k < w'.heap.size) w' b l false ∧ Below w.heap.size w w' := by
  go_enter Try.func19, Try.ntmps19
  go_wp2_with (go_at_call 29; refine (own_any p c l w hB hn).mono ?_; rintro e w1 ⟨rfl, hblk, hbel⟩)
  go_ret
  have hlt : w.heap.size < w1.heap.size := (Array.getElem?_eq_some_iff.1 hblk).1
  refine ⟨w1.heap.size, rfl, hbel.size, by simp, ⟨_, _, heap_alloc_new _ _, Nat.le_refl _, by simp only [maxLen]; omega, hl, ?_, by intro a ha; simp at ha; subst ha; simp; omega, by simp⟩, hbel.alloc hbel.size _⟩
  exact BIn.of_block (rest := []) (by rw [heap_alloc_old _ _ hlt]; simpa [cellsB] using hblk)

theorem read_any (p : Option Addr) (c : Nat) (l : List Int) (w : World) (hB : BIn w p l) (hl : isB l) (hn : l.length ≤ 140737488355328) :
    Calls Try.prog 19 #[.slice p l.length c] w fun e w' => ∃ b, e = .returned (.pointer (some ⟨b, 0, none⟩)) ∧ w.heap.size ≤ b ∧ Rd w' b l false ∧ Below w.heap.size w w' :=
  (read_at p c l w hB hl hn).mono fun e w' ⟨b, h1, h2, _, h4, h5⟩ => ⟨b, h1, h2, h4.any, h5⟩

end Go.Proofs.Ytflllegengomnaa
