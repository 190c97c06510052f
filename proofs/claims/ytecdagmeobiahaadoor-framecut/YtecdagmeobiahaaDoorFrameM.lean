/-
  The plain mathematics of layer 4: what a frame is, and what is opened. No function of the program is named here.
-/
import Derived.Test.YtecdagmeobiahaaDoorCrcM
import Derived.Test.YtecdagmeobiahaaDoorOctetW
namespace Go.Proofs.YtecdagmeobiahaaDoor
set_option linter.unusedSimpArgs false
set_option linter.unusedVariables false

/-- All that stands ahead of the sum. -/
def frontB (g : Int) (l : List Int) : List Int := [156, g, (l.length : Int) / 256, (l.length : Int) % 256] ++ l

/-- The sum's four bytes. -/
def four (s : Nat) : List Int := [(s : Int) / 16777216, (s : Int) / 65536 % 256, (s : Int) / 256 % 256, (s : Int) % 256]

/-- A frame. -/
def fullB (g : Int) (l : List Int) : List Int := frontB g l ++ four (sumB (frontB g l))

theorem four_eq (s : Nat) : four s = [((s / 16777216 : Nat) : Int), ((s / 65536 % 256 : Nat) : Int), ((s / 256 % 256 : Nat) : Int), ((s % 256 : Nat) : Int)] := by
  unfold four
  rw [show (s : Int) / 16777216 = ((s / 16777216 : Nat) : Int) by omega, show (s : Int) / 65536 % 256 = ((s / 65536 % 256 : Nat) : Int) by omega, show (s : Int) / 256 % 256 = ((s / 256 % 256 : Nat) : Int) by omega, show (s : Int) % 256 = ((s % 256 : Nat) : Int) by omega]

theorem four_isB (s : Nat) (h : s < 4294967296) : isB (four s) := by
  intro x hx; simp [four] at hx; omega

theorem sum_lt (l : List Int) (hb : isB l) : sumB l < 4294967296 := by have := sumB_lt l hb; rw [p32] at this; exact this

theorem digB_four (s : Nat) (h : s < 4294967296) : digB 4 (s : Int) = four s := by
  simp [digB, four, List.range, List.range.loop]
  omega

theorem digB_one (x : Int) (h : 0 ≤ x ∧ x < 256) : digB 1 x = [x] := by
  simp [digB, List.range, List.range.loop]
  omega

theorem digB_two (x : Int) (h : 0 ≤ x ∧ x < 65536) : digB 2 x = [x / 256, x % 256] := by
  simp [digB, List.range, List.range.loop]
  omega

theorem frontB_len (g : Int) (l : List Int) : (frontB g l).length = l.length + 4 := by simp [frontB]
theorem fullB_len (g : Int) (l : List Int) : (fullB g l).length = l.length + 8 := by simp [fullB, frontB_len, four]

theorem frontB_isB (g : Int) (l : List Int) (hg : 1 ≤ g ∧ g ≤ 3) (hl : isB l) (hn : l.length ≤ 65499) : isB (frontB g l) := by
  refine isB.append (fun x hx => ?_) hl
  simp at hx
  omega

theorem fullB_isB (g : Int) (l : List Int) (hg : 1 ≤ g ∧ g ≤ 3) (hl : isB l) (hn : l.length ≤ 65499) : isB (fullB g l) := by
  have := frontB_isB g l hg hl hn
  exact this.append (four_isB _ (sum_lt _ this))

/-- Whether the front is that of a frame of n bytes. -/
abbrev formB (b : List Int) : Prop := b.getD 0 0 = 156 ∧ (1 ≤ b.getD 1 0 ∧ b.getD 1 0 ≤ 3) ∧ b.getD 2 0 * 256 + b.getD 3 0 = (b.length : Int) - 8

/-- What is opened: the generation, the body, the error. -/
def openR (b : List Int) : Int × List Int × Int :=
  if 65507 < b.length then (0, [], 3)
  else if b.length < 8 then (0, [], 2)
  else if ¬ formB b then (0, [], 4)
  else if numB (b.drop (b.length - 4)) ≠ ((sumB (b.take (b.length - 4)) : Nat) : Int) then (0, [], 8)
  else (b.getD 1 0, (b.take (b.length - 4)).drop 4, 0)

theorem openR_err (b : List Int) (h : (openR b).2.2 ≠ 0) : (openR b).1 = 0 ∧ (openR b).2.1 = [] := by
  unfold openR at *
  split
  · simp
  split
  · simp
  split
  · simp
  split
  · simp
  · rename_i h1 h2 h3 h4
    simp [h1, h2, h3, h4] at h

theorem openR_long (b : List Int) (h : 65507 < b.length) : openR b = (0, [], 3) := by simp [openR, h]
theorem openR_short (b : List Int) (h : b.length < 8) : openR b = (0, [], 2) := by simp [openR, h, show ¬ 65507 < b.length by omega]
theorem openR_form (b : List Int) (h1 : b.length ≤ 65507) (h2 : 8 ≤ b.length) (h3 : ¬ formB b) : openR b = (0, [], 4) := by
  unfold openR
  rw [if_neg (show ¬ 65507 < b.length by omega), if_neg (show ¬ b.length < 8 by omega), if_pos h3]
theorem openR_sum (b : List Int) (h1 : b.length ≤ 65507) (h2 : 8 ≤ b.length) (h3 : formB b) (h4 : numB (b.drop (b.length - 4)) ≠ ((sumB (b.take (b.length - 4)) : Nat) : Int)) : openR b = (0, [], 8) := by
  unfold openR
  rw [if_neg (show ¬ 65507 < b.length by omega), if_neg (show ¬ b.length < 8 by omega), if_neg (not_not_intro h3), if_pos h4]
theorem openR_ok (b : List Int) (h1 : b.length ≤ 65507) (h2 : 8 ≤ b.length) (h3 : formB b) (h4 : numB (b.drop (b.length - 4)) = ((sumB (b.take (b.length - 4)) : Nat) : Int)) : openR b = (b.getD 1 0, (b.take (b.length - 4)).drop 4, 0) := by
  unfold openR
  rw [if_neg (show ¬ 65507 < b.length by omega), if_neg (show ¬ b.length < 8 by omega), if_neg (not_not_intro h3), if_neg (not_not_intro h4)]

theorem four_of_num (x : List Int) (hx : isB x) (h : x.length = 4) (s : Nat) (hs : numB x = (s : Int)) : x = four s := by
  obtain ⟨x0, x1, x2, x3, rfl⟩ : ∃ x0 x1 x2 x3, x = [x0, x1, x2, x3] := by
    match x, h with
    | [x0, x1, x2, x3], _ => exact ⟨x0, x1, x2, x3, rfl⟩
  have h0 := hx x0 (by simp)
  have h1 := hx x1 (by simp)
  have h2 := hx x2 (by simp)
  have h3 := hx x3 (by simp)
  simp [numB] at hs
  simp [four]
  omega

theorem num_four (s : Nat) (h : s < 4294967296) : numB (four s) = (s : Int) := by
  simp [numB, four]
  omega

/-- What is opened has its sum behind it. -/
theorem ok_tail (b : List Int) (hb : isB b) (h : (openR b).2.2 = 0) : b = b.take (b.length - 4) ++ four (sumB (b.take (b.length - 4))) ∧ 8 ≤ b.length ∧ formB b := by
  unfold openR at h
  split at h
  · simp at h
  split at h
  · simp at h
  split at h
  · simp at h
  split at h
  · simp at h
  · rename_i h1 h2 h3 h4
    refine ⟨?_, by omega, Classical.not_not.1 h3⟩
    conv => lhs; rw [← List.take_append_drop (b.length - 4) b]
    congr 1
    exact four_of_num _ (hb.drop _) (by simp; omega) _ (by simpa using h4)

theorem tail_one (l : List Int) (hb : isB l) : sumB (l ++ four (sumB l)) = linN 32 4294967295 ^^^ 4294967295 := by
  have := regB_tail l hb _ rfl
  rw [← four_eq] at this
  rw [show sumB (l ++ four (sumB l)) = regB 4294967295 (l ++ four (sumB l)) ^^^ 4294967295 from rfl, this]

theorem ok_sum (b : List Int) (hb : isB b) (h : (openR b).2.2 = 0) : sumB b = linN 32 4294967295 ^^^ 4294967295 := by
  rw [(ok_tail b hb h).1]
  exact tail_one _ (hb.take _)

theorem turned_ne (l : List Int) (k : Nat) (y : Int) (hk : k < l.length) (hb : isB l) (hy : 0 ≤ y ∧ y < 256) (h : l.getD k 0 ≠ y) : sumB (l.set k y) ≠ sumB l := by
  have e1 : l.set k y = l.take k ++ y :: l.drop (k + 1) := List.set_eq_take_append_cons_drop .. |>.trans (by rw [if_pos hk])
  have e2 : l = l.take k ++ l.getD k 0 :: l.drop (k + 1) := by
    have : l.getD k 0 = l[k] := by simp [List.getD, hk]
    rw [this, List.getElem_cons_drop, List.take_append_drop]
  rw [e1]
  conv => rhs; rw [e2]
  exact fun e => sumB_turned _ _ _ _ (hb.take k) (hb.drop (k + 1)) (hb.getD k) hy h e.symm

theorem set_isB (l : List Int) (hb : isB l) (k : Nat) (y : Int) (hy : 0 ≤ y ∧ y < 256) : isB (l.set k y) := fun z hz => by
  rcases List.mem_or_eq_of_mem_set hz with q | rfl
  · exact hb z q
  · exact hy

/-- A frame of which one byte is turned is not opened. -/
theorem open_turned (g : Int) (l : List Int) (hg : 1 ≤ g ∧ g ≤ 3) (hl : isB l) (hn : l.length ≤ 65499) (k : Nat) (y : Int) (hk : k < (fullB g l).length) (hy : 0 ≤ y ∧ y < 256) (h : (fullB g l).getD k 0 ≠ y) : (openR ((fullB g l).set k y)).2.2 ≠ 0 := fun e => by
  have hb := fullB_isB g l hg hl hn
  have e1 := ok_sum _ (set_isB _ hb k y hy) e
  have e2 : sumB (fullB g l) = linN 32 4294967295 ^^^ 4294967295 := tail_one _ (frontB_isB g l hg hl hn)
  exact turned_ne _ k y hk hb hy h (e1.trans e2.symm)

theorem fullB_front (g : Int) (l m : List Int) : (fullB g l ++ m).getD 0 0 = 156 ∧ (fullB g l ++ m).getD 1 0 = g ∧ (fullB g l ++ m).getD 2 0 = (l.length : Int) / 256 ∧ (fullB g l ++ m).getD 3 0 = (l.length : Int) % 256 := by
  simp [fullB, frontB]

theorem fullB_form (g : Int) (l m : List Int) (hg : 1 ≤ g ∧ g ≤ 3) : formB (fullB g l ++ m) ↔ m = [] := by
  obtain ⟨h0, h1, h2, h3⟩ := fullB_front g l m
  unfold formB
  rw [h0, h1, h2, h3, List.length_append, fullB_len]
  constructor
  · rintro ⟨_, _, h⟩
    exact List.eq_nil_of_length_eq_zero (by omega)
  · rintro rfl
    refine ⟨rfl, hg, ?_⟩
    simp
    omega

theorem fullB_take (g : Int) (l : List Int) : (fullB g l).take ((fullB g l).length - 4) = frontB g l := by
  rw [fullB_len, fullB, List.take_left' (by rw [frontB_len]; omega)]
theorem fullB_drop (g : Int) (l : List Int) : (fullB g l).drop ((fullB g l).length - 4) = four (sumB (frontB g l)) := by
  rw [fullB_len, fullB, List.drop_left' (by rw [frontB_len]; omega)]

/-- What was sealed is opened. -/
theorem open_full (g : Int) (l : List Int) (hg : 1 ≤ g ∧ g ≤ 3) (hl : isB l) (hn : l.length ≤ 65499) : openR (fullB g l) = (g, l, 0) := by
  have hf : formB (fullB g l) := by have := (fullB_form g l [] hg).2 rfl; simpa using this
  have hd : (fullB g l).getD 1 0 = g := by have := (fullB_front g l []).2.1; simpa using this
  rw [openR_ok _ (by rw [fullB_len]; omega) (by rw [fullB_len]; omega) hf (by rw [fullB_take, fullB_drop]; exact num_four _ (sum_lt _ (frontB_isB g l hg hl hn))), fullB_take, hd]
  simp [frontB]

/-- Something behind it. -/
theorem open_behind (g : Int) (l m : List Int) (hg : 1 ≤ g ∧ g ≤ 3) (hm : 0 < m.length) (hn : l.length + m.length ≤ 65499) : openR (fullB g l ++ m) = (0, [], 4) := by
  refine openR_form _ ?_ ?_ ?_
  · rw [List.length_append, fullB_len]; omega
  · rw [List.length_append, fullB_len]; omega
  · rw [fullB_form g l m hg]
    rintro rfl
    simp at hm

theorem take_getD (l : List Int) (k i : Nat) (h : i < k) : (l.take k).getD i 0 = l.getD i 0 := by
  simp [List.getD, List.getElem?_take, h]

/-- Cut off. -/
theorem open_cut (g : Int) (l : List Int) (hg : 1 ≤ g ∧ g ≤ 3) (hn : l.length ≤ 65499) (k : Nat) (hk : k < (fullB g l).length) (h8 : 8 ≤ k) : openR ((fullB g l).take k) = (0, [], 4) := by
  have hlen : ((fullB g l).take k).length = k := by simp; omega
  rw [fullB_len] at hk
  refine openR_form _ (by omega) (by omega) ?_
  unfold formB
  rw [hlen, take_getD _ _ _ (show 0 < k by omega), take_getD _ _ _ (show 1 < k by omega), take_getD _ _ _ (show 2 < k by omega), take_getD _ _ _ (show 3 < k by omega)]
  obtain ⟨h0, h1, h2, h3⟩ := fullB_front g l []
  rw [List.append_nil] at h0 h1 h2 h3
  rw [h0, h1, h2, h3]
  rintro ⟨_, _, h⟩
  omega

theorem getD_take4 (b : List Int) (h : 4 ≤ b.length) : b.take 4 = [b.getD 0 0, b.getD 1 0, b.getD 2 0, b.getD 3 0] := by
  match b, h with
  | x0 :: x1 :: x2 :: x3 :: r, _ => simp

/-- A right front and a body, with the sum that is theirs, are a frame; and with another one they are none. -/
theorem full_of_form (b : List Int) (hb : isB b) (h8 : 8 ≤ b.length) (hf : formB b) : frontB (b.getD 1 0) ((b.take (b.length - 4)).drop 4) = b.take (b.length - 4) := by
  obtain ⟨h0, h1, h2⟩ := hf
  have e : b.take (b.length - 4) = b.take 4 ++ (b.take (b.length - 4)).drop 4 := by
    conv => lhs; rw [← List.take_append_drop 4 (b.take (b.length - 4))]
    rw [List.take_take, Nat.min_eq_left (by omega)]
  have hl : (((b.take (b.length - 4)).drop 4).length : Int) = b.length - 8 := by simp; omega
  have b2 := hb.getD 2
  have b3 := hb.getD 3
  unfold frontB
  rw [hl]
  conv => rhs; rw [e, getD_take4 b (by omega), h0]
  rw [show ((b.length : Int) - 8) / 256 = b.getD 2 0 by omega, show ((b.length : Int) - 8) % 256 = b.getD 3 0 by omega]

theorem open_iff (b : List Int) (hb : isB b) (h1 : b.length ≤ 65507) (h8 : 8 ≤ b.length) (hf : formB b) :
    (fullB (b.getD 1 0) ((b.take (b.length - 4)).drop 4) = b ∧ openR b = (b.getD 1 0, (b.take (b.length - 4)).drop 4, 0)) ∨ (fullB (b.getD 1 0) ((b.take (b.length - 4)).drop 4) ≠ b ∧ openR b = (0, [], 8)) := by
  have e := full_of_form b hb h8 hf
  have hs := sum_lt _ (hb.take (b.length - 4))
  by_cases q : numB (b.drop (b.length - 4)) = ((sumB (b.take (b.length - 4)) : Nat) : Int)
  · refine .inl ⟨?_, openR_ok b h1 h8 hf q⟩
    have := (ok_tail b hb (by rw [openR_ok b h1 h8 hf q])).1
    rw [fullB, e, ← this]
  · refine .inr ⟨fun h => q ?_, openR_sum b h1 h8 hf q⟩
    have h2 : b.drop (b.length - 4) = four (sumB (b.take (b.length - 4))) := by
      rw [fullB, e] at h
      have := congrArg (List.drop (b.length - 4)) h
      rw [List.drop_left' (by simp)] at this
      exact this.symm
    rw [h2]
    exact num_four _ hs

end Go.Proofs.YtecdagmeobiahaaDoor
