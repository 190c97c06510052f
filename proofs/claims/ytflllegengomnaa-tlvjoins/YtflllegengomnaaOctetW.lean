/-
  The writer of package octet: what each of its functions does to the world, said of a writer that lies in one block and owns one row.
-/
import Derived.Test.YtflllegengomnaaOctetR
namespace Go.Proofs.Ytflllegengomnaa
open Go.RowKit
set_option linter.unusedSimpArgs false
set_option linter.unusedVariables false

/-- At block b lies a writer to which the bytes l were put, and which owns the row g. -/
def Wr (w : World) (b : Nat) (g : Option Nat) (l : List Int) (bad : Bool) : Prop :=
  ∃ v, w.heap[b]? = some (.cells #[v, .bool bad] 54 (0, 0)) ∧ w.ownsRow 0 5 1 v l.length (l.map (Value.int .u8)) ∧ v.ownBlock = g ∧ g ≠ some b ∧ isB l ∧ (bad = true → l = [])

/-- The row that is owned now: the one of before, or a new one, or none. -/
def Next (w : World) (g g' : Option Nat) : Prop := g' = g ∨ g' = none ∨ ∃ k, g' = some k ∧ w.heap.size ≤ k

theorem Next.refl (w : World) (g : Option Nat) : Next w g g := .inl rfl
theorem Next.trans {S : Nat → Prop} {w w' : World} {g g' g'' : Option Nat} (h : Next w g g') (k : Next w' g' g'') (f : Fr S w w') : Next w g g'' := by
  rcases k with rfl | k | ⟨i, rfl, hi⟩
  · exact h
  · exact .inr (.inl k)
  · exact .inr (.inr ⟨i, rfl, Nat.le_trans f.size hi⟩)

theorem Wr.lt {w : World} {b : Nat} {g : Option Nat} {l : List Int} {bad : Bool} (h : Wr w b g l bad) : b < w.heap.size ∧ ∀ k, g = some k → k < w.heap.size := by
  obtain ⟨v, h1, h2, h3, _⟩ := h
  refine ⟨(Array.getElem?_eq_some_iff.1 h1).1, fun k hk => ?_⟩
  exact (h2.lt k (by rw [h3]; exact hk)).2

theorem Wr.fr {S : Nat → Prop} {w w' : World} {b : Nat} {g : Option Nat} {l : List Int} {bad : Bool} (h : Wr w b g l bad) (k : Fr S w w') (hb : b < w.heap.size → ¬ S b) (hg : ∀ i, i < w.heap.size → g = some i → ¬ S i) : Wr w' b g l bad := by
  have hlt := h.lt
  obtain ⟨v, h1, h2, h3, h4, h5, h6⟩ := h
  refine ⟨v, ?_, owns_fr h2 k fun i hi => hg i (hlt.2 i (by rw [← h3]; exact hi)) (by rw [← h3]; exact hi), h3, h4, h5, h6⟩
  rw [k.block b hlt.1 (hb hlt.1)]
  exact h1

theorem Wr.below {w w' : World} {b : Nat} {g : Option Nat} {l : List Int} {bad : Bool} (h : Wr w b g l bad) (k : Below w.heap.size w w') : Wr w' b g l bad :=
  h.fr (Fr.of_below k fun _ => False) (fun _ q => q) fun _ _ _ q => q

set_option maxHeartbeats 400000 in
theorem write_any (w : World) : Calls Try.prog 15 #[] w fun e w' => e = .returned (.pointer (some ⟨w.heap.size, 0, none⟩)) ∧ Wr w' w.heap.size none [] false ∧ Below w.heap.size w w' := by
  go_enter Try.func15, Try.ntmps15
  go_wp2
  go_ret
  exact ⟨rfl, ⟨_, heap_alloc_new _ _, World.ownsRow_nil _ _ _ _, rfl, by simp, isB.nil, by simp⟩, (Below.refl _ _).alloc (Nat.le_refl _) _⟩

set_option maxHeartbeats 400000 in
theorem isBad_any (b : Nat) (x : Value) (bad : Bool) (w : World) (h : w.heap[b]? = some (.cells #[x, .bool bad] 54 (0, 0))) :
    Calls Try.prog 28 #[.pointer (some ⟨b, 0, none⟩)] w fun e w' => e = .returned (.bool bad) ∧ w = w' := by
  obtain ⟨c0, c1, f0, f1⟩ := two_cells h
  clear h
  go_enter Try.func28, Try.ntmps28
  go_wp2
  go_ret
  exact ⟨rfl, rfl⟩

set_option maxHeartbeats 400000 in
theorem spoilW_any (b : Nat) (x y : Value) (w : World) (h : w.heap[b]? = some (.cells #[x, y] 54 (0, 0))) :
    Calls Try.prog 32 #[.pointer (some ⟨b, 0, none⟩)] w fun e w' => e = .returned (.tuple #[]) ∧ Wr w' b none [] true ∧ Fr (fun k => k = b) w w' := by
  obtain ⟨c0, c1, f0, f1⟩ := two_cells h
  have H : Hid (w.heap[b]? = some (.cells #[x, y] 54 (0, 0))) := h
  clear h
  go_enter Try.func32, Try.ntmps32
  go_wp2
  go_end0
  refine ⟨rfl, ⟨_, set_second (set_first H.out _) _, World.ownsRow_nil _ _ _ _, rfl, by simp, isB.nil, by simp⟩, Fr.setCell (S := fun k => k = b) (p := ⟨b, 1, none⟩) (Fr.setCell (S := fun k => k = b) (p := ⟨b, 0, none⟩) (Fr.refl _ _) (.inl rfl) _) (.inl rfl) _⟩

set_option maxHeartbeats 400000 in
theorem raw_bad (b : Nat) (g : Option Nat) (l : List Int) (s : Value) (w : World) (h : Wr w b g l true) :
    Calls Try.prog 26 #[.pointer (some ⟨b, 0, none⟩), s] w fun e w' => e = .returned (.pointer (some ⟨b, 0, none⟩)) ∧ w = w' := by
  obtain ⟨v, h1, _⟩ := h
  have B := isBad_any b _ _ w h1
  clear h1
  go_enter Try.func26, Try.ntmps26
  go_wp2_with (go_at_call 28; refine B.mono ?_; rintro e w' ⟨rfl, rfl⟩)
  go_ret
  exact ⟨rfl, rfl⟩

set_option maxHeartbeats 400000 in
theorem raw_ok (b : Nat) (g : Option Nat) (l m : List Int) (p : Option Addr) (c : Nat) (w : World) (h : Wr w b g l false) (hB : BIn w p m) (hm : isB m) (hp : p = none → c = 0) (hlen : l.length + m.length ≤ 140737488355328) :
    Calls Try.prog 26 #[.pointer (some ⟨b, 0, none⟩), .slice p m.length c] w fun e w' => e = .returned (.pointer (some ⟨b, 0, none⟩)) ∧ ∃ g', Wr w' b g' (l ++ m) false ∧ Next w g g' ∧ Fr (fun k => k = b ∨ g = some k) w w' := by
  have hlt := h.lt
  obtain ⟨v, h1, h2, h3, h4, h5, h6⟩ := h
  have B := isBad_any b _ _ w h1
  obtain ⟨c0, c1, f0, f1⟩ := two_cells h1
  obtain ⟨pv, cv, rfl, _⟩ := owns_BIn h2
  have H := Hid.mk' h1
  have H3 := Hid.mk' h3
  have HL := Hid.mk' hlt
  obtain ⟨i0, hi, hz0, hz1, hz2⟩ := info_parts infoB
  clear h1 h3 h6 hlt
  go_enter Try.func26, Try.ntmps26
  go_wp2_with (first | (go_at_call 28; refine B.mono ?_; rintro e w' ⟨rfl, rfl⟩) | (at_builtin; refine wpList_append_fr rfl (.tmp 12) (.tmp 13) 25 rfl 5 i0 (.int .u8 0) 1 1 Try.underlying25 hi hz0 hz1 hz2 rfl (by decide) _ l.length (l.map (Value.int .u8)) rfl h2 p m.length c (m.map (Value.int .u8)) rfl hp (by simp) hB.news (oneCells m) (by simp only [maxLen]; omega) (by omega) ?_))
  intro v' w1 HA
  have hnb : ¬ ((Value.slice pv l.length cv).ownBlock = some b) := by rw [H3.out]; exact h4
  have hb1 : w1.heap[b]? = some (.cells #[.slice pv l.length cv, .bool false] 54 (0, 0)) := by rw [HA.fr.block b HL.out.1 hnb]; exact H.out
  obtain ⟨d0, d1, e0, e1⟩ := two_cells hb1
  obtain ⟨p', c', rfl, _⟩ := owns_slice HA.owns
  have HB := Hid.mk' hb1
  have HNB := Hid.mk' hnb
  clear hb1 hnb B c0 c1 f0 f1 h2 hB
  go_wp2
  go_ret
  have hne : (Value.slice p' (l.length + m.length) c').ownBlock ≠ some b := by
    rcases HA.moved with q | ⟨k, hk, hk2⟩
    · rw [q]; exact HNB.out
    · rw [hk]; have := HL.out.1; simp; omega
  refine ⟨rfl, _, ⟨_, set_first HB.out _, ?_, rfl, hne, h5.append hm, by simp⟩, ?_, ?_⟩
  · have ho := owns_fr (S := fun k => k = b) HA.owns (Fr.setCell (S := fun k => k = b) (p := ⟨b, 0, none⟩) (Fr.refl _ _) (.inl rfl) (.slice p' (l.length + m.length) c')) fun i hi q => hne (by rw [hi, q])
    rw [List.length_append, List.map_append]
    exact ho
  · rcases HA.moved with q | ⟨k, hk, hk2⟩
    · exact .inl (by rw [q]; exact H3.out)
    · exact .inr (.inr ⟨k, hk, hk2⟩)
  · refine Fr.setCell (p := ⟨b, 0, none⟩) (HA.fr.mono fun i _ q => .inr ?_) (.inl (.inl rfl)) _
    rw [← H3.out]; exact q

theorem pow_two (k : Nat) : (2 : Int) ^ (8 * k) = 256 ^ k := by rw [Int.pow_mul]; rfl
theorem pow_pos (k : Nat) : (0 : Int) < 256 ^ k := Int.pow_pos (by omega)

/-- The n bytes of a number, the highest first. -/
def digB (n : Nat) (v : Int) : List Int := (List.range n).map fun t => v / 256 ^ (n - 1 - t) % 256
theorem digB_len (n : Nat) (v : Int) : (digB n v).length = n := by simp [digB]
theorem digB_isB (n : Nat) (v : Int) : isB (digB n v) := fun x hx => by
  simp [digB] at hx
  obtain ⟨t, _, rfl⟩ := hx
  omega
theorem digB_take (n : Nat) (v : Int) (j : Nat) (hj : j < n) : (digB n v).take (j + 1) = (digB n v).take j ++ [v / 256 ^ (n - 1 - j) % 256] := by
  have hj' : j < (digB n v).length := by rw [digB_len]; exact hj
  rw [List.take_succ_eq_append_getElem hj']
  simp [digB]

theorem shr_zero (k : Nat) (v : Int) : (v / 2 ^ (8 * k) == 0) = decide (0 ≤ v ∧ v < 256 ^ k) := by
  rw [pow_two, Bool.eq_iff_iff]
  simp
  have hp := pow_pos k
  constructor
  · intro h
    have h1 := Int.emod_nonneg v (Int.ne_of_gt hp)
    have h2 := Int.emod_lt_of_pos v hp
    have h3 := Int.mul_ediv_add_emod v (256 ^ k)
    rw [h] at h3
    simp at h3
    omega
  · rintro ⟨h1, h2⟩
    exact Int.ediv_eq_zero_of_lt h1 h2

set_option maxHeartbeats 400000 in
theorem fits_yes (k : Nat) (v : Int) (w : World) (h1 : 1 ≤ k) (h7 : k ≤ 7) (hv : 0 ≤ v) (hv2 : v < 256 ^ k) (hv3 : v ≤ 9223372036854775807) :
    Calls Try.prog 31 #[.int .i64 k, .int .i64 v] w fun e w' => e = .returned (.bool true) ∧ w = w' := by
  have H := Hid.mk' ((shr_zero k v).trans (decide_eq_true ⟨hv, hv2⟩))
  clear hv2
  go_enter Try.func31, Try.ntmps31
  go_wp2
  go_ret
  exact ⟨by rw [H.out]; rfl, rfl⟩

set_option maxHeartbeats 400000 in
theorem fits_no (n : Int) (v : Int) (w : World) (hv3 : v ≤ 9223372036854775807) (hv4 : -9223372036854775808 ≤ v) (h : n < 1 ∨ 7 < n ∨ v < 0 ∨ 256 ^ n.toNat ≤ v) :
    Calls Try.prog 31 #[.int .i64 n, .int .i64 v] w fun e w' => e = .returned (.bool false) ∧ w = w' := by
  by_cases h1 : n < 1
  · have h1' : ¬ 1 ≤ n := by omega
    clear h
    go_enter Try.func31, Try.ntmps31
    go_wp2
    go_ret
    exact ⟨rfl, rfl⟩
  · by_cases h7 : 7 < n
    · have h1' : ¬ n ≤ 7 := by omega
      clear h
      go_enter Try.func31, Try.ntmps31
      go_wp2
      go_ret
      exact ⟨rfl, rfl⟩
    · obtain ⟨k, rfl⟩ := Int.eq_ofNat_of_zero_le (show 0 ≤ n by omega)
      have hv : ¬ (0 ≤ v ∧ v < 256 ^ k) := by
        rintro ⟨a, b⟩
        simp at h
        omega
      have H := Hid.mk' ((shr_zero k v).trans (decide_eq_false hv))
      clear hv h
      have g1 : (1 : Int) ≤ (k : Int) := by omega
      have g7 : (k : Int) ≤ 7 := by omega
      go_enter Try.func31, Try.ntmps31
      go_wp2
      go_ret
      exact ⟨by rw [H.out]; rfl, rfl⟩

theorem one_BIn {w : World} {g : Nat} {x : Int} {e : TypeId} (h : w.heap[g]? = some (.cells #[.int .u8 x] e (0, 0))) : BIn w (some ⟨g, 0, none⟩) [x] :=
  BIn.of_block (rest := []) (e := e) (f := (0, 0)) (by simpa using h)

/-- 'Raw' of one byte that was laid for it. -/
theorem raw_one (b : Nat) (g : Option Nat) (l : List Int) (x : Int) (w : World) (h : Wr w b g l false) (hx : 0 ≤ x ∧ x < 256) (hlen : l.length + 1 ≤ 140737488355328) :
    Calls Try.prog 26 #[.pointer (some ⟨b, 0, none⟩), .slice (some ⟨w.heap.size, 0, none⟩) 1 1] (w.alloc (.cells #[.int .u8 x] 5)) fun e w' => e = .returned (.pointer (some ⟨b, 0, none⟩)) ∧ ∃ g', Wr w' b g' (l ++ [x]) false ∧ Next w g g' ∧ Fr (fun k => k = b ∨ g = some k) w w' := by
  have f : Fr (fun k => k = b ∨ g = some k) w (w.alloc (.cells #[.int .u8 x] 5)) := (Fr.refl _ _).alloc _
  refine (raw_ok b g l [x] (some ⟨w.heap.size, 0, none⟩) 1 _ (h.below ((Below.refl _ _).alloc (Nat.le_refl _) _)) (one_BIn (heap_alloc_new _ _)) (by intro y hy; simp at hy; subst hy; exact hx) (by simp) hlen).mono ?_
  rintro e w' ⟨rfl, g', h1, h2, h3⟩
  exact ⟨rfl, g', h1, (Next.refl _ _).trans h2 f, f.trans h3 fun _ q => .inl q⟩

set_option maxHeartbeats 400000 in
theorem numW_ok (b : Nat) (g : Option Nat) (l : List Int) (n : Nat) (v : Int) (w : World) (h : Wr w b g l false) (h1 : 1 ≤ n) (h7 : n ≤ 7) (hv : 0 ≤ v) (hv2 : v < 256 ^ n) (hv3 : v ≤ 9223372036854775807) (hlen : l.length + 7 ≤ 140737488355328) :
    Calls Try.prog 23 #[.pointer (some ⟨b, 0, none⟩), .int .i64 n, .int .i64 v] w fun e w' => e = .returned (.pointer (some ⟨b, 0, none⟩)) ∧ ∃ g', Wr w' b g' (l ++ digB n v) false ∧ Next w g g' ∧ Fr (fun k => k = b ∨ g = some k) w w' := by
  have F := fits_yes n v w h1 h7 hv hv2 hv3
  clear hv2
  go_enter Try.func23, Try.ntmps23
  go_wp2_with (go_at_call 31; refine F.mono ?_; rintro e w' ⟨rfl, rfl⟩)
  go_loopw [7] (fun i wr => ∃ j : Nat, j ≤ n ∧ i = .int .i64 ((n : Int) - 1 - j) ∧ ∃ g', Wr wr b g' (l ++ (digB n v).take j) false ∧ Next w g g' ∧ Fr (fun k => k = b ∨ g = some k) w wr) (fun i _ => (intOf i + 1).toNat)
  case atStart => exact ⟨0, Nat.zero_le _, by simp, g, by simpa using h, Next.refl _ _, Fr.refl _ _⟩
  case round =>
    obtain ⟨j, hj, rfl, g', hW, hN, hF⟩ := hrel
    by_cases hlt : j < n
    · have R := raw_one b g' (l ++ (digB n v).take j) (v / 256 ^ (n - 1 - j) % 256) wr hW (by omega) (by simp [digB_len]; omega)
      rw [List.append_assoc, ← digB_take n v j hlt] at R
      rw [← pow_two] at R
      go_wp2_with (go_at_call 26; refine R.mono ?_; rintro e w2 ⟨rfl, g2, hW2, hN2, hF2⟩)
      go_roundw
      case rel =>
        refine ⟨j + 1, by omega, by go_num, g2, hW2, hN.trans hN2 hF, hF.trans hF2 fun i q => ?_⟩
        rcases q with q | q
        · exact .inl (.inl q)
        · rcases hN with r | r | ⟨k, r, hk⟩
          · exact .inl (.inr (r ▸ q))
          · rw [r] at q; cases q
          · rw [r] at q; cases q; exact .inr hk
      case measure => simp [intOf]; omega
    · obtain rfl : j = n := by omega
      rw [List.take_of_length_le (by rw [digB_len]; exact Nat.le_refl _)] at hW
      go_wp2
      go_ret
      exact ⟨rfl, g', hW, hN, hF⟩

set_option maxHeartbeats 400000 in
theorem numW_no (b : Nat) (g : Option Nat) (l : List Int) (bad : Bool) (n v : Int) (w : World) (h : Wr w b g l bad) (hv3 : v ≤ 9223372036854775807) (hv4 : -9223372036854775808 ≤ v) (hn : n < 1 ∨ 7 < n ∨ v < 0 ∨ 256 ^ n.toNat ≤ v) :
    Calls Try.prog 23 #[.pointer (some ⟨b, 0, none⟩), .int .i64 n, .int .i64 v] w fun e w' => e = .returned (.pointer (some ⟨b, 0, none⟩)) ∧ Wr w' b none [] true ∧ Fr (fun k => k = b ∨ g = some k) w w' := by
  have F := fits_no n v w hv3 hv4 hn
  obtain ⟨x, h1, _⟩ := h
  have S := spoilW_any b _ _ w h1
  clear hn h1
  go_enter Try.func23, Try.ntmps23
  go_wp2_with (first | (go_at_call 31; refine F.mono ?_; rintro e w' ⟨rfl, rfl⟩) | (go_at_call 32; refine S.mono ?_; rintro e w1 ⟨rfl, hW, hF⟩))
  go_ret
  exact ⟨rfl, hW, hF.mono fun i _ q => .inl q⟩

set_option maxHeartbeats 400000 in
theorem numW_bad (b : Nat) (g : Option Nat) (l : List Int) (n : Nat) (v : Int) (w : World) (h : Wr w b g l true) (h1 : 1 ≤ n) (h7 : n ≤ 7) (hv : 0 ≤ v) (hv2 : v < 256 ^ n) (hv3 : v ≤ 9223372036854775807) :
    Calls Try.prog 23 #[.pointer (some ⟨b, 0, none⟩), .int .i64 n, .int .i64 v] w fun e w' => e = .returned (.pointer (some ⟨b, 0, none⟩)) ∧ Wr w' b g l true ∧ Fr (fun k => k = b ∨ g = some k) w w' := by
  have F := fits_yes n v w h1 h7 hv hv2 hv3
  clear hv2
  go_enter Try.func23, Try.ntmps23
  go_wp2_with (go_at_call 31; refine F.mono ?_; rintro e w' ⟨rfl, rfl⟩)
  go_loopw [7] (fun i wr => ∃ j : Nat, j ≤ n ∧ i = .int .i64 ((n : Int) - 1 - j) ∧ Wr wr b g l true ∧ Fr (fun k => k = b ∨ g = some k) w wr) (fun i _ => (intOf i + 1).toNat)
  case atStart => exact ⟨0, Nat.zero_le _, by simp, h, Fr.refl _ _⟩
  case round =>
    obtain ⟨j, hj, rfl, hW, hF⟩ := hrel
    by_cases hlt : j < n
    · have R := fun o s => raw_bad b g l s (wr.alloc o) (hW.below ((Below.refl _ _).alloc (Nat.le_refl _) _))
      go_wp2_with (go_at_call 26; refine (R _ _).mono ?_; rintro e w2 ⟨rfl, rfl⟩)
      go_roundw
      case rel => exact ⟨j + 1, by omega, by go_num, hW.below ((Below.refl _ _).alloc (Nat.le_refl _) _), hF.alloc _⟩
      case measure => simp [intOf]; omega
    · go_wp2
      go_ret
      exact ⟨rfl, hW, hF⟩

set_option maxHeartbeats 400000 in
theorem bytes_ok (b : Nat) (g : Option Nat) (l : List Int) (w : World) (h : Wr w b g l false) (hlen : l.length ≤ 140737488355328) :
    Calls Try.prog 18 #[.pointer (some ⟨b, 0, none⟩)] w fun e w' => e = .returned (.tuple #[.slice (some ⟨w.heap.size, 0, none⟩) l.length l.length, .bool true]) ∧ BIn w' (some ⟨w.heap.size, 0, none⟩) l ∧ Below w.heap.size w w' := by
  obtain ⟨v, h1, h2, h3, h4, h5, h6⟩ := h
  have B := isBad_any b _ _ w h1
  obtain ⟨c0, c1, f0, f1⟩ := two_cells h1
  obtain ⟨pv, cv, rfl, hb, _⟩ := owns_BIn h2
  have O := own_any pv cv l w hb hlen
  clear h1 h2 h3 h6 hb
  go_enter Try.func18, Try.ntmps18
  go_wp2_with (first | (go_at_call 28; refine B.mono ?_; rintro e w' ⟨rfl, rfl⟩) | (go_at_call 29; refine O.mono ?_; rintro e w1 ⟨rfl, hblk, hbel⟩))
  go_ret2
  exact ⟨rfl, BIn.of_block (rest := []) (by simpa [cellsB] using hblk), hbel⟩

set_option maxHeartbeats 400000 in
theorem bytes_bad (b : Nat) (g : Option Nat) (l : List Int) (w : World) (h : Wr w b g l true) :
    Calls Try.prog 18 #[.pointer (some ⟨b, 0, none⟩)] w fun e w' => e = .returned (.tuple #[.slice none 0 0, .bool false]) ∧ w = w' := by
  obtain ⟨v, h1, h2, h3, h4, h5, h6⟩ := h
  have B := isBad_any b _ _ w h1
  clear h1 h2 h3 h6
  go_enter Try.func18, Try.ntmps18
  go_wp2_with (go_at_call 28; refine B.mono ?_; rintro e w' ⟨rfl, rfl⟩)
  go_ret2
  exact ⟨rfl, rfl⟩

/-- A writer all of whose memory lies from block B on: the coarse view, where nothing else that lies there is wanted. -/
def WrB (w : World) (B b : Nat) (l : List Int) (bad : Bool) : Prop := ∃ g, Wr w b g l bad ∧ B ≤ b ∧ ∀ k, g = some k → B ≤ k

theorem WrB.next {w w' : World} {B b : Nat} {g g' : Option Nat} {l' : List Int} {bad' : Bool} (hB : B ≤ b) (hg : ∀ k, g = some k → B ≤ k) (hbs : b < w.heap.size) (h : Wr w' b g' l' bad') (hn : Next w g g') (hf : Fr (fun k => k = b ∨ g = some k) w w') : WrB w' B b l' bad' ∧ Below B w w' := by
  refine ⟨⟨g', h, hB, fun k hk => ?_⟩, hf.below (fun i q => ?_) (by omega)⟩
  · rcases hn with rfl | rfl | ⟨i, rfl, hi⟩
    · exact hg k hk
    · cases hk
    · cases hk; omega
  · rcases q with rfl | q
    · exact hB
    · exact hg i q

theorem WrB.below {w w' : World} {B b : Nat} {l : List Int} {bad : Bool} (h : WrB w B b l bad) (k : Below w.heap.size w w') : WrB w' B b l bad := by
  obtain ⟨g, h, h1, h2⟩ := h
  exact ⟨g, h.below k, h1, h2⟩

theorem writeB (w : World) : Calls Try.prog 15 #[] w fun e w' => e = .returned (.pointer (some ⟨w.heap.size, 0, none⟩)) ∧ WrB w' w.heap.size w.heap.size [] false ∧ Below w.heap.size w w' :=
  (write_any w).mono fun e w' ⟨h1, h2, h3⟩ => ⟨h1, ⟨none, h2, Nat.le_refl _, by simp⟩, h3⟩

theorem rawB (B b : Nat) (l m : List Int) (p : Option Addr) (c : Nat) (w : World) (h : WrB w B b l false) (hB : BIn w p m) (hm : isB m) (hp : p = none → c = 0) (hlen : l.length + m.length ≤ 140737488355328) :
    Calls Try.prog 26 #[.pointer (some ⟨b, 0, none⟩), .slice p m.length c] w fun e w' => e = .returned (.pointer (some ⟨b, 0, none⟩)) ∧ WrB w' B b (l ++ m) false ∧ Below B w w' := by
  obtain ⟨g, h, h1, h2⟩ := h
  have hlt := h.lt.1
  refine (raw_ok b g l m p c w h hB hm hp hlen).mono ?_
  rintro e w' ⟨rfl, g', h3, h4, h5⟩
  exact ⟨rfl, WrB.next h1 h2 hlt h3 h4 h5⟩

theorem rawOneB (B b : Nat) (l : List Int) (x : Int) (w : World) (h : WrB w B b l false) (hx : 0 ≤ x ∧ x < 256) (hlen : l.length + 1 ≤ 140737488355328) :
    Calls Try.prog 26 #[.pointer (some ⟨b, 0, none⟩), .slice (some ⟨w.heap.size, 0, none⟩) 1 1] (w.alloc (.cells #[.int .u8 x] 5)) fun e w' => e = .returned (.pointer (some ⟨b, 0, none⟩)) ∧ WrB w' B b (l ++ [x]) false ∧ Below B w w' := by
  obtain ⟨g, h, h1, h2⟩ := h
  have hlt := h.lt.1
  refine (raw_one b g l x w h hx hlen).mono ?_
  rintro e w' ⟨rfl, g', h3, h4, h5⟩
  exact ⟨rfl, WrB.next h1 h2 hlt h3 h4 h5⟩

theorem numB_ok (B b : Nat) (l : List Int) (n : Nat) (v : Int) (w : World) (h : WrB w B b l false) (h1 : 1 ≤ n) (h7 : n ≤ 7) (hv : 0 ≤ v) (hv2 : v < 256 ^ n) (hv3 : v ≤ 9223372036854775807) (hlen : l.length + 7 ≤ 140737488355328) :
    Calls Try.prog 23 #[.pointer (some ⟨b, 0, none⟩), .int .i64 n, .int .i64 v] w fun e w' => e = .returned (.pointer (some ⟨b, 0, none⟩)) ∧ WrB w' B b (l ++ digB n v) false ∧ Below B w w' := by
  obtain ⟨g, h, q1, q2⟩ := h
  have hlt := h.lt.1
  refine (numW_ok b g l n v w h h1 h7 hv hv2 hv3 hlen).mono ?_
  rintro e w' ⟨rfl, g', h3, h4, h5⟩
  exact ⟨rfl, WrB.next q1 q2 hlt h3 h4 h5⟩

theorem bytesB (B b : Nat) (l : List Int) (w : World) (h : WrB w B b l false) (hlen : l.length ≤ 140737488355328) :
    Calls Try.prog 18 #[.pointer (some ⟨b, 0, none⟩)] w fun e w' => e = .returned (.tuple #[.slice (some ⟨w.heap.size, 0, none⟩) l.length l.length, .bool true]) ∧ BIn w' (some ⟨w.heap.size, 0, none⟩) l ∧ Below w.heap.size w w' := by
  obtain ⟨g, h, _⟩ := h
  exact bytes_ok b g l w h hlen

end Go.Proofs.Ytflllegengomnaa
