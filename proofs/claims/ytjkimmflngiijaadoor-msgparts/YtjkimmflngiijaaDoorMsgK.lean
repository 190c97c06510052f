/-
  Package msg: Kind.
-/
import Derived.Test.YtjkimmflngiijaaDoorMsgN
import Derived.Deep.MidRow
namespace Go.Proofs.YtjkimmflngiijaaDoor
open Go.RowKit
set_option linter.unusedSimpArgs false
set_option linter.unusedVariables false
set_option maxRecDepth 10000
set_option synthInstance.maxSize 2000

theorem flat6 : ∀ (l : List KRow) (i j : Nat), i < l.length → j < 6 → (l.flatMap KRow.cells)[i * 6 + j]? = (l.getD i ⟨⟨#[]⟩, false, false, false, false, false⟩).cells[j]?
  | [], i, j, h, _ => by simp at h
  | x :: t, 0, j, _, hj => by
    rw [List.flatMap_cons, List.getElem?_append_left (by simpa [KRow.cells] using hj)]
    simp [List.getD]
  | x :: t, i + 1, j, h, hj => by
    rw [List.flatMap_cons, List.getElem?_append_right (by simp [KRow.cells]; omega), show (i + 1) * 6 + j - x.cells.length = i * 6 + j by simp [KRow.cells]; omega, flat6 t i j (by simpa using h) hj]
    simp [List.getD]

theorem Kd.range {w : World} (h : Kd w) : w.rangeAt 0 0 (kRows.flatMap KRow.cells) := fun j v hv => by
  have hj : j < 60 := by
    have := (List.getElem?_eq_some_iff.1 hv).1
    simpa [kRows, KRow.cells] using this
  have h1 := h (j / 6) (by omega) (j % 6) (by omega)
  have h2 := flat6 kRows (j / 6) (j % 6) (by simp [kRows]; omega) (by omega)
  rw [show j / 6 * 6 + j % 6 = j by omega] at h1 h2
  rw [Nat.zero_add, h1]
  exact h2.symm.trans hv

set_option maxHeartbeats 4000000 in
theorem mkind_any (s : ByteArray) (w : World) (hK : Kd w) : Calls Tryd.prog 11 #[.string s] w fun e w' => e = .returned (.tuple #[.int .i64 (kindM s).1, .bool (kindM s).2]) ∧ Below w.heap.size w w' := by
  have HT := Hid.mk' (show kindM s = kindR s (10 - 0) from rfl)
  generalize kindM s = r at HT ⊢
  have hR := Hid.mk' hK.range
  have x : ∀ k : Nat, k < 10 → ∀ w, (Instr.index 48 tabV (.int .i64 k)).run Tryd.prog w = .ok (rowV k) w := fun k hk w => tab_row k hk w
  clear hK
  go_enter Tryd.func11, Tryd.ntmps11
  go_wp2_with (refine wpList_load_mid rfl 48 _ rfl 0 0 rfl _ _ hR.out Tryd.underlying48 rfl (by kernel_rfl) ?_)
  rw [show (Value.agg (kRows.flatMap KRow.cells).toArray) = tabV from rfl]
  generalize tabV = tv at x ⊢
  go_wp2_with fail
  go_loopw [7] (fun i W => ∃ k : Nat, k ≤ 10 ∧ i = .int .i64 k ∧ Hid (r = kindR s (10 - k)) ∧ Below w.heap.size w W) (fun i _ => 10 - (intOf i).toNat)
  case atStart => exact ⟨0, by omega, rfl, HT, Below.refl _ _⟩
  case round =>
    obtain ⟨k, hk, rfl, HR, hb⟩ := hrel
    by_cases t : k < 10
    · have xk := x k t
      have ht := mtext_eq (nameK k) s
      have HR' := Hid.mk' (show r = if 1 ≤ k ∧ nameK k = s then ((k : Int), true) else kindR s (10 - (k + 1)) by
        rw [HR.out, show 10 - k = (10 - (k + 1)) + 1 by omega, kindR, show 9 - (10 - (k + 1)) = k by omega])
      have C := fun X => isKind_any (k : Int) X
      rw [rowV, show (rowK k).name = nameK k from rfl] at xk
      have HB := Hid.mk' (hb.trans (((Below.refl wr.heap.size wr).alloc (Nat.le_refl _) (.cells #[.string (nameK k), .bool (rowK k).h0, .bool (rowK k).h1, .bool (rowK k).h2, .bool (rowK k).h3, .bool (rowK k).h4] 47)).mono hb.size))
      generalize (rowK k).h0 = b0 at xk HB
      generalize (rowK k).h1 = b1 at xk HB
      generalize (rowK k).h2 = b2 at xk HB
      generalize (rowK k).h3 = b3 at xk HB
      generalize (rowK k).h4 = b4 at xk HB
      generalize nameK k = nk at xk ht HR' HB
      clear x
      by_cases t1 : 1 ≤ k
      · rw [decide_eq_true (show 1 ≤ (k : Int) ∧ (k : Int) ≤ 9 by omega)] at C
        by_cases t2 : nk = s
        · rw [decide_eq_true t2] at ht
          obtain rfl : r = ((k : Int), true) := by rw [HR'.out, if_pos ⟨t1, t2⟩]
          clear HR HR' t2
          go_wp2_with fail
          refine (C _).mono ?_
          rintro e w1 ⟨rfl, rfl⟩
          go_wp2_with fail
          try rw [Exit.noGoto_ret]
          exact bodyPost_ret (v := .tuple #[.int .i64 k, .bool true]) (by simp [results, Tryd.results11, go_sem]) rfl ⟨rfl, HB.out⟩
        · rw [decide_eq_false t2] at ht
          have HV := Hid.mk' (show r = kindR s (10 - (k + 1)) by rw [HR'.out, if_neg (fun h => t2 h.2)])
          clear HR HR' t2
          go_wp2_with fail
          refine (C _).mono ?_
          rintro e w1 ⟨rfl, rfl⟩
          go_wp2_with fail
          go_roundw
          case rel => exact ⟨k + 1, by omega, by go_num, HV, HB.out⟩
          case measure => simp [intOf]; omega
      · rw [decide_eq_false (show ¬ (1 ≤ (k : Int) ∧ (k : Int) ≤ 9) by omega)] at C
        have HV := Hid.mk' (show r = kindR s (10 - (k + 1)) by rw [HR'.out, if_neg (fun h => t1 h.1)])
        clear HR HR' ht
        go_wp2_with fail
        refine (C _).mono ?_
        rintro e w1 ⟨rfl, rfl⟩
        go_wp2_with fail
        go_roundw
        case rel => exact ⟨k + 1, by omega, by go_num, HV, HB.out⟩
        case measure => simp [intOf]; omega
    · obtain rfl : r = (0, false) := by rw [HR.out, show 10 - k = 0 by omega]; rfl
      have tk : ¬ (k : Int) < 10 := by omega
      go_wp2_with fail
      exact bodyPost_ret (v := .tuple #[.int .i64 0, .bool false]) (by simp [results, Tryd.results11, go_sem]) rfl ⟨rfl, hb⟩
end Go.Proofs.YtjkimmflngiijaaDoor
