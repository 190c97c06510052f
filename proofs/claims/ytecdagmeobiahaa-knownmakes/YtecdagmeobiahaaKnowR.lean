/-
  Package known: numberOf, ZoneOf, LoadOf, BuildOf.
-/
import Derived.Test.YtecdagmeobiahaaKnowM
namespace Go.Proofs.Ytecdagmeobiahaa
open Go.RowKit
set_option linter.unusedSimpArgs false
set_option linter.unusedVariables false

/-- A number of n bytes, out of what a field says. -/
def numK (n : Nat) : Option (List Int) → Int × Bool
  | none => (0, false)
  | some d => if d.length = n then (numB d, true) else (0, false)

/-- A build, out of what a field says. -/
def bldK : Option (List Int) → List Int × Bool
  | none => ([], false)
  | some d => if isBd d then (d, true) else ([], false)

theorem getK_sz (v : Int) (l : List Fd) : ∀ d, getK v (kys l) = some d → d.length ≤ szK (kys l) := fun d hd => by
  induction l with
  | nil => cases hd
  | cons x l ih =>
    have hs : szK (kys (x :: l)) = x.d.length + szK (kys l) := by simp [szK, kys, ky]
    simp only [kys, List.map_cons, getK, ky] at hd
    by_cases t : x.tag = v
    · rw [if_pos t] at hd; cases hd; omega
    · rw [if_neg t] at hd; have := ih hd; omega

set_option maxHeartbeats 1600000 in
theorem numberOf_any (p : Option Addr) (c : Nat) (l : List Fd) (v : Int) (n : Nat) (w : World) (hp : FIn w p l) (hl : l.length ≤ maxLen) (hf : szK (kys l) ≤ 140737488355328) (h1 : 1 ≤ n) (h7 : n ≤ 7) (r : Int × Bool) (hr : numK n (getK v (kys l)) = r) :
    Calls Try.prog 40 #[.slice p l.length c, .int .i64 v, .int .i64 n] w fun e w' => e = .returned (.tuple #[.int .i64 r.1, .bool r.2]) ∧ Below w.heap.size w w' := by
  have G := get_any p c l v w hp hl
  have HR := Hid.mk' hr
  have HSZ := Hid.mk' (getK_sz v l)
  clear hr
  obtain ⟨o, ho⟩ : ∃ o, getK v (kys l) = o := ⟨_, rfl⟩
  rw [ho] at G HR
  have HSZ := Hid.mk' (fun d hd => HSZ.out d (ho.trans hd))
  clear ho
  go_enter Try.func40, Try.ntmps40
  go_wp2_with fail
  refine G.mono ?_
  intro e w1 hG
  clear G
  cases o with
  | none =>
    obtain ⟨rfl, hb⟩ := hG
    have HB := Hid.mk' hb
    have R := read_any none 0 [] w1 (BIn.empty _ _) isB.nil (by simp)
    rw [List.length_nil] at R
    clear hb
    go_wp2_with fail
    refine R.mono ?_
    rintro e w2 ⟨b, rfl, hgb, hR, hb2⟩
    have N := num_no b [] false n w2 hR (by right; right; right; simp; omega)
    have HB2 := Hid.mk' (HB.out.trans (hb2.mono HB.out.size))
    have HG := Hid.mk' (Nat.le_trans HB.out.size hgb)
    clear hgb hR hb2 R HB
    go_wp2_with fail
    refine N.mono ?_
    rintro e w3 ⟨rfl, hR3, hF3⟩
    have D := done_any b [] true w3 hR3
    have HB3 := Hid.mk' (HB2.out.trans (hF3.below (fun i q => by rw [q]; exact HG.out) HB2.out.size))
    clear hR3 hF3 N HB2 HG
    go_wp2_with fail
    refine D.mono ?_
    rintro e w4 ⟨rfl, rfl⟩
    go_wp2_with fail
    obtain rfl := HR.out
    exact bodyPost_ret (v := .tuple #[.int .i64 0, .bool false]) (by simp [results, Try.results40, go_sem]) rfl ⟨rfl, HB3.out⟩
  | some d =>
    obtain ⟨g, rfl, hnew, hg, hisb, hb⟩ := hG
    have hdl := HSZ.out d rfl
    have HB := Hid.mk' hb
    have R := read_any (some ⟨g, 0, none⟩) d.length d w1 (BIn.of_block (rest := []) (by simpa [cellsB] using hnew)) hisb (by omega)
    clear hb hnew hg HSZ
    go_wp2_with fail
    refine R.mono ?_
    rintro e w2 ⟨b, rfl, hgb, hR, hb2⟩
    have HB2 := Hid.mk' (HB.out.trans (hb2.mono HB.out.size))
    have HG := Hid.mk' (Nat.le_trans HB.out.size hgb)
    clear hgb hb2 R HB
    by_cases t : n ≤ d.length
    · have N := num_ok b d n w2 hR t h1 h7
      clear hR
      go_wp2_with fail
      refine N.mono ?_
      rintro e w3 ⟨rfl, hR3, hF3, _⟩
      have D := done_any b (d.drop n) false w3 hR3
      have HB3 := Hid.mk' (HB2.out.trans (hF3.below (fun i q => by rw [q]; exact HG.out) HB2.out.size))
      clear hR3 hF3 N HB2 HG
      by_cases t2 : d.length = n
      · rw [show (!false && (((d.drop n).length : Int) == 0)) = true by simp; omega] at D
        have HN := Hid.mk' (show numB (d.take n) = numB d by rw [List.take_of_length_le (by omega)])
        generalize numB (d.take n) = x at HN ⊢
        go_wp2_with fail
        refine D.mono ?_
        rintro e w4 ⟨rfl, rfl⟩
        go_wp2_with fail
        obtain rfl := HR.out
        refine bodyPost_ret (v := .tuple #[.int .i64 x, .bool true]) (by simp [results, Try.results40, go_sem]) rfl ⟨?_, HB3.out⟩
        simp only [numK]
        rw [if_pos t2, HN.out]
      · rw [show (!false && (((d.drop n).length : Int) == 0)) = false by simp; omega] at D
        generalize numB (d.take n) = x
        go_wp2_with fail
        refine D.mono ?_
        rintro e w4 ⟨rfl, rfl⟩
        go_wp2_with fail
        obtain rfl := HR.out
        refine bodyPost_ret (v := .tuple #[.int .i64 0, .bool false]) (by simp [results, Try.results40, go_sem]) rfl ⟨?_, HB3.out⟩
        simp only [numK]
        rw [if_neg t2]
    · have N := num_no b d false n w2 hR (by right; right; right; omega)
      clear hR
      go_wp2_with fail
      refine N.mono ?_
      rintro e w3 ⟨rfl, hR3, hF3⟩
      have D := done_any b [] true w3 hR3
      have HB3 := Hid.mk' (HB2.out.trans (hF3.below (fun i q => by rw [q]; exact HG.out) HB2.out.size))
      clear hR3 hF3 N HB2 HG
      go_wp2_with fail
      refine D.mono ?_
      rintro e w4 ⟨rfl, rfl⟩
      go_wp2_with fail
      obtain rfl := HR.out
      refine bodyPost_ret (v := .tuple #[.int .i64 0, .bool false]) (by simp [results, Try.results40, go_sem]) rfl ⟨?_, HB3.out⟩
      simp only [numK]
      rw [if_neg (by omega)]

set_option maxHeartbeats 800000 in
theorem zoneOf_any (p : Option Addr) (c : Nat) (l : List Fd) (w : World) (hp : FIn w p l) (hl : l.length ≤ maxLen) (hf : szK (kys l) ≤ 140737488355328) (r : Int × Bool) (hr : numK 1 (getK 32 (kys l)) = r) :
    Calls Try.prog 25 #[.slice p l.length c] w fun e w' => e = .returned (.tuple #[.int .i64 r.1, .bool r.2]) ∧ Below w.heap.size w w' := by
  have N := numberOf_any p c l 32 1 w hp hl hf (by omega) (by omega) r hr
  clear hr
  go_enter Try.func25, Try.ntmps25
  go_wp2_with fail
  refine N.mono ?_
  rintro e w1 ⟨rfl, hb⟩
  go_wp2_with fail
  exact bodyPost_ret (v := .tuple #[.int .i64 r.1, .bool r.2]) (by simp [results, Try.results25, go_sem]) rfl ⟨rfl, hb⟩

set_option maxHeartbeats 800000 in
theorem loadOf_any (p : Option Addr) (c : Nat) (l : List Fd) (w : World) (hp : FIn w p l) (hl : l.length ≤ maxLen) (hf : szK (kys l) ≤ 140737488355328) (r : Int × Bool) (hr : numK 2 (getK 33 (kys l)) = r) :
    Calls Try.prog 26 #[.slice p l.length c] w fun e w' => e = .returned (.tuple #[.int .i64 r.1, .bool r.2]) ∧ Below w.heap.size w w' := by
  have N := numberOf_any p c l 33 2 w hp hl hf (by omega) (by omega) r hr
  clear hr
  go_enter Try.func26, Try.ntmps26
  go_wp2_with fail
  refine N.mono ?_
  rintro e w1 ⟨rfl, hb⟩
  go_wp2_with fail
  exact bodyPost_ret (v := .tuple #[.int .i64 r.1, .bool r.2]) (by simp [results, Try.results26, go_sem]) rfl ⟨rfl, hb⟩

set_option maxHeartbeats 1600000 in
theorem buildOf_any (p : Option Addr) (c : Nat) (l : List Fd) (w : World) (hp : FIn w p l) (hl : l.length ≤ maxLen) (hf : szK (kys l) ≤ 140737488355328) (r : List Int × Bool) (hr : bldK (getK 34 (kys l)) = r) :
    Calls Try.prog 27 #[.slice p l.length c] w fun e w' => (∃ s, e = .returned (.tuple #[.string s, .bool r.2]) ∧ Str s r.1) ∧ Below w.heap.size w w' := by
  have G := get_any p c l 34 w hp hl
  have HR := Hid.mk' hr
  clear hr
  obtain ⟨o, ho⟩ : ∃ o, getK 34 (kys l) = o := ⟨_, rfl⟩
  rw [ho] at G HR
  have HSZ := Hid.mk' (fun d hd => getK_sz 34 l d (ho.trans hd))
  clear ho
  go_enter Try.func27, Try.ntmps27
  go_wp2_with fail
  refine G.mono ?_
  intro e w1 hG
  clear G
  cases o with
  | none =>
    obtain ⟨rfl, hb⟩ := hG
    have HB := Hid.mk' hb
    have cv : (convert 30 9 (.slice none 0 0)).run Try.prog w1 = .ok (.string (strOfNums [])) w1 := BIn.convert (P := Try.prog) (BIn.empty w1 none) 0 30 5 9 Try.underlying30 Try.underlying5 Try.underlying9
    have I := isBuild_any (strOfNums []) [] w1 (Str.of [] isB.nil) (by simp [strOfNums_size, maxLen])
    rw [show isBd [] = false from rfl] at I
    clear hb
    go_wp2_with fail
    refine I.mono ?_
    rintro e w2 ⟨rfl, rfl⟩
    go_wp2_with fail
    obtain rfl := HR.out
    exact bodyPost_ret (v := .tuple #[.string ⟨#[]⟩, .bool false]) (by simp [results, Try.results27, go_sem]) rfl ⟨⟨_, rfl, Str.of [] isB.nil⟩, HB.out⟩
  | some d =>
    obtain ⟨g, rfl, hnew, hg, hisb, hb⟩ := hG
    have HB := Hid.mk' hb
    have cv := BIn.convert (P := Try.prog) (w := w1) (p := some ⟨g, 0, none⟩) (l := d) (BIn.of_block (rest := []) (by simpa [cellsB] using hnew)) d.length 30 5 9 Try.underlying30 Try.underlying5 Try.underlying9
    have hdl : d.length ≤ maxLen := by have := HSZ.out d rfl; unfold maxLen; omega
    have I := isBuild_any (strOfNums d) d w1 (Str.of d hisb) (by rw [strOfNums_size]; exact hdl)
    have HS := Hid.mk' (Str.of d hisb)
    generalize strOfNums d = s at cv I HS
    clear hb hnew hg hdl
    cases hi : isBd d
    · rw [hi] at I
      have HI := Hid.mk' hi
      clear hi
      go_wp2_with fail
      refine I.mono ?_
      rintro e w2 ⟨rfl, rfl⟩
      go_wp2_with fail
      obtain rfl := HR.out
      refine bodyPost_ret (v := .tuple #[.string ⟨#[]⟩, .bool false]) (by simp [results, Try.results27, go_sem]) rfl ⟨?_, HB.out⟩
      simp only [bldK]
      rw [HI.out]
      exact ⟨_, rfl, Str.of [] isB.nil⟩
    · rw [hi] at I
      have HI := Hid.mk' hi
      clear hi
      go_wp2_with fail
      refine I.mono ?_
      rintro e w2 ⟨rfl, rfl⟩
      go_wp2_with fail
      obtain rfl := HR.out
      refine bodyPost_ret (v := .tuple #[.string s, .bool true]) (by simp [results, Try.results27, go_sem]) rfl ⟨?_, HB.out⟩
      simp only [bldK]
      rw [HI.out]
      exact ⟨_, rfl, HS.out⟩
end Go.Proofs.Ytecdagmeobiahaa
