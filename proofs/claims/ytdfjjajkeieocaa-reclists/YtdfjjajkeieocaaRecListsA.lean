/-
  Proved: the statement on layer 8's lists (RecLists) returns true at every input, and leaves its arguments as they were. No condition.
-/
import Derived.Test.YtdfjjajkeieocaaRows
import Derived.Test.YtdfjjajkeieocaaLaw08
import Derived.Test.YtdfjjajkeieocaaRecX
import Derived.Test.YtdfjjajkeieocaaRecQ
import Derived.Test.YtdfjjajkeieocaaRecY
import Derived.ShutString
import Derived.ChangeOld
namespace Go.Proofs.Ytdfjjajkeieocaa.recLists
open Go.ChangeShapes Go.WideShapes Go.ChangeAt Go.RowKit
open Go.ChangeMaps (open_string shut_string)
set_option linter.unusedVariables false
set_option maxRecDepth 10000
set_option synthInstance.maxSize 2000
set_option linter.unusedSimpArgs false

theorem putL_mem {r : Rc} {l : List Rc} {x : Rc} (h : x ∈ putL r l) : x = r ∨ x ∈ l := by
  unfold putL at h
  split at h <;> simp only [List.mem_append, List.mem_cons] at h <;> rcases h with h | h | h
  · exact .inr (List.mem_of_mem_take h)
  · exact .inl h
  · exact .inr (List.mem_of_mem_drop h)
  · exact .inr (List.mem_of_mem_take h)
  · exact .inl h
  · exact .inr (List.mem_of_mem_drop h)

theorem putL_len (r : Rc) (l : List Rc) : (putL r l).length ≤ l.length + 1 := by
  have h1 := firstP_le (fun i => i == r.id) l
  have h2 := firstP_le (fun i => decide (r.id < i)) l
  unfold putL
  split <;> simp <;> omega

theorem rks_size {a b : List Rc} {n : Nat} (h : rks a = rks b) (hb : ∀ x ∈ b, szK (kys x.bag) ≤ n) : ∀ x ∈ a, szK (kys x.bag) ≤ n := fun x hx => by
  have h1 : rk x ∈ rks b := by rw [← h]; exact List.mem_map_of_mem hx
  obtain ⟨y, hy, e⟩ := List.mem_map.1 h1
  have e2 : kys y.bag = kys x.bag := congrArg RK.bag e
  rw [← e2]
  exact hb y hy

theorem may_id {r : RK} (h : mayR r = true) : -1 < r.id := by
  have : (coreOk r) = true := by simp only [mayR, Bool.and_eq_true] at h; exact h.1.1
  simp only [coreOk, Bool.and_eq_true, decide_eq_true_eq] at this
  omega

/-- A row of records that is owned. -/
def OwnL (W : World) (B : Nat) (a : Value) (A : List Rc) : Prop := OwnR 27 7 W B a A.length (A.flatMap Rc.cells)

/-- 'append(v, y)' of one record that was laid for it. -/
theorem wpList_addR {W : World} {ops : Array Oper} {rest : List Oper} {o : Oper} {ac : Act} {Q : Exit → Act → World → Prop} (hgd : o.guard = none) (s x : Operand)
    (ho : o.op = .call { callee := .builtin .append, args := #[s, x], argTypes := #[22, 22] })
    {B : Nat} {a : Value} {A : List Rc} (hs : ac.eval s = a) (h3 : OwnL W B a A) (hB : B ≤ W.heap.size) (y : Rc) (hx : ac.eval x = .slice (some ⟨W.heap.size, 0, none⟩) 1 1) (hl : A.length ≤ 1000)
    (h : ∀ a' w', OwnL w' B a' (A ++ [y]) → Below B W w' → wpList Try.prog ops Q rest (ac.put o.dst a') w') : wpList Try.prog ops Q (o :: rest) ac (W.alloc (.cells #[.int .i64 y.id, .int .i64 y.inc, .int .i64 y.st, .int .i64 y.lo, .int .i64 y.hi, .bool y.cut, .slice y.p y.bag.length y.cap] 27)) := by
  refine wpList_own1 hgd s x 22 ho 27 (.agg #[.int .i64 0, .int .i64 0, .int .i64 0, .int .i64 0, .int .i64 0, .bool false, .slice none 0 0]) 7 72 Try.underlying22 infoR rfl (by decide) B a A.length _ hs h3 hB #[.int .i64 y.id, .int .i64 y.inc, .int .i64 y.st, .int .i64 y.lo, .int .i64 y.hi, .bool y.cut, .slice y.p y.bag.length y.cap] 27 hx rfl (fun u hu => ?_) (by unfold maxLen; omega) (by omega) fun v' w' h1 h2 => h v' w' ?_ h2
  · refine flatR_one [y] u ?_
    simpa [Rc.cells] using hu
  · have e1 : (A ++ [y]).length = A.length + 1 := by simp
    have e2 : (A ++ [y]).flatMap Rc.cells = A.flatMap Rc.cells ++ [.int .i64 y.id, .int .i64 y.inc, .int .i64 y.st, .int .i64 y.lo, .int .i64 y.hi, .bool y.cut, .slice y.p y.bag.length y.cap] := by rw [flatR_append]; simp [Rc.cells]
    unfold OwnL
    rw [e1, e2]
    exact h1

/-- What is found, or nothing. -/
theorem find_use {w w' : World} {l : List Rc} {v : Int} {e : Ending} (h : FindPost w l v e w') : ∃ f : Rc, ∃ ok : Bool, e = .returned (.tuple #[.agg #[.int .i64 f.id, .int .i64 f.inc, .int .i64 f.st, .int .i64 f.lo, .int .i64 f.hi, .bool f.cut, .slice f.p f.bag.length f.cap], .bool ok]) ∧ ok = decide (firstP (fun i => i == v) l < l.length) ∧ rk f = (if firstP (fun i => i == v) l < l.length then rk (l.getD (firstP (fun i => i == v) l) zr) else rk zr) ∧ ROk w' f ∧ Below w.heap.size w w' := by
  obtain ⟨h1, h2⟩ := h
  by_cases t : firstP (fun i => i == v) l < l.length
  · rw [if_pos t] at h1
    obtain ⟨f, h3, h4, h5⟩ := h1
    exact ⟨f, true, h3, by simp [t], by rw [if_pos t]; exact h4, h5, h2⟩
  · rw [if_neg t] at h1
    exact ⟨zr, false, h1, by simp [t], by rw [if_neg t], zr_ok _, h2⟩

structure Both (P Q : Prop) : Prop where
  hp : P
  hq : Q
structure Held (P : Prop) : Prop where
  it : P

set_option maxHeartbeats 16000000 in
set_option maxRecDepth 10000 in
def part1 (p0 : Option Addr) (c0 : Nat) (l : List Rc) (r : Rc) (v : Int) (w : World) : PSigma fun P : Prop => PSigma fun Q : Prop => (Both P Q → (hlc0 : l.length ≤ c0) → (hcm0 : c0 ≤ maxLen) → (hp0 : p0 = none → c0 = 0) → (hin0 : RIn w p0 l) → (hr : ROk w r) → (hv : (Lit.int .i64 v).wf = true) → Calls Try.prog 3 #[.slice p0 l.length c0, .agg #[.int .i64 r.id, .int .i64 r.inc, .int .i64 r.st, .int .i64 r.lo, .int .i64 r.hi, .bool r.cut, .slice r.p r.bag.length r.cap], .int .i64 v] w fun e w' => e = .returned (.bool true) ∧ Below w.heap.size w w') := by
  refine' ⟨_, _, fun hPQ hlc0 hcm0 hp0 hin0 hr hv => ?_⟩
  case refine'_3 =>
  have n0 := Nat.le_trans hlc0 hcm0
  have AW := fun X => awake8_any X
  have HI := Hid.mk' (InB.start w r)
  have F1 := lfew_any p0 c0 l _ (hin0.below HI.out.below) n0
  have HI1 := Hid.mk' (HI.out.on ((Below.refl _ _).alloc (Nat.le_refl _) (.cells #[.int .i64 r.id, .int .i64 r.inc, .int .i64 r.st, .int .i64 r.lo, .int .i64 r.hi, .bool r.cut, .slice r.p r.bag.length r.cap] 27)))
  have F2 := lfew_any (some ⟨w.heap.size + 1, 0, none⟩) 1 [r] ((w.alloc (.cells #[.int .i64 r.id, .int .i64 r.inc, .int .i64 r.st, .int .i64 r.lo, .int .i64 r.hi, .bool r.cut, .slice r.p r.bag.length r.cap] 27)).alloc (.cells #[.int .i64 r.id, .int .i64 r.inc, .int .i64 r.st, .int .i64 r.lo, .int .i64 r.hi, .bool r.cut, .slice r.p r.bag.length r.cap] 27)) (by
    have hrow := heap_alloc_new (w.alloc (.cells #[.int .i64 r.id, .int .i64 r.inc, .int .i64 r.st, .int .i64 r.lo, .int .i64 r.hi, .bool r.cut, .slice r.p r.bag.length r.cap] 27)) (.cells #[.int .i64 r.id, .int .i64 r.inc, .int .i64 r.st, .int .i64 r.lo, .int .i64 r.hi, .bool r.cut, .slice r.p r.bag.length r.cap] 27)
    rw [show (w.alloc (.cells #[.int .i64 r.id, .int .i64 r.inc, .int .i64 r.st, .int .i64 r.lo, .int .i64 r.hi, .bool r.cut, .slice r.p r.bag.length r.cap] 27)).heap.size = w.heap.size + 1 by simp] at hrow
    exact RIn.one hrow (hr.below HI1.out.below)) (by simp [maxLen])
  obtain ⟨f1, hf1⟩ : ∃ f, fewR (rks l) = f := ⟨_, rfl⟩
  obtain ⟨f2, hf2⟩ : ∃ f, fewR (rks [r]) = f := ⟨_, rfl⟩
  rw [hf1] at F1
  rw [hf2] at F2
  have HF1 := Hid.mk' hf1
  have HF2 := Hid.mk' hf2
  clear hf1 hf2 hv
  go_enter Try.func3, Try.ntmps3
  go_wp2_with fail
  refine F1.mono ?_
  rintro e x1 ⟨rfl, rfl⟩
  clear F1
  cases f1
  · go_wp2_with fail
    refine (AW _).mono ?_
    rintro e x2 ⟨rfl, hb2⟩
    have HB2 := Hid.mk' (HI.out.on hb2).below
    clear hb2
    go_wp2_with fail
    go_ret
    exact ⟨rfl, HB2.out⟩
  go_wp2_with fail
  refine F2.mono ?_
  rintro e x1 ⟨rfl, rfl⟩
  clear F2 HI
  cases f2
  · go_wp2_with fail
    refine (AW _).mono ?_
    rintro e x2 ⟨rfl, hb2⟩
    have HB2 := Hid.mk' (HI1.out.on hb2).below
    clear hb2
    go_wp2_with fail
    go_ret
    exact ⟨rfl, HB2.out⟩
  obtain ⟨hl20, hfl⟩ := fewR_yes HF1.out
  have HFL := Hid.mk' hfl
  have HFR := Hid.mk' ((fewR_yes HF2.out).2 r (by simp))
  have HIN := Hid.mk' hin0
  have HOK := Hid.mk' hr
  have HN0 := Hid.mk' n0
  have HLC := Hid.mk' hlc0
  have HCM := Hid.mk' hcm0
  clear hfl HF1 HF2 hin0 hr n0 hlc0 hcm0
  have HX1 := Hid.mk' HI1.out
  go_wp2_with fail
  go_loopw [7, 8, 9, 10, 11] (fun s a sm ab i W => ∃ k : Nat, ∃ sv : Bool, ∃ ra rs ru : Int, k ≤ l.length ∧ i = .int .i64 k ∧ s = .bool sv ∧ a = .int .i64 ra ∧ sm = .int .i64 rs ∧ ab = .int .i64 ru ∧ Hid (sortR (-1) (rks l) = (sv && sortR (prevI l k) (rks (l.drop k)))) ∧ Hid (FstR (fun i => i == v) l k ra) ∧ Hid (FstR (fun i => i == r.id) l k rs) ∧ Hid (FstR (fun i => decide (r.id < i)) l k ru) ∧ Hid (InB w r W)) (fun _ _ _ _ i _ => l.length - (intOf i).toNat)
  case atStart => exact ⟨0, true, -1, -1, -1, by omega, rfl, rfl, rfl, rfl, rfl, Hid.mk' (by simp [prevI]), FstR.start _ _, FstR.start _ _, FstR.start _ _, HX1⟩
  case round =>
    obtain ⟨k, sv, ra, rs, ru, hk, rfl, rfl, rfl, rfl, rfl, HS, HA, HSM, HAB, HX⟩ := hrel
    clear AW HI1 HX1
    rename_i Q' K hK
    by_cases t : k < l.length
    · clear hK
      revert t; revert HX; revert HAB; revert HSM; revert HA; revert HS; revert hk; revert ru; revert rs; revert ra; revert sv; revert k; revert u94; revert u93; revert u92; revert u91; revert u90; revert u89; revert u88; revert u87; revert u86; revert u85; revert u84; revert u83; revert u82; revert u81; revert u80; revert u79; revert u78; revert u77; revert u76; revert u75; revert u74; revert u73; revert u72; revert u71; revert u70; revert u69; revert u68; revert u67; revert u66; revert u65; revert u64; revert u63; revert u62; revert u61; revert u60; revert u59; revert u58; revert u57; revert u56; revert u55; revert u54; revert u53; revert u52; revert u51; revert u50; revert u49; revert u48; revert u47; revert u46; revert u45; revert u44; revert u43; revert u42; revert u41; revert u40; revert u39; revert u38; revert u37; revert u36; revert u35; revert u34; revert u33; revert u32; revert u31; revert u30; revert u29; revert u28; revert u27; revert wr; revert K; revert HCM; revert HLC; revert HN0; revert HOK; revert HIN; revert HFR; revert HFL; revert hl20; revert Q'; revert hp0
      exact hPQ.hp
    · revert t; revert HX; revert HAB; revert HSM; revert HA; revert HS; revert hk; revert ru; revert rs; revert ra; revert sv; revert k; revert u94; revert u93; revert u92; revert u91; revert u90; revert u89; revert u88; revert u87; revert u86; revert u85; revert u84; revert u83; revert u82; revert u81; revert u80; revert u79; revert u78; revert u77; revert u76; revert u75; revert u74; revert u73; revert u72; revert u71; revert u70; revert u69; revert u68; revert u67; revert u66; revert u65; revert u64; revert u63; revert u62; revert u61; revert u60; revert u59; revert u58; revert u57; revert u56; revert u55; revert u54; revert u53; revert u52; revert u51; revert u50; revert u49; revert u48; revert u47; revert u46; revert u45; revert u44; revert u43; revert u42; revert u41; revert u40; revert u39; revert u38; revert u37; revert u36; revert u35; revert u34; revert u33; revert u32; revert u31; revert u30; revert u29; revert u28; revert u27; revert wr; revert hK; revert K; revert HCM; revert HLC; revert HN0; revert HOK; revert HIN; revert HFR; revert HFL; revert hl20; revert Q'; revert hp0
      exact hPQ.hq
end Go.Proofs.Ytdfjjajkeieocaa.recLists
