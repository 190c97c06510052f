/-
  Package gen1: records, Decode; what is wanted of the program's functions.
-/
import Derived.Test.YtmfkdohfejklhaaDoorGen1D
import Derived.Test.YtmfkdohfejklhaaDoorGen1P
namespace Go.Proofs.YtmfkdohfejklhaaDoor
open Go.RowKit
set_option linter.unusedSimpArgs false
set_option linter.unusedVariables false
set_option maxRecDepth 10000
set_option synthInstance.maxSize 2000

/-- The states of the reader ahead of each record. -/
def rcK : Nat → St → St
  | 0, s => s
  | k + 1, s => rcS (rcK k s)
theorem rcK_stB {s : St} (h : stB s) : ∀ k, stB (rcK k s)
  | 0 => h
  | k + 1 => ((rcK_stB h k).nS 2 |>.nS 2).nS 1

/-- Behind k records: what is still to come. -/
theorem rcsF_step (n k : Nat) (t : St) (h : k < n) : rcsF (n - k) t = if okR t = true then ((rcsF (n - (k + 1)) (rcS t)).1.map (rcOf t :: ·), (rcsF (n - (k + 1)) (rcS t)).2) else (none, rcS t) := by
  rw [show n - k = (n - (k + 1)) + 1 by omega, rcsF]

/-- What 'records' answers. -/
def RecsPost (B b : Nat) (s : St) (w : World) (e : Ending) (w' : World) : Prop :=
  ∃ n : Nat, nV 1 s = n ∧ ∃ p c l ok, e = .returned (.tuple #[.slice p (List.length l) c, .bool ok]) ∧ RS B w' b (rcsF n (nS 1 s)).2 ∧ Fr (fun i => i = b) w w' ∧ OwnR 43 7 w' w.heap.size (.slice p l.length c) l.length (l.flatMap Rc.cells) ∧ (∀ x ∈ l, RNb x) ∧
    ((ok = true ∧ (rcsF n (nS 1 s)).1 = some l) ∨ (ok = false ∧ (rcsF n (nS 1 s)).1 = none ∧ l = []))

set_option maxHeartbeats 8000000 in
theorem records_any (B b : Nat) (s : St) (w : World) (h : RS B w b s) :
    Calls Tryd.prog 27 #[.func (.func 25) #[.pointer (some ⟨b, 0, none⟩)] #[]] w fun e w' => RecsPost B b s w e w' := by
  have hs := h.stB
  have hc := nV1 hs
  obtain ⟨n, hn⟩ : ∃ n : Nat, nV 1 s = n := ⟨(nV 1 s).toNat, by omega⟩
  have hn255 : n ≤ 255 := by omega
  have HNO := Hid.mk' (show ∀ w', RS B w' b (rcsF n (nS 1 s)).2 → Fr (fun i => i = b) w w' → (rcsF n (nS 1 s)).1 = none → RecsPost B b s w (.returned (.tuple #[.slice none 0 0, .bool false])) w' from
    fun w' h1 h2 h3 => ⟨n, hn, none, 0, [], false, rfl, h1, h2, OwnR.nil _ _ _ _, by simp, .inr ⟨rfl, h3, rfl⟩⟩)
  have HYES := Hid.mk' (show ∀ v l w', RS B w' b (rcsF n (nS 1 s)).2 → Fr (fun i => i = b) w w' → (rcsF n (nS 1 s)).1 = some l → OwnR 43 7 w' w.heap.size v l.length (l.flatMap Rc.cells) → (∀ x ∈ l, RNb x) → RecsPost B b s w (.returned (.tuple #[v, .bool true])) w' from
    fun v l w' h1 h2 h3 h4 h5 => by
      obtain ⟨p, c, rfl, q1, q2, q3, q4⟩ := own_rin h4 (fun x hx => (h5 x hx).ok w')
      exact ⟨n, hn, p, c, l, true, rfl, h1, h2, h4, h5, .inl ⟨rfl, h3⟩⟩)
  have N1 := gnum_any B b 1 s w h (by omega) (by omega)
  rw [hn] at N1
  have HBL := Hid.mk' (show b < B ∧ B ≤ w.heap.size from ⟨h.lt, h.le⟩)
  have HSB := Hid.mk' (hs.nS 1)
  generalize RecsPost B b s w = Post at HNO HYES ⊢
  generalize nS 1 s = s1 at HNO HYES N1 HSB
  clear h hs hc hn
  go_enter Tryd.func27, Tryd.ntmps27
  go_wp2_with fail
  refine N1.mono ?_
  rintro e w1 ⟨rfl, hr1, hf1⟩
  have HR1 := Hid.mk' hr1
  have HF1 := Hid.mk' hf1
  clear hr1 hf1 N1
  go_wp2_with fail
  go_loopw [4, 9] (fun v i W => ∃ (k : Nat) (rs : List Rc), k ≤ n ∧ i = .int .i64 k ∧ Hid (RS B W b (rcK k s1)) ∧ Hid (Fr (fun i => i = b) w W) ∧ Hid (OwnR 43 7 W w.heap.size v rs.length (rs.flatMap Rc.cells)) ∧ Hid (∀ x ∈ rs, RNb x) ∧ rs.length = k ∧
    Hid (rcsF n s1 = ((rcsF (n - k) (rcK k s1)).1.map (rs ++ ·), (rcsF (n - k) (rcK k s1)).2))) (fun _ i _ => n - (intOf i).toNat)
  case atStart => exact ⟨0, [], by omega, rfl, HR1, HF1, Hid.mk' (OwnR.nil _ _ _ _), Hid.mk' (by simp), rfl, Hid.mk' (by simp [rcK])⟩
  case round =>
    obtain ⟨k, rs, hk, rfl, HR, HF, HO, HNb, hrl, HEQ⟩ := hrel
    clear HR1 HF1
    by_cases t : k < n
    · have HST := Hid.mk' (rcsF_step n k (rcK k s1) t)
      have RC := record_any B b (rcK k s1) wr HR.out
      have HY := Hid.mk' (rcOf_nb (rcK_stB HSB.out k))
      have HRL := Hid.mk' hrl
      have HSN := Hid.mk' (show rcS (rcK k s1) = rcK (k + 1) s1 from rfl)
      rw [HSN.out] at HST RC
      obtain ⟨y, hy⟩ : ∃ y, rcOf (rcK k s1) = y := ⟨_, rfl⟩
      obtain ⟨o, ho⟩ : ∃ o, okR (rcK k s1) = o := ⟨_, rfl⟩
      rw [hy, ho] at RC HST
      rw [hy] at HY
      clear hy ho hrl
      go_wp2_with fail
      refine RC.mono ?_
      clear RC
      rintro e w2 ⟨rfl, hr2, hf2⟩
      have HR2 := Hid.mk' hr2
      have HF2 := Hid.mk' (fr_on HF.out hf2)
      have HO2 := Hid.mk' (HO.out.fr hf2 (fun g hg => by have := HO.out.above g hg; have := HBL.out; omega))
      clear hr2 hf2 HR HF HO
      cases o
      · have HV := Hid.mk' (show (rcsF n s1).1 = none ∧ (rcsF n s1).2 = rcK (k + 1) s1 by rw [HEQ.out, HST.out, if_neg (by simp)]; exact ⟨rfl, rfl⟩)
        have hal := (Below.refl w2.heap.size w2).alloc (Nat.le_refl _) (.cells #[.int .i64 y.id, .int .i64 y.inc, .int .i64 y.st, .int .i64 y.lo, .int .i64 y.hi, .bool y.cut, .slice none 0 0] 43)
        have HR3 := Hid.mk' (HR2.out.on hal)
        have HF3 := Hid.mk' (fr_bel HF2.out hal)
        rw [← HV.out.2] at HR3
        clear hal
        go_wp2_with fail
        try rw [Exit.noGoto_ret]
        exact HNO.out _ HR3.out HF3.out HV.out.1
      · have HV := Hid.mk' (show rcsF n s1 = ((rcsF (n - (k + 1)) (rcK (k + 1) s1)).1.map ((rs ++ [y]) ++ ·), (rcsF (n - (k + 1)) (rcK (k + 1) s1)).2) by
          rw [HEQ.out, HST.out, if_pos rfl]
          simp only [Option.map_map]
          congr 2
          funext z
          simp)
        have hal := (Below.refl w2.heap.size w2).alloc (Nat.le_refl _) (.cells #[.int .i64 y.id, .int .i64 y.inc, .int .i64 y.st, .int .i64 y.lo, .int .i64 y.hi, .bool y.cut, .slice none 0 0] 43)
        have HR3 := Hid.mk' (HR2.out.on hal)
        have HF3 := Hid.mk' (fr_bel HF2.out hal)
        have HO3 := Hid.mk' (HO2.out.below hal)
        have hal2 := (Below.refl (w2.alloc (.cells #[.int .i64 y.id, .int .i64 y.inc, .int .i64 y.st, .int .i64 y.lo, .int .i64 y.hi, .bool y.cut, .slice none 0 0] 43)).heap.size (w2.alloc (.cells #[.int .i64 y.id, .int .i64 y.inc, .int .i64 y.st, .int .i64 y.lo, .int .i64 y.hi, .bool y.cut, .slice none 0 0] 43))).alloc (Nat.le_refl _) (.cells #[.int .i64 y.id, .int .i64 y.inc, .int .i64 y.st, .int .i64 y.lo, .int .i64 y.hi, .bool y.cut, .slice none 0 0] 43)
        have HR3 := Hid.mk' (HR3.out.on hal2)
        have HF3 := Hid.mk' (fr_bel HF3.out hal2)
        have HO3 := Hid.mk' (HO3.out.below hal2)
        have hgW := heap_alloc_new (w2.alloc (.cells #[.int .i64 y.id, .int .i64 y.inc, .int .i64 y.st, .int .i64 y.lo, .int .i64 y.hi, .bool y.cut, .slice none 0 0] 43)) (.cells #[.int .i64 y.id, .int .i64 y.inc, .int .i64 y.st, .int .i64 y.lo, .int .i64 y.hi, .bool y.cut, .slice none 0 0] 43)
        rw [show (w2.alloc (.cells #[.int .i64 y.id, .int .i64 y.inc, .int .i64 y.st, .int .i64 y.lo, .int .i64 y.hi, .bool y.cut, .slice none 0 0] 43)).heap.size = w2.heap.size + 1 by simp] at hgW
        have HNW := Hid.mk' (show 0 < 1 → ∃ a, (some ⟨w2.heap.size + 1, 0, none⟩ : Option Addr) = some a ∧ ∀ (j : Nat) (u : Value), [Value.int .i64 y.id, .int .i64 y.inc, .int .i64 y.st, .int .i64 y.lo, .int .i64 y.hi, .bool y.cut, .slice none 0 0][j]? = some u → ((w2.alloc (.cells #[.int .i64 y.id, .int .i64 y.inc, .int .i64 y.st, .int .i64 y.lo, .int .i64 y.hi, .bool y.cut, .slice none 0 0] 43)).alloc (.cells #[.int .i64 y.id, .int .i64 y.inc, .int .i64 y.st, .int .i64 y.lo, .int .i64 y.hi, .bool y.cut, .slice none 0 0] 43)).cell? (a.add j) = some u from fun _ => ⟨_, rfl, fun j u hj => by
          rw [Go.WideShapes.add_plain]
          generalize (w2.alloc (.cells #[.int .i64 y.id, .int .i64 y.inc, .int .i64 y.st, .int .i64 y.lo, .int .i64 y.hi, .bool y.cut, .slice none 0 0] 43)).alloc (.cells #[.int .i64 y.id, .int .i64 y.inc, .int .i64 y.st, .int .i64 y.lo, .int .i64 y.hi, .bool y.cut, .slice none 0 0] 43) = X at hgW ⊢
          simp only [World.cell?, hgW, Nat.zero_add]
          simpa using hj⟩)
        clear hal hal2 HR2 HF2 HO2 hgW
        have hlt := HRL.out
        go_wp2_with (refine wpList_own rfl (.tmp 18) (.tmp 20) 24 rfl 43 (.agg #[.int .i64 0, .int .i64 0, .int .i64 0, .int .i64 0, .int .i64 0, .bool false, .slice none 0 0]) 7 72 Tryd.underlying24 infoR rfl (by decide) w.heap.size _ rs.length (rs.flatMap Rc.cells) rfl HO3.out HF3.out.size (some ⟨w2.heap.size + 1, 0, none⟩) 1 1 [Value.int .i64 y.id, .int .i64 y.inc, .int .i64 y.st, .int .i64 y.lo, .int .i64 y.hi, .bool y.cut, .slice none 0 0] rfl (by simp) rfl HNW.out (by simp [Value.oneCell']) (by unfold maxLen; omega) (by omega) ?_)
        intro v4 w4 hO4 hb4
        have HO4 := Hid.mk' (show OwnR 43 7 w4 w.heap.size v4 (rs ++ [y]).length ((rs ++ [y]).flatMap Rc.cells) by
          rw [List.length_append, flatR_append]
          have e : [y].flatMap Rc.cells = [Value.int .i64 y.id, .int .i64 y.inc, .int .i64 y.st, .int .i64 y.lo, .int .i64 y.hi, .bool y.cut, .slice none 0 0] := by
            simp [Rc.cells, HY.out.p, HY.out.bag, HY.out.cap]
          rw [e, HRL.out]
          exact hO4)
        have HR4 := Hid.mk' (HR3.out.low (hb4.mono HBL.out.2))
        have HF4 := Hid.mk' (fr_bel0 HF3.out hb4)
        clear hO4 hb4 HR3 HF3 HO3
        have HNb2 := Hid.mk' (show ∀ x ∈ rs ++ [y], RNb x from fun x hx => by
          rcases List.mem_append.1 hx with q | q
          · exact HNb.out x q
          · obtain rfl := List.mem_singleton.1 q
            exact HY.out)
        go_wp2
        go_roundw
        case rel => exact ⟨k + 1, rs ++ [y], by omega, by go_num, HR4, HF4, HO4, HNb2, by simp [HRL.out], HV⟩
        case measure => simp [intOf]; omega
    · obtain rfl : k = n := by omega
      have HV := Hid.mk' (show (rcsF k s1).1 = some rs ∧ (rcsF k s1).2 = rcK k s1 by rw [HEQ.out]; simp [rcsF])
      rw [← HV.out.2] at HR
      go_wp2_with fail
      exact HYES.out _ rs _ HR.out HF.out HV.out.1 HO.out HNb.out

theorem gdone_any (B b : Nat) (t : St) (w : World) (h : RS B w b t) :
    Calls Tryd.prog 28 #[.pointer (some ⟨b, 0, none⟩)] w fun e w' => e = .returned (.bool (decide (t = some []))) ∧ w = w' := by
  cases t with
  | none =>
    refine (done_any b [] true w (h.bad rfl)).mono ?_
    rintro e w' ⟨rfl, rfl⟩
    exact ⟨rfl, rfl⟩
  | some l =>
    refine (done_any b l false w (h.good l rfl)).mono ?_
    rintro e w' ⟨rfl, rfl⟩
    refine ⟨?_, rfl⟩
    cases l with
    | nil => rfl
    | cons x t => simp; omega

theorem hdM_wf {s : St} (h : stB s) : (Lit.int .i64 (hdM s).kind).wf = true ∧ (Lit.int .i64 (hdM s).frm).wf = true ∧ (Lit.int .i64 (hdM s).inc).wf = true ∧ (Lit.int .i64 (hdM s).lo).wf = true ∧ (Lit.int .i64 (hdM s).hi).wf = true ∧ (Lit.int .i64 (hdM s).seq).wf = true ∧ (Lit.int .i64 (hdM s).tgt).wf = true := by
  have s1 : stB (hd1 s) := h.nS 1
  have s2 : stB (hd2 s) := s1.nS 2
  have s3 : stB (hd3 s) := s2.nS 6
  have s4 : stB (hd4 s) := s3.nS 1
  have s5 : stB (hd5 s) := s4.nS 2
  have a0 := nV1 h
  have a1 := nV2 s1
  have a2 := nV6 s2
  have a3 := nV1 s3
  have a4 := nV2 s4
  have a5 := nV2 s5
  have hsp : (0 ≤ (spO (nV 1 (hd3 s))).1 ∧ (spO (nV 1 (hd3 s))).1 ≤ 255) ∧ (0 ≤ (spO (nV 1 (hd3 s))).2 ∧ (spO (nV 1 (hd3 s))).2 ≤ 255) := by
    unfold spO ofLo ofHi
    rw [Int.tdiv_eq_ediv_of_nonneg (by omega), Int.tmod_eq_emod_of_nonneg (by omega)]
    split
    · constructor <;> constructor <;> simp only [] <;> omega
    · simp
  exact ⟨small_wf a0.1 (show nV 1 s ≤ _ by omega), small_wf a1.1 (show nV 2 (hd1 s) ≤ _ by omega), small_wf a2.1 (show nV 6 (hd2 s) ≤ _ by omega), small_wf hsp.1.1 (show (spO (nV 1 (hd3 s))).1 ≤ _ by omega), small_wf hsp.2.1 (show (spO (nV 1 (hd3 s))).2 ≤ _ by omega), small_wf a4.1 (show nV 2 (hd4 s) ≤ _ by omega), small_wf a5.1 (show nV 2 (hd5 s) ≤ _ by omega)⟩

theorem mok_new {M : Mg} {X : World} {B : Nat} {p : Option Addr} {c : Nat} {rs : List Rc} (h : (Lit.int .i64 M.kind).wf = true ∧ (Lit.int .i64 M.frm).wf = true ∧ (Lit.int .i64 M.inc).wf = true ∧ (Lit.int .i64 M.lo).wf = true ∧ (Lit.int .i64 M.hi).wf = true ∧ (Lit.int .i64 M.seq).wf = true ∧ (Lit.int .i64 M.tgt).wf = true)
    (own : OwnR 43 7 X B (.slice p rs.length c) rs.length (rs.flatMap Rc.cells)) (nb : ∀ x ∈ rs, RNb x) : MOk X (withR M p c rs) := by
  obtain ⟨p2, c2, e2, hrin, hp0, hlc2, hcm2⟩ := own_rin own (fun f hf => (nb f hf).ok X)
  simp only [Value.slice.injEq, true_and] at e2
  obtain ⟨rfl, rfl⟩ := e2
  obtain ⟨h0, h1, h2, h3, h4, h5, h6⟩ := h
  have z : (Lit.int .i64 0).wf = true := by decide
  exact ⟨h0, h1, h2, h3, h4, h5, h6, z, z, z, hlc2, hcm2, hp0, hrin⟩

set_option maxHeartbeats 8000000 in
theorem gdecode_any (p : Option Addr) (c : Nat) (l : List Int) (w : World) (hB : BIn w p l) (hb : isB l) (hl : l.length ≤ 100000) (hK : Kd w) :
    Calls Tryd.prog 14 #[.slice p l.length c] w fun e w' => DecPost l w e w' := by
  have hsb : stB (some l) := fun l' e => by cases e; exact hb
  have HWF := Hid.mk' (hdM_wf hsb)
  have HDY := Hid.mk' (fun (p : Option Addr) (c : Nat) (rs : List Rc) (n : Nat) (hn : nV 1 (hd6 (some l)) = n) (h : rcsF n (nS 1 (hd6 (some l))) = (some rs, some [])) (hf : fit1 (withR (hdM (some l)) p c rs) = true) => dec_yes hb hn h hf)
  have HDN := Hid.mk' (fun (n : Nat) (hn : nV 1 (hd6 (some l)) = n) (h : ∀ rs, rcsF n (nS 1 (hd6 (some l))) = (some rs, some []) → ∀ p c, fit1 (withR (hdM (some l)) p c rs) = false) => dec_no hb hn h)
  have HNO := Hid.mk' (show ∀ w', Below w.heap.size w w' → (∀ x, ¬ Read1 l x) → DecPost l w (.returned (.tuple #[.agg #[.int .i64 zm.kind, .int .i64 zm.frm, .int .i64 zm.inc, .int .i64 zm.lo, .int .i64 zm.hi, .int .i64 zm.seq, .int .i64 zm.tgt, .int .i64 zm.life, .int .i64 zm.epoch, .int .i64 zm.base, .slice zm.p zm.recs.length zm.cap], .int .i64 4])) w' from fun w' h1 h2 => ⟨zm, 4, rfl, zm_ok _, by simp [zm], h1, .inr ⟨rfl, rfl, h2⟩⟩)
  have HYES := Hid.mk' (show ∀ M p c rs w', MOk w' (withR M p c rs) → (∀ x ∈ rs, RNb x) → Below w.heap.size w w' → Read1 l (mv (withR M p c rs)) → DecPost l w (.returned (.tuple #[.agg #[.int .i64 M.kind, .int .i64 M.frm, .int .i64 M.inc, .int .i64 M.lo, .int .i64 M.hi, .int .i64 M.seq, .int .i64 M.tgt, .int .i64 0, .int .i64 0, .int .i64 0, .slice p rs.length c], .int .i64 0])) w' from fun M p c rs w' h1 h2 h3 h4 => ⟨withR M p c rs, 0, rfl, h1, fun x hx => (h2 x hx).bag, h3, .inl ⟨rfl, h4⟩⟩)
  simp only [zm, List.length_nil] at HNO
  generalize DecPost l w = Post at HNO HYES ⊢
  have B1 := (Below.refl w.heap.size w).alloc (Nat.le_refl _) (.cells #[.int .i64 0, .int .i64 0, .int .i64 0, .int .i64 0, .int .i64 0, .int .i64 0, .int .i64 0, .int .i64 0, .int .i64 0, .int .i64 0, .slice none 0 0] 26)
  have HG0 := Hid.mk' (heap_alloc_new w (.cells #[.int .i64 0, .int .i64 0, .int .i64 0, .int .i64 0, .int .i64 0, .int .i64 0, .int .i64 0, .int .i64 0, .int .i64 0, .int .i64 0, .slice none 0 0] 26))
  have R0 := read_at p c l _ (hB.below B1) hb (by omega)
  have HB1 := Hid.mk' B1
  have HK := Hid.mk' hK
  clear hB hb hK B1 hsb
  go_enter Tryd.func14, Tryd.ntmps14
  go_wp2_with fail
  refine R0.mono ?_
  clear R0
  rintro e w1 ⟨b, rfl, hb1, hb2, hrd, hbel⟩
  have HG1 := Hid.mk' (box_bel HG0.out hbel)
  have HBL := Hid.mk' (HB1.out.trans (hbel.mono HB1.out.size))
  have HR1 := Hid.mk' (show RS w1.heap.size w1 b (some l) from ⟨hb2, Nat.le_refl _, fun l' e => (by cases e; exact hrd.mono fun i q => q.2), fun e => (by cases e)⟩)
  have HNb := Hid.mk' (show w.heap.size ≤ b ∧ w.heap.size ≠ b by have h : w.heap.size < b := Nat.lt_of_lt_of_le (by simp) hb1; omega)
  clear hb1 hb2 hrd hbel HG0 HB1
  go_wp2_with fail
  refine (head_any _ b (some l) w1 HR1.out).mono ?_
  rintro e w2 ⟨rfl, hr2, hf2⟩
  have HG2 := Hid.mk' (box_on HG1.out hf2 HNb.out.2)
  have HF2 := Hid.mk' hf2
  have HR2 := Hid.mk' hr2
  clear hr2 hf2 HG1 HR1
  obtain ⟨M, hM⟩ : ∃ M, hdM (some l) = M := ⟨_, rfl⟩
  rw [hM] at HWF HDY HDN ⊢
  clear hM
  have hba := (Below.refl w2.heap.size w2).alloc (Nat.le_refl _) (.cells #[.int .i64 M.kind, .int .i64 M.frm, .int .i64 M.inc, .int .i64 M.lo, .int .i64 M.hi, .int .i64 M.seq, .int .i64 M.tgt, .int .i64 0, .int .i64 0, .int .i64 0, .slice none 0 0] 26)
  have HN2 := Hid.mk' (show w2.heap.size ≠ b by have := HR2.out.lt; have := HR2.out.le; omega)
  have HNN := Hid.mk' (show w.heap.size < w2.heap.size ∧ w1.heap.size ≤ w2.heap.size from ⟨box_lt HG2.out, HR2.out.le⟩)
  have HR3 := Hid.mk' (HR2.out.on hba)
  have HF3 := Hid.mk' (fr_bel HF2.out hba)
  have HG3 := Hid.mk' (box_bel HG2.out hba)
  have HB3 := Hid.mk' (heap_alloc_new w2 (.cells #[.int .i64 M.kind, .int .i64 M.frm, .int .i64 M.inc, .int .i64 M.lo, .int .i64 M.hi, .int .i64 M.seq, .int .i64 M.tgt, .int .i64 0, .int .i64 0, .int .i64 0, .slice none 0 0] 26))
  clear hba HG2 HF2 HR2
  go_wp2_with fail
  refine (records_any _ b (hd6 (some l)) _ HR3.out).mono ?_
  rintro e w4 ⟨n, hn, pr, cr, rs, ok, rfl, hr4, hf4, hown, hnb, hres⟩
  have HG4 := Hid.mk' (box_on HG3.out hf4 HNb.out.2)
  have HB4 := Hid.mk' (box_on HB3.out hf4 HN2.out)
  have HF4 := Hid.mk' (fr_on HF3.out hf4)
  have HR4 := Hid.mk' hr4
  have HO4 := Hid.mk' (show OwnR 43 7 w4 (w2.heap.size + 1) (.slice pr rs.length cr) rs.length (rs.flatMap Rc.cells) by simpa using hown)
  have HNB := Hid.mk' hnb
  have HRES := Hid.mk' hres
  have HND := Hid.mk' hn
  clear hr4 hf4 HG3 HF3 HR3 HB3 hown hnb hres hn
  generalize hg : w2.heap.size = g at HN2 HNN HB4 HO4 ⊢
  clear hg
  have hb5 : (w4.setCell ⟨g, 10, none⟩ (.slice pr rs.length cr)).heap[g]? = some (.cells #[.int .i64 M.kind, .int .i64 M.frm, .int .i64 M.inc, .int .i64 M.lo, .int .i64 M.hi, .int .i64 M.seq, .int .i64 M.tgt, .int .i64 0, .int .i64 0, .int .i64 0, .slice pr rs.length cr] 26 (0, 0)) := by simp [World.setCell, Array.getElem?_modify, HB4.out]
  have hl5 : Below g w4 (w4.setCell ⟨g, 10, none⟩ (.slice pr rs.length cr)) := (Below.refl g w4).setCell (p := ⟨g, 10, none⟩) (Nat.le_refl _) _
  have HB5 := Hid.mk' hb5
  have HG5 := Hid.mk' ((hl5.block w.heap.size HNN.out.1).trans HG4.out)
  have HBW5 := Hid.mk' ((HBL.out.trans (HF4.out.below (fun i q => by have := HNb.out.1; omega) HBL.out.size)).trans (hl5.mono (Nat.le_of_lt HNN.out.1)))
  have HR5 := Hid.mk' (HR4.out.low (hl5.mono HNN.out.2))
  have HO5 := Hid.mk' (HO4.out.fr ((Fr.refl (fun i => i = g) w4).setCell (p := ⟨g, 10, none⟩) (.inl rfl) (.slice pr rs.length cr)) (fun g' hg' q => by have := HO4.out.above g' hg'; omega))
  have HM5 := Hid.mk' (mok_new HWF.out HO5.out HNB.out)
  have fz10 : w4.frozen? ⟨g, 10, none⟩ = false := by simp [World.frozen?, HB4.out]
  have d10 := (mbox_cells (m := ⟨M.kind, M.frm, M.inc, M.lo, M.hi, M.seq, M.tgt, 0, 0, 0, none, 0, []⟩) HB4.out).2.2.2.2.2.2.2.2.2.2
  dsimp only [List.length_nil] at d10
  clear hb5 hl5 HG4 HF4 HR4 HO4 HB4
  cases ok
  · have hno := Hid.mk' (HDN.out n HND.out fun rs' h => by
      rcases HRES.out with ⟨q, _⟩ | ⟨_, q, _⟩
      · cases q
      · rw [h] at q; cases q)
    have hres := HG5.out
    go_wp2_with (refine wpList_store_row rfl 26 (.tmp 2) (.tmp 34) rfl w.heap.size #[.int .i64 0, .int .i64 0, .int .i64 0, .int .i64 0, .int .i64 0, .int .i64 0, .int .i64 0, .int .i64 0, .int .i64 0, .int .i64 0, .slice none 0 0] rfl rfl 26 #[.int .i64 0, .int .i64 0, .int .i64 0, .int .i64 0, .int .i64 0, .int .i64 0, .int .i64 0, .int .i64 0, .int .i64 0, .int .i64 0, .slice none 0 0] hres (by kernel_rfl) rfl (by simp [Value.oneCell']) ?_; rw [setRow_self _ _ _ _ _ hres])
    obtain ⟨r0, r1, r2, r3, r4, r5, r6, r7, r8, r9, r10⟩ := mbox_cells (m := zm) hres
    simp only [zm, List.length_nil] at r0 r1 r2 r3 r4 r5 r6 r7 r8 r9 r10
    exact bodyPost_ret (v := .tuple #[.agg #[.int .i64 0, .int .i64 0, .int .i64 0, .int .i64 0, .int .i64 0, .int .i64 0, .int .i64 0, .int .i64 0, .int .i64 0, .int .i64 0, .slice none 0 0], .int .i64 4]) (by simp [results, Tryd.results14, go_sem, r0, r1, r2, r3, r4, r5, r6, r7, r8, r9, r10]) rfl (HNO.out _ HBW5.out hno.out)
  have HRS := Hid.mk' (show (rcsF n (nS 1 (hd6 (some l)))).1 = some rs from by
    rcases HRES.out with ⟨_, q⟩ | ⟨q, _⟩
    · exact q
    · cases q)
  have HDN := Hid.mk' (HDN.out n HND.out)
  have HDY := Hid.mk' (fun p c rs => HDY.out p c rs n HND.out)
  obtain ⟨fs, hfs⟩ : ∃ fs, rcsF n (nS 1 (hd6 (some l))) = fs := ⟨_, rfl⟩
  rw [hfs] at HR5 HRS HDN HDY
  obtain ⟨f1, f2⟩ := fs
  dsimp only at HR5 HRS
  clear hfs HRES HND
  have DN := gdone_any _ b f2 _ HR5.out
  obtain ⟨d, hd⟩ : ∃ d, decide (f2 = some []) = d := ⟨_, rfl⟩
  rw [hd] at DN
  have HD := Hid.mk' hd
  clear hd
  go_wp2_with fail
  clear d10 fz10
  generalize w4.setCell ⟨g, 10, none⟩ (.slice pr rs.length cr) = w5 at HB5 HG5 HBW5 HR5 HO5 HM5 DN ⊢
  refine DN.mono ?_
  clear DN
  rintro e w6 ⟨rfl, rfl⟩
  cases d
  · have hno := Hid.mk' (HDN.out fun rs' h => by
      have h2 : f2 = some [] := (Prod.mk.injEq _ _ _ _ ▸ h).2
      have := HD.out
      rw [h2] at this
      simp at this)
    have hres := HG5.out
    go_wp2_with (refine wpList_store_row rfl 26 (.tmp 2) (.tmp 34) rfl w.heap.size #[.int .i64 0, .int .i64 0, .int .i64 0, .int .i64 0, .int .i64 0, .int .i64 0, .int .i64 0, .int .i64 0, .int .i64 0, .int .i64 0, .slice none 0 0] rfl rfl 26 #[.int .i64 0, .int .i64 0, .int .i64 0, .int .i64 0, .int .i64 0, .int .i64 0, .int .i64 0, .int .i64 0, .int .i64 0, .int .i64 0, .slice none 0 0] hres (by kernel_rfl) rfl (by simp [Value.oneCell']) ?_; rw [setRow_self _ _ _ _ _ hres])
    obtain ⟨r0, r1, r2, r3, r4, r5, r6, r7, r8, r9, r10⟩ := mbox_cells (m := zm) hres
    simp only [zm, List.length_nil] at r0 r1 r2 r3 r4 r5 r6 r7 r8 r9 r10
    exact bodyPost_ret (v := .tuple #[.agg #[.int .i64 0, .int .i64 0, .int .i64 0, .int .i64 0, .int .i64 0, .int .i64 0, .int .i64 0, .int .i64 0, .int .i64 0, .int .i64 0, .slice none 0 0], .int .i64 4]) (by simp [results, Tryd.results14, go_sem, r0, r1, r2, r3, r4, r5, r6, r7, r8, r9, r10]) rfl (HNO.out _ HBW5.out hno.out)
  have HF2 := Hid.mk' (show f2 = some [] by simpa using HD.out)
  have FT := gfits_any (withR M pr cr rs) w5 HM5.out (bag_small fun x hx => (HNB.out x hx).bag) (HK.out.below HBW5.out)
  obtain ⟨f, hf⟩ : ∃ f, fit1 (withR M pr cr rs) = f := ⟨_, rfl⟩
  rw [hf] at FT
  have HFT := Hid.mk' hf
  simp only [withR] at FT
  clear hf
  obtain ⟨c0, c1, c2, c3, c4, c5, c6, c7, c8, c9, c10⟩ := mbox_cells (m := ⟨M.kind, M.frm, M.inc, M.lo, M.hi, M.seq, M.tgt, 0, 0, 0, pr, cr, rs⟩) HB5.out
  go_wp2_with fail
  refine FT.mono ?_
  clear FT c0 c1 c2 c3 c4 c5 c6 c7 c8 c9 c10
  rintro e w7 ⟨rfl, hb7⟩
  have HG7 := Hid.mk' (box_bel HG5.out hb7)
  have HB7 := Hid.mk' (box_bel HB5.out hb7)
  have HBW7 := Hid.mk' (HBW5.out.trans (hb7.mono HBW5.out.size))
  have HO7 := Hid.mk' (HO5.out.below hb7)
  clear hb7 HG5 HB5 HBW5 HO5 HR5 HM5
  cases f
  · have hno := Hid.mk' (HDN.out fun rs' h p c => by
      have h1 : f1 = some rs' := (Prod.mk.injEq _ _ _ _ ▸ h).1
      have h2 := HRS.out
      rw [h1] at h2
      cases h2
      exact HFT.out)
    have hres := HG7.out
    go_wp2_with (refine wpList_store_row rfl 26 (.tmp 2) (.tmp 34) rfl w.heap.size #[.int .i64 0, .int .i64 0, .int .i64 0, .int .i64 0, .int .i64 0, .int .i64 0, .int .i64 0, .int .i64 0, .int .i64 0, .int .i64 0, .slice none 0 0] rfl rfl 26 #[.int .i64 0, .int .i64 0, .int .i64 0, .int .i64 0, .int .i64 0, .int .i64 0, .int .i64 0, .int .i64 0, .int .i64 0, .int .i64 0, .slice none 0 0] hres (by kernel_rfl) rfl (by simp [Value.oneCell']) ?_; rw [setRow_self _ _ _ _ _ hres])
    obtain ⟨r0, r1, r2, r3, r4, r5, r6, r7, r8, r9, r10⟩ := mbox_cells (m := zm) hres
    simp only [zm, List.length_nil] at r0 r1 r2 r3 r4 r5 r6 r7 r8 r9 r10
    exact bodyPost_ret (v := .tuple #[.agg #[.int .i64 0, .int .i64 0, .int .i64 0, .int .i64 0, .int .i64 0, .int .i64 0, .int .i64 0, .int .i64 0, .int .i64 0, .int .i64 0, .slice none 0 0], .int .i64 4]) (by simp [results, Tryd.results14, go_sem, r0, r1, r2, r3, r4, r5, r6, r7, r8, r9, r10]) rfl (HNO.out _ HBW7.out hno.out)
  have HRD := Hid.mk' (HDY.out pr cr rs (by rw [show f1 = some rs from HRS.out, HF2.out]) HFT.out)
  obtain ⟨c0, c1, c2, c3, c4, c5, c6, c7, c8, c9, c10⟩ := mbox_cells (m := ⟨M.kind, M.frm, M.inc, M.lo, M.hi, M.seq, M.tgt, 0, 0, 0, pr, cr, rs⟩) HB7.out
  dsimp only at c0 c1 c2 c3 c4 c5 c6 c7 c8 c9 c10
  have hres := HG7.out
  go_wp2_with (refine wpList_store_row rfl 26 (.tmp 2) (.tmp 35) rfl w.heap.size #[.int .i64 M.kind, .int .i64 M.frm, .int .i64 M.inc, .int .i64 M.lo, .int .i64 M.hi, .int .i64 M.seq, .int .i64 M.tgt, .int .i64 0, .int .i64 0, .int .i64 0, .slice pr rs.length cr] rfl rfl 26 #[.int .i64 0, .int .i64 0, .int .i64 0, .int .i64 0, .int .i64 0, .int .i64 0, .int .i64 0, .int .i64 0, .int .i64 0, .int .i64 0, .slice none 0 0] hres (by kernel_rfl) rfl (by simp [Value.oneCell']) ?_)
  have HBS := Hid.mk' (below_setRow HBW7.out (Nat.le_refl _) #[.int .i64 M.kind, .int .i64 M.frm, .int .i64 M.inc, .int .i64 M.lo, .int .i64 M.hi, .int .i64 M.seq, .int .i64 M.tgt, .int .i64 0, .int .i64 0, .int .i64 0, .slice pr rs.length cr])
  have HMS := Hid.mk' (mok_new HWF.out (HO7.out.fr (fr_setRow w7 w.heap.size #[.int .i64 M.kind, .int .i64 M.frm, .int .i64 M.inc, .int .i64 M.lo, .int .i64 M.hi, .int .i64 M.seq, .int .i64 M.tgt, .int .i64 0, .int .i64 0, .int .i64 0, .slice pr rs.length cr]) (fun g' hg' q => by have := HO7.out.above g' hg'; have := HNN.out.1; omega)) HNB.out)
  obtain ⟨r0, r1, r2, r3, r4, r5, r6, r7, r8, r9, r10⟩ := mbox_cells (m := ⟨M.kind, M.frm, M.inc, M.lo, M.hi, M.seq, M.tgt, 0, 0, 0, pr, cr, rs⟩) (setRow_heap _ _ _ #[.int .i64 M.kind, .int .i64 M.frm, .int .i64 M.inc, .int .i64 M.lo, .int .i64 M.hi, .int .i64 M.seq, .int .i64 M.tgt, .int .i64 0, .int .i64 0, .int .i64 0, .slice pr rs.length cr] _ _ hres)
  dsimp only at r0 r1 r2 r3 r4 r5 r6 r7 r8 r9 r10
  exact bodyPost_ret (v := .tuple #[.agg #[.int .i64 M.kind, .int .i64 M.frm, .int .i64 M.inc, .int .i64 M.lo, .int .i64 M.hi, .int .i64 M.seq, .int .i64 M.tgt, .int .i64 0, .int .i64 0, .int .i64 0, .slice pr rs.length cr], .int .i64 0]) (by simp [results, Tryd.results14, go_sem, r0, r1, r2, r3, r4, r5, r6, r7, r8, r9, r10]) rfl (HYES.out M pr cr rs _ HMS.out HNB.out HBS.out HRD.out)

theorem gen1_ok : Gen1Ok where
  enc := fun m w hm hz hK => gencode_any m w hm hz hK
  dec := fun p c l w hB hb _ _ hl hK => gdecode_any p c l w hB hb hl hK
  fits := fun m w hm hz hK => gfits_any m w hm hz hK
end Go.Proofs.YtmfkdohfejklhaaDoor
