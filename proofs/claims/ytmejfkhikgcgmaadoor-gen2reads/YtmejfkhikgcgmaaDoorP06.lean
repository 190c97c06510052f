/-
  Stage 13: the statements' own functions: Message.
  Package msg: Kind.
  The statements' own functions of stage 8: May, Alike, Few, AllAlike.
  Stage 10: the statements' own Alike, Few, awake.
  Stage 13: the statements' own awake.
  A span as its code says it, good or not.
-/
import Derived.Test.YtmejfkhikgcgmaaDoorP05
import Derived.Deep.MidRow
namespace Go.Proofs.YtmejfkhikgcgmaaDoor
open Go.RowKit
set_option linter.unusedSimpArgs false
set_option linter.unusedVariables false
set_option maxRecDepth 10000
set_option synthInstance.maxSize 2000

/-- What Message answers. -/
def Msg2P (l : List Int) (w : World) (e : Ending) (w' : World) : Prop :=
  ∃ m : Mg, ∃ ok : Bool, e = .returned (.tuple #[.agg #[.int .i64 m.kind, .int .i64 m.frm, .int .i64 m.inc, .int .i64 m.lo, .int .i64 m.hi, .int .i64 m.seq, .int .i64 m.tgt, .int .i64 m.life, .int .i64 m.epoch, .int .i64 m.base, .slice m.p m.recs.length m.cap], .bool ok]) ∧ MOk w' m ∧ (∀ x ∈ m.recs, szK (kys x.bag) ≤ 4611686018427387904) ∧ Below w.heap.size w w' ∧ ((ok = true ∧ Read2 l (mv m)) ∨ (ok = false ∧ m = zm ∧ ∀ x, ¬ Read2 l x))

theorem InQ0.onB {w X X' : World} (h : InQ0 w X) (k : Below (w.heap.size + 1) X X') : InQ0 w X' :=
  ⟨h.below.trans (k.mono (by omega)), by rw [k.block _ (by omega)]; exact h.res⟩
theorem InQ0.lt {w X : World} (h : InQ0 w X) : w.heap.size + 1 ≤ X.heap.size := (Array.getElem?_eq_some_iff.1 h.res).1
theorem mok_ob {W X : World} {B : Nat} {m : Mg} (h : MOk W m) (own : OwnB B X (.slice m.p m.recs.length m.cap) m.recs) : MOk X m := by
  obtain ⟨p2, c2, e2, hrin, hp0, hlc2, hcm2⟩ := own.rin
  simp only [Value.slice.injEq, true_and] at e2
  obtain ⟨e3, e4⟩ := e2
  rw [← e3] at hrin
  exact ⟨h.kind, h.frm, h.inc, h.lo, h.hi, h.seq, h.tgt, h.life, h.epoch, h.base, h.len, h.cap, h.nil, hrin⟩
theorem hdT_fst (kind : Int) (h0 h1 : Bool) (e0 : hasB kind 0 = h0) (e1 : hasB kind 1 = h1) : [1, 2, 3, 4] ++ (if h0 = true then [5] else []) ++ (if h1 = true then [6] else []) = (hdT kind).map (·.1) := by
  subst e0 e1
  rcases has_cases kind with ⟨p | p, q | q⟩ <;> simp [hdT, p, q]
theorem hdT_snd (kind : Int) (h0 h1 : Bool) (e0 : hasB kind 0 = h0) (e1 : hasB kind 1 = h1) : [1, 2, 6, 1] ++ (if h0 = true then [2] else []) ++ (if h1 = true then [2] else []) = (hdT kind).map fun t => (t.2 : Int) := by
  subst e0 e1
  rcases has_cases kind with ⟨p | p, q | q⟩ <;> simp [hdT, p, q]

set_option maxHeartbeats 16000000 in
theorem lmessage2_any (p : Option Addr) (c : Nat) (l : List Int) (w : World) (hp : BIn w p l) (hb : isB l) (hlc : l.length ≤ c) (hcm : c ≤ maxLen) (hl : l.length ≤ 100000) (hK : Kd w) :
    Calls Tryd.prog 16 #[.slice p l.length c] w fun e w' => Msg2P l w e w' := by
  have HY := Hid.mk' (show ∀ m w', MOk w' m → (∀ x ∈ m.recs, szK (kys x.bag) ≤ 4611686018427387904) → Below w.heap.size w w' → Read2 l (mv m) → Msg2P l w (.returned (.tuple #[.agg #[.int .i64 m.kind, .int .i64 m.frm, .int .i64 m.inc, .int .i64 m.lo, .int .i64 m.hi, .int .i64 m.seq, .int .i64 m.tgt, .int .i64 m.life, .int .i64 m.epoch, .int .i64 m.base, .slice m.p m.recs.length m.cap], .bool true])) w' from fun m w' h1 h2 h3 h4 => ⟨m, true, rfl, h1, h2, h3, .inl ⟨rfl, h4⟩⟩)
  have HNO := Hid.mk' (show ∀ w', Below w.heap.size w w' → (∀ x, ¬ Read2 l x) → Msg2P l w (.returned (.tuple #[.agg #[.int .i64 zm.kind, .int .i64 zm.frm, .int .i64 zm.inc, .int .i64 zm.lo, .int .i64 zm.hi, .int .i64 zm.seq, .int .i64 zm.tgt, .int .i64 zm.life, .int .i64 zm.epoch, .int .i64 zm.base, .slice zm.p zm.recs.length zm.cap], .bool false])) w' from fun w' h1 h2 => ⟨zm, false, rfl, zm_ok _, by simp [zm], h1, .inr ⟨rfl, rfl, h2⟩⟩)
  simp only [zm, List.length_nil] at HNO
  generalize Msg2P l w = Post at HY HNO ⊢
  have B1 := Hid.mk' ((Below.refl w.heap.size w).alloc (Nat.le_refl _) (.cells #[.int .i64 0, .int .i64 0, .int .i64 0, .int .i64 0, .int .i64 0, .int .i64 0, .int .i64 0, .int .i64 0, .int .i64 0, .int .i64 0, .slice none 0 0] 26))
  by_cases t0 : l.length < 4
  · have hno : ∀ x, ¬ Read2 l x := fun x h => absurd (read2_inv h).1 (by omega)
    have t0' : (l.length : Int) < 4 := by omega
    go_enter Tryd.func16, Tryd.ntmps16
    go_wp2_with fail
    exact bodyPost_ret (v := .tuple #[.agg #[.int .i64 0, .int .i64 0, .int .i64 0, .int .i64 0, .int .i64 0, .int .i64 0, .int .i64 0, .int .i64 0, .int .i64 0, .int .i64 0, .slice none 0 0], .bool false]) (by simp [results, Tryd.results16, go_sem]) rfl (HNO.out _ B1.out hno)
  by_cases t1 : 65499 < l.length
  · have hno : ∀ x, ¬ Read2 l x := fun x h => absurd (read2_inv h).2.1 (by omega)
    have t0' : ¬ (l.length : Int) < 4 := by omega
    have d1 : decide ((65499 : Int) < l.length) = true := decide_eq_true (by omega)
    clear t1 hl hlc hcm
    go_enter Tryd.func16, Tryd.ntmps16
    go_wp2_with fail
    exact bodyPost_ret (v := .tuple #[.agg #[.int .i64 0, .int .i64 0, .int .i64 0, .int .i64 0, .int .i64 0, .int .i64 0, .int .i64 0, .int .i64 0, .int .i64 0, .int .i64 0, .slice none 0 0], .bool false]) (by simp [results, Tryd.results16, go_sem]) rfl (HNO.out _ B1.out hno)
  have HLEN := Hid.mk' (show 4 ≤ l.length ∧ l.length ≤ 65499 by omega)
  have t0' : ¬ (l.length : Int) < 4 := by omega
  have d1 : decide ((65499 : Int) < l.length) = false := decide_eq_false (by omega)
  obtain ⟨b, o, rfl, hcs⟩ := hp (by omega)
  have hx3 := hcs 3 (by omega)
  have hbl : b < w.heap.size := lt_of_cell hx3
  have hr3 := hb.getD 3
  obtain ⟨kind, hkd⟩ : ∃ kind, l.getD 3 0 = kind := ⟨_, rfl⟩
  rw [hkd] at hx3 hr3
  have HKD := Hid.mk' hkd
  have HKB := Hid.mk' hr3
  have HP := Hid.mk' hp
  have HIB := Hid.mk' hb
  have li3 : (3 : Int) < l.length := by omega
  have li3n : 3 < l.length := by omega
  have v3 : IntKind.i64.wrap kind = kind := by rw [IntKind.wrap_i64]; omega
  obtain ⟨h0, hh0⟩ : ∃ h, hasB kind 0 = h := ⟨_, rfl⟩
  obtain ⟨h1, hh1⟩ : ∃ h, hasB kind 1 = h := ⟨_, rfl⟩
  have M0 := Hid.mk' (show ∀ X, Below w.heap.size w X → Calls Tryd.prog 26 #[.int .i64 kind, .int .i64 0] X fun e w' => e = .returned (.bool h0) ∧ X = w' from fun X h => by
    have := mhas_any kind 0 X (hK.below h); rw [hasM_01 _ _ (.inl rfl), hh0] at this; exact this)
  have M1 := Hid.mk' (show ∀ X, Below w.heap.size w X → Calls Tryd.prog 26 #[.int .i64 kind, .int .i64 1] X fun e w' => e = .returned (.bool h1) ∧ X = w' from fun X h => by
    have := mhas_any kind 1 X (hK.below h); rw [hasM_01 _ _ (.inr rfl), hh1] at this; exact this)
  have HXS := Hid.mk' (hdT_fst kind h0 h1 hh0 hh1)
  have HYS := Hid.mk' (hdT_snd kind h0 h1 hh0 hh1)
  have HK := Hid.mk' hK
  clear hh0 hh1 hkd hp hb hlc hcm hl t0 t1 hcs hr3 hK
  have g1 := heap_alloc_new w (.cells #[.int .i64 0, .int .i64 0, .int .i64 0, .int .i64 0, .int .i64 0, .int .i64 0, .int .i64 0, .int .i64 0, .int .i64 0, .int .i64 0, .slice none 0 0] 26)
  have s1 : (w.alloc (.cells #[.int .i64 0, .int .i64 0, .int .i64 0, .int .i64 0, .int .i64 0, .int .i64 0, .int .i64 0, .int .i64 0, .int .i64 0, .int .i64 0, .slice none 0 0] 26)).heap.size = w.heap.size + 1 := by simp
  have hx3' : (w.alloc (.cells #[.int .i64 0, .int .i64 0, .int .i64 0, .int .i64 0, .int .i64 0, .int .i64 0, .int .i64 0, .int .i64 0, .int .i64 0, .int .i64 0, .slice none 0 0] 26)).cell? ⟨b, o + 3, none⟩ = some (.int .u8 kind) := by rw [B1.out.cell (p := ⟨b, o + 3, none⟩) hbl]; exact hx3
  obtain ⟨x1, hx1⟩ : ∃ x, w.alloc (.cells #[.int .i64 0, .int .i64 0, .int .i64 0, .int .i64 0, .int .i64 0, .int .i64 0, .int .i64 0, .int .i64 0, .int .i64 0, .int .i64 0, .slice none 0 0] 26) = x := ⟨_, rfl⟩
  rw [hx1] at g1 s1 hx3' B1
  have b2 := (Below.refl x1.heap.size x1).alloc (Nat.le_refl _) (.cells #[.int .i64 1, .int .i64 2, .int .i64 3, .int .i64 4] 3)
  have g2 := heap_alloc_new x1 (.cells #[.int .i64 1, .int .i64 2, .int .i64 3, .int .i64 4] 3)
  have s2 : (x1.alloc (.cells #[.int .i64 1, .int .i64 2, .int .i64 3, .int .i64 4] 3)).heap.size = w.heap.size + 1 + 1 := by simp [s1]
  obtain ⟨x2, hx2⟩ : ∃ x, x1.alloc (.cells #[.int .i64 1, .int .i64 2, .int .i64 3, .int .i64 4] 3) = x := ⟨_, rfl⟩
  rw [hx2] at b2 g2 s2
  have b3 := (Below.refl x2.heap.size x2).alloc (Nat.le_refl _) (.cells #[.int .i64 1, .int .i64 2, .int .i64 6, .int .i64 1] 3)
  have g3 := heap_alloc_new x2 (.cells #[.int .i64 1, .int .i64 2, .int .i64 6, .int .i64 1] 3)
  obtain ⟨x3, hx3e⟩ : ∃ x, x2.alloc (.cells #[.int .i64 1, .int .i64 2, .int .i64 6, .int .i64 1] 3) = x := ⟨_, rfl⟩
  rw [hx3e] at b3 g3
  rw [s1] at g2
  rw [s2] at g3
  have HQ3 := Hid.mk' (show InQ0 w x3 from ⟨(B1.out.trans (b2.mono B1.out.size)).trans (b3.mono (Nat.le_trans B1.out.size b2.size)), box_bel (box_bel g1 b2) b3⟩)
  have HT3 := Hid.mk' (show TW (w.heap.size + 1) x3 (.slice (some ⟨w.heap.size + 1, 0, none⟩) 4 4) (.slice (some ⟨w.heap.size + 1 + 1, 0, none⟩) 4 4) [1, 2, 3, 4] [1, 2, 6, 1] from
    ⟨own_laid (xs := [1, 2, 3, 4]) (box_bel g2 b3) rfl (Nat.le_refl _) (by simp), own_laid (xs := [1, 2, 6, 1]) g3 rfl (by omega) (by simp), fun g hg q => by have h1 : w.heap.size + 1 = g := Option.some.inj hg; have h2 : w.heap.size + 1 + 1 = g := Option.some.inj q; omega⟩)
  clear g1 s1 b2 g2 s2 b3 g3 hx3
  go_enter Tryd.func16, Tryd.ntmps16
  subst hx1 hx2
  go_wp2_with fail
  try rw [hx3e]
  clear hx3e hx3' B1
  refine (M0.out x3 HQ3.out.below).mono ?_
  rintro e x4 ⟨rfl, rfl⟩
  go_upto_if 30 with fail
  go_cut [5, 6] (fun a b wx => Hid (TW (w.heap.size + 1) wx a b ([1, 2, 3, 4] ++ (if h0 = true then [5] else [])) ([1, 2, 6, 1] ++ (if h0 = true then [2] else []))) ∧ Hid (InQ0 w wx))
  case first =>
    cases h0
    · go_wp2_with fail
      go_meet
      exact ⟨by rw [if_neg (by simp), if_neg (by simp), List.append_nil, List.append_nil]; exact HT3, HQ3⟩
    · go_wp2_with (at_builtin; refine wpList_addI (by rfl) (.tmp 31) (.tmp 32) (by rfl) (by rfl) HT3.out.fst HQ3.out.lt 5 (by rfl) (by simp) ?_)
      intro va wa hoa hba hfa hma
      have HTa := Hid.mk' (HT3.out.addA 5 hoa hfa hma)
      have HQa := Hid.mk' (HQ3.out.onB hba)
      clear hoa hba hfa hma HT3 HQ3
      go_wp2_with (at_builtin; refine wpList_addI (by rfl) (.tmp 34) (.tmp 35) (by rfl) (by rfl) HTa.out.snd HQa.out.lt 2 (by rfl) (by simp) ?_)
      intro vb wb hob hbb hfb hmb
      have HTb := Hid.mk' (HTa.out.addB 2 hob hfb hmb)
      have HQb := Hid.mk' (HQa.out.onB hbb)
      clear hob hbb hfb hmb HTa HQa
      go_wp2_with fail
      go_meet
      exact ⟨by rw [if_pos trivial, if_pos trivial]; exact HTb, HQb⟩
  case rest =>
  obtain ⟨HT4, HQ4⟩ := hcut
  clear HT3 HQ3 M0
  go_wp2_with fail
  refine (M1.out wc HQ4.out.below).mono ?_
  rintro e x5 ⟨rfl, rfl⟩
  obtain ⟨X4, hX4⟩ : ∃ X : List Int, [1, 2, 3, 4] ++ (if h0 = true then [5] else []) = X := ⟨_, rfl⟩
  obtain ⟨Y4, hY4⟩ : ∃ X : List Int, [1, 2, 6, 1] ++ (if h0 = true then [2] else []) = X := ⟨_, rfl⟩
  have hlx : X4.length ≤ 5 := by rw [← hX4]; split <;> simp
  have hly : Y4.length ≤ 5 := by rw [← hY4]; split <;> simp
  rw [hX4, hY4] at HT4
  rw [hX4] at HXS
  rw [hY4] at HYS
  clear hX4 hY4
  go_upto_if 38 with fail
  go_cut [5, 6] (fun a b wx => Hid (TW (w.heap.size + 1) wx a b (X4 ++ (if h1 = true then [6] else [])) (Y4 ++ (if h1 = true then [2] else []))) ∧ Hid (InQ0 w wx))
  case first =>
    cases h1
    · go_wp2_with fail
      go_meet
      exact ⟨by rw [if_neg (by simp), if_neg (by simp), List.append_nil, List.append_nil]; exact HT4, HQ4⟩
    · go_wp2_with (at_builtin; refine wpList_addI (by rfl) (.tmp 39) (.tmp 40) (by rfl) (by rfl) HT4.out.fst HQ4.out.lt 6 (by rfl) (by omega) ?_)
      intro va wa hoa hba hfa hma
      have HTa := Hid.mk' (HT4.out.addA 6 hoa hfa hma)
      have HQa := Hid.mk' (HQ4.out.onB hba)
      clear hoa hba hfa hma HT4 HQ4
      go_wp2_with (at_builtin; refine wpList_addI (by rfl) (.tmp 42) (.tmp 43) (by rfl) (by rfl) HTa.out.snd HQa.out.lt 2 (by rfl) (by omega) ?_)
      intro vb wb hob hbb hfb hmb
      have HTb := Hid.mk' (HTa.out.addB 2 hob hfb hmb)
      have HQb := Hid.mk' (HQa.out.onB hbb)
      clear hob hbb hfb hmb HTa HQa
      go_wp2_with fail
      go_meet
      exact ⟨by rw [if_pos trivial, if_pos trivial]; exact HTb, HQb⟩
  case rest =>
  obtain ⟨HT5, HQ5⟩ := hcut
  rw [HXS.out, HYS.out] at HT5
  clear HT4 HQ4 M1 hlx hly HXS HYS X4 Y4
  obtain ⟨pa, ca, rfl, hna⟩ := own_nin HT5.out.fst
  obtain ⟨pw, cw, rfl, hnw⟩ := own_nin HT5.out.snd
  rw [List.length_map, List.length_map]
  have HNA := Hid.mk' hna
  obtain ⟨n4, n6⟩ := hdT_len kind
  have RW := lrows_any (some ⟨b, o, none⟩) c l pa ca pw cw (hdT kind) wc (HP.out.below HQ5.out.below) HIB.out (by have := HLEN.out; omega) hna hnw (by omega)
  clear hna hnw HT5
  go_wp2_with fail
  refine RW.mono ?_
  clear RW
  rintro e x6 ⟨hrw, hb6⟩
  have HQ6 := Hid.mk' (HQ5.out.on hb6)
  have HN6 := Hid.mk' (HNA.out.below hb6)
  rcases hrw with ⟨pL, cL, L, hsL, hrL, rfl, hown⟩ | ⟨hno, rfl⟩
  case inr =>
    have hno2 : ∀ x, ¬ Read2 l x := fun x h => by
      obtain ⟨_, _, h3, h4, h5, _⟩ := read2_inv h
      have h6 := hno _ h4
      rw [HKD.out] at h3
      subst h3
      rw [h5] at h6
      cases h6
    have HQ := Hid.mk' (HNO.out x6 HQ6.out.below hno2)
    have hres := HQ6.out.res
    clear hno hno2 hb6 HQ5 HNA
    go_wp2_with (refine wpList_store_row rfl 26 (.tmp 2) (.tmp 54) rfl w.heap.size #[.int .i64 0, .int .i64 0, .int .i64 0, .int .i64 0, .int .i64 0, .int .i64 0, .int .i64 0, .int .i64 0, .int .i64 0, .int .i64 0, .slice none 0 0] rfl rfl 26 #[.int .i64 0, .int .i64 0, .int .i64 0, .int .i64 0, .int .i64 0, .int .i64 0, .int .i64 0, .int .i64 0, .int .i64 0, .int .i64 0, .slice none 0 0] hres (by kernel_rfl) rfl (by simp [Value.oneCell']) ?_; rw [setRow_self _ _ _ _ _ hres])
    obtain ⟨r0, r1, r2, r3, r4, r5, r6, r7, r8, r9, r10⟩ := mbox_cells (m := zm) hres
    simp only [zm, List.length_nil] at r0 r1 r2 r3 r4 r5 r6 r7 r8 r9 r10
    exact bodyPost_ret (v := .tuple #[.agg #[.int .i64 0, .int .i64 0, .int .i64 0, .int .i64 0, .int .i64 0, .int .i64 0, .int .i64 0, .int .i64 0, .int .i64 0, .int .i64 0, .slice none 0 0], .bool false]) (by simp [results, Tryd.results16, go_sem, r0, r1, r2, r3, r4, r5, r6, r7, r8, r9, r10]) rfl HQ.out
  case inl =>
    have d1' : (L.getD 1 zf).d.length = 2 := (rowsOk_get 1 hrL (by omega)).2
    have d2' : (L.getD 2 zf).d.length = 6 := (rowsOk_get 2 hrL (by omega)).2
    have d3' : (L.getD 3 zf).d.length = 1 := (rowsOk_get 3 hrL (by omega)).2
    have hnL : (hdT kind).length ≤ L.length := by have := rows_len hrL; rw [kys_len] at this; exact this
    obtain ⟨_, jb, _⟩ := join_split l.length l (kys L) (Nat.le_refl _) HIB.out hsL
    have jbl := joinK_len (kys L)
    rw [jb, kys_len] at jbl
    have hlL : L.length ≤ 100000 := by have := HLEN.out; omega
    have HZL := Hid.mk' (show ∀ k, k < L.length → (L.getD k zf).d.length ≤ 100000 from fun k hk => by
      have h1 : ky (L.getD k zf) ∈ kys L := List.mem_map.2 ⟨L.getD k zf, by simp [List.getD, hk], rfl⟩
      have h2 := joinK_mem h1
      rw [jb] at h2
      have := HLEN.out
      simp only [ky] at h2
      omega)
    have HRG := Hid.mk' (fun k (hk : k < (hdT kind).length) => rowsOk_get k hrL hk)
    clear jb jbl
    obtain ⟨p9, c9, e9, hfin, _, hl9, hm9⟩ := hown.own.fin
    simp only [Value.slice.injEq, true_and] at e9
    obtain ⟨rfl, rfl⟩ := e9
    obtain ⟨_, _, e9, _, _, _, hpg⟩ := hown.own.own.slice
    simp only [Value.slice.injEq, true_and] at e9
    obtain ⟨rfl, rfl⟩ := e9
    obtain ⟨g, rfl, hgB, _⟩ := hpg (by omega)
    have HF := Hid.mk' hfin
    have HFX := Hid.mk' (show ∀ X, Below x6.heap.size x6 X → ∀ i, i < L.length → X.cell? ⟨g, i * 2, none⟩ = some (.int .i64 (L.getD i zf).tag) ∧ X.cell? ⟨g, i * 2 + 1, none⟩ = some (.slice (L.getD i zf).p (L.getD i zf).d.length (L.getD i zf).cap) ∧ FOk X (L.getD i zf) from fun X h i hi => by
      obtain ⟨b', o', e, hc⟩ := (HF.out.below h).at (by omega)
      cases e
      have := hc i hi
      simpa using this)
    have N1 := Hid.mk' (fun X h => lnum2_any (L.getD 1 zf).p (L.getD 1 zf).cap (L.getD 1 zf).d X (HFX.out X h 1 (by omega)).2.2.bin (HFX.out X h 1 (by omega)).2.2.isb (by omega))
    have N2 := Hid.mk' (fun X h => lnum2_any (L.getD 2 zf).p (L.getD 2 zf).cap (L.getD 2 zf).d X (HFX.out X h 2 (by omega)).2.2.bin (HFX.out X h 2 (by omega)).2.2.isb (by omega))
    have N3 := Hid.mk' (fun X h => lnum2_any (L.getD 3 zf).p (L.getD 3 zf).cap (L.getD 3 zf).d X (HFX.out X h 3 (by omega)).2.2.bin (HFX.out X h 3 (by omega)).2.2.isb (by omega))
    have F1 := Hid.mk' (fun X h => (HFX.out X h 1 (by omega)).2.1)
    have F2 := Hid.mk' (fun X h => (HFX.out X h 2 (by omega)).2.1)
    have F3 := Hid.mk' (fun X h => (HFX.out X h 3 (by omega)).2.1)
    have I1 := numB_bound _ (HFX.out x6 (Below.refl _ _) 1 (by omega)).2.2.isb
    have I2 := numB_bound _ (HFX.out x6 (Below.refl _ _) 2 (by omega)).2.2.isb
    have I3 := numB_bound _ (HFX.out x6 (Below.refl _ _) 3 (by omega)).2.2.isb
    have HMK := Hid.mk' (fun rs => hd_end kind (kys L) rs L.length hnL)
    simp only [atK_kys] at HMK
    rw [d1'] at N1 F1 I1
    rw [d2'] at N2 F2 I2
    rw [d3'] at N3 F3 I3
    generalize numB (L.getD 1 zf).d = z1 at N1 I1 HMK
    generalize numB (L.getD 2 zf).d = z2 at N2 I2 HMK
    generalize numB (L.getD 3 zf).d = z3 at N3 I3 HMK
    generalize (L.getD 1 zf).p = p1' at N1 F1
    generalize (L.getD 2 zf).p = p2' at N2 F2
    generalize (L.getD 3 zf).p = p3' at N3 F3
    generalize (L.getD 1 zf).cap = k1' at N1 F1
    generalize (L.getD 2 zf).cap = k2' at N2 F2
    generalize (L.getD 3 zf).cap = k3' at N3 F3
    have l1 : (1 : Int) < L.length := by omega
    have l2 : (2 : Int) < L.length := by omega
    have l3 : (3 : Int) < L.length := by omega
    have l1n : 1 < L.length := by omega
    have l2n : 2 < L.length := by omega
    have l3n : 3 < L.length := by omega
    have f3 := F3.out x6 (Below.refl _ _)
    simp only [Nat.reduceMul, Nat.reduceAdd] at f3
    have HSL := Hid.mk' hsL
    have HRL := Hid.mk' hrL
    clear d1' d2' d3' hsL hrL hgB hfin hl9 hm9 hown hb6 HQ5 HNA hpg t0' d1 li3 li3n v3
    go_wp2_with fail
    refine (N3.out x6 (Below.refl _ _)).mono ?_
    rintro e x7 ⟨rfl, rfl⟩
    go_upto_region 16 with fail
    clear f3 N3 F3
    go_cut [10] (fun t wx => t = .pointer (some ⟨x6.heap.size, 0, none⟩) ∧ Hid (Below x6.heap.size x6 wx) ∧ Hid (wx.heap[x6.heap.size]? = some (.cells #[.int .i64 kind, .int .i64 z1, .int .i64 z2, .int .i64 (z3 / 16), .int .i64 (z3 % 16), .int .i64 0, .int .i64 0, .int .i64 0, .int .i64 0, .int .i64 0, .slice none 0 0] 26 (0, 0))))
    case first =>
      have f1 := F1.out x6.drew (Below.refl _ _).drew
      have f2 := F2.out x6.drew (Below.refl _ _).drew
      simp only [Nat.reduceMul, Nat.reduceAdd] at f1 f2
      have hS0 : x6.drew.cell? ⟨g, 3, none⟩ = some (.slice p1' 2 k1') ∧ x6.drew.cell? ⟨g, 5, none⟩ = some (.slice p2' 6 k2') ∧ Hid (Below x6.heap.size x6 x6.drew) := ⟨f1, f2, (Below.refl _ _).drew⟩
      have hsz : x6.drew.heap.size = x6.heap.size := rfl
      have hgl : g < x6.heap.size := lt_of_cell f1
      clear f1 f2 F1 F2
      go_wp2_with fail
      refine wp_region_held_drew (S := fun X => X.cell? ⟨g, 3, none⟩ = some (.slice p1' 2 k1') ∧ X.cell? ⟨g, 5, none⟩ = some (.slice p2' 6 k2') ∧ Hid (Below x6.heap.size x6 X)) (by kernel_rfl) hS0 (fun hS => ?_)
      clear hS0
      generalize x6.drew = wd at hS hsz ⊢
      have m2 : z3.tdiv 16 = z3 / 16 := Int.tdiv_eq_ediv_of_nonneg (by omega)
      have m3 : z3.tmod 16 = z3 % 16 := Int.tmod_eq_emod_of_nonneg (by omega)
      have m4 : IntKind.i64.wrap (z3 / 16) = z3 / 16 := by rw [IntKind.wrap_i64]; omega
      refine wpAnyH_take (i := 0) (v := ?v0_45) rfl (by kernel_rfl) (by kernel_rfl) (by kernel_rfl) (fun _ _ _ h => h) (Or.inl ⟨by rfl, ?hy0_45⟩) (by assumption) ?rest0_45
      case hy0_45 => (intro w hSw; (try dsimp only at hSw); go_simp; try (with_reducible rfl))
      simp only [Act.put, List.getElem_toArray, List.getElem_cons_zero, List.getElem_cons_succ, List.setIfInBounds_toArray, List.set_cons_zero, List.set_cons_succ]
      refine wpAnyH_take (i := 1) (v := ?v1_46) rfl (by kernel_rfl) (by kernel_rfl) (by kernel_rfl) (fun _ _ _ h => h) (Or.inl ⟨by rfl, ?hy1_46⟩) (by assumption) ?rest1_46
      case hy1_46 => (intro w hSw; (try dsimp only at hSw); go_simp; try (with_reducible rfl))
      simp only [Act.put, List.getElem_toArray, List.getElem_cons_zero, List.getElem_cons_succ, List.setIfInBounds_toArray, List.set_cons_zero, List.set_cons_succ]
      refine wpAnyH_take (i := 2) (v := ?v2_47) rfl (by kernel_rfl) (by kernel_rfl) (by kernel_rfl) (fun _ _ _ h => h) (Or.inl ⟨by rfl, ?hy2_47⟩) (by assumption) ?rest2_47
      case hy2_47 => (intro w hSw; (try dsimp only at hSw); go_simp; try (with_reducible rfl))
      simp only [Act.put, List.getElem_toArray, List.getElem_cons_zero, List.getElem_cons_succ, List.setIfInBounds_toArray, List.set_cons_zero, List.set_cons_succ]
      refine wpAnyH_take (i := 3) (v := ?v3_48) rfl (by kernel_rfl) (by kernel_rfl) (by kernel_rfl) (fun _ _ _ h => h) (Or.inl ⟨by rfl, ?hy3_48⟩) (by assumption) ?rest3_48
      case hy3_48 => (intro w hSw; (try dsimp only at hSw); go_simp; try (with_reducible rfl))
      simp only [Act.put, List.getElem_toArray, List.getElem_cons_zero, List.getElem_cons_succ, List.setIfInBounds_toArray, List.set_cons_zero, List.set_cons_succ]
      refine wpAnyH_take (i := 4) (v := ?v4_49) rfl (by kernel_rfl) (by kernel_rfl) (by kernel_rfl) (fun _ _ _ h => h) (Or.inl ⟨by rfl, ?hy4_49⟩) (by assumption) ?rest4_49
      case hy4_49 => (intro w hSw; (try dsimp only at hSw); go_simp; try (with_reducible rfl))
      simp only [Act.put, List.getElem_toArray, List.getElem_cons_zero, List.getElem_cons_succ, List.setIfInBounds_toArray, List.set_cons_zero, List.set_cons_succ]
      refine wpAnyH_take (i := 6) (v := ?v6_50) rfl (by kernel_rfl) (by kernel_rfl) (by kernel_rfl) (fun _ _ _ h => h) (Or.inl ⟨by rfl, ?hy6_50⟩) (by assumption) ?rest6_50
      case hy6_50 => (intro w hSw; (try dsimp only at hSw); go_simp; try (with_reducible rfl))
      simp only [Act.put, List.getElem_toArray, List.getElem_cons_zero, List.getElem_cons_succ, List.setIfInBounds_toArray, List.set_cons_zero, List.set_cons_succ]
      refine wpAnyH_take (i := 7) (v := ?v7_51) rfl (by kernel_rfl) (by kernel_rfl) (by kernel_rfl) (fun _ _ _ h => h) (Or.inl ⟨by rfl, ?hy7_51⟩) (by assumption) ?rest7_51
      case hy7_51 => (intro w hSw; (try dsimp only at hSw); go_simp; try (with_reducible rfl))
      simp only [Act.put, List.getElem_toArray, List.getElem_cons_zero, List.getElem_cons_succ, List.setIfInBounds_toArray, List.set_cons_zero, List.set_cons_succ]
      refine wpAnyH_take (i := 8) (v := ?v8_52) rfl (by kernel_rfl) (by kernel_rfl) (by kernel_rfl) (fun _ _ _ h => h) (Or.inl ⟨by rfl, ?hy8_52⟩) (by assumption) ?rest8_52
      case hy8_52 => (intro w hSw; (try dsimp only at hSw); go_simp; try (with_reducible rfl))
      simp only [Act.put, List.getElem_toArray, List.getElem_cons_zero, List.getElem_cons_succ, List.setIfInBounds_toArray, List.set_cons_zero, List.set_cons_succ]
      refine wpAnyH_take (i := 9) (v := ?v9_53) rfl (by kernel_rfl) (by kernel_rfl) (by kernel_rfl) (fun _ _ _ h => h) (Or.inl ⟨by rfl, ?hy9_53⟩) (by assumption) ?rest9_53
      case hy9_53 => (intro w hSw; (try dsimp only at hSw); go_simp; try (with_reducible rfl))
      simp only [Act.put, List.getElem_toArray, List.getElem_cons_zero, List.getElem_cons_succ, List.setIfInBounds_toArray, List.set_cons_zero, List.set_cons_succ]
      refine wpAnyH_take (i := 11) (v := ?v11_54) rfl (by kernel_rfl) (by kernel_rfl) (by kernel_rfl) (fun _ _ _ h => h) (Or.inl ⟨by rfl, ?hy11_54⟩) (by assumption) ?rest11_54
      case hy11_54 => (intro w hSw; (try dsimp only at hSw); go_simp; try (with_reducible rfl))
      simp only [Act.put, List.getElem_toArray, List.getElem_cons_zero, List.getElem_cons_succ, List.setIfInBounds_toArray, List.set_cons_zero, List.set_cons_succ]
      refine wpAnyH_take (i := 12) (v := ?v12_55) rfl (by kernel_rfl) (by kernel_rfl) (by kernel_rfl) (fun _ _ _ h => h) (Or.inl ⟨by rfl, ?hy12_55⟩) (by assumption) ?rest12_55
      case hy12_55 => (intro w hSw; (try dsimp only at hSw); go_simp; try (with_reducible rfl))
      simp only [Act.put, List.getElem_toArray, List.getElem_cons_zero, List.getElem_cons_succ, List.setIfInBounds_toArray, List.set_cons_zero, List.set_cons_succ]
      refine wpAnyH_take (i := 13) (v := ?v13_56) rfl (by kernel_rfl) (by kernel_rfl) (by kernel_rfl) (fun _ _ _ h => h) (Or.inl ⟨by rfl, ?hy13_56⟩) (by assumption) ?rest13_56
      case hy13_56 => (intro w hSw; (try dsimp only at hSw); go_simp; try (with_reducible rfl))
      simp only [Act.put, List.getElem_toArray, List.getElem_cons_zero, List.getElem_cons_succ, List.setIfInBounds_toArray, List.set_cons_zero, List.set_cons_succ]
      refine wpAnyH_take (i := 14) (v := ?v14_57) rfl (by kernel_rfl) (by kernel_rfl) (by kernel_rfl) (fun _ _ _ h => h) (Or.inl ⟨by rfl, ?hy14_57⟩) (by assumption) ?rest14_57
      case hy14_57 => (intro w hSw; (try dsimp only at hSw); go_simp; try (with_reducible rfl))
      simp only [Act.put, List.getElem_toArray, List.getElem_cons_zero, List.getElem_cons_succ, List.setIfInBounds_toArray, List.set_cons_zero, List.set_cons_succ]
      refine wpAnyH_take (i := 15) (v := ?v15_58) rfl (by kernel_rfl) (by kernel_rfl) (by kernel_rfl) (fun _ _ _ h => h) (Or.inl ⟨by rfl, ?hy15_58⟩) (by assumption) ?rest15_58
      case hy15_58 => (intro w hSw; (try dsimp only at hSw); go_simp; try (with_reducible rfl))
      simp only [Act.put, List.getElem_toArray, List.getElem_cons_zero, List.getElem_cons_succ, List.setIfInBounds_toArray, List.set_cons_zero, List.set_cons_succ]
      refine wpAnyH_ready (rs := [5, 17]) (by kernel_rfl) (by simp) ?_
      refine (AllReadyH.cons rfl (fun K hK => ?_) (AllReadyH.cons rfl (fun K hK => ?_) AllReadyH.nil))
      · skip
        go_simp
        refine (N1.out _ hS.2.2.out).mono ?_
        rintro e y1 ⟨rfl, rfl⟩
        go_wp2_with fail
        refine hK.out _ _ ?_ (fun hS' => ?_)
        · exact hS
        clear hK K
        try simp only [Act.put, List.getElem_toArray, List.getElem_cons_zero, List.getElem_cons_succ, List.setIfInBounds_toArray, List.set_cons_zero, List.set_cons_succ]
        replace hS := hS'
        clear hS'
        refine wpAnyH_ready (rs := [10, 17]) (by kernel_rfl) (by simp) ?_
        refine (AllReadyH.cons rfl (fun K hK => ?_) (AllReadyH.cons rfl (fun K hK => ?_) AllReadyH.nil))
        · skip
          go_simp
          refine (N2.out _ hS.2.2.out).mono ?_
          rintro e y1 ⟨rfl, rfl⟩
          go_wp2_with fail
          refine hK.out _ _ ?_ (fun hS' => ?_)
          · exact hS
          clear hK K
          try simp only [Act.put, List.getElem_toArray, List.getElem_cons_zero, List.getElem_cons_succ, List.setIfInBounds_toArray, List.set_cons_zero, List.set_cons_succ]
          replace hS := hS'
          clear hS'
          refine wpAnyH_ready (rs := [16, 17]) (by kernel_rfl) (by simp) ?_
          refine (AllReadyH.cons rfl (fun K hK => ?_) (AllReadyH.cons rfl (fun K hK => ?_) AllReadyH.nil))
          · skip
            go_simp
            refine hK.out _ _ ?_ (fun hS' => ?_)
            · exact hS
            clear hK K
            try simp only [Act.put, List.getElem_toArray, List.getElem_cons_zero, List.getElem_cons_succ, List.setIfInBounds_toArray, List.set_cons_zero, List.set_cons_succ]
            replace hS := hS'
            clear hS'
            refine wpAnyH_ready (rs := [17]) (by kernel_rfl) (by simp) ?_
            refine (AllReadyH.cons rfl (fun K hK => ?_) AllReadyH.nil)
            go_simp
            have hSold := hS
            have hal := hS.2.2.out.trans (((Below.refl wd.heap.size wd).alloc (Nat.le_refl _) (.cells #[.int .i64 0, .int .i64 0, .int .i64 0, .int .i64 0, .int .i64 0, .int .i64 0, .int .i64 0, .int .i64 0, .int .i64 0, .int .i64 0, .slice none 0 0] 26)).mono (Nat.le_of_eq hsz.symm))
            have ha0 := hS.1
            have ha1 := hS.2.1
            refine hK.out _ _ ?_ (fun hS' => ?_)
            · exact ⟨by rw [hal.cell (p := ⟨g, 3, none⟩) hgl, ← hSold.2.2.out.cell (p := ⟨g, 3, none⟩) hgl]; exact ha0, by rw [hal.cell (p := ⟨g, 5, none⟩) hgl, ← hSold.2.2.out.cell (p := ⟨g, 5, none⟩) hgl]; exact ha1, hal⟩
            clear hK K
            try simp only [Act.put, List.getElem_toArray, List.getElem_cons_zero, List.getElem_cons_succ, List.setIfInBounds_toArray, List.set_cons_zero, List.set_cons_succ]
            replace hS := hS'
            clear hS'
            refine wpAnyH_ready (rs := [18]) (by kernel_rfl) (by simp) ?_
            refine (AllReadyH.cons rfl (fun K hK => ?_) AllReadyH.nil)
            go_simp
            have hal2 := hSold.2.2.out.trans (((Below.refl wd.heap.size wd).alloc (Nat.le_refl _) (.cells #[.int .i64 kind, .int .i64 z1, .int .i64 z2, .int .i64 (z3 / 16), .int .i64 (z3 % 16), .int .i64 0, .int .i64 0, .int .i64 0, .int .i64 0, .int .i64 0, .slice none 0 0] 26)).mono (Nat.le_of_eq hsz.symm))
            have hbx := heap_alloc_new wd (.cells #[.int .i64 kind, .int .i64 z1, .int .i64 z2, .int .i64 (z3 / 16), .int .i64 (z3 % 16), .int .i64 0, .int .i64 0, .int .i64 0, .int .i64 0, .int .i64 0, .slice none 0 0] 26)
            rw [hsz] at hbx
            refine hK.out _ _ ?_ (fun hS' => ?_)
            · exact ⟨by rw [hal2.cell (p := ⟨g, 3, none⟩) hgl, ← hSold.2.2.out.cell (p := ⟨g, 3, none⟩) hgl]; exact hSold.1, by rw [hal2.cell (p := ⟨g, 5, none⟩) hgl, ← hSold.2.2.out.cell (p := ⟨g, 5, none⟩) hgl]; exact hSold.2.1, hal2⟩
            clear hK K
            try simp only [Act.put, List.getElem_toArray, List.getElem_cons_zero, List.getElem_cons_succ, List.setIfInBounds_toArray, List.set_cons_zero, List.set_cons_succ]
            replace hS := hS'
            clear hS'
            refine wpAnyH_done (by kernel_rfl) ?_ _
            go_wp2_with fail
            go_meet
            exact ⟨by first | rfl | rw [hsz], hal2, hbx⟩
          · skip
            go_simp
            have hSold := hS
            have hal := hS.2.2.out.trans (((Below.refl wd.heap.size wd).alloc (Nat.le_refl _) (.cells #[.int .i64 0, .int .i64 0, .int .i64 0, .int .i64 0, .int .i64 0, .int .i64 0, .int .i64 0, .int .i64 0, .int .i64 0, .int .i64 0, .slice none 0 0] 26)).mono (Nat.le_of_eq hsz.symm))
            have ha0 := hS.1
            have ha1 := hS.2.1
            refine hK.out _ _ ?_ (fun hS' => ?_)
            · exact ⟨by rw [hal.cell (p := ⟨g, 3, none⟩) hgl, ← hSold.2.2.out.cell (p := ⟨g, 3, none⟩) hgl]; exact ha0, by rw [hal.cell (p := ⟨g, 5, none⟩) hgl, ← hSold.2.2.out.cell (p := ⟨g, 5, none⟩) hgl]; exact ha1, hal⟩
            clear hK K
            try simp only [Act.put, List.getElem_toArray, List.getElem_cons_zero, List.getElem_cons_succ, List.setIfInBounds_toArray, List.set_cons_zero, List.set_cons_succ]
            replace hS := hS'
            clear hS'
            refine wpAnyH_ready (rs := [16]) (by kernel_rfl) (by simp) ?_
            refine (AllReadyH.cons rfl (fun K hK => ?_) AllReadyH.nil)
            go_simp
            refine hK.out _ _ ?_ (fun hS' => ?_)
            · exact hS
            clear hK K
            try simp only [Act.put, List.getElem_toArray, List.getElem_cons_zero, List.getElem_cons_succ, List.setIfInBounds_toArray, List.set_cons_zero, List.set_cons_succ]
            replace hS := hS'
            clear hS'
            refine wpAnyH_ready (rs := [18]) (by kernel_rfl) (by simp) ?_
            refine (AllReadyH.cons rfl (fun K hK => ?_) AllReadyH.nil)
            go_simp
            have hal2 := hSold.2.2.out.trans (((Below.refl wd.heap.size wd).alloc (Nat.le_refl _) (.cells #[.int .i64 kind, .int .i64 z1, .int .i64 z2, .int .i64 (z3 / 16), .int .i64 (z3 % 16), .int .i64 0, .int .i64 0, .int .i64 0, .int .i64 0, .int .i64 0, .slice none 0 0] 26)).mono (Nat.le_of_eq hsz.symm))
            have hbx := heap_alloc_new wd (.cells #[.int .i64 kind, .int .i64 z1, .int .i64 z2, .int .i64 (z3 / 16), .int .i64 (z3 % 16), .int .i64 0, .int .i64 0, .int .i64 0, .int .i64 0, .int .i64 0, .slice none 0 0] 26)
            rw [hsz] at hbx
            refine hK.out _ _ ?_ (fun hS' => ?_)
            · exact ⟨by rw [hal2.cell (p := ⟨g, 3, none⟩) hgl, ← hSold.2.2.out.cell (p := ⟨g, 3, none⟩) hgl]; exact hSold.1, by rw [hal2.cell (p := ⟨g, 5, none⟩) hgl, ← hSold.2.2.out.cell (p := ⟨g, 5, none⟩) hgl]; exact hSold.2.1, hal2⟩
            clear hK K
            try simp only [Act.put, List.getElem_toArray, List.getElem_cons_zero, List.getElem_cons_succ, List.setIfInBounds_toArray, List.set_cons_zero, List.set_cons_succ]
            replace hS := hS'
            clear hS'
            refine wpAnyH_done (by kernel_rfl) ?_ _
            go_wp2_with fail
            go_meet
            exact ⟨by first | rfl | rw [hsz], hal2, hbx⟩
        · skip
          go_simp
          have hSold := hS
          have hal := hS.2.2.out.trans (((Below.refl wd.heap.size wd).alloc (Nat.le_refl _) (.cells #[.int .i64 0, .int .i64 0, .int .i64 0, .int .i64 0, .int .i64 0, .int .i64 0, .int .i64 0, .int .i64 0, .int .i64 0, .int .i64 0, .slice none 0 0] 26)).mono (Nat.le_of_eq hsz.symm))
          have ha0 := hS.1
          have ha1 := hS.2.1
          refine hK.out _ _ ?_ (fun hS' => ?_)
          · exact ⟨by rw [hal.cell (p := ⟨g, 3, none⟩) hgl, ← hSold.2.2.out.cell (p := ⟨g, 3, none⟩) hgl]; exact ha0, by rw [hal.cell (p := ⟨g, 5, none⟩) hgl, ← hSold.2.2.out.cell (p := ⟨g, 5, none⟩) hgl]; exact ha1, hal⟩
          clear hK K
          try simp only [Act.put, List.getElem_toArray, List.getElem_cons_zero, List.getElem_cons_succ, List.setIfInBounds_toArray, List.set_cons_zero, List.set_cons_succ]
          replace hS := hS'
          clear hS'
          refine wpAnyH_ready (rs := [10]) (by kernel_rfl) (by simp) ?_
          refine (AllReadyH.cons rfl (fun K hK => ?_) AllReadyH.nil)
          go_simp
          refine (N2.out _ hS.2.2.out).mono ?_
          rintro e y1 ⟨rfl, rfl⟩
          go_wp2_with fail
          refine hK.out _ _ ?_ (fun hS' => ?_)
          · exact hS
          clear hK K
          try simp only [Act.put, List.getElem_toArray, List.getElem_cons_zero, List.getElem_cons_succ, List.setIfInBounds_toArray, List.set_cons_zero, List.set_cons_succ]
          replace hS := hS'
          clear hS'
          refine wpAnyH_ready (rs := [16]) (by kernel_rfl) (by simp) ?_
          refine (AllReadyH.cons rfl (fun K hK => ?_) AllReadyH.nil)
          go_simp
          refine hK.out _ _ ?_ (fun hS' => ?_)
          · exact hS
          clear hK K
          try simp only [Act.put, List.getElem_toArray, List.getElem_cons_zero, List.getElem_cons_succ, List.setIfInBounds_toArray, List.set_cons_zero, List.set_cons_succ]
          replace hS := hS'
          clear hS'
          refine wpAnyH_ready (rs := [18]) (by kernel_rfl) (by simp) ?_
          refine (AllReadyH.cons rfl (fun K hK => ?_) AllReadyH.nil)
          go_simp
          have hal2 := hSold.2.2.out.trans (((Below.refl wd.heap.size wd).alloc (Nat.le_refl _) (.cells #[.int .i64 kind, .int .i64 z1, .int .i64 z2, .int .i64 (z3 / 16), .int .i64 (z3 % 16), .int .i64 0, .int .i64 0, .int .i64 0, .int .i64 0, .int .i64 0, .slice none 0 0] 26)).mono (Nat.le_of_eq hsz.symm))
          have hbx := heap_alloc_new wd (.cells #[.int .i64 kind, .int .i64 z1, .int .i64 z2, .int .i64 (z3 / 16), .int .i64 (z3 % 16), .int .i64 0, .int .i64 0, .int .i64 0, .int .i64 0, .int .i64 0, .slice none 0 0] 26)
          rw [hsz] at hbx
          refine hK.out _ _ ?_ (fun hS' => ?_)
          · exact ⟨by rw [hal2.cell (p := ⟨g, 3, none⟩) hgl, ← hSold.2.2.out.cell (p := ⟨g, 3, none⟩) hgl]; exact hSold.1, by rw [hal2.cell (p := ⟨g, 5, none⟩) hgl, ← hSold.2.2.out.cell (p := ⟨g, 5, none⟩) hgl]; exact hSold.2.1, hal2⟩
          clear hK K
          try simp only [Act.put, List.getElem_toArray, List.getElem_cons_zero, List.getElem_cons_succ, List.setIfInBounds_toArray, List.set_cons_zero, List.set_cons_succ]
          replace hS := hS'
          clear hS'
          refine wpAnyH_done (by kernel_rfl) ?_ _
          go_wp2_with fail
          go_meet
          exact ⟨by first | rfl | rw [hsz], hal2, hbx⟩
      · skip
        go_simp
        have hSold := hS
        have hal := hS.2.2.out.trans (((Below.refl wd.heap.size wd).alloc (Nat.le_refl _) (.cells #[.int .i64 0, .int .i64 0, .int .i64 0, .int .i64 0, .int .i64 0, .int .i64 0, .int .i64 0, .int .i64 0, .int .i64 0, .int .i64 0, .slice none 0 0] 26)).mono (Nat.le_of_eq hsz.symm))
        have ha0 := hS.1
        have ha1 := hS.2.1
        refine hK.out _ _ ?_ (fun hS' => ?_)
        · exact ⟨by rw [hal.cell (p := ⟨g, 3, none⟩) hgl, ← hSold.2.2.out.cell (p := ⟨g, 3, none⟩) hgl]; exact ha0, by rw [hal.cell (p := ⟨g, 5, none⟩) hgl, ← hSold.2.2.out.cell (p := ⟨g, 5, none⟩) hgl]; exact ha1, hal⟩
        clear hK K
        try simp only [Act.put, List.getElem_toArray, List.getElem_cons_zero, List.getElem_cons_succ, List.setIfInBounds_toArray, List.set_cons_zero, List.set_cons_succ]
        replace hS := hS'
        clear hS'
        refine wpAnyH_ready (rs := [5]) (by kernel_rfl) (by simp) ?_
        refine (AllReadyH.cons rfl (fun K hK => ?_) AllReadyH.nil)
        go_simp
        refine (N1.out _ hS.2.2.out).mono ?_
        rintro e y1 ⟨rfl, rfl⟩
        go_wp2_with fail
        refine hK.out _ _ ?_ (fun hS' => ?_)
        · exact hS
        clear hK K
        try simp only [Act.put, List.getElem_toArray, List.getElem_cons_zero, List.getElem_cons_succ, List.setIfInBounds_toArray, List.set_cons_zero, List.set_cons_succ]
        replace hS := hS'
        clear hS'
        refine wpAnyH_ready (rs := [10]) (by kernel_rfl) (by simp) ?_
        refine (AllReadyH.cons rfl (fun K hK => ?_) AllReadyH.nil)
        go_simp
        refine (N2.out _ hS.2.2.out).mono ?_
        rintro e y1 ⟨rfl, rfl⟩
        go_wp2_with fail
        refine hK.out _ _ ?_ (fun hS' => ?_)
        · exact hS
        clear hK K
        try simp only [Act.put, List.getElem_toArray, List.getElem_cons_zero, List.getElem_cons_succ, List.setIfInBounds_toArray, List.set_cons_zero, List.set_cons_succ]
        replace hS := hS'
        clear hS'
        refine wpAnyH_ready (rs := [16]) (by kernel_rfl) (by simp) ?_
        refine (AllReadyH.cons rfl (fun K hK => ?_) AllReadyH.nil)
        go_simp
        refine hK.out _ _ ?_ (fun hS' => ?_)
        · exact hS
        clear hK K
        try simp only [Act.put, List.getElem_toArray, List.getElem_cons_zero, List.getElem_cons_succ, List.setIfInBounds_toArray, List.set_cons_zero, List.set_cons_succ]
        replace hS := hS'
        clear hS'
        refine wpAnyH_ready (rs := [18]) (by kernel_rfl) (by simp) ?_
        refine (AllReadyH.cons rfl (fun K hK => ?_) AllReadyH.nil)
        go_simp
        have hal2 := hSold.2.2.out.trans (((Below.refl wd.heap.size wd).alloc (Nat.le_refl _) (.cells #[.int .i64 kind, .int .i64 z1, .int .i64 z2, .int .i64 (z3 / 16), .int .i64 (z3 % 16), .int .i64 0, .int .i64 0, .int .i64 0, .int .i64 0, .int .i64 0, .slice none 0 0] 26)).mono (Nat.le_of_eq hsz.symm))
        have hbx := heap_alloc_new wd (.cells #[.int .i64 kind, .int .i64 z1, .int .i64 z2, .int .i64 (z3 / 16), .int .i64 (z3 % 16), .int .i64 0, .int .i64 0, .int .i64 0, .int .i64 0, .int .i64 0, .slice none 0 0] 26)
        rw [hsz] at hbx
        refine hK.out _ _ ?_ (fun hS' => ?_)
        · exact ⟨by rw [hal2.cell (p := ⟨g, 3, none⟩) hgl, ← hSold.2.2.out.cell (p := ⟨g, 3, none⟩) hgl]; exact hSold.1, by rw [hal2.cell (p := ⟨g, 5, none⟩) hgl, ← hSold.2.2.out.cell (p := ⟨g, 5, none⟩) hgl]; exact hSold.2.1, hal2⟩
        clear hK K
        try simp only [Act.put, List.getElem_toArray, List.getElem_cons_zero, List.getElem_cons_succ, List.setIfInBounds_toArray, List.set_cons_zero, List.set_cons_succ]
        replace hS := hS'
        clear hS'
        refine wpAnyH_done (by kernel_rfl) ?_ _
        go_wp2_with fail
        go_meet
        exact ⟨by first | rfl | rw [hsz], hal2, hbx⟩
    case rest =>
    obtain ⟨rfl, HB7, HG7⟩ := hcut
    clear N1 N2 F1 F2
    have HST := Hid.mk' (hd_start kind (kys L))
    have hw6 : w.heap.size < x6.heap.size := box_lt HQ6.out.res
    go_wp2_with fail
    go_loopw [11] (fun i W => ∃ (k : Nat) (pr : Option Addr) (cr : Nat) (rs : List Rc), 4 ≤ k ∧ k ≤ L.length ∧ i = .int .i64 k ∧ rs.length ≤ k ∧ Hid (Below x6.heap.size x6 W) ∧ Hid (W.heap[x6.heap.size]? = some (.cells #[.int .i64 kind, .int .i64 z1, .int .i64 z2, .int .i64 (z3 / 16), .int .i64 (z3 % 16), .int .i64 (seqA kind (kys L) k), .int .i64 (tgtA kind (kys L) k), .int .i64 0, .int .i64 0, .int .i64 0, .slice pr rs.length cr] 26 (0, 0))) ∧ Hid (OwnB (x6.heap.size + 1) W (.slice pr rs.length cr) rs) ∧ Hid (∀ r ∈ rs, (∀ i, RMem r i → x6.heap.size < i) ∧ szK (kys r.bag) ≤ 4611686018427387904) ∧ Hid (recsF2 (kys ((L.take k).drop (hdT kind).length)) = some (rks rs)) ∧ Hid ((0 ≤ seqA kind (kys L) k ∧ seqA kind (kys L) k ≤ 65535) ∧ (0 ≤ tgtA kind (kys L) k ∧ tgtA kind (kys L) k ≤ 65535))) (fun i _ => L.length - (intOf i).toNat)
    case atStart => exact ⟨4, none, 0, [], by omega, by omega, rfl, by simp, HB7, by rw [HST.out.1, HST.out.2]; exact HG7, OwnB.nil _ _, by simp [Hid], by show _ = _; rw [List.drop_of_length_le (by rw [List.length_take]; omega)]; rfl, by show _ ∧ _; rw [HST.out.1, HST.out.2]; omega⟩
    case round =>
      obtain ⟨k, pr, cr, rs, h4k, hk, rfl, hrsk, HB, HG, HO, HH, HR, HBD⟩ := hrel
      clear HB7 HG7
      obtain ⟨s1', hs1'⟩ : ∃ z, seqA kind (kys L) k = z := ⟨_, rfl⟩
      obtain ⟨t1', ht1'⟩ : ∃ z, tgtA kind (kys L) k = z := ⟨_, rfl⟩
      rw [hs1', ht1'] at HG HBD
      have HS1 := Hid.mk' hs1'
      have HT1 := Hid.mk' ht1'
      clear hs1' ht1'
      by_cases t : k < L.length
      · obtain ⟨f0, f1, hok⟩ := HFX.out wr HB.out k t
        have hdl := HZL.out k t
        by_cases tn : k < (hdT kind).length
        · obtain ⟨w2, hrd⟩ := hd_round kind (kys L) k h4k tn
          obtain ⟨hyt, hyd⟩ := HRG.out k tn
          rw [w2] at hyd
          rw [atK_kys, HS1.out, HT1.out] at hrd
          obtain ⟨bt, ot, hbt, hct⟩ := (HN6.out.below HB.out) (by rw [List.length_map]; omega)
          have ft := hct k (by rw [List.length_map]; exact tn)
          rw [show ((hdT kind).map (·.1)).getD k 0 = ((hdT kind).getD k (0, 0)).1 by simp [List.getD, tn]] at ft
          have NK := lnum2_any (L.getD k zf).p (L.getD k zf).cap (L.getD k zf).d wr hok.bin hok.isb (by omega)
          have HD2 := Hid.mk' (show (L.take (k + 1)).drop (hdT kind).length = [] ∧ (L.take k).drop (hdT kind).length = [] from ⟨List.drop_of_length_le (by rw [List.length_take]; omega), List.drop_of_length_le (by rw [List.length_take]; omega)⟩)
          have HRD := Hid.mk' hrd
          have hzk := numB_bound _ hok.isb
          rw [hyd] at hzk
          generalize ((hdT kind).getD k (0, 0)).1 = tk at ft hrd HRD hyt
          generalize numB (L.getD k zf).d = zk at NK hrd HRD hzk
          generalize L.getD k zf = y at f0 f1 hok hdl hyt hyd NK
          rw [hyd] at f1 NK
          have kl : (k : Int) < L.length := by omega
          have kn : (k : Int) < (hdT kind).length := by omega
          obtain ⟨c0', c1', c2', c3', c4', c5', c6', c7', c8', c9', c10'⟩ := mbox_cells (m := ⟨kind, z1, z2, z3 / 16, z3 % 16, s1', t1', 0, 0, 0, pr, cr, rs⟩) HG.out
          have fz5 : wr.frozen? ⟨x6.heap.size, 5, none⟩ = false := by simp [World.frozen?, HG.out]
          have fz6 : wr.frozen? ⟨x6.heap.size, 6, none⟩ = false := by simp [World.frozen?, HG.out]
          subst hbt
          clear hct hok hyt w2 hrd
          by_cases u5 : tk = 5
          · have d5 : (tk == 5) = true := by simpa using u5
            have hrd : seqA kind (kys L) (k + 1) = zk ∧ tgtA kind (kys L) (k + 1) = t1' := by
              rcases HRD.out with ⟨_, h1, h2⟩ | ⟨h1, _⟩
              · exact ⟨h1, h2⟩
              · exact absurd u5 h1
            have HRE := Hid.mk' hrd
            have fs := (Fr.refl (fun i => i = x6.heap.size) wr).setCell (p := ⟨x6.heap.size, 5, none⟩) (.inl rfl) (.int .i64 zk)
            have HB9 := Hid.mk' (show Below x6.heap.size x6 (wr.setCell ⟨x6.heap.size, 5, none⟩ (.int .i64 zk)) from HB.out.setCell (Nat.le_refl _) _)
            have HG9 := Hid.mk' (show (wr.setCell ⟨x6.heap.size, 5, none⟩ (.int .i64 zk)).heap[x6.heap.size]? = some (.cells #[.int .i64 kind, .int .i64 z1, .int .i64 z2, .int .i64 (z3 / 16), .int .i64 (z3 % 16), .int .i64 zk, .int .i64 t1', .int .i64 0, .int .i64 0, .int .i64 0, .slice pr rs.length cr] 26 (0, 0)) by simp [World.setCell, Array.getElem?_modify, HG.out])
            have HO9 := Hid.mk' (HO.out.fr fs (fun g' hg' q => by have := HO.out.own.above g' hg'; omega) (fun r hr i hi q => by have := (HH.out r hr).1 i hi; omega))
            have HR9 := Hid.mk' (show recsF2 (kys ((L.take (k + 1)).drop (hdT kind).length)) = some (rks rs) by rw [HD2.out.1, ← HD2.out.2]; exact HR.out)
            have HBE := Hid.mk' (show (0 ≤ zk ∧ zk ≤ 65535) ∧ (0 ≤ t1' ∧ t1' ≤ 65535) from ⟨by omega, HBD.out.2⟩)
            clear hrd fs u5 HRD HO HR HB HBD
            go_wp2_with fail
            refine NK.mono ?_
            clear NK
            rintro e x8 ⟨rfl, rfl⟩
            go_wp2_with fail
            go_roundw
            case rel => exact ⟨k + 1, pr, cr, rs, by omega, by omega, by go_num, by omega, HB9, by rw [HRE.out.1, HRE.out.2]; exact HG9, HO9, HH, HR9, by rw [HRE.out.1, HRE.out.2]; exact HBE⟩
            case measure => simp [intOf]; omega
          · have d5 : (tk == 5) = false := by simpa using u5
            have hrd : tgtA kind (kys L) (k + 1) = zk ∧ seqA kind (kys L) (k + 1) = s1' := by
              rcases HRD.out with ⟨h1, _⟩ | ⟨_, h1, h2⟩
              · exact absurd h1 u5
              · exact ⟨h1, h2⟩
            have HRE := Hid.mk' hrd
            have fs := (Fr.refl (fun i => i = x6.heap.size) wr).setCell (p := ⟨x6.heap.size, 6, none⟩) (.inl rfl) (.int .i64 zk)
            have HB9 := Hid.mk' (show Below x6.heap.size x6 (wr.setCell ⟨x6.heap.size, 6, none⟩ (.int .i64 zk)) from HB.out.setCell (Nat.le_refl _) _)
            have HG9 := Hid.mk' (show (wr.setCell ⟨x6.heap.size, 6, none⟩ (.int .i64 zk)).heap[x6.heap.size]? = some (.cells #[.int .i64 kind, .int .i64 z1, .int .i64 z2, .int .i64 (z3 / 16), .int .i64 (z3 % 16), .int .i64 s1', .int .i64 zk, .int .i64 0, .int .i64 0, .int .i64 0, .slice pr rs.length cr] 26 (0, 0)) by simp [World.setCell, Array.getElem?_modify, HG.out])
            have HO9 := Hid.mk' (HO.out.fr fs (fun g' hg' q => by have := HO.out.own.above g' hg'; omega) (fun r hr i hi q => by have := (HH.out r hr).1 i hi; omega))
            have HR9 := Hid.mk' (show recsF2 (kys ((L.take (k + 1)).drop (hdT kind).length)) = some (rks rs) by rw [HD2.out.1, ← HD2.out.2]; exact HR.out)
            have HBE := Hid.mk' (show (0 ≤ s1' ∧ s1' ≤ 65535) ∧ (0 ≤ zk ∧ zk ≤ 65535) from ⟨HBD.out.1, by omega⟩)
            clear hrd fs u5 HRD HO HR HB HBD
            go_wp2_with fail
            refine NK.mono ?_
            clear NK
            rintro e x8 ⟨rfl, rfl⟩
            go_wp2_with fail
            go_roundw
            case rel => exact ⟨k + 1, pr, cr, rs, by omega, by omega, by go_num, by omega, HB9, by rw [HRE.out.1, HRE.out.2]; exact HG9, HO9, HH, HR9, by rw [HRE.out.1, HRE.out.2]; exact HBE⟩
            case measure => simp [intOf]; omega
        · have RC := lrecord2_any (L.getD k zf).p (L.getD k zf).cap (L.getD k zf).d wr hok.bin hok.isb hdl
          have HFK := Hid.mk' (fun X (h : Below x6.heap.size x6 X) => HFX.out X h k t)
          have HPS := Hid.mk' (hd_past kind (kys L) k h4k (by omega))
          have HNX := Hid.mk' (dropN_next L (hdT kind).length k (by omega) t)
          have HSP := Hid.mk' (dropN_split L (hdT kind).length k (by omega) t)
          have kl : (k : Int) < L.length := by omega
          have kn : ¬ (k : Int) < (hdT kind).length := by omega
          have HGW := Hid.mk' (box_lt HG.out)
          generalize L.getD k zf = y at f0 f1 hok hdl RC HFK HNX HSP
          clear hok hdl
          go_wp2_with fail
          refine RC.mono ?_
          clear RC f0 f1
          rintro e x8 ⟨r, ok, rfl, hrok, hrm, hrs, hb8, hres⟩
          have hba := (Below.refl x8.heap.size x8).alloc (Nat.le_refl _) (.cells #[.int .i64 r.id, .int .i64 r.inc, .int .i64 r.st, .int .i64 r.lo, .int .i64 r.hi, .bool r.cut, .slice r.p r.bag.length r.cap] 44)
          have hbr := heap_alloc_new x8 (.cells #[.int .i64 r.id, .int .i64 r.inc, .int .i64 r.st, .int .i64 r.lo, .int .i64 r.hi, .bool r.cut, .slice r.p r.bag.length r.cap] 44)
          have HBa := Hid.mk' ((HB.out.trans (hb8.mono HB.out.size)).trans (hba.mono (Nat.le_trans HB.out.size hb8.size)))
          have HGa := Hid.mk' (box_bel (box_bel HG.out hb8) hba)
          have HOa := Hid.mk' ((HO.out.on hb8).on hba)
          have HRa := Hid.mk' (hrok.below hba)
          have HRM := Hid.mk' hrm
          have HRS := Hid.mk' hrs
          have HRES := Hid.mk' hres
          have HOL := Hid.mk' (show ∀ i, RMem r i → (Value.slice pr rs.length cr).ownBlock ≠ some i from fun i hi q => by
            have h1 := own_lt HO.out.own i q
            have h2 := hrm i hi
            omega)
          have HBX := Hid.mk' hbr
          have hax : (x8.alloc (.cells #[.int .i64 r.id, .int .i64 r.inc, .int .i64 r.st, .int .i64 r.lo, .int .i64 r.hi, .bool r.cut, .slice r.p r.bag.length r.cap] 44)).heap.size = x8.heap.size + 1 := by simp
          obtain ⟨x9, hx9⟩ : ∃ x, x8.alloc (.cells #[.int .i64 r.id, .int .i64 r.inc, .int .i64 r.st, .int .i64 r.lo, .int .i64 r.hi, .bool r.cut, .slice r.p r.bag.length r.cap] 44) = x := ⟨_, rfl⟩
          rw [hx9] at HBa HGa HOa HRa HBX hax
          obtain ⟨f0, f1, _⟩ := HFK.out x9 HBa.out
          clear hrok hrm hrs hb8 hres hba hbr HB HG HO
          by_cases ug : y.tag = 7 ∧ ok = true
          · obtain ⟨u7, rfl⟩ := ug
            have d7 : (y.tag != 7) = false := by simpa using u7
            have hun : unrec y.d = some (rk r) := by
              rcases HRES.out with ⟨_, h⟩ | ⟨h, _⟩
              · exact h
              · cases h
            have HR9 := Hid.mk' (show recsF2 (kys ((L.take (k + 1)).drop (hdT kind).length)) = some (rks (rs ++ [r])) by
              rw [HNX.out, rks_append]
              exact recsF2_snoc HR.out u7 hun)
            obtain ⟨q0, q1, q2, q3, q4, q5, q6⟩ := box_cells HBX.out
            obtain ⟨c0', c1', c2', c3', c4', c5', c6', c7', c8', c9', c10'⟩ := mbox_cells (m := ⟨kind, z1, z2, z3 / 16, z3 % 16, s1', t1', 0, 0, 0, pr, cr, rs⟩) HGa.out
            clear u7 hun HRES HR HNX HSP HFK
            subst hx9
            go_wp2_with (at_builtin; refine wpList_addB (g := x8.heap.size + 1) (by rfl) (.tmp 133) (.tmp 135) (by rfl) (by rfl) HOa.out (box_lt HGa.out) r HRa.out HOL.out (by simp) (by rfl) (by omega) ?_)
            intro v8 w8 hO8 hB8
            obtain ⟨p8, c8, rfl, _⟩ := hO8.own.slice
            have e1 : (rs ++ [r]).length = rs.length + 1 := by simp
            have HB8 := Hid.mk' (HBa.out.trans (hB8.mono (Nat.le_succ _)))
            have HG8 : Hid (w8.heap[x6.heap.size]? = some (.cells #[.int .i64 kind, .int .i64 z1, .int .i64 z2, .int .i64 (z3 / 16), .int .i64 (z3 % 16), .int .i64 s1', .int .i64 t1', .int .i64 0, .int .i64 0, .int .i64 0, .slice pr rs.length cr] 26 (0, 0))) := (hB8.block x6.heap.size (Nat.lt_succ_self _)).trans HGa.out
            have HO8 := Hid.mk' hO8
            have c68 : w8.cell? ⟨x6.heap.size, 10, none⟩ = some (.slice pr rs.length cr) := by simp [World.cell?, HG8.out]
            have f68 : w8.frozen? ⟨x6.heap.size, 10, none⟩ = false := by simp [World.frozen?, HG8.out]
            have HH9 := Hid.mk' (show ∀ r' ∈ rs ++ [r], (∀ i, RMem r' i → x6.heap.size < i) ∧ szK (kys r'.bag) ≤ 4611686018427387904 from fun r' hr' => by
              rcases List.mem_append.1 hr' with q | q
              · exact HH.out r' q
              · simp at q; subst q; exact ⟨fun i hi => by have h1 := HRM.out i hi; have h2 := HGW.out; omega, HRS.out⟩)
            have fs := (Fr.refl (fun i => i = x6.heap.size) w8).setCell (p := ⟨x6.heap.size, 10, none⟩) (.inl rfl) (.slice p8 (rs ++ [r]).length c8)
            have HB9 := Hid.mk' (show Below x6.heap.size x6 (w8.setCell ⟨x6.heap.size, 10, none⟩ (.slice p8 (rs ++ [r]).length c8)) from HB8.out.setCell (Nat.le_refl _) _)
            have HG9 := Hid.mk' (show (w8.setCell ⟨x6.heap.size, 10, none⟩ (.slice p8 (rs ++ [r]).length c8)).heap[x6.heap.size]? = some (.cells #[.int .i64 kind, .int .i64 z1, .int .i64 z2, .int .i64 (z3 / 16), .int .i64 (z3 % 16), .int .i64 s1', .int .i64 t1', .int .i64 0, .int .i64 0, .int .i64 0, .slice p8 (rs ++ [r]).length c8] 26 (0, 0)) by simp [World.setCell, Array.getElem?_modify, HG8.out])
            have HO9 := Hid.mk' (HO8.out.fr fs (fun g' hg' q => by have := HO8.out.own.above g' hg'; omega) (fun r' hr' i hi q => by have := (HH9.out r' hr').1 i hi; omega))
            have HE1 := Hid.mk' e1
            clear hO8 hB8 HO8 HG8 HB8 fs e1 HBX HOa HGa HBa HRa HRM HRS HOL q0 q1 q2 q3 q4 q5 q6 c0' c1' c2' c3' c4' c5' c6' c7' c8' c9' c10' hax f0 f1
            generalize rs ++ [r] = rs2 at HR9 HH9 HB9 HG9 HO9 HE1 ⊢
            go_wp2_with fail
            go_roundw
            case rel => exact ⟨k + 1, p8, c8, rs2, by omega, by omega, by go_num, by rw [HE1.out]; omega, HB9, by rw [HPS.out.1, HPS.out.2, HS1.out, HT1.out]; exact HG9, HO9, HH9, HR9, by rw [HPS.out.1, HPS.out.2, HS1.out, HT1.out]; exact HBD⟩
            case measure => simp [intOf]; omega
          · have hbad : recsF2 (kys (L.drop (hdT kind).length)) = none := by
              rw [HSP.out]
              refine recsF2_bad ?_
              by_cases u7 : y.tag = 7
              · right
                rcases HRES.out with ⟨h, _⟩ | ⟨_, h⟩
                · exact absurd ⟨u7, h⟩ ug
                · exact h
              · exact .inl u7
            have hno2 : ∀ x, ¬ Read2 l x := fun x h => by
              obtain ⟨_, _, h3, h4, _, h6, _⟩ := read2_inv h
              rw [HKD.out] at h3
              rw [HSL.out] at h4
              have e := Option.some.inj h4
              rw [← e, ← h3, show (kys L).drop (hdT kind).length = kys (L.drop (hdT kind).length) by simp [kys], hbad] at h6
              cases h6
            have HQ := Hid.mk' (HNO.out x9 (HQ6.out.below.trans (HBa.out.mono HQ6.out.below.size)) hno2)
            have hres := (HBa.out.block w.heap.size hw6).trans HQ6.out.res
            have HCC : Hid ((y.tag != 7) = true ∨ ((y.tag != 7) = false ∧ ok = false)) := by
              by_cases u7 : y.tag = 7
              · right
                refine ⟨by simpa using u7, ?_⟩
                cases ok
                · rfl
                · exact absurd ⟨u7, rfl⟩ ug
              · left; simpa using u7
            clear hbad hno2 ug HRES HR HNX HSP HFK HBX HOa HGa HRa HRM HRS HOL
            subst hx9
            rcases HCC.out with d7 | ⟨d7, rfl⟩
            all_goals
              go_wp2_with (refine wpList_store_row rfl 26 (.tmp 2) (.tmp 131) rfl w.heap.size #[.int .i64 0, .int .i64 0, .int .i64 0, .int .i64 0, .int .i64 0, .int .i64 0, .int .i64 0, .int .i64 0, .int .i64 0, .int .i64 0, .slice none 0 0] rfl rfl 26 #[.int .i64 0, .int .i64 0, .int .i64 0, .int .i64 0, .int .i64 0, .int .i64 0, .int .i64 0, .int .i64 0, .int .i64 0, .int .i64 0, .slice none 0 0] hres (by kernel_rfl) rfl (by simp [Value.oneCell']) ?_; rw [setRow_self _ _ _ _ _ hres])
              try rw [Exit.noGoto_ret]
              obtain ⟨r0, r1, r2, r3, r4, r5, r6, r7, r8, r9, r10⟩ := mbox_cells (m := zm) hres
              simp only [zm, List.length_nil] at r0 r1 r2 r3 r4 r5 r6 r7 r8 r9 r10
              exact bodyPost_ret (v := .tuple #[.agg #[.int .i64 0, .int .i64 0, .int .i64 0, .int .i64 0, .int .i64 0, .int .i64 0, .int .i64 0, .int .i64 0, .int .i64 0, .int .i64 0, .slice none 0 0], .bool false]) (by simp [results, Tryd.results16, go_sem, r0, r1, r2, r3, r4, r5, r6, r7, r8, r9, r10]) rfl HQ.out
      · obtain rfl : k = L.length := by omega
        rw [List.take_of_length_le (Nat.le_refl _)] at HR
        obtain ⟨q9, k9, e9, hri, hq0, hlr, hmr⟩ := HO.out.rin
        simp only [Value.slice.injEq, true_and] at e9
        obtain ⟨rfl, rfl⟩ := e9
        obtain ⟨m, hm⟩ : ∃ m : Mg, m = ⟨kind, z1, z2, z3 / 16, z3 % 16, s1', t1', 0, 0, 0, pr, cr, rs⟩ := ⟨_, rfl⟩
        have hmv : mv m = mkV kind (kys L) (rks rs) := by rw [HMK.out, HS1.out, HT1.out, hm]; rfl
        have hbd := HBD.out
        have hkb := HKB.out
        have z0 : (Lit.int .i64 0).wf = true := by decide
        have hmok : MOk wr m := by
          rw [hm]
          exact ⟨small_wf (z := kind) (by omega) (by omega), small_wf (z := z1) I1.1 (by omega), small_wf (z := z2) I2.1 (by omega), small_wf (z := z3 / 16) (by omega) (by omega), small_wf (z := z3 % 16) (by omega) (by omega), small_wf (z := s1') (by omega) (by omega), small_wf (z := t1') (by omega) (by omega), z0, z0, z0, hlr, hmr, hq0, hri⟩
        have hsm : ∀ x ∈ m.recs, szK (kys x.bag) ≤ 4611686018427387904 := by rw [hm]; exact fun x hx => (HH.out x hx).2
        have HUQ := Hid.mk' (show ∀ x, Read2 l x → x = mv m from fun x h => by
          obtain ⟨_, _, h3, h4, _, h6, h7⟩ := read2_inv h
          rw [HKD.out] at h3
          rw [HSL.out] at h4
          have e := Option.some.inj h4
          rw [← e, ← h3, show (kys L).drop (hdT kind).length = kys (L.drop (hdT kind).length) by simp [kys], HR.out] at h6
          rw [← h7, ← h3, ← e, ← Option.some.inj h6, hmv])
        have HRD := Hid.mk' (show mayM m = true → kind ≠ 9 → Read2 l (mv m) from fun hy h9 => by
          have := read2_of (b := l) (l := kys L) (rs := rks rs) HIB.out HLEN.out.2 HSL.out (by rw [HKD.out]; exact HRL.out) (by rw [HKD.out, show (kys L).drop (hdT kind).length = kys (L.drop (hdT kind).length) by simp [kys]]; exact HR.out) (by rw [HKD.out, ← hmv]; exact (may_mv m).1 hy) (by rw [HKD.out]; exact h9)
          rw [HKD.out, ← hmv] at this
          exact this)
        have VD := mvalid_any m wr hmok hsm (HK.out.below (HQ6.out.below.trans (HB.out.mono HQ6.out.below.size)))
        have HGm := Hid.mk' (show wr.heap[x6.heap.size]? = some (.cells #[.int .i64 m.kind, .int .i64 m.frm, .int .i64 m.inc, .int .i64 m.lo, .int .i64 m.hi, .int .i64 m.seq, .int .i64 m.tgt, .int .i64 m.life, .int .i64 m.epoch, .int .i64 m.base, .slice m.p m.recs.length m.cap] 26 (0, 0)) by rw [hm]; exact HG.out)
        have HOm := Hid.mk' (show OwnB (x6.heap.size + 1) wr (.slice m.p m.recs.length m.cap) m.recs by rw [hm]; exact HO.out)
        have HHm := Hid.mk' (show ∀ r ∈ m.recs, ∀ i, RMem r i → x6.heap.size < i by rw [hm]; exact fun r hr => (HH.out r hr).1)
        have HKM := Hid.mk' (show m.kind = kind by rw [hm])
        have HMOK := Hid.mk' hmok
        have HSM := Hid.mk' hsm
        have HBw := Hid.mk' (show Below w.heap.size w wr from HQ6.out.below.trans (HB.out.mono HQ6.out.below.size))
        have HRW := Hid.mk' (show wr.heap[w.heap.size]? = some (.cells #[.int .i64 0, .int .i64 0, .int .i64 0, .int .i64 0, .int .i64 0, .int .i64 0, .int .i64 0, .int .i64 0, .int .i64 0, .int .i64 0, .slice none 0 0] 26 (0, 0)) from (HB.out.block w.heap.size hw6).trans HQ6.out.res)
        obtain ⟨vb, hvb⟩ : ∃ vb, mayM m = vb := ⟨_, rfl⟩
        rw [hvb] at VD HRD
        have HVB := Hid.mk' hvb
        clear hm hmv hbd hkb z0 hmok hsm hvb hri hq0 hlr hmr HG HO HH HR HB HMK HS1 HT1 HBD I1 I2 I3 HFX HF HZL HRG
        obtain ⟨c0', c1', c2', c3', c4', c5', c6', c7', c8', c9', c10'⟩ := mbox_cells HGm.out
        go_wp2_with fail
        refine VD.mono ?_
        clear VD
        rintro e x8 ⟨rfl, hb8⟩
        have HG8 := Hid.mk' (box_bel HGm.out hb8)
        have HO8 := Hid.mk' (HOm.out.on hb8)
        have HB8 := Hid.mk' (HBw.out.trans (hb8.mono HBw.out.size))
        have hres := box_bel HRW.out hb8
        clear hb8 HGm HOm HBw HRW c0' c1' c2' c3' c4' c5' c6' c7' c8' c9' c10'
        cases vb
        · have HQ := Hid.mk' (HNO.out x8 HB8.out (fun x h => by
            have e := HUQ.out x h
            have h1 := (may_mv m).2 (by rw [← e]; exact h.1.1)
            rw [HVB.out] at h1
            cases h1))
          go_wp2_with (refine wpList_store_row rfl 26 (.tmp 2) (.tmp 146) rfl w.heap.size #[.int .i64 0, .int .i64 0, .int .i64 0, .int .i64 0, .int .i64 0, .int .i64 0, .int .i64 0, .int .i64 0, .int .i64 0, .int .i64 0, .slice none 0 0] rfl rfl 26 #[.int .i64 0, .int .i64 0, .int .i64 0, .int .i64 0, .int .i64 0, .int .i64 0, .int .i64 0, .int .i64 0, .int .i64 0, .int .i64 0, .slice none 0 0] hres (by kernel_rfl) rfl (by simp [Value.oneCell']) ?_; rw [setRow_self _ _ _ _ _ hres])
          obtain ⟨r0, r1, r2, r3, r4, r5, r6, r7, r8, r9, r10⟩ := mbox_cells (m := zm) hres
          simp only [zm, List.length_nil] at r0 r1 r2 r3 r4 r5 r6 r7 r8 r9 r10
          exact bodyPost_ret (v := .tuple #[.agg #[.int .i64 0, .int .i64 0, .int .i64 0, .int .i64 0, .int .i64 0, .int .i64 0, .int .i64 0, .int .i64 0, .int .i64 0, .int .i64 0, .slice none 0 0], .bool false]) (by simp [results, Tryd.results16, go_sem, r0, r1, r2, r3, r4, r5, r6, r7, r8, r9, r10]) rfl HQ.out
        obtain ⟨c0', c1', c2', c3', c4', c5', c6', c7', c8', c9', c10'⟩ := mbox_cells HG8.out
        by_cases u9 : m.kind = 9
        · have d9 : (m.kind == 9) = true := by simpa using u9
          have HQ := Hid.mk' (HNO.out x8 HB8.out (fun x h => by
            have e := HUQ.out x h
            have h1 := h.1.2.1
            rw [e] at h1
            exact h1 u9))
          clear u9
          go_wp2_with (refine wpList_store_row rfl 26 (.tmp 2) (.tmp 146) rfl w.heap.size #[.int .i64 0, .int .i64 0, .int .i64 0, .int .i64 0, .int .i64 0, .int .i64 0, .int .i64 0, .int .i64 0, .int .i64 0, .int .i64 0, .slice none 0 0] rfl rfl 26 #[.int .i64 0, .int .i64 0, .int .i64 0, .int .i64 0, .int .i64 0, .int .i64 0, .int .i64 0, .int .i64 0, .int .i64 0, .int .i64 0, .slice none 0 0] hres (by kernel_rfl) rfl (by simp [Value.oneCell']) ?_; rw [setRow_self _ _ _ _ _ hres])
          obtain ⟨r0, r1, r2, r3, r4, r5, r6, r7, r8, r9, r10⟩ := mbox_cells (m := zm) hres
          simp only [zm, List.length_nil] at r0 r1 r2 r3 r4 r5 r6 r7 r8 r9 r10
          exact bodyPost_ret (v := .tuple #[.agg #[.int .i64 0, .int .i64 0, .int .i64 0, .int .i64 0, .int .i64 0, .int .i64 0, .int .i64 0, .int .i64 0, .int .i64 0, .int .i64 0, .slice none 0 0], .bool false]) (by simp [results, Tryd.results16, go_sem, r0, r1, r2, r3, r4, r5, r6, r7, r8, r9, r10]) rfl HQ.out
        · have d9 : (m.kind == 9) = false := by simpa using u9
          have HRD2 := Hid.mk' (HRD.out rfl (by rw [← HKM.out]; exact u9))
          clear u9
          go_wp2_with (refine wpList_store_row rfl 26 (.tmp 2) (.tmp 147) rfl w.heap.size #[.int .i64 m.kind, .int .i64 m.frm, .int .i64 m.inc, .int .i64 m.lo, .int .i64 m.hi, .int .i64 m.seq, .int .i64 m.tgt, .int .i64 m.life, .int .i64 m.epoch, .int .i64 m.base, .slice m.p m.recs.length m.cap] rfl rfl 26 #[.int .i64 0, .int .i64 0, .int .i64 0, .int .i64 0, .int .i64 0, .int .i64 0, .int .i64 0, .int .i64 0, .int .i64 0, .int .i64 0, .slice none 0 0] hres (by kernel_rfl) rfl (by simp [Value.oneCell']) ?_)
          have HGS3 := setRow_heap _ _ _ #[.int .i64 m.kind, .int .i64 m.frm, .int .i64 m.inc, .int .i64 m.lo, .int .i64 m.hi, .int .i64 m.seq, .int .i64 m.tgt, .int .i64 m.life, .int .i64 m.epoch, .int .i64 m.base, .slice m.p m.recs.length m.cap] _ _ hres
          have HB9 := HB8.out.trans (below_setRow (Below.refl _ _) (Nat.le_refl _) #[.int .i64 m.kind, .int .i64 m.frm, .int .i64 m.inc, .int .i64 m.lo, .int .i64 m.hi, .int .i64 m.seq, .int .i64 m.tgt, .int .i64 m.life, .int .i64 m.epoch, .int .i64 m.base, .slice m.p m.recs.length m.cap])
          have HO9 := HO8.out.fr (fr_setRow x8 w.heap.size #[.int .i64 m.kind, .int .i64 m.frm, .int .i64 m.inc, .int .i64 m.lo, .int .i64 m.hi, .int .i64 m.seq, .int .i64 m.tgt, .int .i64 m.life, .int .i64 m.epoch, .int .i64 m.base, .slice m.p m.recs.length m.cap]) (fun g' hg' q => by have := HO8.out.own.above g' hg'; omega) (fun r hr i hi q => by have := HHm.out r hr i hi; omega)
          have HM9 := mok_ob HMOK.out HO9
          obtain ⟨r0, r1, r2, r3, r4, r5, r6, r7, r8, r9, r10⟩ := mbox_cells HGS3
          exact bodyPost_ret (v := .tuple #[.agg #[.int .i64 m.kind, .int .i64 m.frm, .int .i64 m.inc, .int .i64 m.lo, .int .i64 m.hi, .int .i64 m.seq, .int .i64 m.tgt, .int .i64 m.life, .int .i64 m.epoch, .int .i64 m.base, .slice m.p m.recs.length m.cap], .bool true]) (by simp [results, Tryd.results16, go_sem, r0, r1, r2, r3, r4, r5, r6, r7, r8, r9, r10]) rfl (HY.out m _ HM9 HSM.out HB9 HRD2.out)
end Go.Proofs.YtmejfkhikgcgmaaDoor
namespace Go.Proofs.YtmejfkhikgcgmaaDoor
open Go.RowKit
set_option linter.unusedSimpArgs false
set_option linter.unusedVariables false
set_option maxRecDepth 10000
set_option synthInstance.maxSize 2000

theorem flat6 : ∀ (l : List KRow) (i j : Nat), i < l.length → j < 6 → (l.flatMap KRow.cells)[i * 6 + j]? = (l.getD i ⟨⟨#[]⟩, false, false, false, false, false⟩).cells[j]?
  | [], i, j, h, _ => by simp at h
  | x :: t, 0, j, _, hj => by
    rw [List.flatMap_cons, List.getElem?_append_left (by simpa [KRow.cells] using hj)]
    simp [List.getD]
  | x :: t, i + 1, j, h, hj => by
    rw [List.flatMap_cons, List.getElem?_append_right (by simp [KRow.cells]; omega), show (i + 1) * 6 + j - x.cells.length = i * 6 + j by simp [KRow.cells]; omega, flat6 t i j (by simpa using h) hj]
    simp [List.getD]

theorem Kd.range {w : World} (h : Kd w) : w.rangeAt 0 0 (kRows.flatMap KRow.cells) := fun j v hv => by
  have hj : j < 60 := by
    have := (List.getElem?_eq_some_iff.1 hv).1
    simpa [kRows, KRow.cells] using this
  have h1 := h (j / 6) (by omega) (j % 6) (by omega)
  have h2 := flat6 kRows (j / 6) (j % 6) (by simp [kRows]; omega) (by omega)
  rw [show j / 6 * 6 + j % 6 = j by omega] at h1 h2
  rw [Nat.zero_add, h1]
  exact h2.symm.trans hv


end Go.Proofs.YtmejfkhikgcgmaaDoor
namespace Go.Proofs.YtmejfkhikgcgmaaDoor
open Go.RowKit
set_option linter.unusedSimpArgs false
set_option linter.unusedVariables false
set_option maxRecDepth 10000
set_option synthInstance.maxSize 2000

theorem alike_iff (a b : Rc) : decide (rk a = rk b) = (decide (a.id = b.id) && decide (a.inc = b.inc) && decide (a.st = b.st) && decide (a.lo = b.lo) && decide (a.hi = b.hi) && decide (a.cut = b.cut) && decide (kys a.bag = kys b.bag)) := by
  rw [same_iff]; rfl

set_option maxHeartbeats 4000000 in
theorem lalike_any (a b : Rc) (w : World) (ha : ROk w a) (hb : ROk w b) : Calls Tryd.prog 51 #[.agg #[.int .i64 a.id, .int .i64 a.inc, .int .i64 a.st, .int .i64 a.lo, .int .i64 a.hi, .bool a.cut, .slice a.p a.bag.length a.cap], .agg #[.int .i64 b.id, .int .i64 b.inc, .int .i64 b.st, .int .i64 b.lo, .int .i64 b.hi, .bool b.cut, .slice b.p b.bag.length b.cap]] w fun e w' => e = .returned (.bool (decide (rk a = rk b))) ∧ Below w.heap.size w w' := by
  have HM := Hid.mk' (alike_iff a b)
  have HI := Hid.mk' (InB2.start w a b)
  have V := fun X (h : InB2 w a b X) => same_any a.p b.p a.cap b.cap a.bag b.bag X (ha.fin.below h.below) (hb.fin.below h.below) (Nat.le_trans ha.len ha.cap) (Nat.le_trans hb.len hb.cap)
  have q0 : (a.id == b.id) = decide (a.id = b.id) := rfl
  have q1 : (a.inc == b.inc) = decide (a.inc = b.inc) := rfl
  have q2 : (a.st == b.st) = decide (a.st = b.st) := rfl
  have q3 : (a.lo == b.lo) = decide (a.lo = b.lo) := rfl
  have q4 : (a.hi == b.hi) = decide (a.hi = b.hi) := rfl
  have q5 : (a.cut == b.cut) = decide (a.cut = b.cut) := by cases a.cut <;> cases b.cut <;> rfl
  generalize decide (rk a = rk b) = q at HM ⊢
  generalize decide (a.id = b.id) = b0 at HM q0
  generalize decide (a.inc = b.inc) = b1 at HM q1
  generalize decide (a.st = b.st) = b2 at HM q2
  generalize decide (a.lo = b.lo) = b3 at HM q3
  generalize decide (a.hi = b.hi) = b4 at HM q4
  generalize decide (a.cut = b.cut) = b5 at HM q5
  generalize decide (kys a.bag = kys b.bag) = b6 at HM V
  go_enter Tryd.func51, Tryd.ntmps51
  cases b0
  · go_wp2_with fail
    go_ret
    exact ⟨by rw [HM.out]; simp, HI.out.below⟩
  cases b1
  · go_wp2_with fail
    go_ret
    exact ⟨by rw [HM.out]; simp, HI.out.below⟩
  cases b2
  · go_wp2_with fail
    go_ret
    exact ⟨by rw [HM.out]; simp, HI.out.below⟩
  cases b3
  · go_wp2_with fail
    go_ret
    exact ⟨by rw [HM.out]; simp, HI.out.below⟩
  cases b4
  · go_wp2_with fail
    go_ret
    exact ⟨by rw [HM.out]; simp, HI.out.below⟩
  cases b5
  · go_wp2_with fail
    go_ret
    exact ⟨by rw [HM.out]; simp, HI.out.below⟩
  go_wp2_with fail
  refine (V _ HI.out).mono ?_
  rintro e w2 ⟨rfl, hb2⟩
  have HB2 := Hid.mk' (HI.out.on hb2).below
  clear hb2
  go_wp2_with fail
  go_ret
  exact ⟨by rw [HM.out]; simp, HB2.out⟩


def fewR (l : List RK) : Bool := decide (l.length ≤ 20) && l.all fun r => fewK r.bag
theorem fewR_yes {l : List Rc} (h : fewR (rks l) = true) : l.length ≤ 20 ∧ ∀ r ∈ l, r.bag.length ≤ 40 ∧ szK (kys r.bag) ≤ 5000 := by
  simp only [fewR, rks_len, Bool.and_eq_true, decide_eq_true_eq, List.all_eq_true] at h
  exact ⟨h.1, fun r hr => few_yes (h.2 (rk r) (by simp only [rks, List.mem_map]; exact ⟨r, hr, rfl⟩))⟩

set_option maxHeartbeats 1600000 in
theorem lfew_any (p : Option Addr) (c : Nat) (l : List Rc) (w : World) (hp : RIn w p l) (hn : l.length ≤ maxLen) :
    Calls Tryd.prog 18 #[.slice p l.length c] w fun e w' => e = .returned (.bool (fewR (rks l))) ∧ w = w' := by
  have HF := Hid.mk' (show fewR (rks l) = (decide (l.length ≤ 20) && (rks l).all fun r => fewK r.bag) by rw [fewR, rks_len])
  simp only [maxLen] at hn
  generalize fewR (rks l) = r at HF ⊢
  go_enter Tryd.func18, Tryd.ntmps18
  by_cases t0 : l.length ≤ 20
  · go_wp2
    go_loop [3] (fun i => ∃ k : Nat, k ≤ l.length ∧ i = .int .i64 k ∧ Hid (r = (rks (l.drop k)).all fun r => fewK r.bag)) (fun i => l.length - (intOf i).toNat)
    case atStart => exact ⟨0, by omega, rfl, Hid.mk' (by rw [HF.out, decide_eq_true t0]; simp)⟩
    case round =>
      obtain ⟨k, hk, rfl, HR⟩ := hrel
      by_cases t : k < l.length
      · obtain ⟨b, o, rfl, hc⟩ := hp.at (by omega)
        obtain ⟨hx, hok⟩ := hc k t
        obtain ⟨e0, e1, e2, e3, e4, e5, e6⟩ := hx
        have HR' := Hid.mk' (show r = (fewK (kys (l.getD k zr).bag) && (rks (l.drop (k + 1))).all fun r => fewK r.bag) by rw [HR.out, rdrop_next l k t]; simp [rks, rk])
        generalize l.getD k zr = y at HR' e0 e1 e2 e3 e4 e5 e6 hok
        have F := few_any y.p y.cap y.bag w hok.fin (Nat.le_trans hok.len hok.cap)
        generalize fewK (kys y.bag) = fb at HR' F
        clear hc hok e0 e1 e2 e3 e4 e5
        go_wp2_with fail
        refine F.mono ?_
        rintro e w1 ⟨rfl, rfl⟩
        cases fb
        · obtain rfl : r = false := by rw [HR'.out]; simp
          go_wp2_with fail
          try rw [Exit.noGoto_ret]
          go_ret
          exact ⟨rfl, rfl⟩
        · go_wp2_with fail
          go_round
          case rel => exact ⟨k + 1, by omega, by go_num, Hid.mk' (by rw [HR'.out]; simp)⟩
          case measure => simp [intOf]; omega
      · obtain rfl : k = l.length := by omega
        obtain rfl : r = true := by rw [HR.out]; simp [rks]
        go_wp2
        go_ret
        exact ⟨rfl, rfl⟩
  · obtain rfl : r = false := by rw [HF.out]; simp [t0]
    go_wp2
    go_ret
    exact ⟨rfl, rfl⟩

set_option maxHeartbeats 4000000 in
theorem allAlike_any (p q : Option Addr) (c d : Nat) (a b : List Rc) (w : World) (hp : RIn w p a) (hq : RIn w q b) (hn : a.length ≤ maxLen) (hm : b.length ≤ maxLen) :
    Calls Tryd.prog 32 #[.slice p a.length c, .slice q b.length d] w fun e w' => e = .returned (.bool (decide (rks a = rks b))) ∧ Below w.heap.size w w' := by
  simp only [maxLen] at hn hm
  obtain ⟨r, hr⟩ : ∃ r, decide (rks a = rks b) = r := ⟨_, rfl⟩
  rw [hr]
  go_enter Tryd.func32, Tryd.ntmps32
  by_cases t0 : a.length = b.length
  · have HR := Hid.mk' hr.symm
    have d0 : ((a.length : Int) != (b.length : Int)) = false := by simp; omega
    have T0 := Hid.mk' t0
    clear hr t0
    go_wp2
    go_loopw [5] (fun i W => ∃ k : Nat, k ≤ a.length ∧ i = .int .i64 k ∧ Hid (r = decide (rks (a.drop k) = rks (b.drop k))) ∧ Below w.heap.size w W) (fun i _ => a.length - (intOf i).toNat)
    case atStart => exact ⟨0, by omega, rfl, HR.out, Below.refl _ _⟩
    case round =>
      obtain ⟨k, hk, rfl, HT, hb⟩ := hrel
      by_cases t : k < a.length
      · have t2 : k < b.length := by have := T0.out; omega
        obtain ⟨b1, o1, rfl, hc⟩ := (hp.below hb).at (by omega)
        obtain ⟨hx, hokx⟩ := hc k t
        obtain ⟨b2, o2, rfl, hc2⟩ := (hq.below hb).at (by omega)
        obtain ⟨hy, hoky⟩ := hc2 k t2
        obtain ⟨e0, e1, e2, e3, e4, e5, e6⟩ := hx
        obtain ⟨f0, f1, f2, f3, f4, f5, f6⟩ := hy
        have HT' := Hid.mk' (show r = (decide (rk (a.getD k zr) = rk (b.getD k zr)) && decide (rks (a.drop (k + 1)) = rks (b.drop (k + 1)))) by rw [HT.out, rdrop_next a k t, rdrop_next b k t2]; simp [rks])
        generalize a.getD k zr = x at HT' e0 e1 e2 e3 e4 e5 e6 hokx
        generalize b.getD k zr = y at HT' f0 f1 f2 f3 f4 f5 f6 hoky
        have HB := Hid.mk' hb
        have N := fun X (h : Below wr.heap.size wr X) => lalike_any x y X (hokx.below h) (hoky.below h)
        generalize decide (rk x = rk y) = v at HT' N
        clear hc hc2 hokx hoky hb
        have hS0 : wr.drew.cell? ⟨b1, o1 + k * 7, none⟩ = some (.int .i64 x.id) ∧ wr.drew.cell? ⟨b1, o1 + k * 7 + 1, none⟩ = some (.int .i64 x.inc) ∧ wr.drew.cell? ⟨b1, o1 + k * 7 + 2, none⟩ = some (.int .i64 x.st) ∧ wr.drew.cell? ⟨b1, o1 + k * 7 + 3, none⟩ = some (.int .i64 x.lo) ∧ wr.drew.cell? ⟨b1, o1 + k * 7 + 4, none⟩ = some (.int .i64 x.hi) ∧ wr.drew.cell? ⟨b1, o1 + k * 7 + 5, none⟩ = some (.bool x.cut) ∧ wr.drew.cell? ⟨b1, o1 + k * 7 + 6, none⟩ = some (.slice x.p x.bag.length x.cap) ∧ wr.drew.cell? ⟨b2, o2 + k * 7, none⟩ = some (.int .i64 y.id) ∧ wr.drew.cell? ⟨b2, o2 + k * 7 + 1, none⟩ = some (.int .i64 y.inc) ∧ wr.drew.cell? ⟨b2, o2 + k * 7 + 2, none⟩ = some (.int .i64 y.st) ∧ wr.drew.cell? ⟨b2, o2 + k * 7 + 3, none⟩ = some (.int .i64 y.lo) ∧ wr.drew.cell? ⟨b2, o2 + k * 7 + 4, none⟩ = some (.int .i64 y.hi) ∧ wr.drew.cell? ⟨b2, o2 + k * 7 + 5, none⟩ = some (.bool y.cut) ∧ wr.drew.cell? ⟨b2, o2 + k * 7 + 6, none⟩ = some (.slice y.p y.bag.length y.cap) ∧ Hid (Below wr.heap.size wr wr.drew) := ⟨e0, e1, e2, e3, e4, e5, e6, f0, f1, f2, f3, f4, f5, f6, (Below.refl _ _).drew⟩
        go_wp2_with fail
        refine wp_region_held_drew (S := fun X => X.cell? ⟨b1, o1 + k * 7, none⟩ = some (.int .i64 x.id) ∧ X.cell? ⟨b1, o1 + k * 7 + 1, none⟩ = some (.int .i64 x.inc) ∧ X.cell? ⟨b1, o1 + k * 7 + 2, none⟩ = some (.int .i64 x.st) ∧ X.cell? ⟨b1, o1 + k * 7 + 3, none⟩ = some (.int .i64 x.lo) ∧ X.cell? ⟨b1, o1 + k * 7 + 4, none⟩ = some (.int .i64 x.hi) ∧ X.cell? ⟨b1, o1 + k * 7 + 5, none⟩ = some (.bool x.cut) ∧ X.cell? ⟨b1, o1 + k * 7 + 6, none⟩ = some (.slice x.p x.bag.length x.cap) ∧ X.cell? ⟨b2, o2 + k * 7, none⟩ = some (.int .i64 y.id) ∧ X.cell? ⟨b2, o2 + k * 7 + 1, none⟩ = some (.int .i64 y.inc) ∧ X.cell? ⟨b2, o2 + k * 7 + 2, none⟩ = some (.int .i64 y.st) ∧ X.cell? ⟨b2, o2 + k * 7 + 3, none⟩ = some (.int .i64 y.lo) ∧ X.cell? ⟨b2, o2 + k * 7 + 4, none⟩ = some (.int .i64 y.hi) ∧ X.cell? ⟨b2, o2 + k * 7 + 5, none⟩ = some (.bool y.cut) ∧ X.cell? ⟨b2, o2 + k * 7 + 6, none⟩ = some (.slice y.p y.bag.length y.cap) ∧ Hid (Below wr.heap.size wr X)) (by kernel_rfl) hS0 (fun hS => ?_)
        clear hS0 e0 e1 e2 e3 e4 e5 e6 f0 f1 f2 f3 f4 f5 f6
        generalize wr.drew = wd at hS ⊢
        refine wpAnyH_take (i := 0) (v := ?v0_59) rfl (by kernel_rfl) (by kernel_rfl) (by kernel_rfl) (fun _ _ _ h => h) (Or.inl ⟨by rfl, ?hy0_59⟩) (by assumption) ?rest0_59
        case hy0_59 => (intro w hSw; (try dsimp only at hSw); go_simp; try (with_reducible rfl))
        simp only [Act.put, List.getElem_toArray, List.getElem_cons_zero, List.getElem_cons_succ, List.setIfInBounds_toArray, List.set_cons_zero, List.set_cons_succ]
        refine wpAnyH_take (i := 1) (v := ?v1_60) rfl (by kernel_rfl) (by kernel_rfl) (by kernel_rfl) (fun _ _ _ h => h) (Or.inl ⟨by rfl, ?hy1_60⟩) (by assumption) ?rest1_60
        case hy1_60 => (intro w hSw; (try dsimp only at hSw); go_simp; try (with_reducible rfl))
        simp only [Act.put, List.getElem_toArray, List.getElem_cons_zero, List.getElem_cons_succ, List.setIfInBounds_toArray, List.set_cons_zero, List.set_cons_succ]
        refine wpAnyH_take (i := 2) (v := ?v2_61) rfl (by kernel_rfl) (by kernel_rfl) (by kernel_rfl) (fun _ _ _ h => h) (Or.inl ⟨by rfl, ?hy2_61⟩) (by assumption) ?rest2_61
        case hy2_61 => (intro w hSw; (try dsimp only at hSw); go_simp; try (with_reducible rfl))
        simp only [Act.put, List.getElem_toArray, List.getElem_cons_zero, List.getElem_cons_succ, List.setIfInBounds_toArray, List.set_cons_zero, List.set_cons_succ]
        refine wpAnyH_take (i := 3) (v := ?v3_62) rfl (by kernel_rfl) (by kernel_rfl) (by kernel_rfl) (fun _ _ _ h => h) (Or.inl ⟨by rfl, ?hy3_62⟩) (by assumption) ?rest3_62
        case hy3_62 => (intro w hSw; (try dsimp only at hSw); go_simp; try (with_reducible rfl))
        simp only [Act.put, List.getElem_toArray, List.getElem_cons_zero, List.getElem_cons_succ, List.setIfInBounds_toArray, List.set_cons_zero, List.set_cons_succ]
        refine wpAnyH_take (i := 4) (v := ?v4_63) rfl (by kernel_rfl) (by kernel_rfl) (by kernel_rfl) (fun _ _ _ h => h) (Or.inl ⟨by rfl, ?hy4_63⟩) (by assumption) ?rest4_63
        case hy4_63 => (intro w hSw; (try dsimp only at hSw); go_simp; try (with_reducible rfl))
        simp only [Act.put, List.getElem_toArray, List.getElem_cons_zero, List.getElem_cons_succ, List.setIfInBounds_toArray, List.set_cons_zero, List.set_cons_succ]
        refine wpAnyH_take (i := 5) (v := ?v5_64) rfl (by kernel_rfl) (by kernel_rfl) (by kernel_rfl) (fun _ _ _ h => h) (Or.inl ⟨by rfl, ?hy5_64⟩) (by assumption) ?rest5_64
        case hy5_64 => (intro w hSw; (try dsimp only at hSw); go_simp; try (with_reducible rfl))
        simp only [Act.put, List.getElem_toArray, List.getElem_cons_zero, List.getElem_cons_succ, List.setIfInBounds_toArray, List.set_cons_zero, List.set_cons_succ]
        refine wpAnyH_take (i := 6) (v := ?v6_65) rfl (by kernel_rfl) (by kernel_rfl) (by kernel_rfl) (fun _ _ _ h => h) (Or.inl ⟨by rfl, ?hy6_65⟩) (by assumption) ?rest6_65
        case hy6_65 => (intro w hSw; (try dsimp only at hSw); go_simp; try (with_reducible rfl))
        simp only [Act.put, List.getElem_toArray, List.getElem_cons_zero, List.getElem_cons_succ, List.setIfInBounds_toArray, List.set_cons_zero, List.set_cons_succ]
        refine wpAnyH_take (i := 7) (v := ?v7_66) rfl (by kernel_rfl) (by kernel_rfl) (by kernel_rfl) (fun _ _ _ h => h) (Or.inl ⟨by rfl, ?hy7_66⟩) (by assumption) ?rest7_66
        case hy7_66 => (intro w hSw; (try dsimp only at hSw); go_simp; try (with_reducible rfl))
        simp only [Act.put, List.getElem_toArray, List.getElem_cons_zero, List.getElem_cons_succ, List.setIfInBounds_toArray, List.set_cons_zero, List.set_cons_succ]
        refine wpAnyH_ready (rs := [8]) (by kernel_rfl) (by simp) ?_
        refine (AllReadyH.cons rfl (fun K hK => ?_) AllReadyH.nil)
        go_simp
        refine (N _ hS.2.2.2.2.2.2.2.2.2.2.2.2.2.2.out).mono ?_
        rintro e w3 ⟨rfl, hb3⟩
        have hK3 : w3.cell? ⟨b1, o1 + k * 7, none⟩ = some (.int .i64 x.id) ∧ w3.cell? ⟨b1, o1 + k * 7 + 1, none⟩ = some (.int .i64 x.inc) ∧ w3.cell? ⟨b1, o1 + k * 7 + 2, none⟩ = some (.int .i64 x.st) ∧ w3.cell? ⟨b1, o1 + k * 7 + 3, none⟩ = some (.int .i64 x.lo) ∧ w3.cell? ⟨b1, o1 + k * 7 + 4, none⟩ = some (.int .i64 x.hi) ∧ w3.cell? ⟨b1, o1 + k * 7 + 5, none⟩ = some (.bool x.cut) ∧ w3.cell? ⟨b1, o1 + k * 7 + 6, none⟩ = some (.slice x.p x.bag.length x.cap) ∧ w3.cell? ⟨b2, o2 + k * 7, none⟩ = some (.int .i64 y.id) ∧ w3.cell? ⟨b2, o2 + k * 7 + 1, none⟩ = some (.int .i64 y.inc) ∧ w3.cell? ⟨b2, o2 + k * 7 + 2, none⟩ = some (.int .i64 y.st) ∧ w3.cell? ⟨b2, o2 + k * 7 + 3, none⟩ = some (.int .i64 y.lo) ∧ w3.cell? ⟨b2, o2 + k * 7 + 4, none⟩ = some (.int .i64 y.hi) ∧ w3.cell? ⟨b2, o2 + k * 7 + 5, none⟩ = some (.bool y.cut) ∧ w3.cell? ⟨b2, o2 + k * 7 + 6, none⟩ = some (.slice y.p y.bag.length y.cap) ∧ Hid (Below wr.heap.size wr w3) := by
          obtain ⟨e0, e1, e2, e3, e4, e5, e6, f0, f1, f2, f3, f4, f5, f6, hB⟩ := hS
          obtain ⟨e0, e1, e2, e3, e4, e5, e6⟩ := RAt.below (show RAt wd b1 (o1 + k * 7) x from ⟨e0, e1, e2, e3, e4, e5, e6⟩) hb3
          obtain ⟨f0, f1, f2, f3, f4, f5, f6⟩ := RAt.below (show RAt wd b2 (o2 + k * 7) y from ⟨f0, f1, f2, f3, f4, f5, f6⟩) hb3
          exact ⟨e0, e1, e2, e3, e4, e5, e6, f0, f1, f2, f3, f4, f5, f6, hB.out.trans (hb3.mono hB.out.size)⟩
        clear hb3
        go_wp2_with fail
        refine hK.out _ _ ?_ (fun hS' => ?_)
        · exact hK3
        clear hK K
        try simp only [Act.put, List.getElem_toArray, List.getElem_cons_zero, List.getElem_cons_succ, List.setIfInBounds_toArray, List.set_cons_zero, List.set_cons_succ]
        replace hS := hS'
        clear hS'
        refine wpAnyH_take (i := 9) (v := ?v9_67) rfl (by kernel_rfl) (by kernel_rfl) (by kernel_rfl) (fun _ _ _ h => h) (Or.inl ⟨by rfl, ?hy9_67⟩) (by assumption) ?rest9_67
        case hy9_67 => (intro w hSw; (try dsimp only at hSw); go_simp; try (with_reducible rfl))
        simp only [Act.put, List.getElem_toArray, List.getElem_cons_zero, List.getElem_cons_succ, List.setIfInBounds_toArray, List.set_cons_zero, List.set_cons_succ]
        refine wpAnyH_done (by kernel_rfl) ?_ _
        have HB3 := Hid.mk' (HB.out.trans (hS.2.2.2.2.2.2.2.2.2.2.2.2.2.2.out.mono HB.out.size))
        clear hS N
        cases v
        · obtain rfl : r = false := by rw [HT'.out]; simp
          go_wp2_with fail
          try rw [Exit.noGoto_ret]
          go_ret
          exact ⟨rfl, HB3.out⟩
        · go_wp2_with fail
          go_roundw
          case rel => exact ⟨k + 1, by omega, by go_num, Hid.mk' (by rw [HT'.out]; simp), HB3.out⟩
          case measure => simp [intOf]; omega
      · have HV := Hid.mk' (show r = true by rw [HT.out, List.drop_of_length_le (l := a) (by omega), List.drop_of_length_le (l := b) (by have := T0.out; omega)]; rfl)
        go_wp2
        go_ret
        exact ⟨by rw [HV.out]; rfl, hb⟩
  · have t0' : ¬ (a.length : Int) = (b.length : Int) := by omega
    have d0 : ((a.length : Int) != (b.length : Int)) = true := by simp; omega
    obtain rfl : r = false := by
      rw [← hr]
      simp
      intro h
      have := congrArg List.length h
      rw [rks_len, rks_len] at this
      omega
    go_wp2
    go_ret
    exact ⟨rfl, Below.refl _ _⟩
end Go.Proofs.YtmejfkhikgcgmaaDoor
namespace Go.Proofs.YtmejfkhikgcgmaaDoor
open Go.RowKit
set_option linter.unusedSimpArgs false
set_option linter.unusedVariables false
set_option maxRecDepth 10000
set_option synthInstance.maxSize 2000

theorem sameM_flat (a b : Mg) : sameM a b = (decide (a.kind = b.kind) && decide (a.frm = b.frm) && decide (a.inc = b.inc) && decide (a.lo = b.lo) && decide (a.hi = b.hi) && decide (a.seq = b.seq) && decide (a.tgt = b.tgt) && (decide (a.life = b.life) && decide (a.epoch = b.epoch) && decide (a.base = b.base) && decide (rks a.recs = rks b.recs))) := by
  simp only [sameM, sender, numbers, Bool.and_assoc]

set_option maxHeartbeats 8000000 in
theorem lalikeM_any (a b : Mg) (w : World) (ha : MOk w a) (hb : MOk w b) : Calls Tryd.prog 17 #[.agg #[.int .i64 a.kind, .int .i64 a.frm, .int .i64 a.inc, .int .i64 a.lo, .int .i64 a.hi, .int .i64 a.seq, .int .i64 a.tgt, .int .i64 a.life, .int .i64 a.epoch, .int .i64 a.base, .slice a.p a.recs.length a.cap], .agg #[.int .i64 b.kind, .int .i64 b.frm, .int .i64 b.inc, .int .i64 b.lo, .int .i64 b.hi, .int .i64 b.seq, .int .i64 b.tgt, .int .i64 b.life, .int .i64 b.epoch, .int .i64 b.base, .slice b.p b.recs.length b.cap]] w fun e w' => e = .returned (.bool (sameM a b)) ∧ Below w.heap.size w w' := by
  have HM := Hid.mk' (sameM_flat a b)
  have HI := Hid.mk' (InM2.start w a b)
  have E := fun X (h : InM2 w a b X) => allAlike_any a.p b.p a.cap b.cap a.recs b.recs X (ha.rin.below h.below) (hb.rin.below h.below) ha.lenM hb.lenM
  clear ha hb
  generalize sameM a b = q at HM ⊢
  generalize decide (rks a.recs = rks b.recs) = b10 at HM E
  have q0 : (a.kind != b.kind) = !decide (a.kind = b.kind) := rfl
  generalize decide (a.kind = b.kind) = b0 at HM q0
  have q1 : (a.frm != b.frm) = !decide (a.frm = b.frm) := rfl
  generalize decide (a.frm = b.frm) = b1 at HM q1
  have q2 : (a.inc != b.inc) = !decide (a.inc = b.inc) := rfl
  generalize decide (a.inc = b.inc) = b2 at HM q2
  have q3 : (a.lo != b.lo) = !decide (a.lo = b.lo) := rfl
  generalize decide (a.lo = b.lo) = b3 at HM q3
  have q4 : (a.hi != b.hi) = !decide (a.hi = b.hi) := rfl
  generalize decide (a.hi = b.hi) = b4 at HM q4
  have q5 : (a.seq != b.seq) = !decide (a.seq = b.seq) := rfl
  generalize decide (a.seq = b.seq) = b5 at HM q5
  have q6 : (a.tgt != b.tgt) = !decide (a.tgt = b.tgt) := rfl
  generalize decide (a.tgt = b.tgt) = b6 at HM q6
  have q7 : (a.life == b.life) = decide (a.life = b.life) := rfl
  generalize decide (a.life = b.life) = b7 at HM q7
  have q8 : (a.epoch == b.epoch) = decide (a.epoch = b.epoch) := rfl
  generalize decide (a.epoch = b.epoch) = b8 at HM q8
  have q9 : (a.base == b.base) = decide (a.base = b.base) := rfl
  generalize decide (a.base = b.base) = b9 at HM q9
  go_enter Tryd.func17, Tryd.ntmps17
  cases b0
  · go_wp2_with fail
    go_ret
    exact ⟨by rw [HM.out]; simp, HI.out.below⟩
  cases b1
  · go_wp2_with fail
    go_ret
    exact ⟨by rw [HM.out]; simp, HI.out.below⟩
  cases b2
  · go_wp2_with fail
    go_ret
    exact ⟨by rw [HM.out]; simp, HI.out.below⟩
  cases b3
  · go_wp2_with fail
    go_ret
    exact ⟨by rw [HM.out]; simp, HI.out.below⟩
  cases b4
  · go_wp2_with fail
    go_ret
    exact ⟨by rw [HM.out]; simp, HI.out.below⟩
  cases b5
  · go_wp2_with fail
    go_ret
    exact ⟨by rw [HM.out]; simp, HI.out.below⟩
  cases b6
  · go_wp2_with fail
    go_ret
    exact ⟨by rw [HM.out]; simp, HI.out.below⟩
  cases b7
  · go_wp2_with fail
    go_ret
    exact ⟨by rw [HM.out]; simp, HI.out.below⟩
  cases b8
  · go_wp2_with fail
    go_ret
    exact ⟨by rw [HM.out]; simp, HI.out.below⟩
  cases b9
  · go_wp2_with fail
    go_ret
    exact ⟨by rw [HM.out]; simp, HI.out.below⟩
  go_wp2_with fail
  refine (E _ HI.out).mono ?_
  rintro e w3 ⟨rfl, hb3⟩
  have HI3 := Hid.mk' (HI.out.on hb3)
  clear hb3 HI
  go_wp2_with fail
  go_ret
  exact ⟨by rw [HM.out]; simp, HI3.out.below⟩

theorem lfewM_any (m : Mg) (w : World) (hm : MOk w m) : Calls Tryd.prog 7 #[.agg #[.int .i64 m.kind, .int .i64 m.frm, .int .i64 m.inc, .int .i64 m.lo, .int .i64 m.hi, .int .i64 m.seq, .int .i64 m.tgt, .int .i64 m.life, .int .i64 m.epoch, .int .i64 m.base, .slice m.p m.recs.length m.cap]] w fun e w' => e = .returned (.bool (fewR (rks m.recs))) ∧ Below w.heap.size w w' := by
  have HI := Hid.mk' (InM.start w m)
  have C := fun X (h : InM w m X) => lfew_any m.p m.cap m.recs X (hm.rin.below h.below) hm.lenM
  clear hm
  generalize fewR (rks m.recs) = b at C ⊢
  go_enter Tryd.func7, Tryd.ntmps7
  go_wp2_with fail
  refine (C _ HI.out).mono ?_
  rintro e w3 ⟨rfl, rfl⟩
  go_wp2_with fail
  go_ret
  exact ⟨rfl, HI.out.below⟩

def mp (b : Int) : Mg := ⟨7, 0, 0, 1, 3, 0, 0, 0, 3, b, none, 0, []⟩
theorem mp_ok (w : World) (b : Int) (h : (Lit.int .i64 b).wf = true) : MOk w (mp b) := ⟨show (Lit.int .i64 7).wf = true by decide, show (Lit.int .i64 0).wf = true by decide, show (Lit.int .i64 0).wf = true by decide, show (Lit.int .i64 1).wf = true by decide, show (Lit.int .i64 3).wf = true by decide, show (Lit.int .i64 0).wf = true by decide, show (Lit.int .i64 0).wf = true by decide, show (Lit.int .i64 0).wf = true by decide, show (Lit.int .i64 3).wf = true by decide, h, Nat.le_refl _, by simp [mp, maxLen], fun _ => rfl, RIn.empty _ _⟩


end Go.Proofs.YtmejfkhikgcgmaaDoor
namespace Go.Proofs.YtmejfkhikgcgmaaDoor
open Go.RowKit
set_option linter.unusedSimpArgs false
set_option linter.unusedVariables false
set_option maxRecDepth 10000
set_option synthInstance.maxSize 2000

def ga2 : Mg := ⟨3, 5, 1, 1, 2, 0, 3, 0, 0, 0, none, 0, []⟩
def rb2 : Rc := ⟨0, 4294967296, 0, 1, 2, false, none, 0, []⟩
def gb2 (g : Nat) : Mg := ⟨4, 0, 0, 1, 2, 0, 0, 0, 0, 0, some ⟨g, 0, none⟩, 1, [rb2]⟩
theorem ga2_ok (w : World) : MOk w ga2 := ⟨by decide, by decide, by decide, by decide, by decide, by decide, by decide, by decide, by decide, by decide, Nat.le_refl _, by simp [ga2, maxLen], fun _ => rfl, RIn.empty _ _⟩
theorem rb2_ok (w : World) : ROk w rb2 := ⟨by decide, by decide, by decide, by decide, by decide, Nat.le_refl _, by simp [rb2, maxLen], fun _ => rfl, FIn.empty _ _, by simp [rb2]⟩
theorem gb2_ok (w : World) (g : Nat) (h : w.heap[g]? = some (.cells #[.int .i64 0, .int .i64 4294967296, .int .i64 0, .int .i64 1, .int .i64 2, .bool false, .slice none 0 0] 44 (0, 0))) : MOk w (gb2 g) :=
  ⟨show (Lit.int .i64 4).wf = true by decide, show (Lit.int .i64 0).wf = true by decide, show (Lit.int .i64 0).wf = true by decide, show (Lit.int .i64 1).wf = true by decide, show (Lit.int .i64 2).wf = true by decide, show (Lit.int .i64 0).wf = true by decide, show (Lit.int .i64 0).wf = true by decide, show (Lit.int .i64 0).wf = true by decide, show (Lit.int .i64 0).wf = true by decide, show (Lit.int .i64 0).wf = true by decide, by simp [gb2], by simp [gb2, maxLen], by simp [gb2],
    RIn.of_row (l := [rb2]) (t := 44) h (by intro f hf; simp at hf; subst hf; exact rb2_ok w)⟩
def l27 : List Int := [1, 0, 1, 3, 2, 0, 2, 0, 5, 3, 0, 6, 0, 0, 0, 0, 0, 1, 4, 0, 1, 18, 6, 0, 2, 0, 3]
theorem body_ga2 : body2 (mv ga2) = l27 := by decide
theorem enc_ga2 {b : List Int} {err : Int} (h : EncOk2 ga2 b err) : err = 0 ∧ b = l27 := by
  rcases h with ⟨_, h1, h2⟩ | ⟨h1, _⟩ | ⟨_, h1, _⟩
  · exact ⟨h1, by rw [h2, body_ga2]⟩
  · exact absurd h1 (by decide)
  · exact absurd h1 (by decide)
theorem enc_gb2 {g : Nat} {b : List Int} {err : Int} (h : EncOk2 (gb2 g) b err) : err = 14 := by
  have e1 : mayM (gb2 g) = true := (show mayM (gb2 g) = mayM (gb2 0) from rfl).trans (by decide)
  have e2 : fit2 (gb2 g) = false := (show fit2 (gb2 g) = fit2 (gb2 0) from rfl).trans (by decide)
  rcases h with ⟨h1, _⟩ | ⟨h1, _⟩ | ⟨_, _, h1, _⟩
  · rw [e2] at h1; cases h1
  · rw [e1] at h1; cases h1
  · exact h1

set_option maxHeartbeats 4000000 in
theorem awake13_any (G : Gen2Ok) (w : World) (hK : Kd w) : Calls Tryd.prog 8 #[] w fun e w' => e = .returned (.bool true) ∧ Below w.heap.size w w' := by
  have E1 := G.enc ga2 w (ga2_ok w) (by simp [ga2]) hK
  have E2 := Hid.mk' (fun X g (h : Below w.heap.size w X) (hg : X.heap[g]? = some (.cells #[.int .i64 0, .int .i64 4294967296, .int .i64 0, .int .i64 1, .int .i64 2, .bool false, .slice none 0 0] 44 (0, 0))) => G.enc (gb2 g) X (gb2_ok X g hg) (by simp [gb2, rb2, kys, szK]) (hK.below h))
  have A1 := @enc_ga2
  have A2 := Hid.mk' (fun (g : Nat) (b : List Int) (err : Int) (h : EncOk2 (gb2 g) b err) => enc_gb2 h)
  generalize EncOk2 ga2 = Q1 at A1
  simp only [EncPost2] at E1
  clear hK
  simp only [ga2, List.length_nil] at E1
  go_enter Tryd.func8, Tryd.ntmps8
  go_wp2_with fail
  refine E1.mono ?_
  rintro e w1 ⟨p, c, b, err, rfl, hB, hib, hp0, hlc, hcm, hl, hb1, hE⟩
  obtain ⟨rfl, rfl⟩ := enc_ga2 hE
  have HB1 := Hid.mk' hb1
  have HBI := Hid.mk' hB
  clear hE hb1 hB hib hl E1 A1
  have hb2 := (Below.refl w1.heap.size w1).alloc (Nat.le_refl _) (.cells #[.int .i64 0, .int .i64 4294967296, .int .i64 0, .int .i64 1, .int .i64 2, .bool false, .slice none 0 0] 44)
  have hg2 := heap_alloc_new w1 (.cells #[.int .i64 0, .int .i64 4294967296, .int .i64 0, .int .i64 1, .int .i64 2, .bool false, .slice none 0 0] 44)
  have EB := E2.out _ _ (HB1.out.trans (hb2.mono HB1.out.size)) hg2
  simp only [EncPost2] at EB
  simp only [gb2, rb2, List.length_cons, List.length_nil, Nat.zero_add] at EB
  have HBb := Hid.mk' hb2
  clear hg2 E2
  go_wp2_with fail
  refine EB.mono ?_
  rintro e w2 ⟨p2, c2, b2, err2, rfl, _, _, _, _, _, _, hb3, hE2⟩
  obtain rfl : err2 = 14 := A2.out w1.heap.size _ _ hE2
  have HB2 := Hid.mk' ((HB1.out.trans (HBb.out.mono HB1.out.size)).trans (hb3.mono (Nat.le_trans HB1.out.size HBb.out.size)))
  have cv1 := ((HBI.out.below HBb.out).below hb3).convert (P := Tryd.prog) c 29 5 9 Tryd.underlying29 Tryd.underlying5 Tryd.underlying9
  have hg := heap_alloc_new w2 (.cells #[.int .u8 1, .int .u8 0, .int .u8 1, .int .u8 3, .int .u8 2, .int .u8 0, .int .u8 2, .int .u8 0, .int .u8 5, .int .u8 3, .int .u8 0, .int .u8 6, .int .u8 0, .int .u8 0, .int .u8 0, .int .u8 0, .int .u8 0, .int .u8 1, .int .u8 4, .int .u8 0, .int .u8 1, .int .u8 18, .int .u8 6, .int .u8 0, .int .u8 2, .int .u8 0, .int .u8 3] 5)
  have cv2 := (BIn.of_block (w := w2.alloc (.cells #[.int .u8 1, .int .u8 0, .int .u8 1, .int .u8 3, .int .u8 2, .int .u8 0, .int .u8 2, .int .u8 0, .int .u8 5, .int .u8 3, .int .u8 0, .int .u8 6, .int .u8 0, .int .u8 0, .int .u8 0, .int .u8 0, .int .u8 0, .int .u8 1, .int .u8 4, .int .u8 0, .int .u8 1, .int .u8 18, .int .u8 6, .int .u8 0, .int .u8 2, .int .u8 0, .int .u8 3] 5)) (g := w2.heap.size) (e := 5) (f := (0, 0)) (l := l27) (rest := []) hg).convert (P := Tryd.prog) 27 29 5 9 Tryd.underlying29 Tryd.underlying5 Tryd.underlying9
  have hst : ((strOfNums l27).toList == (strOfNums l27).toList) = true := by simp
  have HB3 := Hid.mk' (HB2.out.alloc HB2.out.size (.cells #[.int .u8 1, .int .u8 0, .int .u8 1, .int .u8 3, .int .u8 2, .int .u8 0, .int .u8 2, .int .u8 0, .int .u8 5, .int .u8 3, .int .u8 0, .int .u8 6, .int .u8 0, .int .u8 0, .int .u8 0, .int .u8 0, .int .u8 0, .int .u8 1, .int .u8 4, .int .u8 0, .int .u8 1, .int .u8 18, .int .u8 6, .int .u8 0, .int .u8 2, .int .u8 0, .int .u8 3] 5))
  rw [show l27.length = 27 from rfl] at cv1 cv2 ⊢
  generalize strOfNums l27 = st at cv1 cv2 hst
  clear hg hE2 hb2 hb3 EB HBI HBb A2
  go_wp2_with fail
  go_ret
  exact ⟨rfl, HB3.out⟩
end Go.Proofs.YtmejfkhikgcgmaaDoor
namespace Go.Proofs.YtmejfkhikgcgmaaDoor
open Go.RowKit
set_option linter.unusedSimpArgs false
set_option linter.unusedVariables false
set_option maxRecDepth 10000

def spO (c : Int) : Int × Int := if okS (ofLo c) (ofHi c) = true then (ofLo c, ofHi c) else (0, 0)
theorem spO_ok {c : Int} (hc : 0 ≤ c ∧ c < 256) (h : okS (spO c).1 (spO c).2 = true) : (spO c).1 = c / 16 ∧ (spO c).2 = c % 16 := by
  unfold spO at h ⊢
  unfold ofLo ofHi at h ⊢
  rw [Int.tdiv_eq_ediv_of_nonneg (by omega), Int.tmod_eq_emod_of_nonneg (by omega)] at h ⊢
  split
  · exact ⟨rfl, rfl⟩
  · rename_i q
    rw [if_neg q] at h
    exact absurd h (by decide)
theorem spO_of {c : Int} (hc : 0 ≤ c ∧ c < 256) (h : okS (c / 16) (c % 16) = true) : spO c = (c / 16, c % 16) := by
  unfold spO ofLo ofHi
  rw [Int.tdiv_eq_ediv_of_nonneg (by omega), Int.tmod_eq_emod_of_nonneg (by omega), if_pos h]

theorem gof_any (c : Int) (w : World) (hc : (Lit.int .i64 c).wf = true) :
    Calls Tryd.prog 70 #[.int .i64 c] w fun e w' => ∃ t : Bool, e = .returned (.tuple #[.agg #[.int .i64 (spO c).1, .int .i64 (spO c).2], .bool t]) ∧ Below w.heap.size w w' := by
  unfold spO
  by_cases h : okS (ofLo c) (ofHi c) = true
  · rw [if_pos h]
    exact (of_yes c w hc h).mono fun e w' ⟨h1, h2⟩ => ⟨true, h1, h2⟩
  · rw [if_neg h]
    exact (of_no c w hc (by simpa using h)).mono fun e w' ⟨h1, h2⟩ => ⟨false, h1, h2⟩

end Go.Proofs.YtmejfkhikgcgmaaDoor
