/-
  Proved: the statement on layer 2's 'a form is read back' (VarintBacks) returns true at every input, and leaves its arguments as they were. No condition.
-/
import Derived.Test.YtllaajajjodimaaRows
import Derived.Test.YtllaajajjodimaaLaw02
import Derived.Test.YtllaajajjodimaaShapes
import Derived.ShutString
import Derived.ChangeOld
namespace Go.Proofs.Ytllaajajjodimaa.varintBacks
open Go.ChangeShapes Go.WideShapes Go.ChangeAt Go.RowKit
open Go.ChangeMaps (open_string shut_string)
set_option linter.unusedVariables false
set_option linter.unusedSimpArgs false

set_option maxHeartbeats 2000000 in
theorem walk (a0 : Int) (p1 : Option Addr) (c1 : Nat) (l1 : List Int) (w : World) (w0 : (Lit.int .u64 a0).wf = true) (hlc1 : l1.length ≤ c1) (hcm1 : c1 ≤ maxLen) (hp1 : p1 = none → c1 = 0) (hin1 : LIn w p1 1 (shInt .u8) l1) :
    Calls Try.prog 5 #[.int .u64 a0, .slice p1 l1.length c1] w fun e w' => e = .returned (.bool true) ∧ Below w.heap.size w w' := by
  unfold maxLen at hcm1
  have h0 := bounds_u64 w0
  have hB1 := hin1.bytes
  have hb1 := hin1.isB
  clear hin1 w0
  by_cases t1 : 40 < (l1.length : Int)
  · have AW := awake2_any w
    go_enter Try.func5, Try.ntmps5
    go_wp2_with (go_at_call 11; refine AW.mono ?_; rintro e w' ⟨rfl, hb⟩)
    go_ret
    exact ⟨rfl, hb⟩
  have O := of_any a0 w (by omega) (by omega)
  have hb := L7_bd a0
  obtain ⟨g1, g2, g3⟩ := form_front a0 (by omega) (by omega) l1
  have G := get_good_at (formV a0 ++ l1) g2 (by rw [g1]; simp [formV_len]; omega)
  have hfl := formV_len a0
  have hfb := formV_isB a0
  have hn1 : L7 a0 - 1 + 1 = L7 a0 := by omega
  rw [g1, hn1, g3, valB_formV a0 (by omega) (by omega)] at G
  rw [show ((L7 a0 - 1 : Nat) : Int) + 1 = (L7 a0 : Int) by omega] at G
  have HG := Hid.mk' G
  have HL := Hid.mk' (fun wx => len_any a0 wx (by omega) (by omega))
  have HFl := Hid.mk' hfl
  have HB1 := Hid.mk' hB1
  clear g1 g2 g3 G hn1 hfl hB1
  generalize L7 a0 = n at O hb HG HL HFl
  generalize formV a0 = f at O HG HFl hfb
  go_enter Try.func5, Try.ntmps5
  go_wp2_with fail
  refine O.mono ?_
  rintro e w1 ⟨rfl, hblk, hB1⟩
  clear O
  have hlt : w.heap.size < w1.heap.size := (Array.getElem?_eq_some_iff.1 hblk).1
  have hbel : Below w.heap.size w (w1.alloc (.cells #[] 5)) := hB1.alloc hB1.size _
  have hA : Acc (w1.alloc (.cells #[] 5)) w.heap.size (.slice (some ⟨w1.heap.size, 0, none⟩) 0 0) [] := Acc.empty (heap_alloc_new _ _) (by omega)
  have hF : BIn (w1.alloc (.cells #[] 5)) (some ⟨w.heap.size, 0, none⟩) f := BIn.of_block (rest := []) (e := 5) (f := (0, 0)) (by rw [heap_alloc_old _ _ hlt]; simpa [cellsB] using hblk)
  have hsz : w.heap.size ≤ (w1.alloc (.cells #[] 5)).heap.size := hbel.size
  have HBl := Hid.mk' hbel
  clear hblk hB1 hbel
  go_wp2_with (first
    | (at_builtin; refine wpList_acc rfl (.tmp 16) (.tmp 17) rfl w.heap.size _ [] rfl hA hsz (some ⟨w.heap.size, 0, none⟩) n f (by rw [HFl.out]; rfl) (by simp) hF (by rw [HFl.out]; simp; omega) ?_; intro v2 w2 hA2 hB2; rw [List.nil_append] at hA2; have hbel2 := HBl.out.trans hB2)
    | (at_builtin; refine wpList_acc rfl (.tmp 18) (.tmp 19) rfl w.heap.size _ f rfl hA2 hbel2.size p1 c1 l1 rfl hp1 (HB1.out.below hbel2) (by rw [HFl.out]; omega) ?_; intro v3 w3 hA3 hB3; have hbel3 := hbel2.trans hB3; obtain ⟨p3, c3, rfl, hP3, _⟩ := hA3.slice; have G := get_any p3 c3 (f ++ l1) w3 hP3 (hfb.append hb1) (by rw [List.length_append, HFl.out]; omega); rw [HG.out.1, HG.out.2.1, HG.out.2.2] at G; clear hA3 hP3))
  rw [List.length_append] at G
  refine G.mono ?_
  rintro e w' ⟨rfl, rfl⟩
  have HB3 := Hid.mk' hbel3
  have L := HL.out w3
  have AW := awake2_any w3
  clear hA hF hsz hA2 hB2 hbel2 hB3 hbel3 G HL HBl hlt
  go_wp2_with (first | (go_at_call 10; refine L.mono ?_; rintro e w' ⟨rfl, rfl⟩) | (go_at_call 11; refine AW.mono ?_; rintro e w4 ⟨rfl, hb4⟩))
  go_ret
  exact ⟨rfl, HB3.out.trans (hb4.mono HB3.out.size)⟩

theorem own : ownKnob Try.prog.godebug = none := by kernel_rfl
theorem laidOut : laidOutB Try.prog = true := by kernel_rfl

set_option maxRecDepth 100000 in
theorem lifted (os : Os) (started : os.Started) (H : Type) (enc : TypeId × Value → H) :
    ReturnsInHanded {} Try.checked os 5 .any (Rows.varintBacksSpec.pre6 enc Try.prog Try.f5 Rows.varintBacksRow.domain false) (Rows.varintBacksSpec.post enc Try.prog Try.f5 false true false false) := by
  refine returnsInHanded_of_change (C := Try.checked) own started (by kernel_rfl) Try.func5
    (ChangeSpec.witness6 (enc := enc) (C := Try.checked) false ⟨#[], #[.int .u64 0, .slice none 0 0], []⟩ 8 (by kernel_rfl) (by kernel_rfl) (by kernel_rfl) (by kernel_rfl)) ?_
  intro W base args ds gs before hval0 hW hcnd _
  have hval : ∀ (j : Nat) t v, Try.f5.params[j]? = some t → args[j]? = some v → Value.okWide Try.prog W .any base t v := hval0
  have hW' := hW
  obtain ⟨p, q, hA0, hV, rfl, hfz, hnd⟩ := hW
  have hA : DataW.TrodAll enc Try.prog W 0 (fun _ => true) true Try.f5.params.toList args.toList ds p := hA0
  rw [Try.params5] at hA hval
  obtain ⟨v0, vs0, d0, ds0, p0x, q0, hargs, rfl, rfl, h0, r0⟩ := trodAll_cons hA
  obtain ⟨v1, vs1, d1, ds1, p1x, q1, rfl, rfl, rfl, h1, r1⟩ := trodAll_cons r0
  obtain ⟨rfl, rfl, rfl⟩ := trodAll_nil r1
  obtain rfl : args = #[v0, v1] := by cases args; simp_all
  obtain ⟨rfl, rfl⟩ := trodVars_none hV
  obtain ⟨a0, rfl, rfl, rfl, w0⟩ := open_int Try.underlying22 (hval 0 22 v0 rfl rfl) h0
  obtain ⟨p1, len1, c1, rfl⟩ := okWide_slice Try.underlying23 (hval 1 23 v1 rfl rfl)
  have k1 := h1
  have lt1 : ∀ x ∈ p1x, x.block < W.heap.size := by obtain ⟨m, hm⟩ := k1; exact DataW.trod_lt m _ _ _ hm
  obtain ⟨l1, rfl, hlc1, hcm1, hp1, hin1⟩ : ∃ l : List Int, l.length = len1 ∧ len1 ≤ c1 ∧ c1 ≤ maxLen ∧ (p1 = none → c1 = 0) ∧ LIn W p1 1 (shInt .u8) l := by
    obtain ⟨fuel, hf⟩ := h1
    obtain ⟨l, p, c, hcs, hl1, hl2, hl3, hl4⟩ := opens_slice (size := 1) Try.underlying23 (by kernel_rfl) (by decide) (opens_int Try.underlying5) _ _ _ hf
    simp [Value.cells] at hcs
    obtain ⟨rfl, rfl, rfl⟩ := hcs
    exact ⟨l, rfl, hl1, hl2, hl3, hl4⟩
  clear hA0 hval0
  refine (walk a0 p1 c1 l1 W w0 hlc1 hcm1 hp1 hin1).mono fun e W' ⟨he, bel⟩ => ?_
  subst he
  exact ⟨_, rfl, _, _, _, [], _, [], hW', trodAll_mk1 (shut_bool Try.underlying4 _), (trodAll_cons_mk (shut_int Try.underlying22 w0) (trodAll_cons_mk (Below.trod laidOut (by kernel_rfl) (of_decide_eq_true (by kernel_rfl)) k1 bel lt1) trodAll_mk0)), rfl, bel.frame _, fun h => by cases h⟩

theorem over : Rows.varintBacksRow.holds Try.pinned (OpenSpec.ofChange Rows.varintBacksSpec) :=
  OpenClaim.holds_of_wide 5 Try.f5 rfl rfl rfl rfl rfl rfl rfl ⟨rfl, rfl, rfl, rfl, rfl⟩ rfl rfl rfl rfl rfl (by kernel_rfl) Try.func5 (by kernel_rfl)
    (of_decide_eq_true (by kernel_rfl)) (by unfold Func.isWrapper; first | (rw [if_pos (by decide +kernel)]; kernel_rfl) | (rw [if_neg (by decide +kernel)]; exact ⟨rfl, rfl⟩))
    (fun os started H enc _ => lifted os started H enc)

/-- The given statement. -/
theorem proved : Rows.VarintBacksSaid := over
#print axioms proved
end Go.Proofs.Ytllaajajjodimaa.varintBacks
