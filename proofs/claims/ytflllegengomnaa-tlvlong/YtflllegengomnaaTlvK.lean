/-
  Package tlv: Join, Num, Value.
-/
import Derived.Test.YtflllegengomnaaTlvJ
namespace Go.Proofs.Ytflllegengomnaa
open Go.RowKit
set_option linter.unusedSimpArgs false
set_option linter.unusedVariables false
set_option maxRecDepth 10000

/-- What Join comes to. -/
def JoinP (B : Nat) (L : List Key) (e : Ending) (w' : World) : Prop :=
  (fltL L = 0 ∧ ∃ g, e = .returned (.tuple #[.slice (some ⟨g, 0, none⟩) (joinK L).length (joinK L).length, .int .i64 0]) ∧ BIn w' (some ⟨g, 0, none⟩) (joinK L) ∧ B ≤ g) ∨
  (fltL L ≠ 0 ∧ e = .returned (.tuple #[.slice none 0 0, .int .i64 (fltL L)]))

theorem joinK_next (l : List Fd) (k : Nat) (h : k < l.length) : joinK (kys (l.take (k + 1))) = joinK (kys (l.take k)) ++ encK (ky (l.getD k zf)) := by
  rw [take_next l k h, kys_append, joinK_append]; simp [kys, joinK]
theorem joinK_take_le (l : List Fd) (k : Nat) : (joinK (kys (l.take k))).length ≤ (joinK (kys l)).length := by
  have h : joinK (kys l) = joinK (kys (l.take k)) ++ joinK (kys (l.drop k)) := by rw [← joinK_append, ← kys_append, List.take_append_drop]
  rw [h, List.length_append]; omega
theorem flt_take (l : List Fd) (k : Nat) (h : k < l.length) (hp : ∀ x ∈ kys (l.take k), fltK x = 0) (hn : fltK (ky (l.getD k zf)) ≠ 0) : fltL (kys l) = fltK (ky (l.getD k zf)) := by
  have e : kys l = kys (l.take k) ++ ky (l.getD k zf) :: kys (l.drop (k + 1)) := by
    conv => lhs; rw [← List.take_append_drop k l, kys_append, drop_next l k h]
    rfl
  rw [e]; exact fltL_at hp hn

set_option maxHeartbeats 4000000 in
theorem tjoin_any (p : Option Addr) (c : Nat) (l : List Fd) (w : World) (hp : FIn w p l) (hn : l.length ≤ maxLen) (hz : (joinK (kys l)).length + 200000 ≤ 140737488355328) :
    Calls Try.prog 9 #[.slice p l.length c] w fun e w' => JoinP w.heap.size (kys l) e w' ∧ Below w.heap.size w w' := by
  simp only [maxLen] at hn
  have HY := Hid.mk' (show fltL (kys l) = 0 → ∀ g w', BIn w' (some ⟨g, 0, none⟩) (joinK (kys l)) → w.heap.size ≤ g → Below w.heap.size w w' → JoinP w.heap.size (kys l) (.returned (.tuple #[.slice (some ⟨g, 0, none⟩) (joinK (kys l)).length (joinK (kys l)).length, .int .i64 0])) w' ∧ Below w.heap.size w w' from fun h g w' h1 h2 h3 => ⟨.inl ⟨h, g, rfl, h1, h2⟩, h3⟩)
  have HN := Hid.mk' (show ∀ v, fltL (kys l) = v → v ≠ 0 → ∀ w', Below w.heap.size w w' → JoinP w.heap.size (kys l) (.returned (.tuple #[.slice none 0 0, .int .i64 v])) w' ∧ Below w.heap.size w w' from fun v h h0 w' h3 => ⟨.inr ⟨by rw [h]; exact h0, by rw [h]⟩, h3⟩)
  generalize hPost : (fun e w' => JoinP w.heap.size (kys l) e w' ∧ Below w.heap.size w w') = Post
  have HY' : Hid (fltL (kys l) = 0 → ∀ g w', BIn w' (some ⟨g, 0, none⟩) (joinK (kys l)) → w.heap.size ≤ g → Below w.heap.size w w' → Post (.returned (.tuple #[.slice (some ⟨g, 0, none⟩) (joinK (kys l)).length (joinK (kys l)).length, .int .i64 0])) w') := by rw [← hPost]; exact HY
  have HN' : Hid (∀ v, fltL (kys l) = v → v ≠ 0 → ∀ w', Below w.heap.size w w' → Post (.returned (.tuple #[.slice none 0 0, .int .i64 v])) w') := by rw [← hPost]; exact HN
  clear hPost HY HN
  go_enter Try.func9, Try.ntmps9
  go_wp2_with fail
  refine (writeX _ w.heap.size rfl).mono ?_
  rintro e w1 ⟨b, rfl, HW1, hb1⟩
  have HB1 := Hid.mk' hb1
  clear hb1
  go_wp2_with fail
  go_loopw [13] (fun i W => ∃ k : Nat, k ≤ l.length ∧ i = .int .i64 k ∧ Hid (WrB W w.heap.size b (joinK (kys (l.take k))) false) ∧ Hid (∀ x ∈ kys (l.take k), fltK x = 0) ∧ Hid (Below w.heap.size w W)) (fun i _ => l.length - (intOf i).toNat)
  case atStart => exact ⟨0, by omega, rfl, HW1, fun x hx => (by simp [kys] at hx), HB1⟩
  case round =>
    obtain ⟨k, hk, rfl, HW, HO, HB⟩ := hrel
    clear HW1 HB1
    by_cases t : k < l.length
    · obtain ⟨b2, o2, rfl, hc⟩ := (hp.below HB.out).at (by omega)
      obtain ⟨e0, e1, hx⟩ := hc k t
      obtain ⟨b3, o3, e3, hc3⟩ := hp.at (by omega)
      obtain ⟨_, _, hx0⟩ := hc3 k t
      have HJ := Hid.mk' (joinK_next l k t)
      have HLE := Hid.mk' (joinK_take_le l (k + 1))
      have HFT := Hid.mk' (fun h => flt_take l k t HO.out h)
      have HFN := Hid.mk' (show fltK (ky (l.getD k zf)) = 0 → ∀ x ∈ kys (l.take (k + 1)), fltK x = 0 from fun h x hx => by
        rw [take_next l k t, kys_append] at hx
        rcases List.mem_append.1 hx with q | q
        · exact HO.out x q
        · simp [kys] at q; subst q; exact h)
      generalize l.getD k zf = y at e0 e1 hx hx0 HJ HFT HFN
      have HX := Hid.mk' hx
      have HX0 := Hid.mk' hx0
      clear hc hc3 e3 hx hx0 HO
      have hba := HB.out.alloc HB.out.size (.cells #[.int .i64 y.tag, .slice y.p y.d.length y.cap] 30)
      have hbx := heap_alloc_new wr (.cells #[.int .i64 y.tag, .slice y.p y.d.length y.cap] 30)
      have HBX := Hid.mk' (show InBF wr y (wr.alloc (.cells #[.int .i64 y.tag, .slice y.p y.d.length y.cap] 30)) from InBF.start wr y)
      have HBA := Hid.mk' hba
      have HWA := Hid.mk' (HW.out.below (InBF.start wr y).below)
      have FT := tfault_any y (wr.alloc (.cells #[.int .i64 y.tag, .slice y.p y.d.length y.cap] 30)) (HX.out.below (InBF.start wr y).below)
      clear hba hbx HB HW HX
      obtain ⟨v, hv⟩ : ∃ v, fltK (ky y) = v := ⟨_, rfl⟩
      rw [hv] at FT
      have HV := Hid.mk' hv
      clear hv
      go_wp2_with fail
      refine FT.mono ?_
      clear FT e0 e1
      rintro e w2 ⟨rfl, hb2⟩
      have HB2 := Hid.mk' (HBA.out.trans (hb2.mono HBA.out.size))
      have HW2 := Hid.mk' (HWA.out.below hb2)
      have hbox := box_bel HBX.out.box hb2
      obtain ⟨c0, c1, _⟩ := two_cells hbox
      clear hb2 HBA HWA HBX hbox
      by_cases tv : v = 0
      · subst tv
        go_wp2_with fail
        refine (tput_any w b (joinK (kys (l.take k))) y w2 HW2.out HX0.out HB2.out HV.out (by have h := HLE.out; rw [HJ.out, List.length_append, encK_len] at h; simp only [ky] at h; omega)).mono ?_
        rintro e w3 ⟨rfl, hW3, hB3⟩
        rw [← HJ.out] at hW3
        have HW3 := Hid.mk' hW3
        have HB3 := Hid.mk' hB3
        have HO3 := Hid.mk' (HFN.out HV.out)
        clear hW3 hB3 HB2 HW2 c0 c1
        go_wp2_with fail
        go_roundw
        case rel => exact ⟨k + 1, by omega, by go_num, HW3, HO3, HB3⟩
        case measure => simp [intOf]; omega
      · have d : (v != 0) = true := by simp [tv]
        have HQ := Hid.mk' (HN'.out v (by rw [HFT.out (by rw [HV.out]; exact tv)]; exact HV.out) tv w2 HB2.out)
        clear tv
        go_wp2_with fail
        first | exact HQ.out | (rw [Exit.noGoto_ret]; exact HQ.out)
    · obtain rfl : k = l.length := by omega
      rw [List.take_of_length_le (Nat.le_refl _)] at HW HO
      have YB := bytesB w.heap.size b (joinK (kys l)) wr HW.out (by omega)
      have HQ := Hid.mk' (fun g w' => HY'.out (fltL_of HO.out) g w')
      generalize joinK (kys l) = J at HW YB HQ
      go_wp2_with fail
      refine YB.mono ?_
      rintro e w2 ⟨rfl, hbi, hb2⟩
      have HQ2 := Hid.mk' (HQ.out _ _ hbi HB.out.size (HB.out.trans (hb2.mono HB.out.size)))
      clear hbi hb2 YB
      go_wp2_with fail
      exact HQ2.out
end Go.Proofs.Ytflllegengomnaa
