/-
  Stage 11: the statements' own awake.
-/
import Derived.Test.YtmfkdohfejklhaaDoorGen1P
namespace Go.Proofs.YtmfkdohfejklhaaDoor
open Go.RowKit
set_option linter.unusedSimpArgs false
set_option linter.unusedVariables false
set_option maxRecDepth 10000
set_option synthInstance.maxSize 2000

def ga : Mg := ⟨4, 5, 1, 1, 3, 7, 0, 0, 0, 0, none, 0, []⟩
def gb : Mg := ⟨9, 0, 0, 1, 3, 0, 0, 0, 1, 0, none, 0, []⟩
theorem ga_ok (w : World) : MOk w ga := ⟨by decide, by decide, by decide, by decide, by decide, by decide, by decide, by decide, by decide, by decide, Nat.le_refl _, by simp [ga, maxLen], fun _ => rfl, RIn.empty _ _⟩
theorem gb_ok (w : World) : MOk w gb := ⟨by decide, by decide, by decide, by decide, by decide, by decide, by decide, by decide, by decide, by decide, Nat.le_refl _, by simp [gb, maxLen], fun _ => rfl, RIn.empty _ _⟩
def l15 : List Int := [4, 0, 5, 0, 0, 0, 0, 0, 1, 19, 0, 7, 0, 0, 0]
theorem body_ga : body1 (mv ga) = l15 := by decide
theorem enc_ga {b : List Int} {err : Int} (h : EncOk ga b err) : err = 0 ∧ b = l15 := by
  rcases h with ⟨_, h1, h2⟩ | ⟨h1, _⟩ | ⟨_, h1, _⟩
  · exact ⟨h1, by rw [h2, body_ga]⟩
  · exact absurd h1 (by decide)
  · exact absurd h1 (by decide)
theorem enc_gb {b : List Int} {err : Int} (h : EncOk gb b err) : err = 14 := by
  rcases h with ⟨h1, _⟩ | ⟨h1, _⟩ | ⟨_, _, h1, _⟩
  · exact absurd h1 (by decide)
  · exact absurd h1 (by decide)
  · exact h1

set_option maxHeartbeats 4000000 in
theorem awake11_any (G : Gen1Ok) (w : World) (hK : Kd w) : Calls Tryd.prog 8 #[] w fun e w' => e = .returned (.bool true) ∧ Below w.heap.size w w' := by
  have E1 := G.enc ga w (ga_ok w) (by simp [ga]) hK
  have E2 := fun X (h : Below w.heap.size w X) => G.enc gb X (gb_ok X) (by simp [gb]) (hK.below h)
  have A1 := @enc_ga
  have A2 := @enc_gb
  generalize EncOk ga = Q1 at A1
  simp only [EncPost] at E1 E2
  clear hK
  simp only [ga, gb, List.length_nil] at E1 E2
  go_enter Tryd.func8, Tryd.ntmps8
  go_wp2_with fail
  refine E1.mono ?_
  rintro e w1 ⟨p, c, b, err, rfl, hB, hib, hp0, hlc, hcm, hl, hb1, hE⟩
  obtain ⟨rfl, rfl⟩ := enc_ga hE
  have HB1 := Hid.mk' hb1
  have HBI := Hid.mk' hB
  clear hE hb1 hB hib hl E1 A1 A2
  go_wp2_with fail
  refine (E2 _ HB1.out).mono ?_
  rintro e w2 ⟨p2, c2, b2, err2, rfl, _, _, _, _, _, _, hb2, hE2⟩
  obtain rfl := enc_gb hE2
  have HB2 := Hid.mk' (HB1.out.trans (hb2.mono HB1.out.size))
  have cv1 := (HBI.out.below hb2).convert (P := Tryd.prog) c 29 5 9 Tryd.underlying29 Tryd.underlying5 Tryd.underlying9
  have hg := heap_alloc_new w2 (.cells #[.int .u8 4, .int .u8 0, .int .u8 5, .int .u8 0, .int .u8 0, .int .u8 0, .int .u8 0, .int .u8 0, .int .u8 1, .int .u8 19, .int .u8 0, .int .u8 7, .int .u8 0, .int .u8 0, .int .u8 0] 5)
  have cv2 := (BIn.of_block (w := w2.alloc (.cells #[.int .u8 4, .int .u8 0, .int .u8 5, .int .u8 0, .int .u8 0, .int .u8 0, .int .u8 0, .int .u8 0, .int .u8 1, .int .u8 19, .int .u8 0, .int .u8 7, .int .u8 0, .int .u8 0, .int .u8 0] 5)) (g := w2.heap.size) (e := 5) (f := (0, 0)) (l := l15) (rest := []) hg).convert (P := Tryd.prog) 15 29 5 9 Tryd.underlying29 Tryd.underlying5 Tryd.underlying9
  have hst : ((strOfNums l15).toList == (strOfNums l15).toList) = true := by simp
  have HB3 := Hid.mk' (HB2.out.alloc HB2.out.size (.cells #[.int .u8 4, .int .u8 0, .int .u8 5, .int .u8 0, .int .u8 0, .int .u8 0, .int .u8 0, .int .u8 0, .int .u8 1, .int .u8 19, .int .u8 0, .int .u8 7, .int .u8 0, .int .u8 0, .int .u8 0] 5))
  rw [show l15.length = 15 from rfl] at cv1 cv2 ⊢
  generalize strOfNums l15 = st at cv1 cv2 hst
  clear hg hE2 hb2 E2 HBI
  go_wp2_with fail
  go_ret
  exact ⟨rfl, HB3.out⟩
end Go.Proofs.YtmfkdohfejklhaaDoor
