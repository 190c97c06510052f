/-
  Layer 4: the statements' own examples (awake) and their helper 'laid'.
-/
import Derived.Test.YtecdagmeobiahaaDoorFrameO
namespace Go.Proofs.YtecdagmeobiahaaDoor
open Go.RowKit
set_option linter.unusedSimpArgs false
set_option linter.unusedVariables false

theorem cellsB_cell4 {w : World} {q : Nat} {l : List Int} (h : w.heap[q]? = some (.cells (cellsB l) 5 (0, 0))) (i : Nat) (hi : i < l.length) : w.cell? ⟨q, i, none⟩ = some (.int .u8 (l.getD i 0)) := by
  simp [World.cell?, h, cellsB, List.getD, hi]

set_option maxHeartbeats 1600000 in
theorem awake4_any (w : World) (hT : Tab w) : Calls Tryd.prog 9 #[] w fun e w' => e = .returned (.bool true) ∧ Below w.heap.size w w' := by
  have S := seal_ok 2 none 0 [] w hT (BIn.empty _ _) isB.nil (by omega) (by omega) (by simp)
  go_enter Tryd.func9, Tryd.ntmps9
  go_wp2_with fail
  refine S.mono ?_
  rintro e w1 ⟨q, rfl, hq, hblk, hb1⟩
  have hlt : q < w1.heap.size := (Array.getElem?_eq_some_iff.1 hblk).1
  have hblk2 : (w1.alloc (.cells #[.int .u8 156, .int .u8 2, .int .u8 0, .int .u8 0, .int .u8 1, .int .u8 2, .int .u8 3] 5)).heap[q]? = some (.cells (cellsB (fullB 2 [])) 5 (0, 0)) := by rw [heap_alloc_old _ _ hlt]; exact hblk
  have hl8 : (fullB 2 []).length = 8 := by rw [fullB_len]; rfl
  have f := fullB_front 2 [] []
  rw [List.append_nil] at f
  have c0 := cellsB_cell4 hblk2 0 (by omega)
  have c1 := cellsB_cell4 hblk2 1 (by omega)
  have c2 := cellsB_cell4 hblk2 2 (by omega)
  have c3 := cellsB_cell4 hblk2 3 (by omega)
  rw [f.1] at c0
  rw [f.2.1] at c1
  rw [f.2.2.1] at c2
  rw [f.2.2.2] at c3
  simp only [List.length_nil, Int.natCast_zero, Int.zero_ediv, Int.zero_emod, Int.cast_ofNat_Int] at c0 c1 c2 c3
  have hb2 := hb1.alloc (o := .cells #[.int .u8 156, .int .u8 2, .int .u8 0, .int .u8 0, .int .u8 1, .int .u8 2, .int .u8 3] 5) hb1.size
  have HB := Hid.mk' hb2
  have O := open_short (some ⟨w1.heap.size, 0, none⟩) 7 7 (w1.alloc (.cells #[.int .u8 156, .int .u8 2, .int .u8 0, .int .u8 0, .int .u8 1, .int .u8 2, .int .u8 3] 5)) (by omega)
  have R := seal_range 4 none 0 0 (w1.alloc (.cells #[.int .u8 156, .int .u8 2, .int .u8 0, .int .u8 0, .int .u8 1, .int .u8 2, .int .u8 3] 5)) (by omega)
  clear hblk hblk2 f hb1 hb2 S hl8 hT hq hlt
  go_wp2_with fail
  refine O.mono ?_
  rintro e w' ⟨rfl, rfl⟩
  go_wp2_with fail
  refine R.mono ?_
  rintro e w' ⟨rfl, rfl⟩
  go_wp2
  go_ret
  exact ⟨rfl, HB.out⟩

set_option maxRecDepth 10000 in
set_option maxHeartbeats 2000000 in
theorem laid_any (g : Int) (p : Option Addr) (c : Nat) (l : List Int) (w : World) (hT : Tab w) (hB : BIn w p l) (hb : isB l) (hp : p = none → c = 0) (hlen : l.length ≤ 300) (hg1 : 1 ≤ g) (hg2 : g ≤ 3) :
    Calls Tryd.prog 11 #[.int .i64 g, .slice p l.length c] w fun e w' => ∃ v, e = .returned v ∧ Acc w' w.heap.size v (fullB g l) ∧ Below w.heap.size w w' := by
  have b1 : Below w.heap.size w (w.alloc (.cells #[.int .u8 156, .int .u8 g, .int .u8 ((l.length : Int) / 256), .int .u8 ((l.length : Int) % 256)] 5)) := (Below.refl _ _).alloc (Nat.le_refl _) _
  have hA : Acc (w.alloc (.cells #[.int .u8 156, .int .u8 g, .int .u8 ((l.length : Int) / 256), .int .u8 ((l.length : Int) % 256)] 5)) w.heap.size (.slice (some ⟨w.heap.size, 0, none⟩) 4 4) [156, g, (l.length : Int) / 256, (l.length : Int) % 256] :=
    seal_acc (l := [156, g, (l.length : Int) / 256, (l.length : Int) % 256]) (heap_alloc_new _ _) (Nat.le_refl _) (by simp)
  have hF := frontB_isB g l ⟨hg1, hg2⟩ hb (by omega)
  have hFl : (frontB g l).length ≤ 304 := by rw [frontB_len]; omega
  have Hs := Hid.mk' (show fullB g l = frontB g l ++ four (sumB (frontB g l)) from rfl)
  have hs := sum_lt _ hF
  have hsz : w.heap.size ≤ (w.alloc (.cells #[.int .u8 156, .int .u8 g, .int .u8 ((l.length : Int) / 256), .int .u8 ((l.length : Int) % 256)] 5)).heap.size := b1.size
  have hB1 := hB.below b1
  have HB1 := Hid.mk' b1
  clear b1 hB
  go_enter Tryd.func11, Tryd.ntmps11
  go_wp2_with (at_builtin; refine wpList_acc rfl (.tmp 17) (.tmp 18) rfl w.heap.size _ [156, g, (l.length : Int) / 256, (l.length : Int) % 256] rfl hA hsz p c l rfl hp hB1 (by simp; omega) ?_)
  intro v3 w3 hA3 hb3
  replace hA3 : Acc w3 w.heap.size v3 (frontB g l) := hA3
  have hb3' := HB1.out.trans hb3
  have hs3 := hb3'.size
  obtain ⟨q3, d3, rfl, hq3, _⟩ := hA3.slice
  have O := of_one w3.heap.size _ q3 d3 (frontB g l) w3 22 rfl (hT.below hb3' hT.pos) rfl hq3 hF (by omega)
  have a3 : Below w3.heap.size w3 (w3.alloc (.cells #[.slice q3 (frontB g l).length d3] 22)) := (Below.refl _ _).alloc (Nat.le_refl _) _
  have hb4 := hb3'.trans (a3.mono hs3)
  have hA4 := hA3.below a3
  have hs4 := hb4.size
  generalize sumB (frontB g l) = s at O hs Hs
  generalize frontB g l = F at *
  have HA := Hid.mk' hA4
  have HB4 := Hid.mk' hb4
  clear hA hsz hB1 hA3 hA4 hb3 hb3' hb4 a3 hq3 HB1
  go_wp2_with fail
  refine O.mono ?_
  rintro e w' ⟨rfl, rfl⟩
  generalize w3.alloc (.cells #[.slice q3 F.length d3] 22) = w4 at HA HB4 hs4
  clear O
  go_wp2_with (at_builtin; refine wpList_acc rfl (.tmp 23) (.tmp 38) rfl w.heap.size _ F rfl (HA.out.below ((Below.refl _ _).alloc (Nat.le_refl _) _)) (by simp; omega) (some ⟨w4.heap.size, 0, none⟩) 4 (four s) rfl (by simp) (BIn.of_block (rest := []) (heap_alloc_new _ _)) (by simp [four]; omega) ?_)
  intro v5 w5 hA5 hb5
  go_wp2
  go_ret
  exact ⟨_, rfl, by rw [Hs.out]; exact hA5, (HB4.out.alloc hs4 _).trans hb5⟩
end Go.Proofs.YtecdagmeobiahaaDoor
