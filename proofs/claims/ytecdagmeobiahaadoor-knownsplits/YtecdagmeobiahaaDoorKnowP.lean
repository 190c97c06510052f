/-
  Package known: Known, Unknown, by their closures.
-/
import Derived.Test.YtecdagmeobiahaaDoorKnowN
namespace Go.Proofs.YtecdagmeobiahaaDoor
open Go.RowKit
set_option linter.unusedSimpArgs false
set_option linter.unusedVariables false

def pickF (pr : Int → Bool) (l : List Fd) : List Fd := l.filter fun x => pr x.tag
theorem pickF_kys (pr : Int → Bool) (l : List Fd) : kys (pickF pr l) = (kys l).filter (fun x => pr x.1) := by
  unfold pickF kys
  rw [List.filter_map]
  rfl
theorem pickF_next (pr : Int → Bool) (l : List Fd) (k : Nat) (h : k < l.length) : pickF pr (l.take (k + 1)) = pickF pr (l.take k) ++ if pr (l.getD k zf).tag then [l.getD k zf] else [] := by
  unfold pickF
  rw [take_next l k h, List.filter_append]
  congr 1
  generalize l.getD k zf = y
  by_cases t : pr y.tag <;> simp [t]
theorem pickF_len (pr : Int → Bool) (l : List Fd) : (pickF pr l).length ≤ l.length := List.length_filter_le _ _

theorem field_one (y : Fd) : ∀ u ∈ (#[Value.int .i64 y.tag, Value.slice y.p y.d.length y.cap] : Array Value), u.oneCell' = true := by
  intro u hu
  simp at hu
  rcases hu with rfl | rfl <;> rfl

theorem FIn.all {w : World} {p : Option Addr} {l : List Fd} (h : FIn w p l) : ∀ f ∈ l, FOk w f := fun f hf => by
  obtain ⟨i, hi, rfl⟩ := List.getElem_of_mem hf
  obtain ⟨b, o, rfl, hc⟩ := h.at (by omega)
  have := (hc i hi).2.2
  simpa [List.getD, hi] using this

set_option maxHeartbeats 1600000 in
theorem known1_any (x : Fd) (bt : Nat) (v : Int) (w : World) (hc : w.cell? ⟨bt, 0, none⟩ = some (.int .i64 v)) :
    Calls Tryd.prog 31 #[.agg #[.int .i64 x.tag, .slice x.p x.d.length x.cap], .pointer (some ⟨bt, 0, none⟩)] w fun e w' => e = .returned (.bool (knowsK v x.tag)) ∧ Below w.heap.size w w' := by
  have hb : bt < w.heap.size := lt_of_cell hc
  have K := fun w => knows_any v x.tag w
  go_enter Tryd.func31, Tryd.ntmps31
  go_wp2_with fail
  refine (K _).mono ?_
  rintro e w' ⟨rfl, rfl⟩
  go_wp2_with fail
  go_ret
  exact ⟨rfl, (Below.refl _ _).alloc (Nat.le_refl _) _⟩

set_option maxHeartbeats 1600000 in
theorem unknown1_any (x : Fd) (bt : Nat) (v : Int) (w : World) (hc : w.cell? ⟨bt, 0, none⟩ = some (.int .i64 v)) :
    Calls Tryd.prog 32 #[.agg #[.int .i64 x.tag, .slice x.p x.d.length x.cap], .pointer (some ⟨bt, 0, none⟩)] w fun e w' => e = .returned (.bool (!knowsK v x.tag)) ∧ Below w.heap.size w w' := by
  have hb : bt < w.heap.size := lt_of_cell hc
  have K := fun w => knows_any v x.tag w
  go_enter Tryd.func32, Tryd.ntmps32
  go_wp2_with fail
  refine (K _).mono ?_
  rintro e w' ⟨rfl, rfl⟩
  go_wp2_with fail
  go_ret
  exact ⟨rfl, (Below.refl _ _).alloc (Nat.le_refl _) _⟩

/-- The fields that were picked. -/
def PickP (w : World) (pr : Int → Bool) (l : List Fd) (e : Ending) (w' : World) : Prop :=
  ∃ g l', e = .returned (.slice (some ⟨g, 0, none⟩) l'.length l'.length) ∧ kys l' = (kys l).filter (fun x => pr x.1) ∧ FIn w' (some ⟨g, 0, none⟩) l' ∧ Below w.heap.size w w'

set_option maxHeartbeats 4000000 in
theorem pickedK_any (pr : Int → Bool) (p : Option Addr) (c : Nat) (l : List Fd) (bt : Nat) (v : Int) (w : World) (hp : FIn w p l) (hn : l.length ≤ 1000) (hbox : w.cell? ⟨bt, 0, none⟩ = some (.int .i64 v))
    (hC : ∀ (x : Fd) (W : World), W.cell? ⟨bt, 0, none⟩ = some (.int .i64 v) → Calls Tryd.prog 31 #[.agg #[.int .i64 x.tag, .slice x.p x.d.length x.cap], .pointer (some ⟨bt, 0, none⟩)] W fun e w' => e = .returned (.bool (pr x.tag)) ∧ Below W.heap.size W w') :
    Calls Tryd.prog 30 #[.slice p l.length c, .func (.func 31) #[] #[.pointer (some ⟨bt, 0, none⟩)]] w (PickP w pr l) := by
  have HBX := Hid.mk' hbox
  clear hbox
  go_enter Tryd.func30, Tryd.ntmps30
  go_wp2
  go_loopw [5, 10] (fun u i W => ∃ k : Nat, k ≤ l.length ∧ i = .int .i64 k ∧ Hid (OwnR 39 2 W w.heap.size u (pickF pr (l.take k)).length ((pickF pr (l.take k)).flatMap Fd.cells)) ∧ Hid (Below w.heap.size w W)) (fun _ i _ => l.length - (intOf i).toNat)
  case atStart => exact ⟨0, by omega, rfl, OwnR.nil _ _ _ _, Below.refl _ _⟩
  case round =>
    obtain ⟨k, hk, rfl, HO, HB⟩ := hrel
    by_cases t : k < l.length
    · obtain ⟨b, o, rfl, hc⟩ := (hp.below HB.out).at (by omega)
      obtain ⟨e0, e1, _⟩ := hc k t
      have HN := Hid.mk' (pickF_next pr l k t)
      generalize l.getD k zf = y at e0 e1 HN
      have hB := (Below.refl wr.heap.size wr).alloc (Nat.le_refl _) (.cells #[.int .i64 y.tag, .slice y.p y.d.length y.cap] 39)
      have HB1 := Hid.mk' (HB.out.trans (hB.mono HB.out.size))
      have HO1 := Hid.mk' (HO.out.below hB)
      have hlt : bt < w.heap.size := lt_of_cell HBX.out
      have C := hC y _ (show (wr.alloc (.cells #[.int .i64 y.tag, .slice y.p y.d.length y.cap] 39)).cell? ⟨bt, 0, none⟩ = some (.int .i64 v) by rw [HB1.out.cell (p := ⟨bt, 0, none⟩) hlt]; exact HBX.out)
      have hnew := heap_alloc_new wr (.cells #[.int .i64 y.tag, .slice y.p y.d.length y.cap] 39)
      have HW := Hid.mk' hnew
      have HLN := Hid.mk' (Nat.le_trans (pickF_len pr (l.take k)) (by simp; omega : (l.take k).length ≤ 1000))
      clear hc hB HB HO hnew hlt
      go_wp2_with fail
      refine C.mono ?_
      rintro e w2 ⟨rfl, hb2⟩
      have HB2 := Hid.mk' (HB1.out.trans (hb2.mono HB1.out.size))
      have HO2 := Hid.mk' (HO1.out.below hb2)
      have hbx : w2.heap[wr.heap.size]? = some (.cells #[.int .i64 y.tag, .slice y.p y.d.length y.cap] 39 (0, 0)) := by rw [hb2.block _ (by simp)]; exact HW.out
      obtain ⟨g0, g1, _, _⟩ := two_cells hbx
      clear hb2 hbx HB1 HO1 HW C
      cases hpr : pr y.tag
      · have HN := Hid.mk' (show pickF pr (l.take (k + 1)) = pickF pr (l.take k) by rw [HN.out, hpr]; simp)
        go_wp2_with fail
        go_roundw
        case rel => exact ⟨k + 1, by omega, by go_num, by rw [HN.out]; exact HO2.out, HB2.out⟩
        case measure => simp [intOf]; omega
      · have HN := Hid.mk' (show pickF pr (l.take (k + 1)) = pickF pr (l.take k) ++ [y] by rw [HN.out, hpr]; simp)
        go_wp2_with (at_builtin; refine wpList_own1 (by rfl) (.tmp 17) (.tmp 19) 35 (by rfl) 39 (.agg #[.int .i64 0, .slice none 0 0]) 2 32 Tryd.underlying35 infoF (by rfl) (by decide) w.heap.size _ _ _ (by rfl) (by exact HO2.out) (by exact HB2.out.size) #[.int .i64 y.tag, .slice y.p y.d.length y.cap] 39 (by rfl) (by rfl) (by exact field_one y) (by have := HLN.out; unfold maxLen; omega) (by have := HLN.out; omega) ?_)
        intro u' w3 hO3 hb3
        have HO3 := Hid.mk' hO3
        have HB3 := Hid.mk' (HB2.out.trans hb3)
        clear hO3 hb3 HO2 HB2
        go_wp2_with fail
        go_roundw
        case rel => exact ⟨k + 1, by omega, by go_num, by rw [HN.out, flatF_append, List.length_append]; exact HO3.out, HB3.out⟩
        case measure => simp [intOf]; omega
    · obtain rfl : k = l.length := by omega
      rw [List.take_of_length_le (Nat.le_refl _)] at HO
      have hpl := pickF_len pr l
      obtain ⟨q, cq, rfl, hf, _⟩ := own_fin HO.out (fun f hf => (hp.below HB.out).all f (List.mem_filter.1 hf).1)
      have C := copy_any q cq (pickF pr l) wr hf (by omega)
      clear hf
      go_wp2_with fail
      refine C.mono ?_
      rintro e w2 ⟨rfl, l', hk', hrow, hok, hb⟩
      have hll : (pickF pr l).length = l'.length := by rw [← kys_len, ← hk', kys_len]
      rw [hll]
      have HP := Hid.mk' (show PickP w pr l (.returned (.slice (some ⟨wr.heap.size, 0, none⟩) l'.length l'.length)) w2 from ⟨_, l', rfl, by rw [hk', pickF_kys], FIn.of_row hrow (fun f hf => (hok f hf).ok), HB.out.trans (hb.mono HB.out.size)⟩)
      clear hk' hrow hok hb hll
      go_wp2_with fail
      go_ret
      exact HP.out

set_option maxHeartbeats 4000000 in
theorem pickedU_any (pr : Int → Bool) (p : Option Addr) (c : Nat) (l : List Fd) (bt : Nat) (v : Int) (w : World) (hp : FIn w p l) (hn : l.length ≤ 1000) (hbox : w.cell? ⟨bt, 0, none⟩ = some (.int .i64 v))
    (hC : ∀ (x : Fd) (W : World), W.cell? ⟨bt, 0, none⟩ = some (.int .i64 v) → Calls Tryd.prog 32 #[.agg #[.int .i64 x.tag, .slice x.p x.d.length x.cap], .pointer (some ⟨bt, 0, none⟩)] W fun e w' => e = .returned (.bool (pr x.tag)) ∧ Below W.heap.size W w') :
    Calls Tryd.prog 30 #[.slice p l.length c, .func (.func 32) #[] #[.pointer (some ⟨bt, 0, none⟩)]] w (PickP w pr l) := by
  have HBX := Hid.mk' hbox
  clear hbox
  go_enter Tryd.func30, Tryd.ntmps30
  go_wp2
  go_loopw [5, 10] (fun u i W => ∃ k : Nat, k ≤ l.length ∧ i = .int .i64 k ∧ Hid (OwnR 39 2 W w.heap.size u (pickF pr (l.take k)).length ((pickF pr (l.take k)).flatMap Fd.cells)) ∧ Hid (Below w.heap.size w W)) (fun _ i _ => l.length - (intOf i).toNat)
  case atStart => exact ⟨0, by omega, rfl, OwnR.nil _ _ _ _, Below.refl _ _⟩
  case round =>
    obtain ⟨k, hk, rfl, HO, HB⟩ := hrel
    by_cases t : k < l.length
    · obtain ⟨b, o, rfl, hc⟩ := (hp.below HB.out).at (by omega)
      obtain ⟨e0, e1, _⟩ := hc k t
      have HN := Hid.mk' (pickF_next pr l k t)
      generalize l.getD k zf = y at e0 e1 HN
      have hB := (Below.refl wr.heap.size wr).alloc (Nat.le_refl _) (.cells #[.int .i64 y.tag, .slice y.p y.d.length y.cap] 39)
      have HB1 := Hid.mk' (HB.out.trans (hB.mono HB.out.size))
      have HO1 := Hid.mk' (HO.out.below hB)
      have hlt : bt < w.heap.size := lt_of_cell HBX.out
      have C := hC y _ (show (wr.alloc (.cells #[.int .i64 y.tag, .slice y.p y.d.length y.cap] 39)).cell? ⟨bt, 0, none⟩ = some (.int .i64 v) by rw [HB1.out.cell (p := ⟨bt, 0, none⟩) hlt]; exact HBX.out)
      have hnew := heap_alloc_new wr (.cells #[.int .i64 y.tag, .slice y.p y.d.length y.cap] 39)
      have HW := Hid.mk' hnew
      have HLN := Hid.mk' (Nat.le_trans (pickF_len pr (l.take k)) (by simp; omega : (l.take k).length ≤ 1000))
      clear hc hB HB HO hnew hlt
      go_wp2_with fail
      refine C.mono ?_
      rintro e w2 ⟨rfl, hb2⟩
      have HB2 := Hid.mk' (HB1.out.trans (hb2.mono HB1.out.size))
      have HO2 := Hid.mk' (HO1.out.below hb2)
      have hbx : w2.heap[wr.heap.size]? = some (.cells #[.int .i64 y.tag, .slice y.p y.d.length y.cap] 39 (0, 0)) := by rw [hb2.block _ (by simp)]; exact HW.out
      obtain ⟨g0, g1, _, _⟩ := two_cells hbx
      clear hb2 hbx HB1 HO1 HW C
      cases hpr : pr y.tag
      · have HN := Hid.mk' (show pickF pr (l.take (k + 1)) = pickF pr (l.take k) by rw [HN.out, hpr]; simp)
        go_wp2_with fail
        go_roundw
        case rel => exact ⟨k + 1, by omega, by go_num, by rw [HN.out]; exact HO2.out, HB2.out⟩
        case measure => simp [intOf]; omega
      · have HN := Hid.mk' (show pickF pr (l.take (k + 1)) = pickF pr (l.take k) ++ [y] by rw [HN.out, hpr]; simp)
        go_wp2_with (at_builtin; refine wpList_own1 (by rfl) (.tmp 17) (.tmp 19) 35 (by rfl) 39 (.agg #[.int .i64 0, .slice none 0 0]) 2 32 Tryd.underlying35 infoF (by rfl) (by decide) w.heap.size _ _ _ (by rfl) (by exact HO2.out) (by exact HB2.out.size) #[.int .i64 y.tag, .slice y.p y.d.length y.cap] 39 (by rfl) (by rfl) (by exact field_one y) (by have := HLN.out; unfold maxLen; omega) (by have := HLN.out; omega) ?_)
        intro u' w3 hO3 hb3
        have HO3 := Hid.mk' hO3
        have HB3 := Hid.mk' (HB2.out.trans hb3)
        clear hO3 hb3 HO2 HB2
        go_wp2_with fail
        go_roundw
        case rel => exact ⟨k + 1, by omega, by go_num, by rw [HN.out, flatF_append, List.length_append]; exact HO3.out, HB3.out⟩
        case measure => simp [intOf]; omega
    · obtain rfl : k = l.length := by omega
      rw [List.take_of_length_le (Nat.le_refl _)] at HO
      have hpl := pickF_len pr l
      obtain ⟨q, cq, rfl, hf, _⟩ := own_fin HO.out (fun f hf => (hp.below HB.out).all f (List.mem_filter.1 hf).1)
      have C := copy_any q cq (pickF pr l) wr hf (by omega)
      clear hf
      go_wp2_with fail
      refine C.mono ?_
      rintro e w2 ⟨rfl, l', hk', hrow, hok, hb⟩
      have hll : (pickF pr l).length = l'.length := by rw [← kys_len, ← hk', kys_len]
      rw [hll]
      have HP := Hid.mk' (show PickP w pr l (.returned (.slice (some ⟨wr.heap.size, 0, none⟩) l'.length l'.length)) w2 from ⟨_, l', rfl, by rw [hk', pickF_kys], FIn.of_row hrow (fun f hf => (hok f hf).ok), HB.out.trans (hb.mono HB.out.size)⟩)
      clear hk' hrow hok hb hll
      go_wp2_with fail
      go_ret
      exact HP.out

set_option maxHeartbeats 1600000 in
theorem known_any (v : Int) (p : Option Addr) (c : Nat) (l : List Fd) (w : World) (hp : FIn w p l) (hn : l.length ≤ 1000) :
    Calls Tryd.prog 15 #[.int .i64 v, .slice p l.length c] w (PickP w (knowsK v) l) := by
  have hmf : ∀ (fn : Fn) (first cap : Array Value) (w : World), (Instr.makeFunc fn first cap).run Tryd.prog w = .ok (.func fn first cap) w := fun _ _ _ _ => rfl
  have hb := (Below.refl w.heap.size w).alloc (Nat.le_refl _) (.cells #[.int .i64 v] 3)
  have hnew := heap_alloc_new w (.cells #[.int .i64 v] 3)
  have P := pickedK_any (knowsK v) p c l w.heap.size v _ (hp.below hb) hn (show (w.alloc (.cells #[.int .i64 v] 3)).cell? ⟨w.heap.size, 0, none⟩ = some (.int .i64 v) by generalize w.alloc (.cells #[.int .i64 v] 3) = X at hnew; simp [World.cell?, hnew]) (fun x W hc => known1_any x w.heap.size v W hc)
  have HB := Hid.mk' hb
  clear hnew hb
  go_enter Tryd.func15, Tryd.ntmps15
  go_wp2_with fail
  refine P.mono ?_
  rintro e w2 ⟨g, l', rfl, h1, h2, h3⟩
  have HP := Hid.mk' (show PickP w (knowsK v) l (.returned (.slice (some ⟨g, 0, none⟩) l'.length l'.length)) w2 from ⟨g, l', rfl, h1, h2, HB.out.trans (h3.mono HB.out.size)⟩)
  clear h1 h2 h3
  go_wp2_with fail
  go_ret
  exact HP.out

set_option maxHeartbeats 1600000 in
theorem unknown_any (v : Int) (p : Option Addr) (c : Nat) (l : List Fd) (w : World) (hp : FIn w p l) (hn : l.length ≤ 1000) :
    Calls Tryd.prog 16 #[.int .i64 v, .slice p l.length c] w (PickP w (fun t => !knowsK v t) l) := by
  have hmf : ∀ (fn : Fn) (first cap : Array Value) (w : World), (Instr.makeFunc fn first cap).run Tryd.prog w = .ok (.func fn first cap) w := fun _ _ _ _ => rfl
  have hb := (Below.refl w.heap.size w).alloc (Nat.le_refl _) (.cells #[.int .i64 v] 3)
  have hnew := heap_alloc_new w (.cells #[.int .i64 v] 3)
  have P := pickedU_any (fun t => !knowsK v t) p c l w.heap.size v _ (hp.below hb) hn (show (w.alloc (.cells #[.int .i64 v] 3)).cell? ⟨w.heap.size, 0, none⟩ = some (.int .i64 v) by generalize w.alloc (.cells #[.int .i64 v] 3) = X at hnew; simp [World.cell?, hnew]) (fun x W hc => unknown1_any x w.heap.size v W hc)
  have HB := Hid.mk' hb
  clear hnew hb
  go_enter Tryd.func16, Tryd.ntmps16
  go_wp2_with fail
  refine P.mono ?_
  rintro e w2 ⟨g, l', rfl, h1, h2, h3⟩
  have HP := Hid.mk' (show PickP w (fun t => !knowsK v t) l (.returned (.slice (some ⟨g, 0, none⟩) l'.length l'.length)) w2 from ⟨g, l', rfl, h1, h2, HB.out.trans (h3.mono HB.out.size)⟩)
  clear h1 h2 h3
  go_wp2_with fail
  go_ret
  exact HP.out
end Go.Proofs.YtecdagmeobiahaaDoor
