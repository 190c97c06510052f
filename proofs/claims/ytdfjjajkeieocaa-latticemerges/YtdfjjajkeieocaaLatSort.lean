/-
  slices.SortFunc over records, by their ids.
-/
import Derived.Test.YtdfjjajkeieocaaLatLay
import Derived.Test.YtdfjjajkeieocaaLatA
import Derived.Sort.OwnSortedInts
namespace Go.Proofs.Ytdfjjajkeieocaa
open Go.RowKit Go.Shelf Go.Sort
set_option linter.unusedSimpArgs false
set_option linter.unusedVariables false
set_option maxRecDepth 10000
set_option synthInstance.maxSize 2000

set_option maxHeartbeats 2000000 in
theorem rising1_any (x y : Rc) (W : World) : Calls Try.prog 63 #[.agg #[.int .i64 x.id, .int .i64 x.inc, .int .i64 x.st, .int .i64 x.lo, .int .i64 x.hi, .bool x.cut, .slice x.p x.bag.length x.cap], .agg #[.int .i64 y.id, .int .i64 y.inc, .int .i64 y.st, .int .i64 y.lo, .int .i64 y.hi, .bool y.cut, .slice y.p y.bag.length y.cap]] W fun e w' => e = .returned (.int .i64 (cmpI x.id y.id)) ∧ ∃ q os', w' = grow (W.drewN q) os' := by
  have C := fun X => cmpI_any x.id y.id X
  generalize cmpI x.id y.id = r at C ⊢
  go_enter Try.func63, Try.ntmps63
  go_wp2_with fail
  refine (C _).mono ?_
  rintro e w1 ⟨rfl, rfl⟩
  go_wp2_with fail
  go_ret
  exact ⟨rfl, 0, _, by rw [alloc_eq_grow, alloc_eq_grow, grow_grow]; rfl⟩

theorem rising_lt (x y : Rc) : Go.Proofs.ltOf (fun a b : Rc => cmpI a.id b.id) x y = decide (x.id < y.id) := by
  unfold Go.Proofs.ltOf cmpI
  by_cases h1 : x.id < y.id
  · simp [h1]
  · by_cases h2 : y.id < x.id <;> simp [h1, h2]

theorem rising_swo : SWO (Go.Proofs.ltOf fun a b : Rc => cmpI a.id b.id) where
  irrefl x := by rw [rising_lt]; simp
  trans x y z h1 h2 := by rw [rising_lt] at *; simp at *; omega
  ntrans x y z h1 h2 := by rw [rising_lt] at *; simp at *; omega

theorem grownBy_sortedK {w : World} {g n : Nat} {os : Array Obj} (d : Array Rc) (F : Array Value) : Fr (fun j => j = g) w (grow (putRow id (Sort.ahead w n) g 0 F) os) := by
  refine ⟨rfl, rfl, rfl, by simp [grow], fun k hk hne => ?_⟩
  have e : g ≠ k := fun e => hne e.symm
  rw [heap_grow_old _ _ (by simpa using hk)]
  simp [putRow, mapBlock, Sort.ahead, Array.getElem?_modify, e]

theorem holds_own {w : World} {B g cap : Nat} {l : List Rc} (h : OwnR 27 7 w B (.slice (some ⟨g, 0, none⟩) l.length cap) l.length (l.flatMap Rc.cells)) : g < w.heap.size ∧ (∀ o, w.frozen? ⟨g, o, none⟩ = false) ∧ ∀ j u, (l.flatMap Rc.cells)[j]? = some u → w.cell? ⟨g, j, none⟩ = some u := by
  obtain ⟨h1, h2⟩ := h.owns
  rcases h2 with ⟨h0, _⟩ | ⟨g', cap', cur, hv, _, hg, hn, hcap, hsz, htk⟩
  · cases h0
  cases hv
  refine ⟨(Array.getElem?_eq_some_iff.1 hg).1, fun o => by simp [World.frozen?, hg], fun j u hj => ?_⟩
  rw [← htk] at hj
  have hj2 : j < l.length * 7 := by
    have := (List.getElem?_eq_some_iff.1 hj).1
    simp at this
    omega
  rw [List.getElem?_take_of_lt hj2] at hj
  simp [World.cell?, hg]
  simpa using hj

set_option maxHeartbeats 2000000 in
theorem sortRecs_any (g cap B : Nat) (l : List Rc) (w : World) (h : OwnR 27 7 w B (.slice (some ⟨g, 0, none⟩) l.length cap) l.length (l.flatMap Rc.cells)) (hn : l.length ≤ 1000000) :
    Calls Try.prog 62 #[.slice (some ⟨g, 0, none⟩) l.length cap, .func (.func 63) #[] #[]] w fun e w' =>
      e = .returned (.tuple #[]) ∧ ∃ l' : List Rc, l'.Perm l ∧ l'.Pairwise (fun a b => ¬ b.id < a.id) ∧ (∀ i, i < l'.length → RAt w' g (i * 7) (l'.getD i zr)) ∧ Fr (fun j => j = g) w w' := by
  haveI : Inhabited Rc := ⟨zr⟩
  obtain ⟨hg, hfz, hcl⟩ := holds_own h
  have eg : ∀ args w, (callFunc 63 args).run Try.prog w = .ok (.enter 63 args) w := enters_of Try.func63 (by kernel_rfl) rfl
  have hH : HoldsK Rc.cells 7 w g 0 l.toArray := by
    intro j hj
    rw [size_flatK] at hj
    have hj' : j < l.length * 7 := by simpa using hj
    refine ⟨?_, hfz _⟩
    rw [get_flatK _ _ _ _ hj, Nat.zero_add]
    have hd : j / 7 < l.length := by omega
    have hm : j % 7 < 7 := Nat.mod_lt _ (by omega)
    refine hcl j _ ?_
    have e := flatR_get l (j / 7) (j % 7) hm
    rw [show j / 7 * 7 + j % 7 = j by omega] at e
    rw [e]
    have e2 : l.toArray[j / 7]! = l[j / 7] := by simp [hd]
    rw [e2, List.getElem?_eq_getElem hd]
    have e3 : j % 7 < (l[j / 7].cells).length := by simp [Rc.cells]; omega
    simp [e3]
  have hcon := AnyQ.slices_SortFunc sortRec 7 Try.isAgg27 Try.sizeOf27 Rc.cells (fun _ => rfl) (fun x v hv => flatR_one [x] v (by simpa using hv)) (fun a b => cmpI a.id b.id) rising_swo 63 #[] g 0 cap l.toArray w eg
    (fun _ _ _ _ x y => rising1_any x y _) hH hg (by simp; omega)
  rw [List.size_toArray] at hcon
  change Calls Try.prog 62 _ _ _ at hcon
  refine hcon.mono ?_
  rintro e w' ⟨rfl, d', n, os, ⟨hs, _, hperm⟩, hsort, rfl⟩
  have hs' : d'.size = l.length := by simpa using hs
  have e1 : d'.extract 0 l.length = d' := by rw [← hs']; simp
  have e2 : l.toArray.extract 0 l.length = l.toArray := by simp
  rw [e1, e2] at hperm
  have hHK : HoldsK Rc.cells 7 (sortWorldK Rc.cells 7 w g 0 n d' os) g 0 d' :=
    holdsK_grow _ _ _ os g 0 d' (by simpa [putRowK] using hg) (holdsK_putRowK _ _ (Sort.ahead w n) g 0 l.toArray d' (holdsK_ahead _ _ w n g 0 _ hH) hs)
  refine ⟨rfl, d'.toList, hperm, ?_, fun i hi => ?_, grownBy_sortedK d' _⟩
  · rw [List.pairwise_iff_getElem]
    intro i j hi hj hij
    have := hsort i j (Nat.zero_le _) hij (by simpa [hs'] using hj)
    rw [rising_lt] at this
    have h1 : d'[j]! = d'.toList[j] := by simp at hj; simp [hj]
    have h2 : d'[i]! = d'.toList[i] := by simp at hi; simp [hi]
    rw [h1, h2] at this
    simpa using this
  · have hi' : i < d'.size := by simpa using hi
    refine RAt.of fun c hc => ?_
    have := (hHK.cell hi' hc).1
    rw [Nat.zero_add] at this
    rw [this]
    have h1 : d'[i]! = d'.toList.getD i zr := by simp [List.getD, hi']
    rw [h1]
    have e3 : c < ((d'.toList.getD i zr).cells).length := by simp [Rc.cells]; omega
    rw [List.getElem?_eq_getElem e3]
    exact congrArg some (getElem!_pos ((d'.toList.getD i zr).cells) c e3)
end Go.Proofs.Ytdfjjajkeieocaa
