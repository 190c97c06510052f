/-
  Package crc: the machine, whose table is built once, and its atomic counts.
-/
import Derived.Test.YtlkljfpgphhpdaaDoorCrc
import Derived.Test.YtlkljfpgphhpdaaDoorSync
import Derived.Deep.RegionHeld3
namespace Go.Proofs.YtlkljfpgphhpdaaDoor
open Go.RowKit
set_option linter.unusedSimpArgs false
set_option linter.unusedVariables false

/-- A machine in the block g: whether it is done, its lock's word, its table, how often it was built, how many sums. -/
structure Mach (w : World) (g : Nat) (d st : Int) (tab : Nat → Int) (bu su : Int) : Prop where
  c0 : w.cell? ⟨g, 0, none⟩ = some (.int .u32 d)
  c1 : w.cell? ⟨g, 1, none⟩ = some (.int .i32 st)
  ct : ∀ i, i < 16 → w.cell? ⟨g, 3 + i, none⟩ = some (.int .u32 (tab i))
  cb : w.cell? ⟨g, 19, none⟩ = some (.int .i64 bu)
  cs : w.cell? ⟨g, 20, none⟩ = some (.int .i64 su)
  fz : ∀ j, w.frozen? ⟨g, j, none⟩ = false

theorem other {w : World} {g i j : Nat} {v u : Value} (h : i ≠ j) (k : w.cell? ⟨g, j, none⟩ = some u) : (w.setCell ⟨g, i, none⟩ v).cell? ⟨g, j, none⟩ = some u :=
  (World.cell?_setCell_other _ ⟨g, i, none⟩ ⟨g, j, none⟩ _ (by simp [h])).trans k
theorem same {w : World} {g i : Nat} {v u : Value} (k : w.cell? ⟨g, i, none⟩ = some u) : (w.setCell ⟨g, i, none⟩ v).cell? ⟨g, i, none⟩ = some v := World.cell?_setCell_same w _ _ k
theorem frz {w : World} {g i j : Nat} {v : Value} (k : w.frozen? ⟨g, j, none⟩ = false) : (w.setCell ⟨g, i, none⟩ v).frozen? ⟨g, j, none⟩ = false := by simp [k]

theorem Mach.setD {w : World} {g : Nat} {d st : Int} {tab : Nat → Int} {bu su : Int} (h : Mach w g d st tab bu su) (x : Int) : Mach (w.setCell ⟨g, 0, none⟩ (.int .u32 x)) g x st tab bu su :=
  ⟨same h.c0, other (by omega) h.c1, fun i hi => other (by omega) (h.ct i hi), other (by omega) h.cb, other (by omega) h.cs, fun j => frz (h.fz j)⟩
theorem Mach.setL {w : World} {g : Nat} {d st : Int} {tab : Nat → Int} {bu su : Int} (h : Mach w g d st tab bu su) (x : Int) : Mach (w.setCell ⟨g, 1, none⟩ (.int .i32 x)) g d x tab bu su :=
  ⟨other (by omega) h.c0, same h.c1, fun i hi => other (by omega) (h.ct i hi), other (by omega) h.cb, other (by omega) h.cs, fun j => frz (h.fz j)⟩
theorem Mach.setB {w : World} {g : Nat} {d st : Int} {tab : Nat → Int} {bu su : Int} (h : Mach w g d st tab bu su) (x : Int) : Mach (w.setCell ⟨g, 19, none⟩ (.int .i64 x)) g d st tab x su :=
  ⟨other (by omega) h.c0, other (by omega) h.c1, fun i hi => other (by omega) (h.ct i hi), same h.cb, other (by omega) h.cs, fun j => frz (h.fz j)⟩
theorem Mach.setS {w : World} {g : Nat} {d st : Int} {tab : Nat → Int} {bu su : Int} (h : Mach w g d st tab bu su) (x : Int) : Mach (w.setCell ⟨g, 20, none⟩ (.int .i64 x)) g d st tab bu x :=
  ⟨other (by omega) h.c0, other (by omega) h.c1, fun i hi => other (by omega) (h.ct i hi), other (by omega) h.cb, same h.cs, fun j => frz (h.fz j)⟩
theorem Mach.setT {w : World} {g : Nat} {d st : Int} {tab : Nat → Int} {bu su : Int} (h : Mach w g d st tab bu su) (k : Nat) (hk : k < 16) (x : Int) (tab' : Nat → Int) (e1 : tab' k = x) (e2 : ∀ i, i ≠ k → tab' i = tab i) : Mach (w.setCell ⟨g, 3 + k, none⟩ (.int .u32 x)) g d st tab' bu su :=
  ⟨other (by omega) h.c0, other (by omega) h.c1, fun i hi => by
    by_cases q : i = k
    · subst q; rw [e1]; exact same (h.ct i hi)
    · rw [e2 i q]; exact other (by omega) (h.ct i hi), other (by omega) h.cb, other (by omega) h.cs, fun j => frz (h.fz j)⟩
theorem Mach.drew {w : World} {g : Nat} {d st : Int} {tab : Nat → Int} {bu su : Int} (h : Mach w g d st tab bu su) : Mach w.drew g d st tab bu su :=
  ⟨h.c0, h.c1, h.ct, h.cb, h.cs, h.fz⟩
theorem Mach.below {w w' : World} {B g : Nat} {d st : Int} {tab : Nat → Int} {bu su : Int} (h : Mach w g d st tab bu su) (k : Below B w w') (hB : g < B) : Mach w' g d st tab bu su := by
  have e : ∀ j, w'.cell? ⟨g, j, none⟩ = w.cell? ⟨g, j, none⟩ := fun j => World.cell?_of_block (w := w) (k.block _ hB)
  have f : ∀ j, w'.frozen? ⟨g, j, none⟩ = w.frozen? ⟨g, j, none⟩ := fun j => by simp only [World.frozen?, k.block _ hB]
  exact ⟨by rw [e]; exact h.c0, by rw [e]; exact h.c1, fun i hi => by rw [e]; exact h.ct i hi, by rw [e]; exact h.cb, by rw [e]; exact h.cs, fun j => by rw [f]; exact h.fz j⟩

theorem Mach.mono {w : World} {g : Nat} {d st : Int} {tab tab' : Nat → Int} {bu su : Int} (h : Mach w g d st tab bu su) (e : ∀ i, i < 16 → tab' i = tab i) : Mach w g d st tab' bu su :=
  ⟨h.c0, h.c1, fun i hi => by rw [e i hi]; exact h.ct i hi, h.cb, h.cs, h.fz⟩

/-- The table's words. -/
def tabI (i : Nat) : Int := ((tabR i : Nat) : Int)

set_option maxHeartbeats 800000 in
theorem new_any (w : World) : Calls Tryd.prog 11 #[] w fun e w' => e = .returned (.pointer (some ⟨w.heap.size, 0, none⟩)) ∧ Mach w' w.heap.size 0 0 (fun _ => 0) 0 0 ∧ w.heap.size < w'.heap.size ∧ Below w.heap.size w w' := by
  go_enter Tryd.func11, Tryd.ntmps11
  go_wp2
  go_ret
  refine ⟨rfl, ⟨by rw [new_cell]; rfl, by rw [new_cell]; rfl, fun i hi => ?_, by rw [new_cell]; rfl, by rw [new_cell]; rfl, fun j => ?_⟩, ?_, ?_⟩
  · rw [new_cell]
    have hi' : i = 0 ∨ i = 1 ∨ i = 2 ∨ i = 3 ∨ i = 4 ∨ i = 5 ∨ i = 6 ∨ i = 7 ∨ i = 8 ∨ i = 9 ∨ i = 10 ∨ i = 11 ∨ i = 12 ∨ i = 13 ∨ i = 14 ∨ i = 15 := by omega
    rcases hi' with rfl | rfl | rfl | rfl | rfl | rfl | rfl | rfl | rfl | rfl | rfl | rfl | rfl | rfl | rfl | rfl <;> rfl
  · have h := heap_alloc_new w (.cells #[.int .u32 0, .int .i32 0, .int .u32 0, .int .u32 0, .int .u32 0, .int .u32 0, .int .u32 0, .int .u32 0, .int .u32 0, .int .u32 0, .int .u32 0, .int .u32 0, .int .u32 0, .int .u32 0, .int .u32 0, .int .u32 0, .int .u32 0, .int .u32 0, .int .u32 0, .int .i64 0, .int .i64 0] 54)
    simp only [World.frozen?, h]
    simp
  · simp
  · exact (Below.refl _ _).alloc (Nat.le_refl _) _

theorem linN_step (n r : Nat) : linN (n + 1) r = lin (linN n r) := by rw [linN_add n 1]; rfl

set_option maxHeartbeats 1600000 in
theorem build_any (B g : Nat) (d st : Int) (tab : Nat → Int) (bu su : Int) (w : World) (h : Mach w g d st tab bu su) (hB : B ≤ g) :
    Calls Tryd.prog 20 #[.pointer (some ⟨g, 0, none⟩)] w fun e w' => e = .returned (.tuple #[]) ∧ Mach w' g d st tabI (wrap64 (bu + 1)) su ∧ Below B w w' := by
  go_enter Tryd.func20, Tryd.ntmps20
  go_wp2
  go_loopw [4] (fun i wr => ∃ j : Nat, j ≤ 16 ∧ i = .int .i64 (j : Int) ∧ Hid (Mach wr g d st (fun k => if k < j then tabI k else tab k) bu su ∧ Below B w wr)) (fun i _ => 16 - (intOf i).toNat)
  case atStart => exact ⟨0, by omega, rfl, h.mono fun i _ => by simp, Below.refl _ _⟩
  case round =>
    obtain ⟨j, hj, rfl, HM⟩ := hrel
    by_cases t : j < 16
    · have tj : (j : Int) < 16 := by omega
      go_wp2
      go_loop [3, 10] (fun x i => ∃ n : Nat, n ≤ 4 ∧ i = .int .i64 (n : Int) ∧ x = .int .u32 ((linN n (j * 268435456) : Nat) : Int)) (fun _ i => 4 - (intOf i).toNat)
      case atStart => exact ⟨0, by omega, rfl, by rw [show linN 0 (j * 268435456) = j * 268435456 from rfl]; rfl⟩
      case round =>
        obtain ⟨n, hn, rfl, rfl⟩ := hrel
        have hlt := linN_lt n (j * 268435456) (by rw [p32]; omega)
        rw [p32] at hlt
        have HS := Hid.mk' (linN_step n (j * 268435456))
        by_cases tn : n < 4
        · generalize linN n (j * 268435456) = r at hlt HS
          have M := moved_any r wr hlt
          have tn' : (n : Int) < 4 := by omega
          go_wp2_with (go_at_call 25; refine M.mono ?_; rintro e w' ⟨rfl, rfl⟩)
          go_round
          case rel => exact ⟨n + 1, by omega, by go_num, by rw [HS.out]⟩
          case measure => simp [intOf]; omega
        · obtain rfl : n = 4 := by omega
          have HT := Hid.mk' (show ((linN 4 (j * 268435456) : Nat) : Int) = tabI j from rfl)
          generalize linN 4 (j * 268435456) = r at hlt HT
          clear HS
          have hcj := HM.out.1.ct j t
          have hfj := HM.out.1.fz (3 + j)
          generalize (if j < j then tabI j else tab j) = old at hcj
          go_wp2
          go_roundw
          case rel =>
            refine ⟨j + 1, by omega, by go_num, HM.out.1.setT j t _ _ ?_ ?_, HM.out.2.setCell hB _⟩
            · simp; exact HT.out.symm
            · intro i hi
              by_cases q : i < j
              · simp [q, show i < j + 1 by omega]
              · simp [q, show ¬ i < j + 1 by omega]
          case measure => simp [intOf]; omega
    · obtain rfl : j = 16 := by omega
      have A := add64_any g 19 bu 1 wr HM.out.1.cb (HM.out.1.fz 19)
      go_wp2_with (go_at_call 18; refine A.mono ?_; rintro e w' ⟨rfl, rfl⟩)
      go_end0
      exact ⟨rfl, (HM.out.1.mono fun i hi => by simp [hi]).setB _, HM.out.2.setCell hB _⟩

set_option maxRecDepth 100000 in
set_option maxHeartbeats 1600000 in
/-- '(*sync.Once).doSlow' with the machine's build, not yet done and the lock free. -/
theorem slow_build (B g : Nat) (tab : Nat → Int) (bu su : Int) (w : World) (h : Mach w g 0 0 tab bu su) (hB : B ≤ g) :
    Calls Tryd.prog 24 #[.pointer (some ⟨g, 0, none⟩), .func (.func 20) #[.pointer (some ⟨g, 0, none⟩)] #[]] w fun e w' => e = .returned (.tuple #[]) ∧ Mach w' g 1 0 tabI (wrap64 (bu + 1)) su ∧ Below B w w' := by
  have hnot : ∀ (x : Bool) (w : World), (Op.unary .not (.bool x)).run Tryd.prog w = .ok (.bool (!x)) w := fun _ _ => rfl
  have L := lock_free g 1 w h.c1 (h.fz 1)
  have h1 := h.setL 1
  have b1 : Below B w (w.setCell ⟨g, 1, none⟩ (.int .i32 1)) := (Below.refl _ _).setCell hB _
  have D := loadB_any g 0 0 _ h1.c0
  have Bd := build_any B g 0 1 tab bu su _ h1 hB
  go_enter_defers Tryd.func24, Tryd.ntmps24
  go_wp2_with (first | (go_at_call 27; refine L.mono ?_; rintro e w' ⟨rfl, rfl⟩) | (go_at_call 23; refine D.mono ?_; rintro e w' ⟨rfl, rfl⟩) | (go_at_call 20; refine Bd.mono ?_; rintro e w2 ⟨rfl, h2, b2⟩))
  refine leaves_cons (f := 29) (args := #[.pointer (some ⟨g, 0, none⟩), .bool true]) (by simp) (by simp [go_sem]) ?_
  refine (storeB_deferred g 0 (.int .u32 0) .returning _ h2.c0 (h2.fz 0)).mono ?_
  rintro e u' w'' ⟨rfl, rfl, rfl⟩
  have h3 := (h2.setD 1).drew
  refine leaves_cons (f := 28) (args := #[.pointer (some ⟨g, 1, none⟩)]) (by simp [settle]) (by simp [go_sem]) ?_
  refine (unlock_deferred g 1 _ _ h3.c1 (h3.fz 1)).mono ?_
  rintro e u' w'' ⟨rfl, rfl, rfl⟩
  have h4 := h3.setL 0
  have b4 : Below B w ((w2.setCell ⟨g, 0, none⟩ (.int .u32 1)).drew.setCell ⟨g, 1, none⟩ (.int .i32 0)) := (((b1.trans b2).setCell hB _).drew).setCell hB _
  simp [Leaves, settle, results, Tryd.results24]
  exact ⟨h4, b4⟩

set_option maxRecDepth 100000 in
set_option maxHeartbeats 800000 in
theorem do_build (B g : Nat) (tab : Nat → Int) (bu su : Int) (w : World) (h : Mach w g 0 0 tab bu su) (hB : B ≤ g) :
    Calls Tryd.prog 19 #[.pointer (some ⟨g, 0, none⟩), .func (.func 20) #[.pointer (some ⟨g, 0, none⟩)] #[]] w fun e w' => e = .returned (.tuple #[]) ∧ Mach w' g 1 0 tabI (wrap64 (bu + 1)) su ∧ Below B w w' := by
  have hnot : ∀ (x : Bool) (w : World), (Op.unary .not (.bool x)).run Tryd.prog w = .ok (.bool (!x)) w := fun _ _ => rfl
  have D := loadB_any g 0 0 w h.c0
  have Sl := slow_build B g tab bu su w h hB
  go_enter Tryd.func19, Tryd.ntmps19
  go_wp2_with (first | (go_at_call 24; refine Sl.mono ?_; rintro e w' ⟨rfl, h2, b2⟩) | (go_at_call 23; refine D.mono ?_; rintro e w' ⟨rfl, rfl⟩))
  go_end0
  exact ⟨rfl, h2, b2⟩

theorem built_any (g : Nat) (d st : Int) (tab : Nat → Int) (bu su : Int) (w : World) (h : Mach w g d st tab bu su) :
    Calls Tryd.prog 12 #[.pointer (some ⟨g, 0, none⟩)] w fun e w' => e = .returned (.int .i64 bu) ∧ w = w' := by
  have L := load64_any g 19 bu w h.cb
  go_enter Tryd.func12, Tryd.ntmps12
  go_wp2_with (go_at_call 17; refine L.mono ?_; rintro e w' ⟨rfl, rfl⟩)
  go_ret
  exact ⟨rfl, rfl⟩

theorem sums_any (g : Nat) (d st : Int) (tab : Nat → Int) (bu su : Int) (w : World) (h : Mach w g d st tab bu su) :
    Calls Tryd.prog 13 #[.pointer (some ⟨g, 0, none⟩)] w fun e w' => e = .returned (.int .i64 su) ∧ w = w' := by
  have L := load64_any g 20 su w h.cs
  go_enter Tryd.func13, Tryd.ntmps13
  go_wp2_with (go_at_call 17; refine L.mono ?_; rintro e w' ⟨rfl, rfl⟩)
  go_ret
  exact ⟨rfl, rfl⟩

theorem tabI_eq (k : Nat) : tabI k = ((tabR k : Nat) : Int) := rfl

set_option maxRecDepth 10000 in
set_option maxHeartbeats 4000000 in
theorem msum_gen (B g : Nat) (d : Int) (tab : Nat → Int) (bu bu' su : Int) (p : Option Addr) (c : Nat) (l : List Int) (w : World) (hM : Mach w g d 0 tab bu su) (hB : B ≤ g) (hb : isB l) (hm : l.length ≤ 140737488355328) (hst : ∀ x, Below B w x → BIn x p l)
    (hdo : ∀ w1, Mach w1 g d 0 tab bu (wrap64 (su + 1)) → Below B w w1 → Calls Tryd.prog 19 #[.pointer (some ⟨g, 0, none⟩), .func (.func 20) #[.pointer (some ⟨g, 0, none⟩)] #[]] w1 fun e w' => e = .returned (.tuple #[]) ∧ Mach w' g 1 0 tabI bu' (wrap64 (su + 1)) ∧ Below B w1 w') :
    Calls Tryd.prog 14 #[.pointer (some ⟨g, 0, none⟩), .slice p l.length c] w fun e w' => e = .returned (.int .u32 ((sumB l : Nat) : Int)) ∧ Mach w' g 1 0 tabI bu' (wrap64 (su + 1)) ∧ Below B w w' := by
  have hmf : ∀ (fn : Fn) (first cap : Array Value) (w : World), (Instr.makeFunc fn first cap).run Tryd.prog w = .ok (.func fn first cap) w := fun _ _ _ _ => rfl
  have A := add64_any g 20 su 1 w hM.cs (hM.fz 20)
  have h1 := hM.setS (wrap64 (su + 1))
  have b1 : Below B w (w.setCell ⟨g, 20, none⟩ (.int .i64 (wrap64 (su + 1)))) := (Below.refl _ _).setCell hB _
  have D := hdo _ h1 b1
  have HI := Hid.mk' hst
  have HB1 := Hid.mk' b1
  clear hst hdo h1 b1 hM
  generalize wrap64 (su + 1) = su' at A D HB1 ⊢
  go_enter Tryd.func14, Tryd.ntmps14
  go_wp2_with (first | (go_at_call 18; refine A.mono ?_; rintro e w' ⟨rfl, rfl⟩) | (go_at_call 19; refine D.mono ?_; rintro e w2 ⟨rfl, h2, b2⟩))
  have HM2 : Hid (Mach w2 g 1 0 tabI bu' su' ∧ Below B w w2) := ⟨h2, HB1.out.trans b2⟩
  clear A D h2 b2
  go_loopw [5, 25] (fun x i wr => ∃ j : Nat, j ≤ l.length ∧ i = .int .i64 (j : Int) ∧ x = .int .u32 ((regB 4294967295 (l.take j) : Nat) : Int) ∧ Hid (Mach wr g 1 0 tabI bu' su' ∧ Below B w wr)) (fun _ i _ => l.length - (intOf i).toNat)
  case atStart => exact ⟨0, Nat.zero_le _, rfl, rfl, HM2⟩
  case round =>
    obtain ⟨j, hj, rfl, rfl, HM⟩ := hrel
    have hlt := regB_lt 4294967295 (l.take j) (by decide) (hb.take j)
    rw [p32] at hlt
    by_cases tj : j < l.length
    · have hx := hb.getD j
      obtain ⟨q, og, rfl, hcc⟩ := HI.out wr HM.out.2 (by omega)
      have hcj := hcc j tj
      have HT := Hid.mk' (take_snoc l j tj)
      have HR := Hid.mk' (regB_snoc 4294967295 (l.take j) (l.getD j 0))
      generalize l.getD j 0 = x at hx hcj HT HR
      obtain ⟨x, rfl⟩ := Int.eq_ofNat_of_zero_le hx.1
      rw [Int.toNat_natCast] at HR
      generalize regB 4294967295 (l.take j) = s at HR hlt
      have P1 := fun w => place_any s (x / 16) w hlt (by omega)
      rw [show x / 16 % 16 = x / 16 by omega] at P1
      have hk1 := place_lt s (x / 16) hlt (by omega)
      rw [byteR_half s x (by omega)] at HR
      have H1 := Hid.mk' (half_step s (x / 16) hlt (by omega))
      have hs1 := halfR_lt s (x / 16) hlt (by omega)
      generalize halfR s (x / 16) = s1 at H1 hs1 HR
      have P2 := fun w => place_any s1 x w hs1 (by omega)
      have hk2 := place_lt s1 (x % 16) hs1 (by omega)
      have H2 := Hid.mk' (half_step s1 (x % 16) hs1 (by omega))
      generalize halfR s1 (x % 16) = s2 at H2 HR
      generalize s / 268435456 ^^^ x / 16 = k1 at P1 hk1 H1
      generalize s1 / 268435456 ^^^ x % 16 = k2 at P2 hk2 H2
      rw [show ((x / 16 : Nat) : Int) = (x : Int) / 16 by omega] at P1
      have HP1 := Hid.mk' P1
      have HP2 := Hid.mk' P2
      have hk1' : (k1 : Int) < 16 := by omega
      have hk2' : (k2 : Int) < 16 := by omega
      clear hcc P1 P2
      go_wp2_with fail
      have hS0 : wr.drew.cell? ⟨g, 3 + k1, none⟩ = some (.int .u32 ((tabR k1 : Nat) : Int)) ∧ Hid (Mach wr.drew g 1 0 tabI bu' su' ∧ Below B w wr.drew) := ⟨HM.out.1.drew.ct k1 hk1, HM.out.1.drew, HM.out.2.drew⟩
      refine wp_region_held_drew (S := fun w' => w'.cell? ⟨g, 3 + k1, none⟩ = some (.int .u32 ((tabR k1 : Nat) : Int)) ∧ Hid (Mach w' g 1 0 tabI bu' su' ∧ Below B w w')) (by kernel_rfl) hS0 (fun hS => ?_)
      clear hS0 hcj
      generalize wr.drew = wd at hS ⊢
      refine wpAnyH_take (i := 0) (v := ?v0_1) rfl (by kernel_rfl) (by kernel_rfl) (by kernel_rfl) (fun _ _ _ h => h) (Or.inl ⟨by rfl, ?hy0_1⟩) (by assumption) ?rest0_1
      case hy0_1 => (intro w hSw; (try dsimp only at hSw); go_simp; try (with_reducible rfl))
      simp only [Act.put, List.getElem_toArray, List.getElem_cons_zero, List.getElem_cons_succ, List.setIfInBounds_toArray, List.set_cons_zero, List.set_cons_succ]
      refine wpAnyH_take (i := 1) (v := ?v1_2) rfl (by kernel_rfl) (by kernel_rfl) (by kernel_rfl) (fun _ _ _ h => h) (Or.inl ⟨by rfl, ?hy1_2⟩) (by assumption) ?rest1_2
      case hy1_2 => (intro w hSw; (try dsimp only at hSw); go_simp; try (with_reducible rfl))
      simp only [Act.put, List.getElem_toArray, List.getElem_cons_zero, List.getElem_cons_succ, List.setIfInBounds_toArray, List.set_cons_zero, List.set_cons_succ]
      refine wpAnyH_take (i := 2) (v := ?v2_3) rfl (by kernel_rfl) (by kernel_rfl) (by kernel_rfl) (fun _ _ _ h => h) (Or.inl ⟨by rfl, ?hy2_3⟩) (by assumption) ?rest2_3
      case hy2_3 => (intro w hSw; (try dsimp only at hSw); go_simp; try (with_reducible rfl))
      simp only [Act.put, List.getElem_toArray, List.getElem_cons_zero, List.getElem_cons_succ, List.setIfInBounds_toArray, List.set_cons_zero, List.set_cons_succ]
      refine wpAnyH_take (i := 3) (v := ?v3_4) rfl (by kernel_rfl) (by kernel_rfl) (by kernel_rfl) (fun _ _ _ h => h) (Or.inl ⟨by rfl, ?hy3_4⟩) (by assumption) ?rest3_4
      case hy3_4 => (intro w hSw; (try dsimp only at hSw); go_simp; try (with_reducible rfl))
      simp only [Act.put, List.getElem_toArray, List.getElem_cons_zero, List.getElem_cons_succ, List.setIfInBounds_toArray, List.set_cons_zero, List.set_cons_succ]
      refine wpAnyH_take (i := 4) (v := ?v4_5) rfl (by kernel_rfl) (by kernel_rfl) (by kernel_rfl) (fun _ _ _ h => h) (Or.inl ⟨by rfl, ?hy4_5⟩) (by assumption) ?rest4_5
      case hy4_5 => (intro w hSw; (try dsimp only at hSw); go_simp; try (with_reducible rfl))
      simp only [Act.put, List.getElem_toArray, List.getElem_cons_zero, List.getElem_cons_succ, List.setIfInBounds_toArray, List.set_cons_zero, List.set_cons_succ]
      refine wpAnyH_take (i := 5) (v := ?v5_6) rfl (by kernel_rfl) (by kernel_rfl) (by kernel_rfl) (fun _ _ _ h => h) (Or.inl ⟨by rfl, ?hy5_6⟩) (by assumption) ?rest5_6
      case hy5_6 => (intro w hSw; (try dsimp only at hSw); go_simp; try (with_reducible rfl))
      simp only [Act.put, List.getElem_toArray, List.getElem_cons_zero, List.getElem_cons_succ, List.setIfInBounds_toArray, List.set_cons_zero, List.set_cons_succ]
      refine wpAnyH_take (i := 7) (v := ?v7_7) rfl (by kernel_rfl) (by kernel_rfl) (by kernel_rfl) (fun _ _ _ h => h) (Or.inl ⟨by rfl, ?hy7_7⟩) (by assumption) ?rest7_7
      case hy7_7 => (intro w hSw; (try dsimp only at hSw); go_simp; try (with_reducible rfl))
      simp only [Act.put, List.getElem_toArray, List.getElem_cons_zero, List.getElem_cons_succ, List.setIfInBounds_toArray, List.set_cons_zero, List.set_cons_succ]
      refine wpAnyH_take (i := 8) (v := ?v8_8) rfl (by kernel_rfl) (by kernel_rfl) (by kernel_rfl) (fun _ _ _ h => h) (Or.inl ⟨by rfl, ?hy8_8⟩) (by assumption) ?rest8_8
      case hy8_8 => (intro w hSw; (try dsimp only at hSw); go_simp; try (with_reducible rfl))
      simp only [Act.put, List.getElem_toArray, List.getElem_cons_zero, List.getElem_cons_succ, List.setIfInBounds_toArray, List.set_cons_zero, List.set_cons_succ]
      refine wpAnyH_ready (rs := [6]) (by kernel_rfl) (by simp) ?_
      refine (AllReadyH.cons rfl (fun K hK => ?_) AllReadyH.nil)
      go_simp
      refine (HP1.out _).mono ?_
      rintro e w' ⟨rfl, rfl⟩
      go_wp2_with fail
      refine hK.out _ _ ?_ (fun hS' => ?_)
      · exact hS
      clear hK K
      try simp only [Act.put, List.getElem_toArray, List.getElem_cons_zero, List.getElem_cons_succ, List.setIfInBounds_toArray, List.set_cons_zero, List.set_cons_succ]
      replace hS := hS'
      clear hS'
      refine wpAnyH_take (i := 9) (v := ?v9_9) rfl (by kernel_rfl) (by kernel_rfl) (by kernel_rfl) (fun _ _ _ h => h) (Or.inl ⟨by rfl, ?hy9_9⟩) (by assumption) ?rest9_9
      case hy9_9 => (intro w hSw; (try dsimp only at hSw); go_simp; try (with_reducible rfl))
      simp only [Act.put, List.getElem_toArray, List.getElem_cons_zero, List.getElem_cons_succ, List.setIfInBounds_toArray, List.set_cons_zero, List.set_cons_succ]
      refine wpAnyH_take (i := 10) (v := ?v10_10) rfl (by kernel_rfl) (by kernel_rfl) (by kernel_rfl) (fun _ _ _ h => h) (Or.inl ⟨by rfl, ?hy10_10⟩) (by assumption) ?rest10_10
      case hy10_10 => (intro w hSw; (try dsimp only at hSw); go_simp; try (with_reducible rfl))
      simp only [Act.put, List.getElem_toArray, List.getElem_cons_zero, List.getElem_cons_succ, List.setIfInBounds_toArray, List.set_cons_zero, List.set_cons_succ]
      refine wpAnyH_take (i := 11) (v := ?v11_11) rfl (by kernel_rfl) (by kernel_rfl) (by kernel_rfl) (fun _ _ _ h => h) (Or.inl ⟨by rfl, ?hy11_11⟩) (by assumption) ?rest11_11
      case hy11_11 => (intro w hSw; (try dsimp only at hSw); go_simp; try (with_reducible rfl))
      simp only [Act.put, List.getElem_toArray, List.getElem_cons_zero, List.getElem_cons_succ, List.setIfInBounds_toArray, List.set_cons_zero, List.set_cons_succ]
      refine wpAnyH_take (i := 12) (v := ?v12_12) rfl (by kernel_rfl) (by kernel_rfl) (by kernel_rfl) (fun _ _ _ h => h) (Or.inl ⟨by rfl, ?hy12_12⟩) (by assumption) ?rest12_12
      case hy12_12 => (intro w hSw; (try dsimp only at hSw); go_simp; try (with_reducible rfl))
      simp only [Act.put, List.getElem_toArray, List.getElem_cons_zero, List.getElem_cons_succ, List.setIfInBounds_toArray, List.set_cons_zero, List.set_cons_succ]
      refine wpAnyH_done (by kernel_rfl) ?_ _
      rw [IntKind.wrap_u32, H1.out]
      go_wp2_with fail
      have hS1 : wd.drew.cell? ⟨g, 3 + k2, none⟩ = some (.int .u32 ((tabR k2 : Nat) : Int)) ∧ Hid (Mach wd.drew g 1 0 tabI bu' su' ∧ Below B w wd.drew) := ⟨hS.2.out.1.drew.ct k2 hk2, hS.2.out.1.drew, hS.2.out.2.drew⟩
      refine wp_region_held_drew (S := fun w' => w'.cell? ⟨g, 3 + k2, none⟩ = some (.int .u32 ((tabR k2 : Nat) : Int)) ∧ Hid (Mach w' g 1 0 tabI bu' su' ∧ Below B w w')) (by kernel_rfl) hS1 (fun hS => ?_)
      clear hS1
      generalize wd.drew = we at hS ⊢
      refine wpAnyH_take (i := 0) (v := ?v0_13) rfl (by kernel_rfl) (by kernel_rfl) (by kernel_rfl) (fun _ _ _ h => h) (Or.inl ⟨by rfl, ?hy0_13⟩) (by assumption) ?rest0_13
      case hy0_13 => (intro w hSw; (try dsimp only at hSw); go_simp; try (with_reducible rfl))
      simp only [Act.put, List.getElem_toArray, List.getElem_cons_zero, List.getElem_cons_succ, List.setIfInBounds_toArray, List.set_cons_zero, List.set_cons_succ]
      refine wpAnyH_take (i := 1) (v := ?v1_14) rfl (by kernel_rfl) (by kernel_rfl) (by kernel_rfl) (fun _ _ _ h => h) (Or.inl ⟨by rfl, ?hy1_14⟩) (by assumption) ?rest1_14
      case hy1_14 => (intro w hSw; (try dsimp only at hSw); go_simp; try (with_reducible rfl))
      simp only [Act.put, List.getElem_toArray, List.getElem_cons_zero, List.getElem_cons_succ, List.setIfInBounds_toArray, List.set_cons_zero, List.set_cons_succ]
      refine wpAnyH_take (i := 2) (v := ?v2_15) rfl (by kernel_rfl) (by kernel_rfl) (by kernel_rfl) (fun _ _ _ h => h) (Or.inl ⟨by rfl, ?hy2_15⟩) (by assumption) ?rest2_15
      case hy2_15 => (intro w hSw; (try dsimp only at hSw); go_simp; try (with_reducible rfl))
      simp only [Act.put, List.getElem_toArray, List.getElem_cons_zero, List.getElem_cons_succ, List.setIfInBounds_toArray, List.set_cons_zero, List.set_cons_succ]
      refine wpAnyH_take (i := 3) (v := ?v3_16) rfl (by kernel_rfl) (by kernel_rfl) (by kernel_rfl) (fun _ _ _ h => h) (Or.inl ⟨by rfl, ?hy3_16⟩) (by assumption) ?rest3_16
      case hy3_16 => (intro w hSw; (try dsimp only at hSw); go_simp; try (with_reducible rfl))
      simp only [Act.put, List.getElem_toArray, List.getElem_cons_zero, List.getElem_cons_succ, List.setIfInBounds_toArray, List.set_cons_zero, List.set_cons_succ]
      refine wpAnyH_take (i := 4) (v := ?v4_17) rfl (by kernel_rfl) (by kernel_rfl) (by kernel_rfl) (fun _ _ _ h => h) (Or.inl ⟨by rfl, ?hy4_17⟩) (by assumption) ?rest4_17
      case hy4_17 => (intro w hSw; (try dsimp only at hSw); go_simp; try (with_reducible rfl))
      simp only [Act.put, List.getElem_toArray, List.getElem_cons_zero, List.getElem_cons_succ, List.setIfInBounds_toArray, List.set_cons_zero, List.set_cons_succ]
      refine wpAnyH_take (i := 6) (v := ?v6_18) rfl (by kernel_rfl) (by kernel_rfl) (by kernel_rfl) (fun _ _ _ h => h) (Or.inl ⟨by rfl, ?hy6_18⟩) (by assumption) ?rest6_18
      case hy6_18 => (intro w hSw; (try dsimp only at hSw); go_simp; try (with_reducible rfl))
      simp only [Act.put, List.getElem_toArray, List.getElem_cons_zero, List.getElem_cons_succ, List.setIfInBounds_toArray, List.set_cons_zero, List.set_cons_succ]
      refine wpAnyH_take (i := 7) (v := ?v7_19) rfl (by kernel_rfl) (by kernel_rfl) (by kernel_rfl) (fun _ _ _ h => h) (Or.inl ⟨by rfl, ?hy7_19⟩) (by assumption) ?rest7_19
      case hy7_19 => (intro w hSw; (try dsimp only at hSw); go_simp; try (with_reducible rfl))
      simp only [Act.put, List.getElem_toArray, List.getElem_cons_zero, List.getElem_cons_succ, List.setIfInBounds_toArray, List.set_cons_zero, List.set_cons_succ]
      refine wpAnyH_ready (rs := [5]) (by kernel_rfl) (by simp) ?_
      refine (AllReadyH.cons rfl (fun K hK => ?_) AllReadyH.nil)
      go_simp
      refine (HP2.out _).mono ?_
      rintro e w' ⟨rfl, rfl⟩
      go_wp2_with fail
      refine hK.out _ _ ?_ (fun hS' => ?_)
      · exact hS
      clear hK K
      try simp only [Act.put, List.getElem_toArray, List.getElem_cons_zero, List.getElem_cons_succ, List.setIfInBounds_toArray, List.set_cons_zero, List.set_cons_succ]
      replace hS := hS'
      clear hS'
      refine wpAnyH_take (i := 8) (v := ?v8_20) rfl (by kernel_rfl) (by kernel_rfl) (by kernel_rfl) (fun _ _ _ h => h) (Or.inl ⟨by rfl, ?hy8_20⟩) (by assumption) ?rest8_20
      case hy8_20 => (intro w hSw; (try dsimp only at hSw); go_simp; try (with_reducible rfl))
      simp only [Act.put, List.getElem_toArray, List.getElem_cons_zero, List.getElem_cons_succ, List.setIfInBounds_toArray, List.set_cons_zero, List.set_cons_succ]
      refine wpAnyH_take (i := 9) (v := ?v9_21) rfl (by kernel_rfl) (by kernel_rfl) (by kernel_rfl) (fun _ _ _ h => h) (Or.inl ⟨by rfl, ?hy9_21⟩) (by assumption) ?rest9_21
      case hy9_21 => (intro w hSw; (try dsimp only at hSw); go_simp; try (with_reducible rfl))
      simp only [Act.put, List.getElem_toArray, List.getElem_cons_zero, List.getElem_cons_succ, List.setIfInBounds_toArray, List.set_cons_zero, List.set_cons_succ]
      refine wpAnyH_take (i := 10) (v := ?v10_22) rfl (by kernel_rfl) (by kernel_rfl) (by kernel_rfl) (fun _ _ _ h => h) (Or.inl ⟨by rfl, ?hy10_22⟩) (by assumption) ?rest10_22
      case hy10_22 => (intro w hSw; (try dsimp only at hSw); go_simp; try (with_reducible rfl))
      simp only [Act.put, List.getElem_toArray, List.getElem_cons_zero, List.getElem_cons_succ, List.setIfInBounds_toArray, List.set_cons_zero, List.set_cons_succ]
      refine wpAnyH_take (i := 11) (v := ?v11_23) rfl (by kernel_rfl) (by kernel_rfl) (by kernel_rfl) (fun _ _ _ h => h) (Or.inl ⟨by rfl, ?hy11_23⟩) (by assumption) ?rest11_23
      case hy11_23 => (intro w hSw; (try dsimp only at hSw); go_simp; try (with_reducible rfl))
      simp only [Act.put, List.getElem_toArray, List.getElem_cons_zero, List.getElem_cons_succ, List.setIfInBounds_toArray, List.set_cons_zero, List.set_cons_succ]
      refine wpAnyH_done (by kernel_rfl) ?_ _
      rw [IntKind.wrap_u32, H2.out]
      go_wp2
      go_roundw
      case rel => exact ⟨j + 1, by omega, by go_num, by rw [HT.out, HR.out], hS.2⟩
      case measure => simp [intOf]; omega
    · obtain rfl : j = l.length := by omega
      rw [List.take_length] at hlt ⊢
      have HX := Hid.mk' (turn_all _ hlt)
      have HS := Hid.mk' (show sumB l = regB 4294967295 l ^^^ 4294967295 from rfl)
      generalize regB 4294967295 l = r at hlt HX HS
      go_wp2
      go_ret
      exact ⟨ret_nat (by rw [HS.out]; exact HX.out), HM.out.1, HM.out.2⟩

/-- The first sum. -/
theorem msum_first (B g : Nat) (tab : Nat → Int) (bu su : Int) (p : Option Addr) (c : Nat) (l : List Int) (w : World) (hM : Mach w g 0 0 tab bu su) (hB : B ≤ g) (hb : isB l) (hm : l.length ≤ 140737488355328) (hst : ∀ x, Below B w x → BIn x p l) :
    Calls Tryd.prog 14 #[.pointer (some ⟨g, 0, none⟩), .slice p l.length c] w fun e w' => e = .returned (.int .u32 ((sumB l : Nat) : Int)) ∧ Mach w' g 1 0 tabI (wrap64 (bu + 1)) (wrap64 (su + 1)) ∧ Below B w w' :=
  msum_gen B g 0 tab bu (wrap64 (bu + 1)) su p c l w hM hB hb hm hst fun w1 h1 _ => do_build B g tab bu _ w1 h1 hB

/-- Each later one. -/
theorem msum_next (B g : Nat) (bu su : Int) (p : Option Addr) (c : Nat) (l : List Int) (w : World) (hM : Mach w g 1 0 tabI bu su) (hB : B ≤ g) (hb : isB l) (hm : l.length ≤ 140737488355328) (hst : ∀ x, Below B w x → BIn x p l) :
    Calls Tryd.prog 14 #[.pointer (some ⟨g, 0, none⟩), .slice p l.length c] w fun e w' => e = .returned (.int .u32 ((sumB l : Nat) : Int)) ∧ Mach w' g 1 0 tabI bu (wrap64 (su + 1)) ∧ Below B w w' :=
  msum_gen B g 1 tabI bu bu su p c l w hM hB hb hm hst fun w1 h1 _ => (do_done g 0 1 (by decide) _ w1 h1.c0).mono fun e w' ⟨he, hw⟩ => by subst hw; exact ⟨he, h1, Below.refl _ _⟩
end Go.Proofs.YtlkljfpgphhpdaaDoor
