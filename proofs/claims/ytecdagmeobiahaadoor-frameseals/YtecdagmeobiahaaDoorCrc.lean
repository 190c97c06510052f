/-
  Package crc: Of, by half bytes and the table of constants; parts of bytes.
-/
import Derived.Test.YtecdagmeobiahaaDoorCrcFns
import Derived.Lib.LaidTab
namespace Go.Proofs.YtecdagmeobiahaaDoor
open Go.RowKit
set_option linter.unusedSimpArgs false
set_option linter.unusedVariables false

/-- The package's table holds the sixteen words. -/
def Tab (w : World) : Prop := ∀ i, i < 16 → w.cell? ⟨1, i, none⟩ = some (.int .u32 ((tabR i : Nat) : Int))

theorem Tab.fr {S : Nat → Prop} {w w' : World} (h : Tab w) (k : Fr S w w') (hn : ¬ S 1) : Tab w' := fun i hi => by
  rw [k.cell (p := ⟨1, i, none⟩) (lt_of_cell (h i hi)) hn]; exact h i hi

theorem Tab.pos {w : World} (h : Tab w) : 1 < w.heap.size := lt_of_cell (h 0 (by omega))

theorem Tab.below {w w' : World} {B : Nat} (h : Tab w) (k : Below B w w') (hB : 1 < B) : Tab w' := fun i hi => by
  rw [World.cell?_of_block (w := w) (k.block _ hB)]; exact h i hi

theorem tabR_lt (k : Nat) (h : k < 16) : tabR k < 4294967296 := by
  have := linN_lt 4 (k * 268435456) (by rw [p32]; omega)
  rw [p32] at this; exact this

theorem halfR_lt (s h : Nat) (hs : s < 4294967296) (hh : h < 16) : halfR s h < 4294967296 := by
  have := linN_lt 4 (s ^^^ h * 268435456) (Nat.xor_lt_two_pow (by rw [p32]; exact hs) (by rw [p32]; omega))
  rw [p32] at this; exact this

theorem half_step (s h : Nat) (hs : s < 4294967296) (hh : h < 16) : bits .xor .u32 ((s : Int) * 16 % 4294967296) ((tabR (s / 268435456 ^^^ h) : Nat) : Int) = ((halfR s h : Nat) : Int) := by
  have hk : s / 268435456 ^^^ h < 2 ^ 4 := Nat.xor_lt_two_pow (by rw [show (2 : Nat) ^ 4 = 16 from rfl]; omega) hh
  rw [halfR_tab s h (by rw [p32]; exact hs) hh]
  exact u32x _ _ _ _ (by omega) rfl (by omega) (tabR_lt _ hk)

theorem place_lt (s h : Nat) (hs : s < 4294967296) (hh : h < 16) : s / 268435456 ^^^ h < 16 :=
  Nat.xor_lt_two_pow (n := 4) (by rw [show (2 : Nat) ^ 4 = 16 from rfl]; omega) hh

theorem new_cell (w : World) (cs : Array Value) (t : TypeId) (i : Nat) : (w.alloc (.cells cs t)).cell? ⟨w.heap.size, i, none⟩ = cs[i]? := by
  have h := heap_alloc_new w (.cells cs t)
  simp only [World.cell?, h]
  simp

/-- A slice of slices of bytes. -/
def PIn (w : World) (p : Option Addr) (ls : List (List Int)) : Prop :=
  0 < ls.length → ∃ b o, p = some ⟨b, o, none⟩ ∧ ∀ i (h : i < ls.length), ∃ q c, w.cell? ⟨b, o + i, none⟩ = some (.slice q (ls[i].length : Nat) c) ∧ BIn w q ls[i] ∧ isB ls[i] ∧ ls[i].length ≤ 140737488355328

theorem PIn.nil (w : World) (p : Option Addr) : PIn w p [] := fun h => absurd h (by simp)

theorem turn_all (r : Nat) (h : r < 4294967296) : bits .xor .u32 IntKind.u32.max (r : Int) = ((r ^^^ 4294967295 : Nat) : Int) := by
  rw [Nat.xor_comm]; exact u32x 4294967295 r _ _ rfl rfl (by omega) h

theorem flat_snoc (ls : List (List Int)) (k : Nat) (h : k < ls.length) : (ls.take (k + 1)).flatten = (ls.take k).flatten ++ ls[k] := by
  rw [List.take_add_one, List.flatten_append, List.getElem?_eq_getElem h]; simp

theorem flat_isB {ls : List (List Int)} (h : ∀ i (q : i < ls.length), isB ls[i]) (k : Nat) : isB (ls.take k).flatten := fun x hx => by
  obtain ⟨l, hl, hx⟩ := List.mem_flatten.1 hx
  obtain ⟨i, hi, rfl⟩ := List.getElem_of_mem (List.mem_of_mem_take hl)
  exact h i hi x hx

set_option maxHeartbeats 1600000 in
theorem of_parts (p : Option Addr) (c : Nat) (ls : List (List Int)) (w : World) (hT : Tab w) (hp : PIn w p ls) (hm : ls.length ≤ 140737488355328) :
    Calls Tryd.prog 23 #[.slice p ls.length c] w fun e w' => e = .returned (.int .u32 ((sumB ls.flatten : Nat) : Int)) ∧ w = w' := by
  go_enter Tryd.func23, Tryd.ntmps23
  go_wp2
  go_loop [3, 10] (fun x i => ∃ k : Nat, k ≤ ls.length ∧ i = .int .i64 (k : Int) ∧ x = .int .u32 ((regB 4294967295 (ls.take k).flatten : Nat) : Int)) (fun _ i => ls.length - (intOf i).toNat)
  case atStart => exact ⟨0, Nat.zero_le _, rfl, rfl⟩
  case round =>
    obtain ⟨k, hk, rfl, rfl⟩ := hrel
    by_cases t : k < ls.length
    · obtain ⟨b, o, rfl, hc⟩ := hp (by omega)
      obtain ⟨q, cq, hck, hB, hb, hlm⟩ := hc k t
      have hlt := regB_lt 4294967295 (ls.take k).flatten (by decide) (flat_isB (fun i hi => by obtain ⟨_, _, _, _, h, _⟩ := hc i hi; exact h) k)
      rw [p32] at hlt
      have HN := Hid.mk' (flat_snoc ls k t)
      have HA := Hid.mk' (regB_append 4294967295 (ls.take k).flatten ls[k])
      generalize ls[k] = l at hck hB hb hlm HN HA
      generalize regB 4294967295 (ls.take k).flatten = r at hlt HA
      have hpre := fun j => regB_lt r (l.take j) (by rw [p32]; exact hlt) (hb.take j)
      rw [p32] at hpre
      have HP := Hid.mk' hpre
      clear hc hpre
      go_wp2
      go_loop [3, 16] (fun x i => ∃ j : Nat, j ≤ l.length ∧ i = .int .i64 (j : Int) ∧ x = .int .u32 ((regB r (l.take j) : Nat) : Int)) (fun _ i => l.length - (intOf i).toNat)
      case atStart => exact ⟨0, Nat.zero_le _, rfl, rfl⟩
      case round =>
        obtain ⟨j, hj, rfl, rfl⟩ := hrel
        by_cases tj : j < l.length
        · have hlt2 := HP.out j
          have hx := hb.getD j
          obtain ⟨g, og, rfl, hcc⟩ := hB (by omega)
          have hcj := hcc j tj
          have HT := Hid.mk' (take_snoc l j tj)
          have HR := Hid.mk' (regB_snoc r (l.take j) (l.getD j 0))
          generalize l.getD j 0 = x at hx hcj HT HR
          obtain ⟨x, rfl⟩ := Int.eq_ofNat_of_zero_le hx.1
          rw [Int.toNat_natCast] at HR
          generalize regB r (l.take j) = s at HR hlt2
          have P1 := place_any s (x / 16) w hlt2 (by omega)
          rw [show x / 16 % 16 = x / 16 by omega] at P1
          have hk1 := place_lt s (x / 16) hlt2 (by omega)
          have hc1 := hT _ hk1
          rw [byteR_half s x (by omega)] at HR
          have H1 := Hid.mk' (half_step s (x / 16) hlt2 (by omega))
          have hs1 := halfR_lt s (x / 16) hlt2 (by omega)
          generalize halfR s (x / 16) = s1 at H1 hs1 HR
          generalize s / 268435456 ^^^ x / 16 = k1 at P1 hk1 hc1 H1
          rw [show ((x / 16 : Nat) : Int) = (x : Int) / 16 by omega] at P1
          clear hcc
          go_wp2_with fail
          refine P1.mono ?_
          rintro e w' ⟨rfl, rfl⟩
          clear P1
          have P2 := place_any s1 x w hs1 (by omega)
          have hk2 := place_lt s1 (x % 16) hs1 (by omega)
          have hc2 := hT _ hk2
          have H2 := Hid.mk' (half_step s1 (x % 16) hs1 (by omega))
          generalize halfR s1 (x % 16) = s2 at H2 HR
          generalize s1 / 268435456 ^^^ x % 16 = k2 at P2 hk2 hc2 H2
          go_wp2_with fail
          rw [H1.out]
          refine P2.mono ?_
          rintro e w' ⟨rfl, rfl⟩
          clear P2
          go_wp2_with fail
          go_round
          case rel => exact ⟨j + 1, by omega, by go_num, by rw [HT.out, HR.out]; exact congrArg _ H2.out⟩
          case measure => simp [intOf]; omega
        · obtain rfl : j = l.length := by omega
          rw [List.take_length]
          go_wp2
          go_round
          case rel => exact ⟨k + 1, by omega, by go_num, by rw [HN.out, HA.out]⟩
          case measure => simp [intOf]; omega
    · obtain rfl : k = ls.length := by omega
      rw [List.take_length]
      have hlt : regB 4294967295 ls.flatten < 4294967296 := by
        have := regB_lt 4294967295 (ls.take ls.length).flatten (by decide) (flat_isB (fun i hi => by obtain ⟨_, _, _, hc⟩ := hp (by omega); obtain ⟨_, _, _, _, h, _⟩ := hc i hi; exact h) _)
        rw [List.take_length, p32] at this
        exact this
      have HX := Hid.mk' (turn_all _ hlt)
      have HS := Hid.mk' (show sumB ls.flatten = regB 4294967295 ls.flatten ^^^ 4294967295 from rfl)
      generalize regB 4294967295 ls.flatten = r at hlt HX HS
      go_wp2
      go_ret
      exact ⟨ret_nat (by rw [HS.out]; exact HX.out), rfl⟩

/-- Parts that were laid for a call. -/
theorem of_list (g n : Nat) (vs : Array Value) (ls : List (List Int)) (w : World) (t : TypeId) (hg : g = w.heap.size) (hn : n = ls.length) (hT : Tab w)
    (hv : ∀ i (h : i < ls.length), ∃ q c, vs[i]? = some (.slice q (ls[i].length : Nat) c) ∧ BIn w q ls[i] ∧ isB ls[i] ∧ ls[i].length ≤ 140737488355328) (hm : ls.length ≤ 140737488355328) :
    Calls Tryd.prog 23 #[.slice (some ⟨g, 0, none⟩) n n] (w.alloc (.cells vs t)) fun e w' => e = .returned (.int .u32 ((sumB ls.flatten : Nat) : Int)) ∧ w' = w.alloc (.cells vs t) := by
  subst hg; subst hn
  have b : Below w.heap.size w (w.alloc (.cells vs t)) := (Below.refl _ _).alloc (Nat.le_refl _) _
  have h := of_parts (some ⟨w.heap.size, 0, none⟩) ls.length ls (w.alloc (.cells vs t)) (hT.below b hT.pos) (fun _ => ⟨_, _, rfl, fun i hi => by
    obtain ⟨q, c, h1, h2, h3, h4⟩ := hv i hi
    exact ⟨q, c, by rw [new_cell, Nat.zero_add]; exact h1, h2.below b, h3, h4⟩⟩) hm
  exact h.mono fun e w' ⟨h1, h2⟩ => ⟨h1, h2.symm⟩

/-- A slice that was laid for a call with these parts. -/
theorem of_one (g : Nat) (v : Value) (q : Option Addr) (c : Nat) (l : List Int) (w : World) (t : TypeId) (hg : g = w.heap.size) (hT : Tab w) (hv : v = .slice q l.length c) (hq : BIn w q l) (hb : isB l) (hm : l.length ≤ 140737488355328) :
    Calls Tryd.prog 23 #[.slice (some ⟨g, 0, none⟩) 1 1] (w.alloc (.cells #[v] t)) fun e w' => e = .returned (.int .u32 ((sumB l : Nat) : Int)) ∧ w' = w.alloc (.cells #[v] t) := by
  subst hv; subst hg
  have b : Below w.heap.size w (w.alloc (.cells #[.slice q l.length c] t)) := (Below.refl _ _).alloc (Nat.le_refl _) _
  have h := of_parts (some ⟨w.heap.size, 0, none⟩) 1 [l] (w.alloc (.cells #[.slice q l.length c] t)) (hT.below b hT.pos) (fun _ => ⟨_, _, rfl, fun i hi => by
    obtain rfl : i = 0 := by simp at hi; omega
    exact ⟨q, c, by rw [new_cell]; rfl, hq.below b, hb, hm⟩⟩) (by simp)
  simp only [List.flatten_cons, List.flatten_nil, List.append_nil] at h
  exact h.mono fun e w' ⟨h1, h2⟩ => ⟨h1, h2.symm⟩
end Go.Proofs.YtecdagmeobiahaaDoor
