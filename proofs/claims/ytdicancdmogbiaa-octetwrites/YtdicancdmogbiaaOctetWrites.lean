/-
  Proved: the statement on layer 1's writer (OctetWrites) returns true at every input, and leaves its arguments as they were. No condition.
-/
import Derived.Test.YtdicancdmogbiaaRows
import Derived.Test.YtdicancdmogbiaaLaw01b
import Derived.Test.YtdicancdmogbiaaShapes
import Derived.ShutString
import Derived.ChangeOld
import Derived.BigQuiet
import Derived.Deep.QuietTactic
import Derived.Deep.RegionHeld3
namespace Go.Proofs.Ytdicancdmogbiaa.octetWrites
open Go.ChangeShapes Go.WideShapes Go.ChangeAt Go.RowKit
open Go.ChangeMaps (open_string shut_string)
set_option linter.unusedVariables false
set_option linter.unusedSimpArgs false

abbrev PutT := List Int × Int × Int
def shPut : Sh PutT := shTwo (shSlice 1 (shInt .u8)) (shTwo (shInt .i64) (shInt .i64))

section
variable {H : Type} {enc : TypeId × Value → H} {w : World} {base : Nat} {spare : Nat → Bool} {held : Bool}
theorem opens_put : Opens enc Try.prog w base spare held 39 shPut :=
  opens_struct3 Try.underlying39 rfl (by kernel_rfl) (by kernel_rfl) (by kernel_rfl) (opens_slice Try.underlying22 (by kernel_rfl) (by decide) (opens_int Try.underlying5)) (opens_int Try.underlying3) (opens_int Try.underlying3)
end

/-- A put's three cells. -/
theorem put_cells {w : World} {b o : Nat} {L : List PutT} (h : ∀ i (h : i < L.length), ∃ cs, cs.length = 3 ∧ (∀ j, j < 3 → w.cell? ⟨b, o + i * 3 + j, none⟩ = cs[j]?) ∧ shPut w cs L[i]) (i : Nat) (hi : i < L.length) :
    ∃ p c r n v, w.cell? ⟨b, o + i * 3, none⟩ = some (.slice p (List.length r) c) ∧ w.cell? ⟨b, o + i * 3 + 1, none⟩ = some (.int .i64 n) ∧ w.cell? ⟨b, o + i * 3 + 2, none⟩ = some (.int .i64 v) ∧
      BIn w p r ∧ isB r ∧ (p = none → c = 0) ∧ r.length ≤ c ∧ c ≤ maxLen ∧ (-9223372036854775808 ≤ n ∧ n ≤ 9223372036854775807) ∧ (-9223372036854775808 ≤ v ∧ v ≤ 9223372036854775807) := by
  obtain ⟨cs, _, h1, x, y, rfl, ⟨p, c, rfl, hl, hm, hp, hin⟩, x2, y2, rfl, ⟨rfl, hw1⟩, ⟨rfl, hw2⟩⟩ := h i hi
  have b1 := bounds_i64 hw1
  have b2 := bounds_i64 hw2
  have g0 := h1 0 (by omega)
  have g1 := h1 1 (by omega)
  have g2 := h1 2 (by omega)
  simp at g0 g1 g2
  exact ⟨p, c, _, _, _, g0, g1, g2, hin.bytes, hin.isB, hp, hl, hm, ⟨by omega, by omega⟩, by omega, by omega⟩

/-- The writer b, to which l was put, and the row v with the bytes acc, apart from each other, all in memory from B on. -/
structure WInv (B : Nat) (w0 u : World) (b : Nat) (g : Option Nat) (v : Value) (acc l : List Int) (bd : Bool) : Prop where
  wr : Wr u b g l bd
  own : u.ownsRow 0 5 1 v acc.length (acc.map (Value.int .u8))
  isb : isB acc
  lb : B ≤ b
  lg : ∀ i, g = some i → B ≤ i
  lv : ∀ i, v.ownBlock = some i → B ≤ i
  vb : v.ownBlock ≠ some b
  vg : ∀ i, g = some i → v.ownBlock ≠ some i
  bel : Below B w0 u

theorem WInv.later {B : Nat} {w0 w w' : World} {b : Nat} {g : Option Nat} {v : Value} {acc l : List Int} {bd : Bool} (h : WInv B w0 w b g v acc l bd) (k : Below w.heap.size w w') : WInv B w0 w' b g v acc l bd :=
  ⟨h.wr.below k, owns_fr h.own (Fr.of_below k fun _ => False) fun _ _ q => q, h.isb, h.lb, h.lg, h.lv, h.vb, h.vg, h.bel.trans (k.mono (by have := h.wr.lt.1; have := h.lb; omega))⟩

/-- Behind a step of the writer. -/
theorem WInv.put {B : Nat} {w0 w w' : World} {b : Nat} {g g' : Option Nat} {v : Value} {acc l l' : List Int} {bd bd' : Bool} (h : WInv B w0 w b g v acc l bd) (hW : Wr w' b g' l' bd') (hN : Next w g g') (hF : Fr (fun k => k = b ∨ g = some k) w w') : WInv B w0 w' b g' v acc l' bd' := by
  have hlt := h.wr.lt
  refine ⟨hW, owns_fr h.own hF fun i hi q => ?_, h.isb, h.lb, fun i hi => ?_, h.lv, h.vb, fun i hi => ?_, h.bel.trans (hF.below (fun i q => ?_) (by have := h.lb; omega))⟩
  · rcases q with q | q
    · exact h.vb (q ▸ hi)
    · exact h.vg i q hi
  · rcases hN with r | r | ⟨k, r, hk⟩
    · exact h.lg i (r ▸ hi)
    · rw [r] at hi; cases hi
    · rw [r] at hi; cases hi; have := h.lb; omega
  · rcases hN with r | r | ⟨k, r, hk⟩
    · exact h.vg i (r ▸ hi)
    · rw [r] at hi; cases hi
    · rw [r] at hi
      have hki : k = i := by simpa using hi
      intro q
      have := (h.own.lt i q).2
      omega
  · rcases q with q | q
    · rw [q]; exact h.lb
    · exact h.lg i q

/-- Behind an append to the row. -/
theorem WInv.app {B : Nat} {w0 w w' : World} {b : Nat} {g : Option Nat} {v v' : Value} {acc l m : List Int} {bd : Bool} (h : WInv B w0 w b g v acc l bd) (hA : Appended w 5 1 v acc.length (acc.map (Value.int .u8)) m.length (m.map (Value.int .u8)) v' w') (hm : isB m) : WInv B w0 w' b g v' (acc ++ m) l bd := by
  have hlt := h.wr.lt
  refine ⟨h.wr.fr hA.fr (fun _ => h.vb) (fun i _ hi => h.vg i hi), by rw [List.length_append, List.map_append]; exact hA.owns, h.isb.append hm, h.lb, h.lg, fun i hi => ?_, ?_, fun i hi => ?_, h.bel.trans (hA.fr.below (fun i q => h.lv i q) (by have := h.lb; omega))⟩
  · rcases hA.moved with q | ⟨k, hk, hk2⟩
    · exact h.lv i (q ▸ hi)
    · rw [hk] at hi; cases hi; have := h.lb; omega
  · rcases hA.moved with q | ⟨k, hk, hk2⟩
    · rw [q]; exact h.vb
    · rw [hk]; intro q; cases q; omega
  · rcases hA.moved with q | ⟨k, hk, hk2⟩
    · rw [q]; exact h.vg i hi
    · rw [hk]; intro q; cases q; have := hlt.2 _ hi; omega

theorem own_BIn {w : World} {e : TypeId} {p : Option Addr} {n c : Nat} {l : List Int} (h : w.ownsRow 0 e 1 (.slice p n c) l.length (l.map (Value.int .u8))) : BIn w p l := by
  obtain ⟨p', c', hv, hb, _⟩ := owns_BIn h
  simp at hv
  rw [hv.1]
  exact hb

/-- What the writer has to have. -/
def had (acc : List Int) (bd : Bool) : List Int := if bd then [] else acc

set_option maxRecDepth 10000 in
set_option maxHeartbeats 4000000 in
theorem walk (p0 : Option Addr) (c0 : Nat) (l0 : List PutT) (w : World) (hlc0 : l0.length ≤ c0) (hcm0 : c0 ≤ maxLen) (hp0 : p0 = none → c0 = 0) (hin0 : LIn w p0 3 shPut l0) :
    Calls Try.prog 4 #[.slice p0 l0.length c0] w fun e w' => e = .returned (.bool true) ∧ Below w.heap.size w w' := by
  unfold maxLen at hcm0
  by_cases t1 : 40 < (l0.length : Int)
  · have AW := awake_any w
    clear hin0
    go_enter Try.func4, Try.ntmps4
    go_wp2_with (go_at_call 6; refine AW.mono ?_; rintro e w' ⟨rfl, hb⟩)
    go_ret
    exact ⟨rfl, hb⟩
  have HI := Hid.mk' hin0
  clear hin0
  have R := write_any w
  obtain ⟨i0, hi, hz0, hz1, hz2⟩ := info_parts infoB
  go_enter Try.func4, Try.ntmps4
  go_wp2_with (go_at_call 15; refine R.mono ?_; rintro e w1 ⟨rfl, hW1, hB1⟩)
  have HW1 := Hid.mk' hW1
  clear hW1 R
  go_loopw [4, 5, 6] (fun v bad i wr => ∃ (k : Nat) (bd : Bool) (g : Option Nat) (acc : List Int), k ≤ l0.length ∧ i = .int .i64 k ∧ bad = .bool bd ∧ acc.length ≤ 100 * k ∧ WInv w.heap.size w wr w.heap.size g v acc (had acc bd) bd) (fun _ _ i _ => l0.length - (intOf i).toNat)
  case atStart => exact ⟨0, false, none, [], Nat.zero_le _, rfl, rfl, Nat.zero_le _, HW1.out, World.ownsRow_nil _ _ _ _, isB.nil, Nat.le_refl _, by simp, by simp [Value.ownBlock], by simp [Value.ownBlock], by simp, hB1⟩
  case round =>
    obtain ⟨k, bd, g, acc, hk, rfl, rfl, hacc, hI⟩ := hrel
    clear HW1 hB1
    by_cases hlt : k < l0.length
    · obtain ⟨gl, o, rfl, hc⟩ := HI.out (by omega)
      obtain ⟨p, c, r, n, v, s0, s1, s2, hBr, hbr, hp, hlr, hcr, hnb, hvb⟩ := put_cells hc k hlt
      have hgl : gl < w.heap.size := lt_of_cell s0
      have s0' := (hI.bel.cell (p := ⟨gl, o + k * 3, none⟩) hgl).trans s0
      have s1' := (hI.bel.cell (p := ⟨gl, o + k * 3 + 1, none⟩) hgl).trans s1
      have s2' := (hI.bel.cell (p := ⟨gl, o + k * 3 + 2, none⟩) hgl).trans s2
      have S0 := Hid.mk' s0
      have S1 := Hid.mk' s1
      have S2 := Hid.mk' s2
      clear s0 s1 s2 hc HI
      unfold maxLen at hcr
      have HIv := Hid.mk' hI
      obtain ⟨pv, cv, rfl, _⟩ := owns_slice hI.own
      have HBr := Hid.mk' hBr
      clear hI hBr
      by_cases t2 : 100 < (r.length : Int)
      · have AW := awake_any wr
        go_wp2_with (go_at_call 6; refine AW.mono ?_; rintro e w' ⟨rfl, hb⟩)
        go_ret
        exact ⟨rfl, HIv.out.bel.trans (hb.mono HIv.out.bel.size)⟩
      · by_cases t3 : 0 < (r.length : Int)
        · cases bd
          · have Rw := raw_ok w.heap.size g acc r p c wr HIv.out.wr (HBr.out.below HIv.out.bel) hbr hp (by omega)
            go_wp2_with (first | (go_at_call 16; refine Rw.mono ?_; rintro e w2 ⟨rfl, g2, hW2, hN2, hF2⟩; have hI2 := HIv.out.put hW2 hN2 hF2; have z0 := (hI2.bel.cell (p := ⟨gl, o + k * 3, none⟩) hgl).trans S0.out; clear hW2 hN2 hF2) | (at_builtin; refine wpList_append_fr rfl (.tmp 44) (.tmp 49) 22 rfl 5 i0 (.int .u8 0) 1 1 Try.underlying22 hi hz0 hz1 hz2 rfl (by decide) _ acc.length (acc.map (Value.int .u8)) rfl hI2.own p r.length c (r.map (Value.int .u8)) rfl hp (by simp) (HBr.out.below hI2.bel).news (oneCells r) (by simp only [maxLen]; omega) (by omega) ?_))
            intro v2 w3 HA
            have hI3 := hI2.app HA hbr
            obtain ⟨p2, c2, rfl, _⟩ := owns_slice HA.owns
            have By := bytes_ok w.heap.size g2 (acc ++ r) w3 hI3.wr (by rw [List.length_append]; omega)
            rw [List.length_append] at By
            clear Rw HA hI2 HIv
            go_wp2_with (go_at_call 20; refine By.mono ?_; rintro e w4 ⟨rfl, hT4, hB4⟩)
            have hI4 := hI3.later hB4
            have Sm := same_any (some ⟨w3.heap.size, 0, none⟩) p2 (acc.length + r.length) c2 (acc ++ r) (acc ++ r) w4 hT4 (own_BIn hI4.own) hI4.isb hI4.isb
            rw [List.length_append, decide_eq_true rfl] at Sm
            refine Sm.mono ?_
            rintro e w5 ⟨rfl, rfl⟩
            clear Sm hT4 hB4 hI3 By
            go_wp2
            go_roundw
            case rel => exact ⟨k + 1, false, g2, acc ++ r, by omega, by go_num, rfl, by rw [List.length_append]; omega, by simpa [had] using hI4⟩
            case measure => simp [intOf]; omega
          · have Rw := raw_bad w.heap.size g (had acc true) (.slice p r.length c) wr HIv.out.wr
            have By := bytes_bad w.heap.size g (had acc true) wr HIv.out.wr
            go_wp2_with (first | (go_at_call 16; refine Rw.mono ?_; rintro e w2 ⟨rfl, rfl⟩) | (go_at_call 20; refine By.mono ?_; rintro e w4 ⟨rfl, rfl⟩))
            go_roundw
            case rel => exact ⟨k + 1, true, g, acc, by omega, by go_num, rfl, by omega, HIv.out⟩
            case measure => simp [intOf]; omega
        · have hlt' : (k : Int) < (l0.length : Int) := by omega
          have hk0 : (0 : Int) ≤ (k : Int) := by omega
          by_cases tn : n < 1 ∨ 7 < n ∨ v < 0 ∨ 256 ^ n.toNat ≤ v
          · have HNw := Hid.mk' (fun wx hx => numW_no w.heap.size g (had acc bd) bd n v wx hx hvb.2 hvb.1 tn)
            go_wp2_with fail
            go_region_held3 (fun w' => w'.cell? ⟨gl, o + k * 3 + 1, none⟩ = some (.int .i64 n) ∧ w'.cell? ⟨gl, o + k * 3 + 2, none⟩ = some (.int .i64 v)) (go_keep) ((go_at_call 17; refine (HNw.out wr.drew HIv.out.wr).mono ?_; rintro e w2 ⟨rfl, hW2, hF2⟩; have hI2 := (HIv.out.later (Below.refl _ _).drew).put hW2 (.inr (.inl rfl)) hF2; have z1 := (hI2.bel.cell (p := ⟨gl, o + k * 3 + 1, none⟩) hgl).trans S1.out; have z2 := (hI2.bel.cell (p := ⟨gl, o + k * 3 + 2, none⟩) hgl).trans S2.out))
            have HI2 := Hid.mk' hI2
            have By := fun wx hx => bytes_bad w.heap.size none [] wx hx
            have HBy := Hid.mk' By
            clear hI2 hW2 hF2 HNw By
            go_wp2_with fail
            by_cases e1 : n < 1
            · clear tn
              go_quiet (fail)
              have hI5 := HI2.out.later (below_drewN (Below.refl _ _) nq)
              have By := HBy.out _ hI5.wr
              have HI5 := Hid.mk' hI5
              generalize w2.drewN nq = w5 at HI5 By ⊢
              clear z1 z2 s0' s1' s2' hI5 HI2 HIv HBy
              go_wp2_with (go_at_call 20; refine By.mono ?_; rintro e w8 ⟨rfl, rfl⟩)
              go_roundw
              case rel => exact ⟨k + 1, true, none, acc, by omega, by go_num, rfl, by omega, by simpa [had] using HI5.out⟩
              case measure => simp [intOf]; omega
            · by_cases e2 : 7 < n
              · clear tn
                have d1 : decide (n < 1) = false := by simp; omega
                go_quiet (fail)
                have hI5 := HI2.out.later (below_drewN (Below.refl _ _) nq)
                have By := HBy.out _ hI5.wr
                have HI5 := Hid.mk' hI5
                generalize w2.drewN nq = w5 at HI5 By ⊢
                clear z1 z2 s0' s1' s2' hI5 HI2 HIv HBy
                go_wp2_with (go_at_call 20; refine By.mono ?_; rintro e w8 ⟨rfl, rfl⟩)
                go_roundw
                case rel => exact ⟨k + 1, true, none, acc, by omega, by go_num, rfl, by omega, by simpa [had] using HI5.out⟩
                case measure => simp [intOf]; omega
              · by_cases e3 : v < 0
                · clear tn
                  have d1 : decide (n < 1) = false := by simp; omega
                  have d2 : decide (7 < n) = false := by simp; omega
                  go_quiet (fail)
                  have hI5 := HI2.out.later (below_drewN (Below.refl _ _) nq)
                  have By := HBy.out _ hI5.wr
                  have HI5 := Hid.mk' hI5
                  generalize w2.drewN nq = w5 at HI5 By ⊢
                  clear z1 z2 s0' s1' s2' hI5 HI2 HIv HBy
                  go_wp2_with (go_at_call 20; refine By.mono ?_; rintro e w8 ⟨rfl, rfl⟩)
                  go_roundw
                  case rel => exact ⟨k + 1, true, none, acc, by omega, by go_num, rfl, by omega, by simpa [had] using HI5.out⟩
                  case measure => simp [intOf]; omega
                · obtain ⟨m, rfl⟩ := Int.eq_ofNat_of_zero_le (show 0 ≤ n by omega)
                  have hpv : (256 : Int) ^ m ≤ v := by simp at tn; omega
                  have HP := Hid.mk' (fun wx => power_any m wx (by omega))
                  clear tn
                  generalize (256 : Int) ^ m = pw at HP hpv
                  have d1 : decide ((m : Int) < 1) = false := by simp; omega
                  have d2 : decide (7 < (m : Int)) = false := by simp; omega
                  have d3 : decide (v < 0) = false := by simp; omega
                  go_quiet ((go_at_call 18; exact Calls.quiet_of_same ((HP.out _).mono fun e w' h => ⟨h.1, h.2.symm⟩)))
                  have hI5 := HI2.out.later (below_drewN (Below.refl _ _) nq)
                  have By := HBy.out _ hI5.wr
                  have HI5 := Hid.mk' hI5
                  generalize w2.drewN nq = w5 at HI5 By ⊢
                  clear z1 z2 s0' s1' s2' hI5 HI2 HIv HBy
                  go_wp2_with (go_at_call 20; refine By.mono ?_; rintro e w8 ⟨rfl, rfl⟩)
                  go_roundw
                  case rel => exact ⟨k + 1, true, none, acc, by omega, by go_num, rfl, by omega, by simpa [had] using HI5.out⟩
                  case measure => simp [intOf]; omega
          · obtain ⟨m, rfl⟩ := Int.eq_ofNat_of_zero_le (show 0 ≤ n by omega)
            have tv : v < 256 ^ m := by simp at tn; omega
            have q1 : 1 ≤ m := by omega
            have q7 : m ≤ 7 := by omega
            have qv : 0 ≤ v := by omega
            clear tn
            cases bd
            · have Nw := fun wx hx => numW_ok w.heap.size g acc m v wx hx q1 q7 qv tv hvb.2 (by omega)
              have HNw := Hid.mk' Nw
              clear Nw
              go_wp2_with fail
              go_region_held3 (fun w' => w'.cell? ⟨gl, o + k * 3 + 1, none⟩ = some (.int .i64 m) ∧ w'.cell? ⟨gl, o + k * 3 + 2, none⟩ = some (.int .i64 v)) (go_keep) ((go_at_call 17; refine (HNw.out wr.drew HIv.out.wr).mono ?_; rintro e w2 ⟨rfl, g2, hW2, hN2, hF2⟩; have hI2 := (HIv.out.later (Below.refl _ _).drew).put hW2 hN2 hF2; have z1 := (hI2.bel.cell (p := ⟨gl, o + k * 3 + 1, none⟩) hgl).trans S1.out; have z2 := (hI2.bel.cell (p := ⟨gl, o + k * 3 + 2, none⟩) hgl).trans S2.out))
              have HI2 := Hid.mk' hI2
              have P := fun wx => power_any m wx q7
              have hv256 : ¬ (256 : Int) ^ m ≤ v := by omega
              generalize (256 : Int) ^ m = pw at P hv256
              have HP := Hid.mk' P
              have d1 : decide ((m : Int) < 1) = false := by simp; omega
              have d2 : decide (7 < (m : Int)) = false := by simp; omega
              have d3 : decide (v < 0) = false := by simp; omega
              clear hI2 hW2 hN2 hF2 HNw P tv
              go_wp2_with fail
              go_quiet ((go_at_call 18; exact Calls.quiet_of_same ((HP.out _).mono fun e w' h => ⟨h.1, h.2.symm⟩)))
              have hI5 := HI2.out.later (below_drewN (Below.refl _ _) nq)
              clear HP z1 z2 s0' s1' s2'
              have y1 := (hI5.bel.cell (p := ⟨gl, o + k * 3 + 1, none⟩) hgl).trans S1.out
              have y2 := (hI5.bel.cell (p := ⟨gl, o + k * 3 + 2, none⟩) hgl).trans S2.out
              have D := fun wx => digits_any m v wx q7 qv hvb.2
              have HDl := Hid.mk' (digB_len m v)
              have HI5 := Hid.mk' hI5
              have HD := Hid.mk' D
              generalize w2.drewN nq = w5 at HI5 y1 y2 ⊢
              clear hI5 HI2 HIv D
              go_wp2_with fail
              clear d1 d2 d3 hv256
              go_region_held3 (fun w' => w'.cell? ⟨gl, o + k * 3 + 1, none⟩ = some (.int .i64 m) ∧ w'.cell? ⟨gl, o + k * 3 + 2, none⟩ = some (.int .i64 v)) (go_keep) (first
                | (go_at_call 19; refine (HD.out _).mono ?_; rintro e w6 ⟨rfl, hT6, hB6⟩; have hI6 := (HI5.out.later (Below.refl _ _).drew).later hB6; have z1 := (hI6.bel.cell (p := ⟨gl, o + k * 3 + 1, none⟩) hgl).trans S1.out; have z2 := (hI6.bel.cell (p := ⟨gl, o + k * 3 + 2, none⟩) hgl).trans S2.out)
                | (refine step_append_fr (by rfl) (.tmp 101) (.tmp 112) 22 (by rfl) 5 i0 (.int .u8 0) 1 1 Try.underlying22 hi hz0 hz1 hz2 rfl (by decide) (.slice pv acc.length cv) acc.length (acc.map (Value.int .u8)) (by rfl) hI6.own (some ⟨w5.heap.size, 0, none⟩) m m ((digB m v).map (Value.int .u8)) (by rfl) (by simp) (by simp [digB_len]) (by have h := hT6.news; rw [HDl.out] at h; exact h) (oneCells _) (by simp only [maxLen]; omega) (by omega) ?_; intro v7 w7 HA; have hI7 := hI6.app (m := digB m v) (by rw [HDl.out]; exact HA) (digB_isB m v); have x1 := (hI7.bel.cell (p := ⟨gl, o + k * 3 + 1, none⟩) hgl).trans S1.out; have x2 := (hI7.bel.cell (p := ⟨gl, o + k * 3 + 2, none⟩) hgl).trans S2.out))
              obtain ⟨p7, c7, rfl, _⟩ := owns_slice HA.owns
              have By := bytes_ok w.heap.size g2 (acc ++ digB m v) w7 hI7.wr (by rw [List.length_append, digB_len]; omega)
              rw [List.length_append, HDl.out] at By
              have HI7 := Hid.mk' hI7
              clear HA hI7 hI6 HI5 HD x1 x2 y1 y2 z1 z2 hT6 hB6
              go_wp2_with (go_at_call 20; refine By.mono ?_; rintro e w8 ⟨rfl, hT8, hB8⟩)
              have hI8 := HI7.out.later hB8
              have Sm := same_any (some ⟨w7.heap.size, 0, none⟩) p7 (acc.length + m) c7 (acc ++ digB m v) (acc ++ digB m v) w8 hT8 (own_BIn hI8.own) hI8.isb hI8.isb
              rw [List.length_append, HDl.out, decide_eq_true rfl] at Sm
              refine Sm.mono ?_
              rintro e w9 ⟨rfl, rfl⟩
              have HI8 := Hid.mk' hI8
              clear Sm hT8 hB8 hI8 HI7 By
              go_wp2
              go_roundw
              case rel => exact ⟨k + 1, false, g2, acc ++ digB m v, by omega, by go_num, rfl, by rw [List.length_append, digB_len]; omega, by simpa [had] using HI8.out⟩
              case measure => simp [intOf]; omega
            · have HNw := Hid.mk' (fun wx hx => numW_bad w.heap.size g (had acc true) m v wx hx q1 q7 qv tv hvb.2)
              go_wp2_with fail
              go_region_held3 (fun w' => w'.cell? ⟨gl, o + k * 3 + 1, none⟩ = some (.int .i64 m) ∧ w'.cell? ⟨gl, o + k * 3 + 2, none⟩ = some (.int .i64 v)) (go_keep) ((go_at_call 17; refine (HNw.out wr.drew HIv.out.wr).mono ?_; rintro e w2 ⟨rfl, hW2, hF2⟩; have hI2 := (HIv.out.later (Below.refl _ _).drew).put hW2 (Next.refl _ _) hF2; have z1 := (hI2.bel.cell (p := ⟨gl, o + k * 3 + 1, none⟩) hgl).trans S1.out; have z2 := (hI2.bel.cell (p := ⟨gl, o + k * 3 + 2, none⟩) hgl).trans S2.out))
              have HI2 := Hid.mk' hI2
              have HP := Hid.mk' (fun wx => power_any m wx q7)
              have hv256 : ¬ (256 : Int) ^ m ≤ v := by omega
              generalize (256 : Int) ^ m = pw at HP hv256
              have d1 : decide ((m : Int) < 1) = false := by simp; omega
              have d2 : decide (7 < (m : Int)) = false := by simp; omega
              have d3 : decide (v < 0) = false := by simp; omega
              clear hI2 hW2 hF2 HNw tv
              go_wp2_with fail
              go_quiet ((go_at_call 18; exact Calls.quiet_of_same ((HP.out _).mono fun e w' h => ⟨h.1, h.2.symm⟩)))
              have hI5 := HI2.out.later (below_drewN (Below.refl _ _) nq)
              have By := bytes_bad w.heap.size g (had acc true) _ hI5.wr
              have HI5 := Hid.mk' hI5
              generalize w2.drewN nq = w5 at HI5 By ⊢
              clear HP z1 z2 s0' s1' s2' hI5 HI2 HIv
              go_wp2_with (go_at_call 20; refine By.mono ?_; rintro e w8 ⟨rfl, rfl⟩)
              go_roundw
              case rel => exact ⟨k + 1, true, g, acc, by omega, by go_num, rfl, by omega, HI5.out⟩
              case measure => simp [intOf]; omega
    · have AW := awake_any wr
      have HIv := Hid.mk' hI
      clear hI
      go_wp2_with (go_at_call 6; refine AW.mono ?_; rintro e w' ⟨rfl, hb⟩)
      go_ret
      exact ⟨rfl, HIv.out.bel.trans (hb.mono HIv.out.bel.size)⟩

theorem own : ownKnob Try.prog.godebug = none := by kernel_rfl
theorem laidOut : laidOutB Try.prog = true := by kernel_rfl

set_option maxRecDepth 100000 in
theorem lifted (os : Os) (started : os.Started) (H : Type) (enc : TypeId × Value → H) :
    ReturnsInHanded {} Try.checked os 4 .any (Rows.octetWritesSpec.pre6 enc Try.prog Try.f4 Rows.octetWritesRow.domain false) (Rows.octetWritesSpec.post enc Try.prog Try.f4 false true false false) := by
  refine returnsInHanded_of_change (C := Try.checked) own started (by kernel_rfl) Try.func4
    (ChangeSpec.witness6 (enc := enc) (C := Try.checked) false ⟨#[], #[.slice none 0 0], []⟩ 8 (by kernel_rfl) (by kernel_rfl) (by kernel_rfl) (by kernel_rfl)) ?_
  intro W base args ds gs before hval0 hW hcnd _
  have hval : ∀ (j : Nat) t v, Try.f4.params[j]? = some t → args[j]? = some v → Value.okWide Try.prog W .any base t v := hval0
  have hW' := hW
  obtain ⟨p, q, hA0, hV, rfl, hfz, hnd⟩ := hW
  have hA : DataW.TrodAll enc Try.prog W 0 (fun _ => true) true Try.f4.params.toList args.toList ds p := hA0
  rw [Try.params4] at hA hval
  obtain ⟨v0, vs0, d0, ds0, p0x, q0, hargs, rfl, rfl, h0, r0⟩ := trodAll_cons hA
  obtain ⟨rfl, rfl, rfl⟩ := trodAll_nil r0
  obtain rfl : args = #[v0] := by cases args; simp_all
  obtain ⟨rfl, rfl⟩ := trodVars_none hV
  obtain ⟨p0, len0, c0, rfl⟩ := okWide_slice Try.underlying35 (hval 0 35 v0 rfl rfl)
  have k0 := h0
  have lt0 : ∀ x ∈ p0x, x.block < W.heap.size := by obtain ⟨m, hm⟩ := k0; exact DataW.trod_lt m _ _ _ hm
  obtain ⟨l0, rfl, hlc0, hcm0, hp0, hin0⟩ : ∃ l : List PutT, l.length = len0 ∧ len0 ≤ c0 ∧ c0 ≤ maxLen ∧ (p0 = none → c0 = 0) ∧ LIn W p0 3 shPut l := by
    obtain ⟨fuel, hf⟩ := h0
    obtain ⟨l, p, c, hcs, hl1, hl2, hl3, hl4⟩ := opens_slice (size := 3) Try.underlying35 (by kernel_rfl) (by decide) opens_put _ _ _ hf
    simp [Value.cells] at hcs
    obtain ⟨rfl, rfl, rfl⟩ := hcs
    exact ⟨l, rfl, hl1, hl2, hl3, hl4⟩
  clear hA0 hval0
  refine (walk p0 c0 l0 W hlc0 hcm0 hp0 hin0).mono fun e W' ⟨he, bel⟩ => ?_
  subst he
  exact ⟨_, rfl, _, _, _, [], _, [], hW', trodAll_mk1 (shut_bool Try.underlying4 _), (trodAll_cons_mk (Below.trod laidOut (by kernel_rfl) (of_decide_eq_true (by kernel_rfl)) k0 bel lt0) trodAll_mk0), rfl, bel.frame _, fun h => by cases h⟩

theorem over : Rows.octetWritesRow.holds Try.pinned (OpenSpec.ofChange Rows.octetWritesSpec) :=
  OpenClaim.holds_of_wide 4 Try.f4 rfl rfl rfl rfl rfl rfl rfl ⟨rfl, rfl, rfl, rfl, rfl⟩ rfl rfl rfl rfl rfl (by kernel_rfl) Try.func4 (by kernel_rfl)
    (of_decide_eq_true (by kernel_rfl)) (by unfold Func.isWrapper; first | (rw [if_pos (by decide +kernel)]; kernel_rfl) | (rw [if_neg (by decide +kernel)]; exact ⟨rfl, rfl⟩))
    (fun os started H enc _ => lifted os started H enc)

/-- The given statement. -/
theorem proved : Rows.OctetWritesSaid := over
#print axioms proved
end Go.Proofs.Ytdicancdmogbiaa.octetWrites
