/-
  Package lattice: joinAll.
-/
import Derived.Test.YtdfjjajkeieocaaLatR
namespace Go.Proofs.Ytdfjjajkeieocaa
open Go.RowKit
set_option linter.unusedSimpArgs false
set_option linter.unusedVariables false
set_option maxRecDepth 10000
set_option synthInstance.maxSize 2000

theorem wpList_lookR_at {w : World} {ops : Array Oper} {rest : List Oper} {o : Oper} {a : Act} {Q : Exit → Act → World → Prop} {b n : Nat} {G : Int → Option RK} {D : DataW Value} (hg : o.guard = none) (m x : Operand) (hop : o.op = Op.lookup 60 m x true) (hm : a.eval m = .map (some b)) (h : MapR w b n G D) (i : Int) (hx : a.eval x = .int .i64 i) {k : RK} (hG : G i = some k)
    (r : Rc) (hat : ∀ z, D.atKey (.int .i64 i) z = .held (mkR r))
    (hK : wpList Try.prog ops Q rest (a.put o.dst (.tuple #[.agg #[.int .i64 r.id, .int .i64 r.inc, .int .i64 r.st, .int .i64 r.lo, .int .i64 r.hi, .bool r.cut, .slice r.p r.bag.length r.cap], .bool true])) w) : wpList Try.prog ops Q (o :: rest) a w := by
  have hw := h.wf i k hG
  refine wpList_lookup_own_ok w hg m x _ hop 3 27 keyI Try.underlying60 recElem (Try.zeroValue27 w) _ [] rfl b n D hm h.own (.int .i64 i) (.int .i64 i) hx (keyI_of hw) ?_
  intro v ps hv
  rw [hat] at hv
  simp only [recElem, Option.some.injEq, Prod.mk.injEq, DataW.held.injEq] at hv
  rw [hv.1, h.has i hw, hG]
  exact hK

theorem stepG_eq {G : Int → Option RK} {y z : RK} (hz : oj (G y.id) (some y) = some z) (hi : z.id = y.id) : stepG G z = fun x => oj (G x) (sg y x) := by
  funext x
  unfold stepG sg
  rw [hi]
  by_cases e : x = y.id
  · subst e; rw [if_pos rfl, if_pos rfl, hz]
  · rw [if_neg e, if_neg (fun q => e q.symm), oj_none]

theorem MapR.ix {w : World} {b n : Nat} {G : Int → Option RK} {D : DataW Value} (h : MapR w b n G D) (x : Int) : Ix x (G x) := fun k hk => by
  obtain ⟨r, rfl, _, h3, _⟩ := h.el x k hk
  exact h3

theorem RIn.turn {w w' : World} {p : Option Addr} {l : List Rc} {b : Nat} (h : RIn w p l) (k : Fr (fun j => j = b) w w') (hn : ∀ o, w.cell? ⟨b, o, none⟩ = none) : RIn w' p l := fun hl => by
  obtain ⟨c, o, rfl, hc⟩ := h.at hl
  have hne : ¬ c = b := fun e => by have := (hc 0 hl).1.1; rw [e, hn] at this; cases this
  exact RIn.of (fun i hi => ⟨(hc i hi).1.fr k hne, (hc i hi).2.turn k hn⟩) hl

theorem rks_next (l : List Rc) (k : Nat) (h : k < l.length) : rks (l.take (k + 1)) = rks (l.take k) ++ [rk (l.getD k zr)] := by
  rw [rtake_next l k h, rks_append]; rfl

/-- What is known of the map behind each of a list. -/
def GL (G : Int → Option RK) (L : List RK) (x : Int) : Option RK := oj (G x) (gK L x)
theorem GL_nil (G : Int → Option RK) : GL G [] = G := by funext x; exact oj_none _
theorem GL_snoc {G : Int → Option RK} (hG : ∀ x, Ix x (G x)) (L : List RK) (y : RK) : GL G (L ++ [y]) = fun x => oj (GL G L x) (sg y x) := by
  funext x
  unfold GL
  rw [gK_snoc, oj_assoc (hG x) (gK_ix x L) (sg_ix y x)]

def AllP (b n : Nat) (G : Int → Option RK) (w : World) (w' : World) : Prop := ∃ D, MapR w' b n G D ∧ Fr (fun j => j = b) w w'

set_option maxHeartbeats 8000000 in
theorem joinAll_any (p : Option Addr) (c : Nat) (l : List Rc) (b n : Nat) (G : Int → Option RK) (D : DataW Value) (w : World) (hm : MapR w b n G D) (hp : RIn w p l) (hn : l.length ≤ 1000) (hnn : n ≤ 1000000) (hs : ∀ x ∈ l, x.bag.length ≤ 1099511627776) :
    Calls Try.prog 43 #[.map (some b), .slice p l.length c] w fun e w' => e = .returned (.tuple #[]) ∧ AllP b (n + l.length) (GL G (rks l)) w w' := by
  have HG := Hid.mk' hm.ix
  have HNC := Hid.mk' (map_noCell hm.own)
  have HP := Hid.mk' hp
  have HS := Hid.mk' hs
  have HM0 := Hid.mk' (show MapR w b (n + 0) (GL G (rks (l.take 0))) D by rw [List.take_zero]; show MapR w b n (GL G []) D; rw [GL_nil]; exact hm)
  clear hm hp hs
  go_enter Try.func43, Try.ntmps43
  go_wp2_with fail
  go_loopw [10] (fun i W => ∃ k : Nat, ∃ D', k ≤ l.length ∧ i = .int .i64 k ∧ Hid (MapR W b (n + k) (GL G (rks (l.take k))) D') ∧ Hid (Fr (fun j => j = b) w W)) (fun i _ => l.length - (intOf i).toNat)
  case atStart => exact ⟨0, D, by omega, rfl, HM0, Fr.refl _ _⟩
  case round =>
    obtain ⟨k, D', hk, rfl, HM, HF⟩ := hrel
    by_cases t : k < l.length
    · obtain ⟨bb, oo, rfl, hc⟩ := (HP.out.turn HF.out HNC.out).at (by omega)
      obtain ⟨hx, hok⟩ := hc k t
      have hfy := HS.out (l.getD k zr) (by simp [List.getD, t])
      have HE := Hid.mk' (rks_next l k t)
      generalize l.getD k zr = y at hx hok hfy HE
      have HGS := Hid.mk' (show GL G (rks (l.take (k + 1))) = fun x => oj (GL G (rks (l.take k)) x) (sg (rk y) x) by rw [HE.out, GL_snoc HG.out])
      generalize GL G (rks (l.take k)) = G' at HM HGS
      obtain ⟨e0, e1, e2, e3, e4, e5, e6⟩ := hx
      have hB1 := (Below.refl wr.heap.size wr).alloc (Nat.le_refl _) (.cells #[.int .i64 y.id, .int .i64 y.inc, .int .i64 y.st, .int .i64 y.lo, .int .i64 y.hi, .bool y.cut, .slice y.p y.bag.length y.cap] 27)
      have HM1 := Hid.mk' (HM.out.on hB1)
      have hwy := hok.id
      have HOK := Hid.mk' hok
      have hkn : n + k < maxLen := by unfold maxLen; omega
      clear hc hok
      cases hgy : G' y.id with
      | none =>
        have hB2 := hB1.alloc (by simp) (.cells #[.int .i64 0, .int .i64 0, .int .i64 0, .int .i64 0, .int .i64 0, .bool false, .slice none 0 0] 27)
        have HM2 := Hid.mk' (HM.out.on hB2)
        have HB2 := Hid.mk' hB2
        have HO2 := Hid.mk' (HOK.out.below hB2)
        have HST := Hid.mk' (show stepG G' (rk y) = fun x => oj (G' x) (sg (rk y) x) from stepG_eq (by rw [show (rk y).id = y.id from rfl, hgy]; rfl) rfl)
        clear hB1 hB2
        go_wp2_with (first | (at_lookup; refine wpList_lookR_none (by rfl) (.tmp 15) (.tmp 17) (by rfl) (by rfl) (by exact HM1.out) y.id hwy (by rfl) hgy ?_) | (at_mapUpdate; refine wpList_putR (by rfl) (.tmp 25) (.tmp 27) (.tmp 28) (by rfl) (by rfl) (by exact HM2.out) hkn y (by exact HO2.out) hfy (by rfl) (by rfl) ?_))
        intro w3 D3 hm3 hg3
        have HM3 := Hid.mk' (show MapR w3 b (n + (k + 1)) (GL G (rks (l.take (k + 1)))) D3 by rw [HGS.out, ← HST.out]; exact hm3)
        have HF3 := Hid.mk' ((HF.out.trans (Fr.of_below HB2.out fun j => j = b) (fun i q => .inl q)).trans (fr_of_grown hg3) (fun i q => .inl q))
        clear hm3 hg3 HM HM1 HM2 HF e0 e1 e2 e3 e4 e5 e6
        go_wp2_with fail
        go_roundw
        case rel => exact ⟨k + 1, D3, by omega, by go_num, HM3, HF3⟩
        case measure => simp [intOf]; omega
      | some q =>
        obtain ⟨r, hrk, hro, hri, hrf, hat⟩ := HM.out.el y.id q hgy
        have hB2 := hB1.alloc (by simp) (.cells #[.int .i64 r.id, .int .i64 r.inc, .int .i64 r.st, .int .i64 r.lo, .int .i64 r.hi, .bool r.cut, .slice r.p r.bag.length r.cap] 27)
        have HB2 := Hid.mk' hB2
        have J := join_any r y _ (hro.below hB2) (HOK.out.below hB2)
        have HZO := Hid.mk' (joinR_ok hro HOK.out)
        have hzf : (joinR r y).bag.length ≤ 1099511627776 := joinR_len hrf hfy
        have HZK := Hid.mk' (show oj (G' (rk y).id) (some (rk y)) = some (rk (joinR r y)) by rw [show (rk y).id = y.id from rfl, hgy, ← hrk, rk_join]; rfl)
        have HZI := Hid.mk' (show (rk (joinR r y)).id = (rk y).id by rw [rk_join]; exact (joinK_id (a := rk r) (b := rk y) hri).trans hri)
        have HY := Hid.mk' (Bx.new wr y)
        have HY2 := Hid.mk' (HY.out.on ((Below.refl _ _).alloc (Nat.le_refl _) (.cells #[.int .i64 r.id, .int .i64 r.inc, .int .i64 r.st, .int .i64 r.lo, .int .i64 r.hi, .bool r.cut, .slice r.p r.bag.length r.cap] 27)))
        generalize joinR r y = z at J HZO hzf HZK HZI
        have HST := Hid.mk' (show stepG G' (rk z) = fun x => oj (G' x) (sg (rk y) x) from stepG_eq HZK.out HZI.out)
        have hzi : z.id = y.id := HZI.out
        have HZ := Hid.mk' hzi
        clear hB1 hB2 hro hrk hri hrf hzi HZK HZI
        go_wp2_with (at_lookup; refine wpList_lookR_at (by rfl) (.tmp 15) (.tmp 17) (by rfl) (by rfl) (by exact HM1.out) y.id (by rfl) hgy r hat ?_)
        refine J.mono ?_
        clear J hat
        rintro e w2 ⟨rfl, hb2⟩
        have hB3 := HB2.out.trans (hb2.mono HB2.out.size)
        have HB4 := Hid.mk' (bel_seven (b := wr.heap.size) hB3 (Nat.le_refl _) z)
        have HM4 := Hid.mk' (HM.out.on HB4.out)
        have HO4 := Hid.mk' (HZO.out.below HB4.out)
        obtain ⟨c0, c1, c2, c3, c4, c5, c6⟩ := (HY2.out.on hb2).cells
        obtain ⟨f0, f1, f2, f3, f4, f5, f6⟩ := (HY2.out.on hb2).frozen
        clear hb2 hB3 HY HY2 e0 e1 e2 e3 e4 e5 e6
        go_wp2_with (at_mapUpdate; refine wpList_putR (by rfl) (.tmp 25) (.tmp 27) (.tmp 28) (by rfl) (by rfl) (by exact HM4.out) hkn z (by exact HO4.out) hzf (by rfl) (by rfl) ?_)
        intro w3 D3 hm3 hg3
        have HM3 := Hid.mk' (show MapR w3 b (n + (k + 1)) (GL G (rks (l.take (k + 1)))) D3 by rw [HGS.out, ← HST.out]; exact hm3)
        have HF3 := Hid.mk' ((HF.out.trans (Fr.of_below HB4.out fun j => j = b) (fun i q => .inl q)).trans (fr_of_grown hg3) (fun i q => .inl q))
        clear hm3 hg3 HM HM1 HM4 HF c0 c1 c2 c3 c4 c5 c6 f0 f1 f2 f3 f4 f5 f6
        go_wp2_with fail
        go_roundw
        case rel => exact ⟨k + 1, D3, by omega, by go_num, HM3, HF3⟩
        case measure => simp [intOf]; omega
    · obtain rfl : k = l.length := by omega
      rw [List.take_of_length_le (Nat.le_refl _)] at HM
      have HA := Hid.mk' (show AllP b (n + l.length) (GL G (rks l)) w wr from ⟨D', HM.out, HF.out⟩)
      clear HM HF
      go_wp2_with fail
      go_end0
      exact ⟨rfl, HA.out⟩
end Go.Proofs.Ytdfjjajkeieocaa
