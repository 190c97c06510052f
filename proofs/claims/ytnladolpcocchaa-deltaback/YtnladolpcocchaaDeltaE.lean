/-
  Package delta: Diff, Over, Gone: all that is wanted of them.
-/
import Derived.Test.YtnladolpcocchaaDeltaGI
namespace Go.Proofs.Ytnladolpcocchaa
open Go.RowKit
set_option linter.unusedSimpArgs false
set_option linter.unusedVariables false
set_option maxRecDepth 10000
set_option synthInstance.maxSize 2000

set_option maxHeartbeats 4000000 in
theorem diff_any (p : Option Addr) (c : Nat) (b : List Rc) (q : Option Addr) (d : Nat) (n : List Rc) (w : World) (hp : RIn w p b) (hbc : b.length ≤ c) (hcm : c ≤ maxLen) (hpn : p = none → c = 0) (hb : SmK (rks b)) (hq : RIn w q n) (hnd : n.length ≤ d) (hdm : d ≤ maxLen) (hqn : q = none → d = 0) (hn : SmK (rks n)) :
    Calls Try.prog 8 #[.slice p b.length c, .slice q n.length d] w fun e w' => GivesR w (bothS (rks b) (rks n)) (diffK (rks b) (rks n)) e w' := by
  have N := sideR_any 19 diffK pickD (fun _ _ _ => by rfl) steps_diff rfl (fun p q c d A B w h1 h2 h3 h4 h5 h6 => changed_any p q c d A B w h1 h2 h3 h4 h5 h6) p c b q d n w hp hbc hcm hpn hb hq hnd hdm hqn hn
  have HBG := Hid.mk' (And.intro hb hn)
  obtain ⟨ok, hok⟩ : ∃ s, bothS (rks b) (rks n) = s := ⟨_, rfl⟩
  unfold SidePost at N
  rw [hok] at N ⊢
  clear hp hbc hcm hpn hb hq hnd hdm hqn hn hok
  go_enter Try.func8, Try.ntmps8
  go_wp2_with fail
  refine N.mono ?_
  clear N
  rintro e w1 ⟨p1, c1, A, rfl, hA, hl, hm, hk, hb1⟩
  have CP := rcopy_any p1 c1 A w1 hA (by omega) (fun x hx => by
    rcases hm x hx with z | z
    · have := (HBG.out.1.bags x z).1; omega
    · have := (HBG.out.2.bags x z).1; omega)
  have HB1 := Hid.mk' hb1
  have HK := Hid.mk' hk
  obtain ⟨np, hnp⟩ : ∃ np, CopyPost w1 A = np := ⟨_, rfl⟩
  have HNP := Hid.mk' hnp
  rw [hnp] at CP
  clear hA hm hk hb1 hnp
  go_wp2_with fail
  refine CP.mono ?_
  clear CP
  intro e w2 hcp
  rw [← HNP.out] at hcp
  obtain ⟨g, l1, rfl, hk1, hin1, hb2⟩ := hcp
  have hl1 : l1.length ≤ 2000 := by have := congrArg List.length hk1; rw [rks_len, rks_len] at this; omega
  have HIN := Hid.mk' hin1
  have HK1 := Hid.mk' hk1
  have HB2 := Hid.mk' (HB1.out.trans (hb2.mono HB1.out.size))
  clear hin1 hk1 hb2 HNP
  go_wp2_with fail
  go_ret2
  exact ⟨some ⟨g, 0, none⟩, l1.length, l1, rfl, HIN.out, Nat.le_refl _, by simp only [maxLen]; omega, by simp, by rw [HK1.out, HK.out], HB2.out⟩

set_option maxHeartbeats 4000000 in
theorem over_any (p : Option Addr) (c : Nat) (b : List Rc) (q : Option Addr) (d : Nat) (n : List Rc) (w : World) (hp : RIn w p b) (hbc : b.length ≤ c) (hcm : c ≤ maxLen) (hpn : p = none → c = 0) (hb : SmK (rks b)) (hq : RIn w q n) (hnd : n.length ≤ d) (hdm : d ≤ maxLen) (hqn : q = none → d = 0) (hn : SmK (rks n)) :
    Calls Try.prog 14 #[.slice p b.length c, .slice q n.length d] w fun e w' => GivesR w (bothS (rks b) (rks n)) (overK (rks b) (rks n)) e w' := by
  have N := sideR_any 26 overK pickO (fun _ _ _ => by rfl) steps_over rfl (fun p q c d A B w h1 h2 h3 h4 h5 h6 => later_any p q c d A B w h1 h2 h3 h4 h5 h6) p c b q d n w hp hbc hcm hpn hb hq hnd hdm hqn hn
  have HBG := Hid.mk' (And.intro hb hn)
  obtain ⟨ok, hok⟩ : ∃ s, bothS (rks b) (rks n) = s := ⟨_, rfl⟩
  unfold SidePost at N
  rw [hok] at N ⊢
  clear hp hbc hcm hpn hb hq hnd hdm hqn hn hok
  go_enter Try.func14, Try.ntmps14
  go_wp2_with fail
  refine N.mono ?_
  clear N
  rintro e w1 ⟨p1, c1, A, rfl, hA, hl, hm, hk, hb1⟩
  have CP := rcopy_any p1 c1 A w1 hA (by omega) (fun x hx => by
    rcases hm x hx with z | z
    · have := (HBG.out.1.bags x z).1; omega
    · have := (HBG.out.2.bags x z).1; omega)
  have HB1 := Hid.mk' hb1
  have HK := Hid.mk' hk
  obtain ⟨np, hnp⟩ : ∃ np, CopyPost w1 A = np := ⟨_, rfl⟩
  have HNP := Hid.mk' hnp
  rw [hnp] at CP
  clear hA hm hk hb1 hnp
  go_wp2_with fail
  refine CP.mono ?_
  clear CP
  intro e w2 hcp
  rw [← HNP.out] at hcp
  obtain ⟨g, l1, rfl, hk1, hin1, hb2⟩ := hcp
  have hl1 : l1.length ≤ 2000 := by have := congrArg List.length hk1; rw [rks_len, rks_len] at this; omega
  have HIN := Hid.mk' hin1
  have HK1 := Hid.mk' hk1
  have HB2 := Hid.mk' (HB1.out.trans (hb2.mono HB1.out.size))
  clear hin1 hk1 hb2 HNP
  go_wp2_with fail
  go_ret2
  exact ⟨some ⟨g, 0, none⟩, l1.length, l1, rfl, HIN.out, Nat.le_refl _, by simp only [maxLen]; omega, by simp, by rw [HK1.out, HK.out], HB2.out⟩

set_option maxHeartbeats 4000000 in
theorem gone_any (p : Option Addr) (c : Nat) (b : List Rc) (q : Option Addr) (d : Nat) (n : List Rc) (w : World) (hp : RIn w p b) (hbc : b.length ≤ c) (hcm : c ≤ maxLen) (hpn : p = none → c = 0) (hb : SmK (rks b)) (hq : RIn w q n) (hnd : n.length ≤ d) (hdm : d ≤ maxLen) (hqn : q = none → d = 0) (hn : SmK (rks n)) :
    Calls Try.prog 9 #[.slice p b.length c, .slice q n.length d] w fun e w' => GivesN w (bothS (rks b) (rks n)) (goneK (rks b) (rks n)) e w' := by
  have N := sideI_any 21 goneK pickG (fun _ _ _ => by rfl) steps_gone rfl (fun p q c d A B w h1 h2 h3 h4 => goneID_any p q c d A B w h1 h2 h3 h4) p c b q d n w hp hbc hcm hpn hb hq hnd hdm hqn hn
  obtain ⟨ok, hok⟩ : ∃ s, bothS (rks b) (rks n) = s := ⟨_, rfl⟩
  unfold SidePostI at N
  rw [hok] at N ⊢
  clear hp hbc hcm hpn hb hq hnd hdm hqn hn hok
  go_enter Try.func9, Try.ntmps9
  go_wp2_with fail
  refine N.mono ?_
  clear N
  rintro e w1 ⟨p1, c1, A, rfl, hA, hn, hl, hm, hk, hb1⟩
  have HA := Hid.mk' hA
  have HK := Hid.mk' hk
  have HC := Hid.mk' (And.intro hl hm)
  clear hA hk hl hm hn
  go_wp2_with fail
  go_ret2
  exact ⟨p1, c1, A, rfl, HA.out, HC.out.1, HC.out.2, HK.out, hb1⟩

theorem delta_ok : DeltaOk := ⟨diff_any, over_any, gone_any⟩
end Go.Proofs.Ytnladolpcocchaa
