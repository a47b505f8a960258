/-
  TurnsAlone: its walk.
-/
import Derived.Test.YtgengboaoniogaaFew
import Derived.Test.YtgengboaoniogaaFromS
import Derived.Test.YtgengboaoniogaaAloneM
namespace Go.Proofs.Ytgengboaoniogaa
open Go.RowKit Plain
set_option linter.unusedVariables false
set_option maxRecDepth 100000
set_option linter.unusedSimpArgs false

theorem RdV.keepB {bs : List Nat} {w w' : World} {b off n : Nat} {V : Nat → Option Addr × Nat × Nat} (h : RdV w (some ⟨b, off, none⟩) n V) (hk : Keep bs w w') (hb : b ∉ bs) : RdV w' (some ⟨b, off, none⟩) n V := fun hp => by
  obtain ⟨b', off', e, hl, hc⟩ := h hp
  injection e with e; injection e with e1 e2
  subst e1 e2
  exact ⟨b, off, rfl, Nat.lt_of_lt_of_le hl hk.size, fun i hi => (hk.cell (p := ⟨b, off + i, none⟩) hl hb).trans (hc i hi)⟩
theorem RdV.less {w : World} {A : Option Addr} {n m : Nat} {V : Nat → Option Addr × Nat × Nat} (h : RdV w A n V) (hm : m ≤ n) : RdV w A m V := fun hp => by
  obtain ⟨b, off, e, hl, hc⟩ := h (by omega)
  exact ⟨b, off, e, hl, fun i hi => hc i (by omega)⟩
theorem RdP.take {w : World} {A : Option Addr} {os : List OpV} (h : RdP w A os) (k : Nat) : RdP w A (os.take k) := by
  refine ⟨fun o ho => h.1 o (List.mem_of_mem_take ho), fun hp => ?_⟩
  have hp' : 0 < os.length := by rw [List.length_take] at hp; omega
  obtain ⟨b, off, e, hb, hc⟩ := h.2 hp'
  refine ⟨b, off, e, hb, fun i hi => ?_⟩
  rw [List.length_take] at hi
  have eg : (os.take k).getD i default = os.getD i default := by simp [List.getD, show i < k by omega]
  rw [eg]; exact hc i (by omega)
theorem RdP.nil (w : World) (A : Option Addr) : RdP w A [] := ⟨(fun o ho => by cases ho), (fun hp => absurd hp (by simp))⟩
/-- one program, and none -/
def pv2 (A : Option Addr) (n c : Nat) (i : Nat) : Option Addr × Nat × Nat := if i = 0 then (A, n, c) else (none, 0, 0)

set_option maxHeartbeats 8000000 in
theorem turnsAlone_walk (A : Option Addr) (n c : Nat) (os : List OpV) (B : Option Addr) (nz cz : Nat) (zs : List Int) (w : World) (hn : os.length = n) (hnc : n ≤ c) (hm : c ≤ maxLen) (hP : RdP w A os) (hz : zs.length = nz) (hzc : nz ≤ cz) (hzm : cz ≤ maxLen) (hR : RdN .i64 w B zs) :
    Calls Try.prog 4 #[.slice A n c, .slice B nz cz] w fun e w' => e = .returned (.bool true) ∧ Below w.heap.size w w' := by
  have HM := Lib.hid hm
  have HZM := Lib.hid hzm
  unfold maxLen at hm hzm
  have HZ := Lib.hid hz
  have HR := Lib.hid hR
  have HN := Lib.hid hn
  have HP := Lib.hid hP
  clear hz hR hn hP
  have HF := Lib.hid (show Calls Try.prog 15 #[.slice (some ⟨w.heap.size, 0, none⟩) 2 2] (w.alloc (.cells #[.slice A n c, .slice none 0 0] 39)) _ from
    tfew_any (some ⟨w.heap.size, 0, none⟩) 2 2 (pv2 A n c) (w.alloc (.cells #[.slice A n c, .slice none 0 0] 39)) (by omega) (fun _ => ⟨w.heap.size, 0, rfl, by simp, fun i hi => by
      have hb := Blk.new w 39 #[.slice A n c, .slice none 0 0]
      have : i = 0 ∨ i = 1 := by omega
      rcases this with rfl | rfl
      · exact hb.cell 0
      · exact hb.cell 1⟩) (fun i hi => by
      have : i = 0 ∨ i = 1 := by omega
      rcases this with rfl | rfl
      · exact ⟨hnc, HM.out⟩
      · exact ⟨Nat.le_refl _, Nat.zero_le _⟩))
  obtain ⟨np, hnp⟩ : ∃ k, k = min n 20 := ⟨_, rfl⟩
  have hnp20 : np ≤ 20 := by omega
  obtain ⟨P, hPd⟩ : ∃ P, P = os.take 20 := ⟨_, rfl⟩
  have HPL := Lib.hid (show P.length = np by rw [hPd, List.length_take, HN.out]; omega)
  have HPR := Lib.hid (show RdP w A P by rw [hPd]; exact HP.out.take 20)
  have hV0 : fewV (pv2 A n c) 0 = (A, np, c) := by rw [hnp]; rfl
  have hV1 : fewV (pv2 A n c) 1 = (none, 0, 0) := rfl
  generalize fewV (pv2 A n c) = V at *
  clear hnp hPd HP HN
  have HV0 := Lib.hid hV0
  have HV1 := Lib.hid hV1
  clear hV0 hV1
  go_enter Try.func4, Try.ntmps4
  go_wp2_with fail
  refine HF.out.mono ?_
  rintro e w1 ⟨A1, c1, rfl, hc1, hRV, hb⟩
  obtain ⟨b1, off1, rfl, hb1, hrest⟩ := hRV (by omega)
  clear hrest
  have HRV := Lib.hid hRV
  have HB1 := Lib.hid (bthen (ball w _) hb)
  clear hRV hb HF
  have hc1' : (2 : Int) ≤ (c1 : Int) := by omega
  go_wp2_with fail
  refine (new_any 4 (by omega) (by omega) w1).mono ?_
  rintro e w2 ⟨rfl, hc, hb, hs⟩
  have HC2 := Lib.hid (show Cl w2 (w1.heap.size + 1) w1.heap.size 4 [0, 0, 0, 0] from hc)
  have HRV2 := Lib.hid (HRV.out.below hb)
  have HB2 := Lib.hid (bthen HB1.out hb)
  have hs1 := HB1.out.size
  obtain ⟨gc, hgc⟩ : ∃ g, g = w1.heap.size := ⟨_, rfl⟩
  rw [← hgc] at HC2 hb1 hs hs1
  rw [← hgc]
  clear hc hb HRV HB1 hgc
  go_wp2_with fail
  refine (new_any 4 (by omega) (by omega) w2).mono ?_
  rintro e w3 ⟨rfl, hc, hb, hs3⟩
  have HD3 := Lib.hid (show Cl w3 (w2.heap.size + 1) w2.heap.size 4 [0, 0, 0, 0] from hc)
  have HC3 := Lib.hid (HC2.out.below hb)
  have HRV3 := Lib.hid (HRV2.out.below hb)
  have HB3 := Lib.hid (bthen HB2.out hb)
  obtain ⟨gd, hgd⟩ : ∃ g, g = w2.heap.size := ⟨_, rfl⟩
  rw [← hgd] at HD3 hs hs3
  rw [← hgd]
  have hgcd : gc + 2 ≤ gd := by omega
  clear hc hb HRV2 HB2 HC2 hgd hs hs3
  obtain ⟨t1, t2, t3⟩ := alone_all P [0, 0, 0, 0] (zs.take 100)
  obtain ⟨s1, hs1d⟩ : ∃ s, s = many (os2 P) (ts0 [0, 0, 0, 0]) ((zs.take 100).map (pk 2) ++ restL (os2 P) 2) := ⟨_, rfl⟩
  obtain ⟨s2, hs2d⟩ : ∃ s, s = many (os1 P) (ts0 [0, 0, 0, 0]) (([] : List Int).map (pk 1) ++ restL (os1 P) 1) := ⟨_, rfl⟩
  rw [← hs1d, ← hs2d] at t1 t2
  rw [← hs2d, HPL.out] at t3
  have HT1 := Lib.hid t1
  have HT2 := Lib.hid t2
  have HT3 := Lib.hid t3
  have HS1 := Lib.hid hs1d
  have HS2 := Lib.hid hs2d
  clear t1 t2 t3 hs1d hs2d
  have key : ∀ (m : Nat) (oo : Nat → List OpV) (W : World), m ≤ 2 → oo 0 = P → oo 1 = [] ∨ m ≤ 1 → Below w.heap.size w W → RdV W (some ⟨b1, off1, none⟩) 2 V → Calls Try.prog 16 #[.slice (some ⟨b1, off1, none⟩) m c1] W fun e w' => ∃ A' c' p1, e = .returned (.slice A' m c') ∧ Two w' W.heap.size m 0 (.slice A' m c') (.slice none 0 0) p1 (fun _ => .slice none 0 0) oo (fun _ => []) ∧ Below W.heap.size W w' := by
    intro m oo W hm2 h0 h1 hW hRV
    refine tto_any _ m c1 V oo W (by omega) (hRV.less hm2) (fun i hi => ?_)
    have : i = 0 ∨ i = 1 := by omega
    rcases this with rfl | rfl
    · rw [HV0.out, h0]
      exact ⟨HPR.out.keep (bs := []) (Keep.mono (bs := []) ⟨hW.os, hW.tape, hW.output, hW.size, fun k hk _ => hW.block k hk⟩ (fun x hx => hx)) (fun _ _ _ => by simp), HPL.out, by show np ≤ 1000; omega⟩
    · rcases h1 with h1 | h1
      · rw [HV1.out, h1]
        exact ⟨RdP.nil _ _, rfl, by show 0 ≤ 1000; omega⟩
      · omega
  have HKEY := Lib.hid key
  clear key
  have HOK := Lib.hid (show ∀ o ∈ P, o.ok from HPR.out.1)
  go_upto_region 4 with fail
  go_cut [10] (fun s10 wx => ∃ A4 c4, s10 = .slice A4 np c4 ∧ (RdO wx A4 s1.out ∧ ∀ g, A4 = some ⟨g, 0, none⟩ → 0 < s1.out.length → g ≠ gd) ∧ Cl wx (gc + 1) gc 4 s1.l ∧ Cl wx (gd + 1) gd 4 [0, 0, 0, 0] ∧ RdV wx (some ⟨b1, off1, none⟩) 2 V ∧ Below w.heap.size w wx)
  case first =>
    have HTO := Lib.hid (HKEY.out 2 (os2 P) (w3.drewN 1) (by omega) rfl (.inl rfl) (bthen HB3.out (bdrewN w3 1)) (HRV3.out.below (bdrewN w3 1)))
    have HRE := Lib.hid (fun (nz' : Nat) (hnz : nz' = min nz 100) (W : World) (A' : Option Addr) (c' : Nat) (p1 : Nat → Value) (hT : Two W (w3.drewN 1).heap.size 2 0 (.slice A' 2 c') (.slice none 0 0) p1 (fun _ => .slice none 0 0) (os2 P) (fun _ => [])) (hb : Below (w3.drewN 1).heap.size (w3.drewN 1) W) => show Calls Try.prog 12 #[.pointer (some ⟨gc + 1, 0, none⟩), .slice A' 2 c', .slice B nz' cz] W fun e wx => ∃ A4 c4, e = .returned (.slice A4 np c4) ∧ (RdO wx A4 s1.out ∧ ∀ g, A4 = some ⟨g, 0, none⟩ → 0 < s1.out.length → g ≠ gd) ∧ Cl wx (gc + 1) gc 4 s1.l ∧ Cl wx (gd + 1) gd 4 [0, 0, 0, 0] ∧ RdV wx (some ⟨b1, off1, none⟩) 2 V ∧ Below w.heap.size w wx by
      have hbW := bthen HB3.out (bthen (bdrewN w3 1) hb)
      have hCW := (HC3.out.drewN 1).below hb
      have hDW := (HD3.out.drewN 1).below hb
      have hVW := (HRV3.out.below (bdrewN w3 1)).below hb
      have lc := hCW.st.lt
      have ld := hDW.st.lt
      have hti := hT.tin' hCW (by omega) (by omega) (fun i hi => by
        unfold os2; split
        · rw [HPL.out]; omega
        · simp) (fun i hi => by
        unfold os2; split
        · exact HOK.out
        · intro o ho; cases ho) (zs := zs.take 100) (nz := nz') (cz := cz) (B := B) (by rw [List.length_take, HZ.out]; omega) ((HR.out.below hbW (Nat.le_refl _)).take 100) (fun hp b off e => by
          obtain ⟨b', off', e', hl, _⟩ := HR.out.2 (by rw [HZ.out]; omega)
          rw [e] at e'; injection e' with e'; injection e' with e1 e2
          have := hbW.size
          omega) (by omega) HZM.out
      have hra := rest_any hti
      rw [← HS1.out] at hra
      refine hra.mono ?_
      rintro e wx ⟨A4, c4, rfl, hC4, how, hk4⟩
      have hlen : s1.out.length = np := by rw [HT2.out]; exact HT3.out
      refine ⟨A4, c4, by rw [hlen], ⟨RdO.of_own how, fun g e hp => by
        have := (own_blk how (g := g) (by rw [e]; rfl)).1
        omega⟩, hC4, hDW.keep hk4 (by simp; omega) (by simp; omega), hVW.keepB hk4 (by simp; omega), hk4.below hbW (Nat.le_refl _) (by simpa using hs1)⟩)
    by_cases h100 : nz ≤ 100
    · have h101 : (nz : Int) ≤ 100 := by omega
      have h102 : (if (100 : Int) < (nz : Int) then (100 : Int) else (nz : Int)) = (nz : Int) := by rw [if_neg (by omega)]
      have i5 : (nz : Int) ≤ (cz : Int) := by omega
      go_region_with (first
        | (go_at_call 16; refine (HTO.out).mono ?_; rintro e w' ⟨A', c', p1, rfl, hT, hb⟩)
        | (go_at_call 12; refine (HRE.out nz (by omega) _ _ _ _ hT hb).mono ?_; rintro e w' ⟨A4, c4, rfl, h1, h2, h3, h4, h5⟩))
      all_goals
        have H5 := Lib.hid (And.intro h1 (And.intro h2 (And.intro h3 (And.intro h4 h5))))
        clear h1 h2 h3 h4 h5 hT hb
        go_wp2_with fail
        go_meet
        exact ⟨A4, c4, rfl, H5.out.1, H5.out.2.1, H5.out.2.2.1, H5.out.2.2.2.1, H5.out.2.2.2.2⟩
    · have h101 : (100 : Int) < (nz : Int) := by omega
      have h102 : (if (100 : Int) < (nz : Int) then (100 : Int) else (nz : Int)) = 100 := by rw [if_pos h101]
      have i5 : (100 : Int) ≤ (cz : Int) := by omega
      have i6 : 100 ≤ cz := by omega
      go_region_with (first
        | (go_at_call 16; refine (HTO.out).mono ?_; rintro e w' ⟨A', c', p1, rfl, hT, hb⟩)
        | (go_at_call 12; refine (HRE.out 100 (by omega) _ _ _ _ hT hb).mono ?_; rintro e w' ⟨A4, c4, rfl, h1, h2, h3, h4, h5⟩))
      all_goals
        have H5 := Lib.hid (And.intro h1 (And.intro h2 (And.intro h3 (And.intro h4 h5))))
        clear h1 h2 h3 h4 h5 hT hb
        go_wp2_with fail
        go_meet
        exact ⟨A4, c4, rfl, H5.out.1, H5.out.2.1, H5.out.2.2.1, H5.out.2.2.2.1, H5.out.2.2.2.2⟩
  case rest =>
    obtain ⟨A4, c4, rfl, h1, h2, h3, h4, h5⟩ := hcut
    have HO4 := Lib.hid h1.1
    have HOD0 := Lib.hid h1.2
    have HC4 := Lib.hid h2
    have HD4 := Lib.hid h3
    have HRV4 := Lib.hid h4
    have HB4 := Lib.hid h5
    clear h1 h2 h3 h4 h5 HC3 HD3 HRV3 HB3
    have hc11 : (1 : Int) ≤ (c1 : Int) := by omega
    have hc12 : 1 ≤ c1 := by omega
    go_wp2_with fail
    refine (HKEY.out 1 (os1 P) wc (by omega) rfl (.inr (by omega)) HB4.out HRV4.out).mono ?_
    rintro e w5 ⟨A5, c5, p5, rfl, hT, hb⟩
    have HT5 := Lib.hid hT
    have HC5 := Lib.hid (HC4.out.below hb)
    have HD5 := Lib.hid (HD4.out.below hb)
    have HO5 := Lib.hid (HO4.out.below hb)
    have HRV5 := Lib.hid (HRV4.out.below hb)
    have HB5 := Lib.hid (bthen HB4.out hb)
    clear hT hb HC4 HD4 HO4 HRV4 HB4
    rw [HT1.out] at HC5
    rw [HT2.out] at HO5 HOD0
    have HOD := Lib.hid (fun g (e : A4 = some ⟨g, 0, none⟩) hp => HOD0.out g e hp)
    have lc5 := HC5.out.st.lt
    have ld5 := HD5.out.st.lt
    have HRE := Lib.hid (show Calls Try.prog 12 #[.pointer (some ⟨gd + 1, 0, none⟩), .slice A5 1 c5, .slice none 0 0] w5 fun e wx => ∃ A6 c6, e = .returned (.slice A6 np c6) ∧ RdO wx A6 s2.out ∧ RdO wx A4 s2.out ∧ Cl wx (gc + 1) gc 4 s2.l ∧ Cl wx (gd + 1) gd 4 s2.l ∧ RdV wx (some ⟨b1, off1, none⟩) 2 V ∧ Below w.heap.size w wx by
      have hti := HT5.out.tin' HD5.out (by omega) (by omega) (fun i hi => by show P.length ≤ _; rw [HPL.out]; omega) (fun i hi => HOK.out) (zs := []) (nz := 0) (cz := 0) (B := none) rfl ⟨(fun x hx => by cases hx), (fun hp => absurd hp (by simp))⟩ (fun hp => absurd hp (by omega)) (by omega) (by unfold maxLen; omega)
      have hra := rest_any hti
      rw [← HS2.out] at hra
      refine hra.mono ?_
      rintro e wx ⟨A6, c6, rfl, hC6, how, hk6⟩
      refine ⟨A6, c6, by rw [HT3.out], RdO.of_own how, fun hp => ?_, HC5.out.keep hk6 (by simp; omega) (by simp; omega), hC6, HRV5.out.keepB hk6 (by simp; omega), hk6.below HB5.out (Nat.le_refl _) (by simp; omega)⟩
      obtain ⟨g, e, hg, hc⟩ := HO5.out hp
      have hne : g ≠ gd := HOD.out g e hp
      refine ⟨g, e, Nat.lt_of_lt_of_le hg hk6.size, fun i hi => ?_⟩
      obtain ⟨r0, r1, r2⟩ := hc i hi
      have hg6 : g ∉ [gd] := by simpa using hne
      exact ⟨(hk6.cell (p := ⟨g, i * 3, none⟩) hg hg6).trans r0, (hk6.cell (p := ⟨g, i * 3 + 1, none⟩) hg hg6).trans r1, (hk6.cell (p := ⟨g, i * 3 + 2, none⟩) hg hg6).trans r2⟩)
    go_wp2_with fail
    refine HRE.out.mono ?_
    rintro e w6 ⟨A6, c6, rfl, h1, h2, h3, h4, h5, h6⟩
    have HOb := Lib.hid h1
    have HOa := Lib.hid h2
    have HC6 := Lib.hid h3
    have HD6 := Lib.hid h4
    have HRV6 := Lib.hid h5
    have HB6 := Lib.hid h6
    clear h1 h2 h3 h4 h5 h6 HRE HT5 HC5 HD5 HO5 HRV5 HB5
    go_wp2_with fail
    refine (goes_any _).mono ?_
    rintro e w7 ⟨rfl, hb⟩
    have HOb7 := Lib.hid (HOb.out.below hb)
    have HOa7 := Lib.hid (HOa.out.below hb)
    have HC7 := Lib.hid (HC6.out.below hb)
    have HD7 := Lib.hid (HD6.out.below hb)
    have HRV7 := Lib.hid (HRV6.out.below hb)
    have HB7 := Lib.hid (bthen HB6.out hb)
    clear hb HOb HOa HC6 HD6 HRV6 HB6
    go_wp2_with fail
    refine (tfrom_any A4 np c4 s2.out w7 HT3.out (by omega) HOa7.out).mono ?_
    rintro e w8 ⟨A8, c8, rfl, hO8, hb⟩
    have HO8 := Lib.hid hO8
    have HOb8 := Lib.hid (HOb7.out.below hb)
    have HC8 := Lib.hid (HC7.out.below hb)
    have HD8 := Lib.hid (HD7.out.below hb)
    have HRV8 := Lib.hid (HRV7.out.below hb)
    have HB8 := Lib.hid (bthen HB7.out hb)
    clear hO8 hb HOb7 HOa7 HC7 HD7 HRV7 HB7
    go_wp2_with fail
    refine (tfrom_any A6 np c6 s2.out w8 HT3.out (by omega) HOb8.out).mono ?_
    rintro e w9 ⟨A9, c9, rfl, hO9, hb⟩
    have HO9 := Lib.hid hO9
    have HO89 := Lib.hid (HO8.out.below hb)
    have HC9 := Lib.hid (HC8.out.below hb)
    have HD9 := Lib.hid (HD8.out.below hb)
    have HRV9 := Lib.hid (HRV8.out.below hb)
    have HB9 := Lib.hid (bthen HB8.out hb)
    clear hO9 hb HOb8 HO8 HC8 HD8 HRV8 HB8
    go_wp2_with fail
    refine (tsame_any A8 A9 np c8 c9 s2.out w9 HT3.out (by omega) HO89.out HO9.out).mono ?_
    rintro e w10 ⟨rfl, q, rfl⟩
    have HCx := Lib.hid (HC9.out.drewN q)
    have HDx := Lib.hid (HD9.out.drewN q)
    have HRVx := Lib.hid (HRV9.out.below (bdrewN w9 q))
    have HBx := Lib.hid (below_drewN HB9.out q)
    clear HO9 HO89 HC9 HD9 HRV9 HB9
    generalize w9.drewN q = wx at *
    go_wp2
    go_loopw [12] (fun s12 wr => ∃ k : Nat, s12 = .int .i64 k ∧ k ≤ 4 ∧ wr = wx) (fun i _ => 4 - (intOf i).toNat)
    case atStart => exact ⟨0, rfl, by omega, rfl⟩
    case round =>
      obtain ⟨k, rfl, hk, rfl⟩ := hrel
      by_cases hlt : k < 4
      · have i0 : (k : Int) < 4 := by omega
        go_wp2_with fail
        refine (load_any HCx.out k hlt).mono ?_
        rintro e w11 ⟨rfl, rfl⟩
        go_wp2_with fail
        refine (load_any HDx.out k hlt).mono ?_
        rintro e w11 ⟨rfl, rfl⟩
        go_wp2
        go_roundw
        case rel => exact ⟨k + 1, by go_num, by omega, by trivial⟩
        case measure => simp [intOf]; omega
      · obtain ⟨b', off', e', hbl, hcell⟩ := HRVx.out (by omega)
        injection e' with e'
        injection e' with e1 e2
        subst e1 e2
        have v0 := hcell 0 (by omega)
        rw [HV0.out] at v0
        simp only [Nat.add_zero] at v0
        clear hcell
        go_wp2
        go_ret
        exact ⟨rfl, HBx.out⟩
end Go.Proofs.Ytgengboaoniogaa
