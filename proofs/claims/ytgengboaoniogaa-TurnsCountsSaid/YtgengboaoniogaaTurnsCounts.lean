/-
  TurnsCounts: its walk.
-/
import Derived.Test.YtgengboaoniogaaGrow
import Derived.Test.YtgengboaoniogaaCountM
namespace Go.Proofs.Ytgengboaoniogaa
open Go.RowKit Plain
set_option linter.unusedVariables false
set_option maxRecDepth 100000

set_option maxHeartbeats 8000000 in
theorem turnsCounts_walk (n0 k0 : Int) (B : Option Addr) (nz cz : Nat) (zs : List Int) (w : World) (hz : zs.length = nz) (hnc : nz ≤ cz) (hm : cz ≤ maxLen) (hR : RdN .i64 w B zs) :
    Calls Try.prog 3 #[.int .i64 n0, .int .i64 k0, .slice B nz cz] w fun e w' => e = .returned (.bool true) ∧ Below w.heap.size w w' := by
  have HM := Lib.hid hm
  unfold maxLen at hm
  have HZ := Lib.hid hz
  have HR := Lib.hid hR
  clear hz hR
  obtain ⟨K1, hK1, hK1l⟩ := pickN n0 8 (by omega) (by omega)
  obtain ⟨K2, hK2, hK2l⟩ := pickN k0 8 (by omega) (by omega)
  go_enter Try.func3, Try.ntmps3
  go_upto_region 3 with fail
  obtain ⟨n, hn⟩ : ∃ n : Nat, (n : Int) = 1 + (K1 : Int) := ⟨K1 + 1, by omega⟩
  obtain ⟨K, hk⟩ : ∃ n : Nat, (n : Int) = 1 + (K2 : Int) := ⟨K2 + 1, by omega⟩
  rw [← hn, ← hk]
  have hn1 : 1 ≤ n := by omega
  have hn2 : n ≤ 8 := by omega
  have hk1 : 1 ≤ K := by omega
  have hk2 : K ≤ 8 := by omega
  clear hK1 hK2 hn hk hK1l hK2l
  go_wp2
  go_loopw [9, 10, 11, 12, 13, 14] (fun s9 s10 s11 s12 s13 s14 wr => ∃ (k c1 c2 : Nat) (A1 A2 : Option Addr) (p1 p2 : Nat → Value), s9 = .slice A1 k c1 ∧ s10 = .slice A2 k c2 ∧ s11 = .int .i64 k ∧ k ≤ n ∧ Two wr w.heap.size k k (.slice A1 k c1) (.slice A2 k c2) p1 p2 (adOs K) (stOs K) ∧ Below w.heap.size w wr) (fun _ _ i _ _ _ _ => n - (intOf i).toNat)
  case atStart => exact ⟨0, 0, 0, none, none, fun _ => .slice none 0 0, fun _ => .slice none 0 0, rfl, rfl, rfl, by omega, Two.nil _ _ _ _ _ _, Below.refl _ _⟩
  case round =>
    obtain ⟨k, c1, c2, A1, A2, p1, p2, rfl, rfl, rfl, hkn, hT, hB⟩ := hrel
    have HT := Lib.hid hT
    have HB := Lib.hid hB
    have hsz := hB.size
    clear hT hB
    by_cases hlt : k < n
    · have i0 : (k : Int) < (n : Int) := by omega
      obtain ⟨wo, rfl⟩ : ∃ x, x = wr := ⟨wr, rfl⟩
      go_wp2
      go_loopw [12, 13, 14] (fun s12 s13 s14 wx => ∃ (t m2 ca cb : Nat) (Aa Ab : Option Addr), s12 = .slice Aa t ca ∧ s13 = .slice Ab m2 cb ∧ s14 = .int .i64 t ∧ t ≤ K ∧ m2 = 2 * t ∧ In2 wx wo.heap.size t m2 (.slice Aa t ca) (.slice Ab m2 cb) (List.replicate t adO) (stL2 K k t) ∧ Below wo.heap.size wo wx) (fun _ _ i _ => K - (intOf i).toNat)
      case atStart => exact ⟨0, 0, 0, 0, none, none, rfl, rfl, rfl, by omega, rfl, In2.nil _ _, Below.refl _ _⟩
      case round =>
        obtain ⟨t, m2, ca, cb, Aa, Ab, rfl, rfl, rfl, htk, hm2, hI, hBi⟩ := hrel
        have HI := Lib.hid hI
        have HBi := Lib.hid hBi
        have HM2 := Lib.hid hm2
        have hszi := hBi.size
        clear hI hBi hm2
        by_cases hlt2 : t < K
        · have i1 : (t : Int) < (K : Int) := by omega
          have hm2b : m2 ≤ 16 := by rw [HM2.out]; omega
          have hmul : k * K ≤ 8 * 8 := Nat.mul_le_mul (by omega) hk2
          go_wp2_with (at_builtin; refine wpList_ops rfl (.tmp 42) (.tmp 44) rfl rfl HI.out HBi.out hszi [adO] _ rfl 1 rfl (by omega) (by omega) _ rfl rfl ?_)
          intro A3 c3 w3 hI3 hB3
          have HI3 := Lib.hid hI3.swap
          have HB3 := Lib.hid hB3
          have hsz3 : wo.heap.size ≤ w3.heap.size := hB3.size
          clear hI3 hB3 HI HBi
          go_wp2_with (at_builtin; refine wpList_ops rfl (.tmp 46) (.tmp 56) rfl rfl HI3.out HB3.out hsz3 [ldO, csO (((k * K + t + 1 : Nat)) : Int)] _ (by simp [opC, ldO, csO]) 2 rfl (by omega) (by omega) _ rfl rfl ?_)
          intro A4 c4 w4 hI4 hB4
          have HI4 := Lib.hid hI4.swap
          have HB4 := Lib.hid hB4
          clear hI4 hB4 HI3 HB3
          go_wp2
          go_roundw
          case rel => exact ⟨t + 1, m2 + 2, c3, c4, A3, A4, rfl, rfl, by go_num, by omega, by rw [HM2.out]; omega, by rw [List.replicate_succ']; exact HI4.out, HB4.out⟩
          case measure => simp [intOf]; omega
        · obtain rfl : t = K := by omega
          have HTi := Lib.hid (HT.out.below HBi.out)
          have HBo := Lib.hid (bthen HB.out HBi.out)
          have hszo := HBo.out.size
          have HA := Lib.hid (show wr.ownsRow w.heap.size 27 5 (.slice Aa t ca) (adOs t k).length (opC (adOs t k)) by
            have := own_base HI.out.ra hsz
            rw [show (adOs t k).length = t by simp [adOs]]; exact this)
          have HBB := Lib.hid (show wr.ownsRow w.heap.size 27 5 (.slice Ab m2 cb) (stOs t k).length (opC (stOs t k)) by
            have := own_base HI.out.rb hsz
            rw [show (stOs t k).length = m2 by rw [HM2.out]; exact stL2_len t k t]; exact this)
          clear HI HBi HM2 HT HB
          go_wp2_with (at_builtin; refine wpList_two rfl (.tmp 58) (.tmp 60) rfl rfl HTi.out HBo.out hszo _ _ _ HA.out (by omega) _ rfl rfl ?_)
          intro A5 c5 w5 p5 hT5 hB5 hkeep
          have HT5 := Lib.hid hT5.swap
          have HB5 := Lib.hid hB5
          have HBB5 := Lib.hid (hkeep _ _ _ HBB.out)
          have hsz5 : w.heap.size ≤ w5.heap.size := hB5.size
          clear hT5 hB5 hkeep HTi HBo HA HBB
          go_wp2_with (at_builtin; refine wpList_two rfl (.tmp 62) (.tmp 64) rfl rfl HT5.out HB5.out hsz5 _ _ _ HBB5.out (by omega) _ rfl rfl ?_)
          intro A6 c6 w6 p6 hT6 hB6 hkeep
          have HT6 := Lib.hid hT6.swap
          have HB6 := Lib.hid hB6
          clear hT6 hB6 hkeep HT5 HB5 HBB5
          go_wp2
          go_roundw
          case rel => exact ⟨k + 1, c5, c6, A5, A6, p5, p6, rfl, rfl, by go_num, by omega, HT6.out, HB6.out⟩
          case measure => simp [intOf]; omega
    · obtain rfl : k = n := by omega
      go_wp2_with fail
      refine (new_any 1 (by omega) (by omega) wr).mono ?_
      rintro e w1 ⟨rfl, hc, hb, hs⟩
      have HC := Lib.hid (show Cl w1 (wr.heap.size + 1) wr.heap.size 1 [0] from hc)
      have HT1 := Lib.hid (HT.out.below hb)
      have HB1 := Lib.hid (bthen HB.out hb)
      obtain ⟨gn, hgn⟩ : ∃ g, g = wr.heap.size := ⟨_, rfl⟩
      rw [← hgn] at HC hsz hs
      rw [← hgn]
      have hs' : gn + 2 ≤ w1.heap.size := by omega
      clear hc hb hs hgn HT HB
      have hRb : ∀ (g : Nat) (W : World), w.heap.size ≤ g → Below w.heap.size w W → 0 < min nz 100 → ∀ b off, B = some ⟨b, off, none⟩ → b < W.heap.size ∧ b ≠ g := fun g W hg hW hp b off e => by
        obtain ⟨b', off', e', hl, _⟩ := HR.out.2 (by rw [HZ.out]; omega)
        rw [e] at e'; injection e' with e'; injection e' with e1 e2
        have := hW.size
        omega
      have HRb := Lib.hid hRb
      clear hRb
      have HRA := Lib.hid (fun (nz' : Nat) (h : nz' = min nz 100) => by
        have := rest_any (HT1.out.tin HC.out (by omega) (by omega) (fun i hi => by simp [adOs]; omega) (fun i hi => by simp [adOs]; omega) (fun i hi => adOs_ok K i) (zs := zs.take 100) (nz := nz') (cz := cz) (B := B) (by rw [List.length_take, HZ.out]; omega) ((HR.out.below HB1.out (Nat.le_refl _)).take 100) (h ▸ HRb.out gn w1 hsz HB1.out) (by omega) HM.out)
        exact this)
      have HAD := Lib.hid (ad_all k K (zs.take 100) (by omega) hn2 hk2 (by rw [List.length_take]; omega))
      go_upto_region 14 with fail
      go_cut [] (fun wx => Cl wx (gn + 1) gn 1 [((k * K : Nat) : Int)] ∧ Two wx w.heap.size k k (.slice A1 k c1) (.slice A2 k c2) p1 p2 (adOs K) (stOs K) ∧ Below w.heap.size w wx)
      case first =>
        have HF := Lib.hid (fun (nz' : Nat) (h : nz' = min nz 100) => (HRA.out nz' h).mono (fun e w3 (h : TOut w1 (gn + 1) gn 1 _ e w3) => show ∃ v, e = .returned v ∧ Cl w3 (gn + 1) gn 1 [((k * K : Nat) : Int)] ∧ Two w3 w.heap.size k k (.slice A1 k c1) (.slice A2 k c2) p1 p2 (adOs K) (stOs K) ∧ Below w.heap.size w w3 by
          obtain ⟨A3, c3, rfl, hC3, how, hk3⟩ := h
          rw [HAD.out] at hC3
          exact ⟨_, rfl, hC3, HT1.out.keep hk3 ⟨_, HC.out.nu⟩, hk3.below HB1.out (Nat.le_refl _) (by simpa using hsz)⟩))
        by_cases h100 : nz ≤ 100
        · have h101 : (nz : Int) ≤ 100 := by omega
          clear HRA
          go_wp2_with fail
          refine (HF.out nz (by omega)).mono ?_
          rintro e w3 ⟨v, rfl, h2, h3, h4⟩
          have H3 := Lib.hid (And.intro h2 (And.intro h3 h4))
          clear h2 h3 h4
          go_wp2
          go_meet
          exact ⟨H3.out.1, H3.out.2.1, H3.out.2.2⟩
        · have h101 : (100 : Int) < (nz : Int) := by omega
          clear HRA
          go_wp2_with fail
          refine (HF.out 100 (by omega)).mono ?_
          rintro e w3 ⟨v, rfl, h2, h3, h4⟩
          have H3 := Lib.hid (And.intro h2 (And.intro h3 h4))
          clear h2 h3 h4
          go_wp2
          go_meet
          exact ⟨H3.out.1, H3.out.2.1, H3.out.2.2⟩
      case rest =>
        obtain ⟨hC3, hT3, hB3⟩ := hcut
        have HC3 := Lib.hid hC3
        have HT3 := Lib.hid hT3
        have HB3 := Lib.hid hB3
        clear hC3 hT3 hB3 HRA HAD HC HT1 HB1 hs'
        go_wp2_with fail
        refine (new_any 1 (by omega) (by omega) wc).mono ?_
        rintro e w4 ⟨rfl, hc, hb, hs⟩
        have HD4 := Lib.hid (show Cl w4 (wc.heap.size + 1) wc.heap.size 1 [0] from hc)
        have HC4 := Lib.hid (HC3.out.below hb)
        have HT4 := Lib.hid (HT3.out.below hb).swap
        have HB4 := Lib.hid (bthen HB3.out hb)
        have lc3 := HC3.out.st.lt
        have ln3 := HC3.out.nu.lt
        have sz3 := HB3.out.size
        obtain ⟨gd, hgd⟩ : ∃ g, g = wc.heap.size := ⟨_, rfl⟩
        rw [← hgd] at HD4 lc3 ln3 sz3 hs
        rw [← hgd]
        clear hc hb hs hgd HT3 HB3 HC3
        have HRA := Lib.hid (fun (nz' : Nat) (h : nz' = min nz 100) => by
          have := rest_any (HT4.out.tin HD4.out (by omega) (by omega) (fun i hi => by rw [stOs, stL2_len]; omega) (fun i hi => by rw [stOs, stL2_len]; omega) (fun i hi => stOs_ok K i (by have := Nat.mul_le_mul (show i ≤ 8 by omega) hk2; omega) K (Nat.le_refl _)) (zs := zs.take 100) (nz := nz') (cz := cz) (B := B) (by rw [List.length_take, HZ.out]; omega) ((HR.out.below HB4.out (Nat.le_refl _)).take 100) (h ▸ HRb.out gd w4 sz3 HB4.out) (by omega) HM.out)
          exact this)
        obtain ⟨h1, h2, h3⟩ := st_all k K (zs.take 100) (by omega) hn2
        obtain ⟨s, hs⟩ : ∃ s, s = many (stOs K) (ts0 [0]) ((zs.take 100).map (pk k) ++ restL (stOs K) k) := ⟨_, rfl⟩
        rw [← hs] at h1 h2 h3 HRA
        have HSL := Lib.hid h1
        have HSN := Lib.hid h2
        have HSM := Lib.hid h3
        clear h1 h2 h3 hs
        obtain ⟨m, hm'⟩ : ∃ m, m = k * (2 * K) := ⟨_, rfl⟩
        rw [← hm'] at HSN
        have hm0 : 0 < m := by rw [hm']; exact Nat.mul_pos (by omega) (by omega)
        have hmb : m ≤ 128 := by rw [hm']; exact Nat.mul_le_mul hn2 (show 2 * K ≤ 16 by omega)
        have HMK := Lib.hid hm'
        clear hm'
        go_upto_region 16 with fail
        go_cut [19] (fun s19 wx => ∃ g3 c3, s19 = .slice (some ⟨g3, 0, none⟩) m c3 ∧ g3 < wx.heap.size ∧ (∀ i, i < m → wx.cell? ⟨g3, i * 3, none⟩ = some (.int .i64 (s.out.getD i default).1) ∧ wx.cell? ⟨g3, i * 3 + 1, none⟩ = some (.int .i64 (s.out.getD i default).2.1) ∧ wx.cell? ⟨g3, i * 3 + 2, none⟩ = some (.int .u64 (s.out.getD i default).2.2)) ∧ Cl wx (gn + 1) gn 1 [((k * K : Nat) : Int)] ∧ Cl wx (gd + 1) gd 1 [laL K s.out] ∧ Below w.heap.size w wx)
        case first =>
          have HF := Lib.hid (fun (nz' : Nat) (h : nz' = min nz 100) => (HRA.out nz' h).mono (fun e w3 (h : TOut w4 (gd + 1) gd 1 s e w3) => show ∃ g3 c3, e = .returned (.slice (some ⟨g3, 0, none⟩) m c3) ∧ g3 < w3.heap.size ∧ (∀ i, i < m → w3.cell? ⟨g3, i * 3, none⟩ = some (.int .i64 (s.out.getD i default).1) ∧ w3.cell? ⟨g3, i * 3 + 1, none⟩ = some (.int .i64 (s.out.getD i default).2.1) ∧ w3.cell? ⟨g3, i * 3 + 2, none⟩ = some (.int .u64 (s.out.getD i default).2.2)) ∧ Cl w3 (gn + 1) gn 1 [((k * K : Nat) : Int)] ∧ Cl w3 (gd + 1) gd 1 [laL K s.out] ∧ Below w.heap.size w w3 by
            obtain ⟨A3, c3, rfl, hC3, how, hk3⟩ := h
            rw [HSN.out] at how
            obtain ⟨g3, rfl, hg1, hg2, hg3, hcell⟩ := own_done how HSN.out hm0
            rw [HSL.out] at hC3
            exact ⟨g3, c3, by rw [HSN.out], hg2, hcell, HC4.out.keep hk3 (by simp; omega) (by simp; omega), hC3, hk3.below HB4.out (Nat.le_refl _) (by simpa using sz3)⟩))
          by_cases h100 : nz ≤ 100
          · have h101 : (nz : Int) ≤ 100 := by omega
            clear HRA
            go_wp2_with fail
            refine (HF.out nz (by omega)).mono ?_
            rintro e w3 ⟨g3, c3, rfl, h2, h3, h4, h5, h6⟩
            have H3 := Lib.hid (And.intro h2 (And.intro h3 (And.intro h4 (And.intro h5 h6))))
            clear h2 h3 h4 h5 h6
            go_wp2
            go_meet
            exact ⟨g3, c3, rfl, H3.out.1, H3.out.2.1, H3.out.2.2.1, H3.out.2.2.2.1, H3.out.2.2.2.2⟩
          · have h101 : (100 : Int) < (nz : Int) := by omega
            clear HRA
            go_wp2_with fail
            refine (HF.out 100 (by omega)).mono ?_
            rintro e w3 ⟨g3, c3, rfl, h2, h3, h4, h5, h6⟩
            have H3 := Lib.hid (And.intro h2 (And.intro h3 (And.intro h4 (And.intro h5 h6))))
            clear h2 h3 h4 h5 h6
            go_wp2
            go_meet
            exact ⟨g3, c3, rfl, H3.out.1, H3.out.2.1, H3.out.2.2.1, H3.out.2.2.2.1, H3.out.2.2.2.2⟩
        case rest =>
          obtain ⟨g3, c3, rfl, hg3, hcell, hC5, hD5, hB5⟩ := hcut
          have HE := Lib.hid hcell
          have HC5 := Lib.hid hC5
          have HD5 := Lib.hid hD5
          have HB5 := Lib.hid hB5
          clear hcell hC5 hD5 hB5 HRA HC4 HD4 HT4 HB4
          obtain ⟨wd, rfl⟩ : ∃ x, x = wc := ⟨wc, rfl⟩
          go_wp2
          go_loopw [20, 21] (fun s20 s21 wx => ∃ j : Nat, s20 = .int .u64 (laL K (s.out.take j)) ∧ s21 = .int .i64 j ∧ j ≤ m ∧ Below wd.heap.size wd wx) (fun _ i _ => m - (intOf i).toNat)
          case atStart => exact ⟨0, rfl, rfl, by omega, Below.refl _ _⟩
          case round =>
            obtain ⟨j, rfl, rfl, hj, hbx⟩ := hrel
            have HBX := Lib.hid hbx
            clear hbx
            obtain ⟨la, hla⟩ : ∃ la, la = laL K (s.out.take j) := ⟨_, rfl⟩
            rw [← hla]
            have HLA := Lib.hid hla
            clear hla
            by_cases hjm : j < m
            · have hxm := HSM.out (s.out.getD j default) (by
                have : s.out.getD j default = s.out[j]'(by rw [HSN.out]; exact hjm) := by simp [List.getD, HSN.out, hjm]
                rw [this]; exact List.getElem_mem _)
              have hsn : s.out.take (j + 1) = s.out.take j ++ [s.out.getD j default] := by
                rw [List.take_succ_eq_append_getElem (by rw [HSN.out]; exact hjm)]
                simp [List.getD, HSN.out, hjm]
              have HNX := Lib.hid (show laL K (s.out.take (j + 1)) = la1 K la (s.out.getD j default) by rw [hsn, laL_snoc, HLA.out])
              obtain ⟨d0, d1, d2⟩ := HE.out j hjm
              have q0 := (HBX.out.cell (p := ⟨g3, j * 3, none⟩) hg3).trans d0
              have q1 := (HBX.out.cell (p := ⟨g3, j * 3 + 1, none⟩) hg3).trans d1
              have q2 := (HBX.out.cell (p := ⟨g3, j * 3 + 2, none⟩) hg3).trans d2
              generalize s.out.getD j default = x at *
              obtain ⟨xw, xi, xg⟩ := x
              simp only at q0 q1 q2 hxm
              obtain ⟨hx1, hx2⟩ := hxm
              clear d0 d1 d2 hsn
              have i1 : (j : Int) < (m : Int) := by omega
              by_cases ho : xi % 2 = 1
              · have ho' : ((xi : Int) % 2 == 1) = true := by simp; omega
                by_cases hg : xg = 1
                · subst hg
                  have HNY := Lib.hid (show laL K (s.out.take (j + 1)) = ((xw * K + xi / 2 + 1 : Nat) : Int) by rw [HNX.out]; unfold la1; rw [if_pos ⟨ho, rfl⟩])
                  have hmul : xw * K ≤ 8 * 8 := Nat.mul_le_mul (by omega) hk2
                  clear HNX
                  go_upto_region 22 with fail
                  go_quiet (fail)
                  go_wp2
                  go_roundw
                  case rel => exact ⟨j + 1, by rw [HNY.out]; simp, by go_num, by omega, below_drewN HBX.out _⟩
                  case measure => simp [intOf]; omega
                · have hg' : (xg == 1) = false := by simpa using hg
                  have HNY := Lib.hid (show laL K (s.out.take (j + 1)) = la by rw [HNX.out]; unfold la1; rw [if_neg (by simp; omega)])
                  clear HNX
                  go_wp2
                  go_roundw
                  case rel => exact ⟨j + 1, by rw [HNY.out], by go_num, by omega, HBX.out⟩
                  case measure => simp [intOf]; omega
              · have ho' : ((xi : Int) % 2 == 1) = false := by simp; omega
                have HNY := Lib.hid (show laL K (s.out.take (j + 1)) = la by rw [HNX.out]; unfold la1; rw [if_neg (by simp; omega)])
                clear HNX
                go_wp2
                go_roundw
                case rel => exact ⟨j + 1, by rw [HNY.out], by go_num, by omega, HBX.out⟩
                case measure => simp [intOf]; omega
            · obtain rfl : j = m := by omega
              have HLL := Lib.hid (show la = laL K s.out by rw [HLA.out, List.take_of_length_le (by rw [HSN.out]; exact Nat.le_refl _)])
              have HC6 := Lib.hid (HC5.out.below HBX.out)
              have HD6 := Lib.hid (HD5.out.below HBX.out)
              have HB6 := Lib.hid (bthen HB5.out HBX.out)
              rw [← HLL.out] at HD6
              obtain ⟨nk, hnk⟩ : ∃ x : Nat, x = k * K := ⟨_, rfl⟩
              rw [← hnk] at HC6
              have hmul : k * K ≤ 8 * 8 := Nat.mul_le_mul hn2 hk2
              have z1 : ((nk : Int) == (k : Int) * (K : Int)) = true := by rw [hnk]; simp
              have e2 : 2 * (k : Int) * (K : Int) = (j : Int) := by
                rw [HMK.out]; push_cast
                rw [Int.mul_assoc, Int.mul_left_comm]
              have z2 : wrap64 (2 * (k : Int) * (K : Int)) = (j : Int) := by
                rw [e2]; unfold wrap64; omega
              clear e2
              have hnkb : nk ≤ 64 := by omega
              clear hnk HLA HE HC5 HD5 HB5 HBX
              go_wp2_with fail
              refine (goes_any _).mono ?_
              rintro e w7 ⟨rfl, hb⟩
              have HC7 := Lib.hid (HC6.out.below hb)
              have HD7 := Lib.hid (HD6.out.below hb)
              have HB7 := Lib.hid (bthen HB6.out hb)
              clear hb HC6 HD6 HB6
              go_wp2_with fail
              refine (load_any HC7.out 0 (by omega)).mono ?_
              rintro e w8 ⟨rfl, rfl⟩
              rw [show [(nk : Int)].getD 0 0 = (nk : Int) from rfl]
              go_wp2_with fail
              refine (load_any HD7.out 0 (by omega)).mono ?_
              rintro e w8 ⟨rfl, rfl⟩
              rw [show [la].getD 0 0 = la from rfl]
              go_wp2
              go_ret
              exact ⟨rfl, HB7.out⟩
end Go.Proofs.Ytgengboaoniogaa
