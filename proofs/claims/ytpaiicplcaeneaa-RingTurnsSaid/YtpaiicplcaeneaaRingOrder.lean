/-
  RingOrder: what is got is what was put, in that order. Conditions stand in each theorem.
-/
import Derived.Test.YtpaiicplcaeneaaRor
namespace Go.Proofs.Ytpaiicplcaeneaa
open Go.ChangeShapes Go.WideShapes Go.ChangeAt Go.RowKit Go.Deep Plain
set_option linter.unusedVariables false
set_option maxRecDepth 100000
def act20 : List FK := [.num .i64, .bol, .num .u64]
theorem ptO_some (a : Nat) : ptO (some a) = .pointer (some ⟨a, 0, none⟩) := rfl
theorem ptO_none : ptO none = .pointer none := rfl
set_option maxHeartbeats 16000000 in
theorem ringOrder_walk (n0 : Int) (A0 : Option Addr) (nr cr : Nat) (V : Nat → Nat → Value) (w : World) (hnc : nr ≤ cr) (hm : cr ≤ maxLen) (hR : RdS act20 w A0 nr V) :
    Calls Try.prog 5 #[.int .i64 n0, .slice A0 nr cr] w fun e w' => e = .returned (.bool true) ∧ Below w.heap.size w w' := by
  have HM := Lib.hid hm
  unfold maxLen at hm
  have HR := Lib.hid hR
  clear hR
  obtain ⟨K, hK, hKl⟩ := pickN n0 256 (by omega) (by omega)
  go_enter Try.func5, Try.ntmps5
  go_upto_region 2 with fail
  obtain ⟨N, hn⟩ : ∃ n : Nat, (n : Int) = 1 + (K : Int) := ⟨K + 1, by omega⟩
  rw [← hn]
  have hn1 : 1 ≤ N := by omega
  have hn2 : N ≤ 256 := by omega
  clear hK hn hKl
  go_upto_region 3 with (go_at_call 21; refine (made_any (w0 := w) N hn1 hn2 (Below.refl _ _)).mono ?_; rintro e w1 ⟨gr, gc, gn, rfl, h1⟩)
  have H1 := Lib.hid h1
  clear h1
  go_upto_region 5 with (go_at_call 12; refine (waits_any _).mono ?_; rintro e w2 ⟨rfl, hb⟩)
  have H2 := Lib.hid (show OrM w w2 gr gc gn N 0 0 (List.replicate N 0) none none ⟨0, 0, 0, false⟩ ⟨0, 0, 0, false⟩ none none none 0 0 [] from
    ⟨H1.out.down hb, by omega, by omega, ⟨rfl, .inl ⟨rfl, rfl⟩⟩, rfl, by simp, ⟨List.length_replicate, by omega⟩, fun _ => ⟨rfl, rfl⟩, fun _ h => (by cases h), fun _ => rfl, fun _ h => (by cases h)⟩)
  clear hb H1
  go_wp2
  go_loopw [8, 9, 10, 11, 12, 13, 14, 15] (fun s8 s9 s10 s11 s12 s13 s14 s15 wr => ∃ i : Nat, s15 = .int .i64 i ∧ i ≤ 300 ∧ HeadR w gr gc gn N i s8 s9 s10 s11 s12 s13 s14 wr) (fun _ _ _ _ _ _ _ i _ => 300 - (intOf i).toNat)
  case atStart => exact ⟨0, rfl, by omega, 0, 0, _, _, _, _, _, none, none, none, 0, 0, [], false, false, rfl, rfl, rfl, rfl, rfl, rfl, rfl, by omega, by omega, by simp, H2.out⟩
  case round =>
    obtain ⟨i, rfl, hi, pu, go, vs, P, G, p, g, pv, gv, A, n, c, ws, full, empty, rfl, rfl, rfl, rfl, rfl, rfl, rfl, hpb, hfu, hem, hr⟩ := hrel
    have H3 := Lib.hid hr
    have HFU := Lib.hid hfu
    have HEM := Lib.hid hem
    clear hr H2 hfu hem
    by_cases hlt : i < nr ∧ i < 300
    · obtain ⟨hl1, hl2⟩ := hlt
      obtain ⟨bk, off, rfl, hbl, hcell⟩ := HR.out (by omega)
      obtain ⟨q0, o0, hx0, hw0⟩ := hcell i hl1 0 _ rfl
      obtain ⟨q1, sb, hx1⟩ := hcell i hl1 1 _ rfl
      obtain ⟨q2, vv, hx2, hw2⟩ := hcell i hl1 2 _ rfl
      rw [hx0] at q0
      rw [hx1] at q1
      rw [hx2] at q2
      have hvv : U64 vv := by have := bounds_u64 hw2; unfold U64; omega
      have d0 : wr.cell? ⟨bk, off + i * 3, none⟩ = some (.int .i64 o0) := (H3.out.r.bel.cell (p := ⟨bk, off + i * 3, none⟩) hbl).trans q0
      have d1 : wr.cell? ⟨bk, off + i * 3 + 1, none⟩ = some (.bool sb) := (H3.out.r.bel.cell (p := ⟨bk, off + i * 3 + 1, none⟩) hbl).trans (by rw [Nat.add_assoc]; exact q1)
      have d2 : wr.cell? ⟨bk, off + i * 3 + 2, none⟩ = some (.int .u64 vv) := (H3.out.r.bel.cell (p := ⟨bk, off + i * 3 + 2, none⟩) hbl).trans (by rw [Nat.add_assoc]; exact q2)
      have HVV := Lib.hid hvv
      clear hcell q0 q1 q2 hx0 hx1 hx2 hw0 hw2 hvv
      have di1 : decide ((i : Int) < (nr : Int)) = true := decide_eq_true (by omega)
      have di2 : decide ((i : Int) < 300) = true := decide_eq_true (by omega)
      go_upto_region 13 with fail
      clear di1 di2
      have B8 := Lib.hid (Blk.new wr 59 #[.int .i64 o0, .bool sb, .int .u64 vv])
      have hal := ball wr (.cells #[.int .i64 o0, .bool sb, .int .u64 vv] 59)
      have HA := Lib.hid (H3.out.world (H3.out.r.down hal) (own_below H3.out.ow hal))
      clear hal d0 d1 d2 H3
      generalize wr.alloc (.cells #[.int .i64 o0, .bool sb, .int .u64 vv] 59) = wa at *
      generalize wr.heap.size = g8 at *
      have t1 : wa.cell? ⟨g8, 1, none⟩ = some (.bool sb) := B8.out.cell 1
      have t2 : wa.cell? ⟨g8, 2, none⟩ = some (.int .u64 vv) := B8.out.cell 2
      have hnb := HA.out.nb
      have hz := HA.out.r.bel.size
      go_upto_if 49 with fail
      go_cut [8, 9, 10, 11, 12, 13, 14] (fun s8 s9 s10 s11 s12 s13 s14 wx => MidR w gr gc gn N (i + 1) s8 s9 s10 s11 s12 s13 s14 wx)
      case first =>
        cases sb with
        | false =>
          cases pv with
          | none =>
            rw [ptO_none]
            have t6 : wa.cell? ⟨g8, 2, none⟩ = some (.int .u64 vv) := t2
            obtain ⟨hnp, hgb⟩ := HA.out.pn rfl
            have HP := Lib.hid (HA.out.r.put vv hgb)
            clear hnp hgb
            go_upto_region 15 with fail
            go_wp2_with fail
            refine (HP.out).mono ?_
            rintro e w4 ⟨a, rfl, h5, hk5, ha⟩
            have HO5 := Lib.hid (own_ring1 HA.out.ow HA.out.r hk5)
            have B5 := hk5.blk B8.out (by have := blk_types B8.out HA.out.r.rb.rs (by decide); simpa using this)
            have t5 : w4.cell? ⟨g8, 2, none⟩ = some (.int .u64 vv) := B5.cell 2
            have hz5 := h5.bel.size
            have H5 := Lib.hid h5
            have HB5 := Lib.hid h5.bel
            clear h5 hk5 ha B5 t1 t2 t6 HP
            go_wp2_with (first | (refine wpList_addU rfl (.tmp 56) (.tmp 59) rfl (by rfl) HO5.out HB5.out hz5 vv (by omega) w4.heap.size (by rfl) rfl ?_; intro A2 c2 w5 ho2 hb2 hk2) | fail)
            go_meet
            exact ⟨pu, go, vs, _, _, _, _, some a, gv, A2, n + 1, c2, _, _, _, rfl, rfl, rfl, rfl, rfl, rfl, rfl, by omega, HA.out.put (H5.out.own HO5.out hk2 hb2) HVV.out ho2⟩
          | some a =>
            rw [ptO_some]
            obtain ⟨nx, v, en, td⟩ := p
            obtain ⟨hn, hP, htd, hen, hv, hnx⟩ := HA.out.ps a rfl
            simp only at htd hen hv hnx
            subst htd hen hn
            have HP := Lib.hid hP
            have HV := Lib.hid hv
            have hle := HA.out.h1
            have hle2 := HA.out.h2
            clear hP hv t2
            rcases hnx with rfl | ⟨rfl, hroom⟩ | ⟨rfl, hroom, hx⟩
            · by_cases hroom : pu - go < N
              · have HC := Lib.hid (HA.out.r.doP1 HP.out hle (by omega) ⟨2, v, 0, false⟩ false (by rw [if_neg (by omega)]) rfl)
                go_wp2_with (go_at_call 15; refine (HC.out).mono ?_; rintro e w4 ⟨rfl, h5, hk5⟩; have H5 := Lib.hid h5; have HK5 := Lib.hid hk5; clear h5 hk5)
                go_meet
                exact ⟨pu, go, vs, _, _, _, _, some a, gv, _, _, c, ws, _, _, rfl, rfl, rfl, rfl, rfl, rfl, rfl, by omega, HA.out.p12 hroom H5.out (own_ring HA.out.ow HA.out.r HK5.out (Or.inl HP.out))⟩
              · have HC := Lib.hid (HA.out.r.doP1 HP.out hle (by omega) ⟨0, v, 9, false⟩ true (by rw [if_pos (by omega)]) rfl)
                obtain rfl := HFU.out (by omega)
                obtain ⟨hnc', gA, rfl, _⟩ := own_cell HA.out.ow (by omega)
                have e1 : ((pu + 1 : Nat) : Int) - 1 = (pu : Int) := by omega
                have hpc : (pu : Int) ≤ (c : Int) := by omega
                go_wp2_with (first | (go_at_call 15; refine (HC.out).mono ?_; rintro e w4 ⟨rfl, h5, hk5⟩; have H5 := Lib.hid h5; have HK5 := Lib.hid hk5; have HE := Lib.hid (end_over (h5.rb.ps a HP.out)); clear h5 hk5) | (go_at_call 19; refine (HE.out).mono ?_; rintro e w5 ⟨rfl, rfl⟩))
                go_meet
                exact ⟨pu, go, vs, _, _, _, _, none, gv, _, pu, c, _, _, _, rfl, rfl, rfl, rfl, rfl, rfl, rfl, by omega, HA.out.full ⟨0, v, 9, false⟩ rfl H5.out pu (by omega) (own_less (own_ring HA.out.ow HA.out.r HK5.out (Or.inl HP.out)) (by omega) (by omega))⟩
            · have HC := Lib.hid (HA.out.r.doP2 HP.out (by rw [HV.out]; exact HA.out.u64 _ (by
                have hl := HA.out.wl
                rw [List.getD_eq_getElem?_getD, List.getElem?_eq_getElem (by omega)]
                exact List.getElem_mem _)) (by omega))
              go_wp2_with (go_at_call 15; refine (HC.out).mono ?_; rintro e w4 ⟨rfl, h5, hk5⟩; have H5 := Lib.hid h5; have HK5 := Lib.hid hk5; clear h5 hk5)
              go_meet
              exact ⟨pu, go, _, _, _, _, _, some a, gv, _, _, c, ws, _, _, rfl, rfl, rfl, rfl, rfl, rfl, rfl, by omega, HA.out.p23 hroom H5.out (own_ring HA.out.ow HA.out.r HK5.out (Or.inl HP.out))⟩
            · have HX := Lib.hid hx
              clear hx
              have HC := Lib.hid (HA.out.r.doP3 HP.out (by omega) (pu + 1) rfl)
              go_wp2_with (first | (go_at_call 15; refine (HC.out).mono ?_; rintro e w4 ⟨rfl, h5, hk5⟩; have H5 := Lib.hid h5; have HK5 := Lib.hid hk5; have HE := Lib.hid (end_over (h5.rb.ps a HP.out)); clear h5 hk5) | (go_at_call 19; refine (HE.out).mono ?_; rintro e w5 ⟨rfl, rfl⟩))
              go_meet
              exact ⟨pu + 1, go, _, _, _, _, _, none, gv, _, _, c, ws, _, _, rfl, rfl, rfl, rfl, by go_num, rfl, rfl, by omega, HA.out.p30 hroom HX.out (pu + 1) rfl H5.out (own_ring HA.out.ow HA.out.r HK5.out (Or.inl HP.out))⟩
        | true =>
          cases gv with
          | none =>
            rw [ptO_none]
            have HP := Lib.hid (HA.out.r.get (HA.out.gn' rfl))
            clear t2
            go_wp2_with (go_at_call 14; refine (HP.out).mono ?_; rintro e w4 ⟨a, rfl, h5, hk5, ha⟩; have H5 := Lib.hid h5; have HK5 := Lib.hid hk5; clear h5 hk5 ha)
            go_meet
            exact ⟨pu, go, vs, _, _, _, _, pv, some a, _, _, c, ws, _, _, rfl, rfl, rfl, rfl, rfl, rfl, rfl, by omega, HA.out.get H5.out (own_ring1 HA.out.ow HA.out.r HK5.out)⟩
          | some a =>
            rw [ptO_some]
            obtain ⟨nx, v, en, td⟩ := g
            obtain ⟨hG, htd, hen, hnx⟩ := HA.out.gs a rfl
            simp only at htd hen hnx
            subst htd hen
            have HG := Lib.hid hG
            have hle := HA.out.h1
            have hle2 := HA.out.h2
            clear hG t2
            rcases hnx with rfl | ⟨rfl, hroom⟩ | ⟨rfl, hroom, hx⟩
            · by_cases hroom : pu = go
              · have HC := Lib.hid (HA.out.r.doG4 HG.out ⟨0, v, 7, false⟩ true (by rw [if_pos hroom]) rfl)
                obtain rfl := HEM.out rfl hroom
                subst hroom
                go_wp2_with (first | (go_at_call 15; refine (HC.out).mono ?_; rintro e w4 ⟨rfl, h5, hk5⟩; have H5 := Lib.hid h5; have HK5 := Lib.hid hk5; have HE := Lib.hid (end_over (h5.rb.gs a HG.out)); clear h5 hk5) | (go_at_call 19; refine (HE.out).mono ?_; rintro e w5 ⟨rfl, rfl⟩))
                go_meet
                exact ⟨pu, pu, vs, _, _, _, _, pv, none, _, _, c, ws, _, _, rfl, rfl, rfl, rfl, rfl, rfl, rfl, by omega, HA.out.g40 ⟨0, v, 7, false⟩ rfl H5.out (own_ring HA.out.ow HA.out.r HK5.out (Or.inr HG.out))⟩
              · have HC := Lib.hid (HA.out.r.doG4 HG.out ⟨5, v, 0, false⟩ false (by rw [if_neg hroom]) rfl)
                go_wp2_with (go_at_call 15; refine (HC.out).mono ?_; rintro e w4 ⟨rfl, h5, hk5⟩; have H5 := Lib.hid h5; have HK5 := Lib.hid hk5; clear h5 hk5)
                go_meet
                exact ⟨pu, go, vs, _, _, _, _, pv, some a, _, _, c, ws, _, _, rfl, rfl, rfl, rfl, rfl, rfl, rfl, by omega, HA.out.g45 (by omega) H5.out (own_ring HA.out.ow HA.out.r HK5.out (Or.inr HG.out))⟩
            · have HC := Lib.hid (HA.out.r.doG5 HG.out (by omega) _ rfl)
              go_wp2_with (go_at_call 15; refine (HC.out).mono ?_; rintro e w4 ⟨rfl, h5, hk5⟩; have H5 := Lib.hid h5; have HK5 := Lib.hid hk5; clear h5 hk5)
              go_meet
              exact ⟨pu, go, vs, _, _, _, _, pv, some a, _, _, c, ws, _, _, rfl, rfl, rfl, rfl, rfl, rfl, rfl, by omega, HA.out.g56 hroom _ rfl H5.out (own_ring HA.out.ow HA.out.r HK5.out (Or.inr HG.out))⟩
            · have HX := Lib.hid hx
              clear hx
              have HC := Lib.hid (HA.out.r.doG6 HG.out (by omega) (go + 1) rfl)
              have b1 : decide ((go : Int) ≥ (pu : Int)) = false := by simp; omega
              have b2 : decide ((pu : Int) ≤ (go : Int)) = false := by simp; omega
              have b3 : decide (pu ≤ go) = false := by simp; omega
              have i1 : (0 : Int) ≤ (go : Int) := by omega
              have i2 : (go : Int) < (n : Int) := by omega
              obtain ⟨hnc', gA, rfl, _⟩ := own_cell HA.out.ow (by omega)
              go_upto_region 30 with (first | (go_at_call 15; refine (HC.out).mono ?_; rintro e w4 ⟨rfl, h5, hk5⟩; have H5 := Lib.hid h5; have HK5 := Lib.hid hk5; have HE := Lib.hid (end_over (h5.rb.gs a HG.out)); have hva : ∀ q, Calls Try.prog 20 #[.pointer (some ⟨a, 0, none⟩)] (w4.drewN q) (fun e w' => e = .returned (.int .u64 v) ∧ w4.drewN q = w') := fun q => value_any (w := w4.drewN q) (s := ⟨0, v, 0, true⟩) (h5.rb.gs a HG.out); have HVA := Lib.hid hva; clear h5 hk5 hva) | (go_at_call 19; refine (HE.out).mono ?_; rintro e w5 ⟨rfl, rfl⟩))
              have HO5 := Lib.hid (own_ring HA.out.ow HA.out.r HK5.out (Or.inr HG.out))
              obtain ⟨_, gB, hgB, hcl⟩ := own_cell HO5.out (by omega)
              injection hgB with hgB
              injection hgB with hgB
              subst hgB
              have cg : w4.cell? ⟨gA, go, none⟩ = some (.int .u64 v) := by rw [HX.out]; exact hcl go (by omega)
              clear hcl
              go_quiet ((go_at_call 20; exact quietB (HVA.out _)))
              go_wp2
              go_meet
              exact ⟨pu, go + 1, vs, _, _, _, _, pv, none, _, _, c, ws, _, _, rfl, rfl, rfl, by go_num, rfl, rfl, rfl, by omega, HA.out.g60 hroom (go + 1) rfl (H5.out.down (bdrewN _ _)) (own_below HO5.out (bdrewN _ _))⟩
      case rest =>
        obtain ⟨pu, go, vs, P, G, p, g, pv, gv, A, n, c, ws, full, empty, rfl, rfl, rfl, rfl, rfl, rfl, rfl, hpb, hr⟩ := hcut
        have H4 := Lib.hid hr
        clear hr HA HFU HEM B8 t1 t2 hnb hz
        have hle := H4.out.h1
        have hle2 := H4.out.h2
        have HE := Lib.hid (show ((pu - go : Nat) : Int) = (pu : Int) - (go : Int) by omega)
        have hL := rLen_any H4.out.r.rb hle hle2 (by omega)
        rw [HE.out] at hL
        have HL := Lib.hid hL
        clear hL
        have b0 : decide ((pu : Int) - (go : Int) > (N : Int)) = false := by simp; omega
        have b1 : decide ((N : Int) < (pu : Int) - (go : Int)) = false := by simp; omega
        obtain ⟨x1, hx1⟩ : ∃ b, ((pu : Int) - (go : Int) == (N : Int)) = b := ⟨_, rfl⟩
        obtain ⟨x2, hx2⟩ : ∃ b, ((pu : Int) == (go : Int)) = b := ⟨_, rfl⟩
        go_upto_region 38 with (go_at_call 16; refine (HL.out).mono ?_; rintro e w6 ⟨rfl, hb⟩)
        have H5 := Lib.hid (H4.out.world (H4.out.r.down hb) (own_below H4.out.ow hb))
        have HX1 := Lib.hid hx1
        have HX2 := Lib.hid hx2
        clear hb HL HE b0 b1
        cases full <;> cases empty
        all_goals
          go_wp2
          go_roundw
          case rel => exact ⟨i + 1, by go_num, by omega, pu, go, _, _, _, _, _, pv, gv, _, _, _, _, _, _, rfl, rfl, rfl, rfl, rfl, rfl, rfl, hpb, (fun h => by first | rfl | (rw [← HX1.out]; simp; omega)), (fun _ h => by first | rfl | (rw [← HX2.out]; simp; omega)), H5.out⟩
          case measure => simp [intOf]; omega
    · have HB := Lib.hid H3.out.r.bel
      clear H3
      by_cases hl1 : i < nr
      · obtain rfl : i = 300 := by omega
        go_wp2
        go_ret
        exact ⟨rfl, HB.out⟩
      · go_wp2
        go_ret
        exact ⟨rfl, HB.out⟩
end Go.Proofs.Ytpaiicplcaeneaa
