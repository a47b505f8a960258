/-
  PoolNone: its walk. Conditions stand in each theorem.
-/
import Derived.Test.YtmbceafeonjffaaPrA
namespace Go.Proofs.Ytmbceafeonjffaa
open Go.RowKit Go.Deep Plain
set_option linter.unusedVariables false
set_option linter.unusedSimpArgs false
set_option maxRecDepth 100000
/-- what holds of PoolNone's slots at its loop's head -/
def PnR (w0 : World) (gp gc gn N len : Nat) (size : Int) (s4 s9 s10 s11 s12 s13 s14 s15 s16 : Value) (wr : World) : Prop :=
  ∃ l t s other, ∃ gt i : Nat, ∃ full calm over on : Bool, s4 = .bool false ∧ s9 = .pointer (some ⟨gt, 0, none⟩) ∧ s10 = sgV s ∧ s11 = sgV other ∧ s12 = .bool full ∧ s13 = .bool calm ∧ s14 = .bool over ∧ s15 = .bool on ∧ s16 = .int .i64 i ∧ i ≤ len ∧ i ≤ 200 ∧ PnW w0 wr gp gc gn N size l gt t s other (900 + 302 * (i : Int)) ∧ PnP N l t (s.map Prod.snd) full calm over on
def Pn1 (w0 : World) (gp gc gn N : Nat) (size : Int) (s8 : Value) (wr : World) : Prop :=
  ∃ i : Nat, ∃ l, i ≤ 3 ∧ s8 = .int .i64 i ∧ PoS wr gp gc gn N size l ∧ WfP N l (299 * (i : Int)) ∧ Below w0.heap.size w0 wr
set_option maxHeartbeats 16000000 in
theorem pn_walk (n : Int) (A : Option Addr) (len cap : Nat) (L : List A8) (w : World) (hl : L.length = len) (hlc : len ≤ cap) (hcm : cap ≤ maxLen) (hr : RdA8 w A L) (hok : ∀ x ∈ L, x.ok w) :
    Calls Try.prog 4 #[.int .i64 n, .slice A len cap] w fun e w' => e = .returned (.bool true) ∧ Below w.heap.size w w' := by
  obtain ⟨K, hK, hKl⟩ := pickN n 70 (by omega) (by omega)
  have hKn : K < 70 := by omega
  have HNW := Lib.hid (fun W => pnew_any (1 + K) (by omega) (by omega) W)
  have hwr := wdsN_rng (1 + K) (by omega) (by omega)
  have hnw := newL_wf (1 + K) (by omega)
  obtain ⟨N, hN⟩ : ∃ N, wdsN (1 + K) = N := ⟨_, rfl⟩
  rw [hN] at HNW hwr hnw
  have hN32 : N ≤ 7 := by unfold wdsN at hN; omega
  have hN1 : 1 ≤ N := hwr.1
  have HSZ := Lib.hid (show 1 + (K : Int) ≤ 32 * (N : Int) by omega)
  rw [show ((1 + K : Nat) : Int) = 1 + (K : Int) by omega] at HNW
  have HNL := Lib.hid hnw
  have HL := Lib.hid hl
  have HR := Lib.hid hr
  have HOK := Lib.hid hok
  clear hl hr hok hwr hKl hN hnw
  go_enter Try.func4, Try.ntmps4
  go_upto_region 3 with (go_at_call 9; refine (HNW.out _).mono ?_; rintro e w1 ⟨gp, gc, gn, rfl, hp, hb, hgp, hgc, hgn⟩; have HP := Lib.hid hp; have HB := Lib.hid hb; clear hp hb)
  go_upto_region 6 with (go_at_call 10; refine (takes_any _).mono ?_; rintro e w2 ⟨rfl, hb⟩; have HP2 := Lib.hid (HP.out.below hb); have HB2 := Lib.hid (bthen HB.out hb); clear hb)
  have HI0 := Lib.hid (show Pn1 w gp gc gn N (1 + (K : Int)) (.int .i64 ((0 : Nat) : Int)) w2 from ⟨0, _, by omega, rfl, HP2.out, by simpa using HNL.out, HB2.out⟩)
  clear HP HB HP2 HB2 HNW HNL
  go_loopw [8] (fun s8 wr => Pn1 w gp gc gn N (1 + (K : Int)) s8 wr) (fun s8 _ => 3 - (intOf s8).toNat)
  case atStart => exact HI0.out
  case round =>
    obtain ⟨i, l, hi, rfl, hp, hwf, hb⟩ := hrel
    have HP := Lib.hid hp
    have HWF := Lib.hid hwf
    have HB := Lib.hid hb
    clear hp hwf hb HI0
    by_cases hlt : i < 3
    · have d1 : decide ((i : Int) < 3) = true := decide_eq_true (by omega)
      have HTK := Lib.hid (pTake_any HP.out hN1 (by omega) (i : Int) 32 (by omega) (by omega))
      go_wp2_with (first | (go_at_call 11; refine (HTK.out).mono ?_; rintro e w5 ⟨wd, mo, hwd, hm1, hm2, _, _, rfl, hst, hb2⟩; have hs5 : StW w5 wr.heap.size gc N _ := ⟨⟨_, hst, ⟨none, 0, 0, rfl, rfl, Nat.le_refl _, by omega, fun h => absurd h (by omega)⟩⟩, takeP_ok hwd hm2⟩; have HS5 := Lib.hid hs5; have HRU := Lib.hid (run8_any (HP.out.below hb2) hs5 (by omega)); have HB5 := Lib.hid (bthen HB.out hb2); clear hst hb2 hs5) | (go_at_call 17; refine (HRU.out).mono ?_; rintro e w6 ⟨k, hk, hp6, _, hk6, _, hq⟩; have HWF6 := Lib.hid ((it_wf HWF.out HS5.out.ok k (by omega)).1.mono (show 299 * (i : Int) + (k : Int) ≤ 299 * ((i + 1 : Nat) : Int) by omega)); have HP6 := Lib.hid hp6; have HB6 := Lib.hid (hk6.below HB5.out (Nat.le_refl _) (fun x hx => by have := HB.out.size; simp at hx; omega)); obtain ⟨q, rfl⟩ : ∃ q, e = .returned (.int .i64 q) := (by rcases hq with ⟨_, _, q⟩ | ⟨_, _, q⟩ <;> exact ⟨_, q⟩); clear hp6 hk6 hq))
      go_roundw
      case rel => exact ⟨i + 1, _, by omega, by go_num, HP6.out, HWF6.out, HB6.out⟩
      case measure => simp [intOf]; omega
    · have d1 : decide ((i : Int) < 3) = false := decide_eq_false (by omega)
      obtain rfl : i = 3 := by omega
      have HTK := Lib.hid (pTake_any HP.out hN1 (by omega) 0 1 (by omega) (by omega))
      go_upto_region 13 with (go_at_call 11; refine (HTK.out).mono ?_; rintro e w5 ⟨wd, mo, hwd, hm1, hm2, _, _, rfl, hst, hb2⟩; have HI1 := Lib.hid (show PnW w w5 gp gc gn N (1 + (K : Int)) l wr.heap.size ⟨1, wd, N, mo, List.replicate 32 0, 0, false, false, []⟩ none none 900 from ⟨HP.out.below hb2, ⟨⟨_, hst, ⟨none, 0, 0, rfl, rfl, Nat.le_refl _, by omega, fun h => absurd h (by omega)⟩⟩, takeP_ok hwd hm2⟩, HB.out.size, SgW.nil _ _ _ _, SgW.nil _ _ _ _, (fun _ _ e => (by cases e)), (fun _ _ e => (by cases e)), (fun _ _ _ _ e => (by cases e)), HWF.out.mono (by omega), bthen HB.out hb2⟩); have HV1 := Lib.hid (PnP.start N l wd mo true); clear hst hb2)
      generalize wr.heap.size = g0 at *
      clear HTK HP HWF HB
      go_loopw [4, 9, 10, 11, 12, 13, 14, 15, 16] (fun s4 s9 s10 s11 s12 s13 s14 s15 s16 wr => PnR w gp gc gn N len (1 + (K : Int)) s4 s9 s10 s11 s12 s13 s14 s15 s16 wr) (fun _ _ _ _ _ _ _ _ s16 _ => 200 - (intOf s16).toNat)
      case atStart => exact ⟨_, _, none, none, g0, 0, true, true, false, false, rfl, rfl, rfl, rfl, rfl, rfl, rfl, rfl, rfl, Nat.zero_le _, by omega, by simpa using HI1.out, HV1.out⟩
      case round =>
        clear HI1 HV1
        obtain ⟨l, t, s, other, gt, i, full, calm, over, on, rfl, rfl, rfl, rfl, rfl, rfl, rfl, rfl, rfl, hi, hi2, hI, hV⟩ := hrel
        have HI := Lib.hid hI
        have HV := Lib.hid hV
        clear hI hV
        by_cases hlt : i < len ∧ i < 200
        · have d1 : decide ((i : Int) < (len : Int)) = true := decide_eq_true (by omega)
          have d2 : decide ((i : Int) < 200) = true := decide_eq_true (by omega)
          obtain ⟨hlt1, hlt2⟩ := hlt
          obtain ⟨b, off, rfl, hbl, hc⟩ := HR.out (by rw [HL.out]; omega)
          have HA := Lib.hid ((hc i (by rw [HL.out]; exact hlt1)).below HI.out.be hbl)
          have HXK := Lib.hid (HOK.out _ (show L.getD i a80 ∈ L by simp [List.getD, show i < L.length by rw [HL.out]; exact hlt1]))
          clear hc
          generalize L.getD i a80 = x at *
          obtain ⟨xw, xk, xf, xm, xA, xn, xc, xz⟩ := x
          unfold A8.cs at HA
          simp only at HA
          have HZ := Lib.hid (Blk.new wr 34 #[.int .i64 0, .int .i64 0, .int .i64 0, .int .i64 0, .slice none 0 0])
          have hal := ball wr (.cells #[.int .i64 0, .int .i64 0, .int .i64 0, .int .i64 0, .slice none 0 0] 34)
          have HAL := Lib.hid hal
          clear hal
          go_upto_region 16 with (first | ((with_reducible refine gd_ldt 34 57 ?_); refine wpList_ldc rfl 34 (.tmp 57) rfl _ rfl _ (HA.out) sA8 ?_) | ((with_reducible refine gd_st 34 17 ?_); refine wpList_st rfl 34 (.tmp 17) _ rfl _ _ rfl _ rfl (HZ.out) sA8.2 (#[.int .i64 xw, .int .i64 xk, .int .i64 xf, .int .i64 xm, .slice xA xn xc]) rfl (Nat.le_of_ble_eq_true rfl) rfl ?_; intro w4 hb4 hg4 hs4))
          have k1 : w4.cell? ⟨wr.heap.size, 1, none⟩ = some (.int .i64 xk) := hb4.cell 1
          have k0 : w4.cell? ⟨wr.heap.size, 0, none⟩ = some (.int .i64 xw) := hb4.cell 0
          have HB4 := Lib.hid hb4
          have HW4 := Lib.hid (bgrown HAL.out hg4 (Nat.le_refl _))
          clear hb4 hg4 hs4 HZ HAL HA
          have HI4 := Lib.hid (HI.out.below HW4.out)
          generalize wr.heap.size = g4 at *
          have hz4 := HI4.out.be.size
          obtain ⟨hw1, hw2, hw3, hw4, hxl, hxc, hxm, hxr⟩ := HXK.out
          simp only at hw1 hw2 hw3 hw4 hxl hxc hxm hxr
          have bd4 := bounds_i64 hw4
          have HX4 := Lib.hid (RdI.below hxr.2 HI4.out.be)
          clear HI HW4 HXK hw1 hw2 hw3 hw4 hxr
          obtain ⟨pb, hpb⟩ : ∃ q, (xk.tmod 2 == 0) = q := ⟨_, rfl⟩
          obtain ⟨qb, hqb⟩ : ∃ q, (xw.tmod 2 == 0) = q := ⟨_, rfl⟩
          have k2 : w4.cell? ⟨g4, 2, none⟩ = some (.int .i64 xf) := HB4.out.cell 2
          have k3 : w4.cell? ⟨g4, 3, none⟩ = some (.int .i64 xm) := HB4.out.cell 3
          go_upto_if 62 with fail
          cases pb
          case true =>
            go_upto_if 64 with fail
            go_cut [11] from 45 to 152 (fun s11 wx => ∃ o l2, s11 = sgV o ∧ PnW w wx gp gc gn N (1 + (K : Int)) l2 gt t s o (900 + 302 * (i : Int) + 1) ∧ ChP N l l2)
            case first =>
              rcases other with _ | ⟨g', s'⟩
              · have HTK := Lib.hid (pTake_any HI4.out.po hN1 (by omega) xf xm bd4.1 bd4.2)
                go_upto_region 19 with (go_at_call 11; refine (HTK.out).mono ?_; rintro e w5 ⟨wd, mo, hwd, hm1, hm2, _, _, rfl, hst, hb2⟩; have k5 := (hb2.cell (p := ⟨g4, 0, none⟩) HB4.out.lt).trans k0; have k6 : w5.cell? ⟨g4, 4, none⟩ = some (.slice xA xn xc) := (hb2.cell (p := ⟨g4, 4, none⟩) HB4.out.lt).trans (HB4.out.cell 4); have HX5 := Lib.hid (HX4.out.below hb2); have HB5 := Lib.hid hb2; have HS5 := Lib.hid (show StW w5 w4.heap.size gc N _ from ⟨⟨_, hst, ⟨none, 0, 0, rfl, rfl, Nat.le_refl _, by omega, fun h => absurd h (by omega)⟩⟩, takeP_ok hwd hm2⟩); clear hst hb2)
                clear k0 k1 k2 k3
                cases qb
                case true =>
                  have HFW := Lib.hid (few_any HX5.out hxl hxc hxm)
                  have HP5 := Lib.hid (HI4.out.po.below HB5.out)
                  clear HTK
                  go_wp2_with (first | (go_at_call 18; refine (HFW.out).mono ?_; rintro e w6 ⟨A6, m6, c6, rfl, hr6, hl6, hm6, hb6⟩; have HB6 := Lib.hid (bthen HB5.out hb6); have HBK := Lib.hid (pBack_any (cap := c6) (HP5.out.below hb6) hN1 (by omega) HSZ.out hr6 hl6 (by omega)); clear hr6 hl6 hb6) | (go_at_call 12; refine (HBK.out).mono ?_; rintro e w7 ⟨g7, rfl, hg7, hs7, hb7⟩; have HI7 := Lib.hid ((HI4.out.newOther (bthen HB6.out hb7) hs7 (Nat.le_trans HB6.out.size hg7)).up (c := 900 + 302 * (i : Int) + 1) (by omega)); clear hs7 hb7 hg7))
                  go_meet
                  case rel => exact ⟨_, l, rfl, HI7.out, ChP.refl _ _⟩
                case false =>
                  have HI7 := Lib.hid ((HI4.out.newOther HB5.out HS5.out (Nat.le_refl _)).up (c := 900 + 302 * (i : Int) + 1) (by omega))
                  clear HTK
                  go_wp2
                  go_meet
                  case rel => exact ⟨_, l, rfl, HI7.out, ChP.refl _ _⟩
              · have hd := pDo_any HI4.out.po (HI4.out.ot g' s' rfl).1 (by omega)
                have HI6 := Lib.hid (fun W h1 h2 h3 => HI4.out.doOther (w' := W) (by omega) h1 h2 h3 hgn)
                generalize stpP N l s' = r at *
                obtain ⟨l2, s2⟩ := r
                simp only at hd HI6
                obtain ⟨db, hdb⟩ : ∃ q, decide (s2.nx = 0) = q := ⟨_, rfl⟩
                rw [hdb] at hd
                have HD := Lib.hid hd
                clear hd hdb k0 k1 k2 k3
                cases db
                case true =>
                  go_wp2_with (go_at_call 14; refine (HD.out).mono ?_; rintro e w6 ⟨rfl, h6, s6, k6⟩; have HJ := Lib.hid (HI6.out _ h6 s6 k6); clear h6 s6 k6)
                  go_meet
                  case rel => exact ⟨none, l2, rfl, HJ.out.1.dropOther, HJ.out.2⟩
                case false =>
                  go_wp2_with (go_at_call 14; refine (HD.out).mono ?_; rintro e w6 ⟨rfl, h6, s6, k6⟩; have HJ := Lib.hid (HI6.out _ h6 s6 k6); clear h6 s6 k6)
                  go_meet
                  case rel => exact ⟨some (g', s2), l2, rfl, HJ.out.1, HJ.out.2⟩
            case rest =>
              obtain ⟨o, l2, rfl, hI, hC⟩ := hcut
              have HI5 := Lib.hid hI
              have HC5 := Lib.hid hC
              clear hI hC HI4 HB4 k0 k1 k2 k3
              go_upto_region 24 with fail
              go_cut [12] from 45 to 152 (fun s12 wx => ∃ af : Bool, s12 = .bool (full && (!over || on || af)) ∧ (af = false → ¬ ∀ j, j < N → fulF (l2.getD j 0)) ∧ PnW w wx gp gc gn N (1 + (K : Int)) l2 gt t s o (900 + 302 * (i : Int) + 1))
              case first =>
                cases full
                case false =>
                  go_wp2
                  go_meet
                  case rel => exact ⟨true, rfl, (fun h => by cases h), HI5.out⟩
                case true =>
                  cases over
                  case false =>
                    go_wp2
                    go_meet
                    case rel => exact ⟨true, rfl, (fun h => by cases h), HI5.out⟩
                  case true =>
                    cases on
                    case true =>
                      go_wp2
                      go_meet
                      case rel => exact ⟨true, rfl, (fun h => by cases h), HI5.out⟩
                    case false =>
                      have HF := Lib.hid (free_any HI5.out.po (by omega))
                      go_wp2_with (go_at_call 16; refine (HF.out).mono ?_; rintro e w7 ⟨A7, m7, c7, rfl, ho, hb⟩; have HM := Lib.hid ho.len; have HI7 := Lib.hid (HI5.out.below hb); clear ho hb)
                      go_meet
                      case rel => exact ⟨((m7 : Int) == 0), rfl, fun h hf => by
                        have h2 := (freeI_zero l2 N).2 hf
                        have h3 := HM.out
                        unfold freeL at h3
                        simp at h
                        omega, HI7.out⟩
              case rest =>
                obtain ⟨af, rfl, haf, hI⟩ := hcut
                have HI6 := Lib.hid (hI.up (c := 900 + 302 * ((i + 1 : Nat) : Int)) (by omega))
                have HV6 := Lib.hid (HV.out.other HC5.out hN1 af haf)
                clear haf hI HI5
                go_wp2
                go_roundw
                case rel => exact ⟨l2, t, s, o, gt, i + 1, _, false, over, on, rfl, rfl, rfl, rfl, rfl, rfl, rfl, rfl, by go_num, by omega, by omega, HI6.out, HV6.out⟩
                case measure => simp [intOf]; omega
          case false =>
            rcases s with _ | ⟨gs, u⟩
            · cases over
              case true =>
                go_upto_region 26 with fail
                cases qb
                case true =>
                  obtain ⟨hno, hV2⟩ := HV.out.same
                  have HSM := Lib.hid (pSame_any HI4.out.po (by omega) HI4.out.tt hno)
                  have HV2 := Lib.hid hV2
                  clear hno hV2 k1 k2 k3
                  go_wp2_with (go_at_call 19; refine (HSM.out).mono ?_; rintro e w6 ⟨rfl, h6, hb⟩; have HI6 := Lib.hid ((HI4.out.newS hb h6 (Nat.le_refl _)).up (c := 900 + 302 * ((i + 1 : Nat) : Int)) (by omega)); clear h6 hb)
                  go_roundw
                  case rel => exact ⟨l, t, _, other, gt, i + 1, full, calm, true, false, rfl, rfl, rfl, rfl, rfl, rfl, rfl, rfl, by go_num, by omega, by omega, HI6.out, HV2.out⟩
                  case measure => simp [intOf]; omega
                case false =>
                  have HI6 := Lib.hid (HI4.out.up (c := 900 + 302 * ((i + 1 : Nat) : Int)) (by omega))
                  clear k1 k2 k3
                  go_wp2
                  go_roundw
                  case rel => exact ⟨l, t, none, other, gt, i + 1, full, calm, true, on, rfl, rfl, rfl, rfl, rfl, rfl, rfl, rfl, by go_num, by omega, by omega, HI6.out, HV.out⟩
                  case measure => simp [intOf]; omega
              case false =>
                obtain ⟨hon, hno, hnx⟩ : on = false ∧ t.no = false ∧ (t.nx = 1 ∨ t.nx = 2) := by
                  rcases HV.out with ⟨_, _, h3, h4, h5, _⟩ | ⟨h1, _⟩
                  · exact ⟨h3, h4, h5⟩
                  · cases h1
                subst hon
                have hrd : t.rd.length = 32 := by obtain ⟨⟨gv, q, _⟩, _⟩ := HI4.out.tt; exact q.len
                have hpt := HV.out.take HI4.out.tt.ok.wd hrd (by omega) (HI4.out.tt.ok.tk hnx)
                have hd := pDo_any HI4.out.po HI4.out.tt (by omega)
                have hdt := fun W h1 h2 h3 => HI4.out.doT (w' := W) (by omega) h1 h2 h3 hgn
                have hg4n : g4 ∉ [gn, gt] := by
                  have q1 := blkT HB4.out HI4.out.po.cl.nu (by decide)
                  have q2 := HI4.out.tt.typ HB4.out (by decide)
                  simp
                  exact ⟨q1, q2⟩
                generalize stpP N l t = r at *
                obtain ⟨l2, t2⟩ := r
                simp only at hd hdt hpt
                obtain ⟨db, hdb⟩ : ∃ q, decide (t2.nx = 0) = q := ⟨_, rfl⟩
                rw [hdb] at hd
                have HD := Lib.hid hd
                have HDT := Lib.hid hdt
                have HPT := Lib.hid hpt
                have HDB := Lib.hid hdb
                clear hd hdt hpt hdb hno hnx hrd k0 k1 k2 k3
                cases db
                case false =>
                  go_wp2_with (go_at_call 14; refine (HD.out).mono ?_; rintro e w6 ⟨rfl, h6, s6, k6⟩; have HJ := Lib.hid ((HDT.out _ h6 s6 k6).up (c := 900 + 302 * ((i + 1 : Nat) : Int)) (by omega)); clear h6 s6 k6)
                  go_roundw
                  case rel =>
                    obtain ⟨q1, q2⟩ := HPT.out.1 (by simpa using HDB.out)
                    have q3 := HJ.out
                    rw [q1] at q3
                    exact ⟨l, t2, none, other, gt, i + 1, full, calm, false, false, rfl, rfl, rfl, rfl, rfl, rfl, rfl, rfl, by go_num, by omega, by omega, q3, q2⟩
                  case measure => simp [intOf]; omega
                case true =>
                  go_upto_region 30 with (go_at_call 14; refine (HD.out).mono ?_; rintro e w6 ⟨rfl, h6, s6, k6⟩; have HJ := Lib.hid (HDT.out _ h6 s6 k6); have HB6 := Lib.hid (k6.blk HB4.out hg4n); clear h6 s6 k6)
                  have hno2 := pnone_any HJ.out.tt
                  obtain ⟨nb, hnb⟩ : ∃ q, t2.no = q := ⟨_, rfl⟩
                  rw [hnb] at hno2
                  have HNO := Lib.hid hno2
                  have HNB := Lib.hid hnb
                  clear hno2 hnb
                  cases nb
                  case true =>
                    have HF := Lib.hid (free_any HJ.out.po (by omega))
                    go_wp2_with (first | (go_at_call 20; refine (HNO.out).mono ?_; rintro e w7 ⟨rfl, rfl⟩) | (go_at_call 16; refine (HF.out).mono ?_; rintro e w8 ⟨A8, m8, c8, rfl, ho, hb⟩; have HM := Lib.hid ho.len; have HI8 := Lib.hid ((HJ.out.below hb).up (c := 900 + 302 * ((i + 1 : Nat) : Int)) (by omega)); clear ho hb))
                    go_roundw
                    case rel =>
                      obtain ⟨q1, q2⟩ := HPT.out.2 (by simpa using HDB.out) HNB.out
                      have q3 := HI8.out
                      rw [q1] at q3
                      refine ⟨l, t2, none, other, gt, i + 1, ((m8 : Int) == 0), calm, true, false, rfl, rfl, rfl, rfl, rfl, rfl, rfl, rfl, by go_num, by omega, by omega, q3, q2 _ fun h hf => ?_⟩
                      have h2 := (freeI_zero l N).2 hf
                      have h3 := HM.out
                      unfold freeL at h3
                      rw [q1] at h3
                      simp at h
                      omega
                    case measure => simp [intOf]; omega
                  case false =>
                    have HG := Lib.hid (got_any HJ.out.tt (by omega))
                    go_upto_region 32 with (first | (go_at_call 20; refine (HNO.out).mono ?_; rintro e w7 ⟨rfl, rfl⟩) | (go_at_call 15; refine (HG.out).mono ?_; rintro e w7 ⟨A7, m7, c7, rfl, ho, hb⟩; have hm7 := ho.len; have hn7 := numsI_len t2.wd t2.tk 32; have HB7 := Lib.hid hb; have HBK := Lib.hid (pBack_any (cap := c7) (HJ.out.po.below hb) hN1 (by omega) HSZ.out ho.rdI hm7 (by unfold numsF at hm7; omega)); clear ho hb) | (go_at_call 12; refine (HBK.out).mono ?_; rintro e w8 ⟨g8, rfl, hg8, hs8, hb8⟩; have HB8 := Lib.hid (bthen HB7.out hb8); have hg8b := Nat.le_trans HB7.out.size hg8; have HS8 := Lib.hid hs8; have HRU := Lib.hid (run8_any (HJ.out.po.below HB8.out) hs8 (by omega)); clear hs8 hb8) | (go_at_call 17; refine (HRU.out).mono ?_; rintro e w9 hrun; have hkp : Keep [gn, g8] w8 w9 := (by obtain ⟨_, _, _, _, h, _⟩ := hrun; exact h); obtain ⟨l9, q9, rfl, h9⟩ := HJ.out.run (by omega) HB8.out HS8.out hg8b hgn hrun; have HI8 := Lib.hid h9; have HB9 := Lib.hid (hkp.blk (HB6.out.below HB8.out) (by have z1 := blkT HB6.out HJ.out.po.cl.nu (by decide); have z2 := HB6.out.lt; simp; omega)); clear hrun hkp h9))
                    have k2 : w9.cell? ⟨g4, 2, none⟩ = some (.int .i64 xf) := HB9.out.cell 2
                    have HTK2 := Lib.hid (pTake_any HI8.out.po hN1 (by omega) xf 1 (by omega) (by omega))
                    go_wp2_with (go_at_call 11; refine (HTK2.out).mono ?_; rintro e w5 ⟨wd, mo, hwd, hm1, hm2, _, _, rfl, hst, hb2⟩; have HI9 := Lib.hid (HI8.out.newT hb2 (show StW w5 _ gc N _ from ⟨⟨_, hst, ⟨none, 0, 0, rfl, rfl, Nat.le_refl _, by omega, fun h => absurd h (by omega)⟩⟩, takeP_ok hwd hm2⟩) (Nat.le_refl _)); clear hst hb2)
                    go_roundw
                    case rel => exact ⟨l9, _, none, other, _, i + 1, full, true, false, false, rfl, rfl, rfl, rfl, rfl, rfl, rfl, rfl, by go_num, by omega, by omega, HI9.out.up (by omega), PnP.start N l9 _ _ full⟩
                    case measure => simp [intOf]; omega
            · have hok := (HI4.out.ss gs u rfl).1.ok
              have hV2 : PnP N l t (some u) full calm over on := HV.out
              obtain ⟨hov, hle, hp1, hp2⟩ := hV2.compare hok.sm
              subst hov
              have hd := pDo_any HI4.out.po (HI4.out.ss gs u rfl).1 (by omega)
              have hds := fun W h1 h2 h3 => HI4.out.doS (w' := W) hle h1 h2 h3 hgn
              have hg4n : g4 ∉ [gn, gs] := by
                have q1 := blkT HB4.out HI4.out.po.cl.nu (by decide)
                have q2 := (HI4.out.ss gs u rfl).1.typ HB4.out (by decide)
                simp
                exact ⟨q1, q2⟩
              generalize stpP N l u = r at *
              obtain ⟨l2, u2⟩ := r
              simp only at hd hds hp1 hp2
              obtain ⟨db, hdb⟩ : ∃ q, decide (u2.nx = 0) = q := ⟨_, rfl⟩
              rw [hdb] at hd
              have HD := Lib.hid hd
              have HDS := Lib.hid hds
              have HP1 := Lib.hid hp1
              have HP2 := Lib.hid hp2
              have HDB := Lib.hid hdb
              clear hd hds hp1 hp2 hdb hle hok hV2 k0 k1 k2 k3
              cases db
              case false =>
                go_wp2_with (go_at_call 14; refine (HD.out).mono ?_; rintro e w6 ⟨rfl, h6, s6, k6⟩; have HJ := Lib.hid ((HDS.out _ h6 s6 k6).up (c := 900 + 302 * ((i + 1 : Nat) : Int)) (by omega)); clear h6 s6 k6)
                go_roundw
                case rel => exact ⟨l, t, some (gs, u2), other, gt, i + 1, full, calm, true, true, rfl, rfl, rfl, rfl, rfl, rfl, rfl, rfl, by go_num, by omega, by omega, HJ.out, HP1.out (by simpa using HDB.out)⟩
                case measure => simp [intOf]; omega
              case true =>
                go_upto_region 36 with (go_at_call 14; refine (HD.out).mono ?_; rintro e w6 ⟨rfl, h6, s6, k6⟩; have HJ := Lib.hid (HDS.out _ h6 s6 k6); have HB6 := Lib.hid (k6.blk HB4.out hg4n); clear h6 s6 k6)
                obtain ⟨hq1, hq2⟩ := HP2.out (by simpa using HDB.out)
                have hsm2 := psame_any (HJ.out.ss gs u2 rfl).1
                obtain ⟨sb, hsb⟩ : ∃ q, u2.sm = q := ⟨_, rfl⟩
                rw [hsb] at hsm2 hq1 hq2
                have HSM := Lib.hid hsm2
                have k2 : w6.cell? ⟨g4, 2, none⟩ = some (.int .i64 xf) := HB6.out.cell 2
                have HTK2 := Lib.hid (pTake_any HJ.out.po hN1 (by omega) xf 1 (by omega) (by omega))
                clear hsm2 hsb
                cases sb
                case true =>
                  obtain rfl := hq1 rfl
                  clear hq1 hq2
                  cases calm
                  case true =>
                    go_wp2_with (first | (go_at_call 21; refine (HSM.out).mono ?_; rintro e w7 ⟨rfl, rfl⟩) | (go_at_call 11; refine (HTK2.out).mono ?_; rintro e w5 ⟨wd, mo, hwd, hm1, hm2, _, _, rfl, hst, hb2⟩; have HI9 := Lib.hid (HJ.out.dropS.newT hb2 (show StW w5 _ gc N _ from ⟨⟨_, hst, ⟨none, 0, 0, rfl, rfl, Nat.le_refl _, by omega, fun h => absurd h (by omega)⟩⟩, takeP_ok hwd hm2⟩) (Nat.le_refl _)); clear hst hb2))
                    go_roundw
                    case rel => exact ⟨l, _, none, other, _, i + 1, true, true, false, false, rfl, rfl, rfl, rfl, rfl, rfl, rfl, rfl, by go_num, by omega, by omega, HI9.out.up (by omega), PnP.start N l _ _ true⟩
                    case measure => simp [intOf]; omega
                  case false =>
                    go_wp2_with (first | (go_at_call 21; refine (HSM.out).mono ?_; rintro e w7 ⟨rfl, rfl⟩) | (go_at_call 11; refine (HTK2.out).mono ?_; rintro e w5 ⟨wd, mo, hwd, hm1, hm2, _, _, rfl, hst, hb2⟩; have HI9 := Lib.hid (HJ.out.dropS.newT hb2 (show StW w5 _ gc N _ from ⟨⟨_, hst, ⟨none, 0, 0, rfl, rfl, Nat.le_refl _, by omega, fun h => absurd h (by omega)⟩⟩, takeP_ok hwd hm2⟩) (Nat.le_refl _)); clear hst hb2))
                    go_roundw
                    case rel => exact ⟨l, _, none, other, _, i + 1, true, true, false, false, rfl, rfl, rfl, rfl, rfl, rfl, rfl, rfl, by go_num, by omega, by omega, HI9.out.up (by omega), PnP.start N l _ _ true⟩
                    case measure => simp [intOf]; omega
                case false =>
                  obtain rfl := hq2 rfl
                  clear hq1 hq2
                  go_wp2_with (first | (go_at_call 21; refine (HSM.out).mono ?_; rintro e w7 ⟨rfl, rfl⟩) | (go_at_call 11; refine (HTK2.out).mono ?_; rintro e w5 ⟨wd, mo, hwd, hm1, hm2, _, _, rfl, hst, hb2⟩; have HI9 := Lib.hid (HJ.out.dropS.newT hb2 (show StW w5 _ gc N _ from ⟨⟨_, hst, ⟨none, 0, 0, rfl, rfl, Nat.le_refl _, by omega, fun h => absurd h (by omega)⟩⟩, takeP_ok hwd hm2⟩) (Nat.le_refl _)); clear hst hb2))
                  go_roundw
                  case rel => exact ⟨l, _, none, other, _, i + 1, full, true, false, false, rfl, rfl, rfl, rfl, rfl, rfl, rfl, rfl, by go_num, by omega, by omega, HI9.out.up (by omega), PnP.start N l _ _ full⟩
                  case measure => simp [intOf]; omega
        · by_cases hli : i < len
          · obtain rfl : i = 200 := by omega
            have d1 : decide (((200 : Nat) : Int) < (len : Int)) = true := decide_eq_true (by omega)
            have d2 : decide ((200 : Int) < (len : Int)) = true := decide_eq_true (by omega)
            go_wp2
            go_ret
            exact ⟨rfl, HI.out.be⟩
          · have d1 : decide ((i : Int) < (len : Int)) = false := decide_eq_false (by omega)
            go_wp2
            go_ret
            exact ⟨rfl, HI.out.be⟩
end Go.Proofs.Ytmbceafeonjffaa
