/-
  CacheOwns: its walk. Conditions stand in each theorem.
-/
import Derived.Test.YtmbceafeonjffaaCbH
import Derived.Deep.CutBlock
namespace Go.Proofs.Ytmbceafeonjffaa
open Go.RowKit Go.Deep Plain
set_option linter.unusedVariables false
set_option linter.unusedSimpArgs false
set_option maxRecDepth 100000
theorem sA9 : Sty 54 3 := ⟨⟨_, Try.underlying54, rfl⟩, by unfold Siz; kernel_rfl⟩
theorem glA_none (C : Nat → Cv) {i : Nat} (h : i < 3) : (glA i C)[i]? = some (.pointer none) := by
  rcases lt3 h with rfl | rfl | rfl <;> simp [glA, gaO]
theorem sC3 : Sty 48 3 := ⟨⟨_, Try.underlying48, rfl⟩, by unfold Siz; kernel_rfl⟩
/-- while caches are made -/
def MkR (w0 : World) (gp gc gn N k gl g9 : Nat) (s11 : Value) (wr : World) : Prop :=
  ∃ (i : Nat) (C : Nat → Cv), s11 = .int .i64 i ∧ i ≤ 3 ∧ CoM w0 wr gp gc gn N (k : Int) (newL k) i 0 C id (fun _ => none) ∧ Blk wr gl 48 (glA i C) ∧ Blk wr g9 50 (sgA fun _ => none) ∧ ∀ v, v < i → (C v).Z = [] ∧ (C v).bk = none
def OwnR (w0 : World) (gp gc gn N k gl g9 len : Nat) (s10 s12 : Value) (wr : World) : Prop :=
  ∃ (i n c : Nat) (A : Option Addr) (l own out : List Int) (C : Nat → Cv) (S : Nat → Sv) (bk : Nat → Bool), s10 = .slice A n c ∧ s12 = .int .i64 i ∧ i ≤ len ∧ i ≤ 200 ∧ OwnV w0 wr gp gc gn N k gl g9 l own C S bk A n c out
def OwnM (w0 : World) (gp gc gn N k gl g9 : Nat) (s10 : Value) (wr : World) : Prop :=
  ∃ (n c : Nat) (A : Option Addr) (l own out : List Int) (C : Nat → Cv) (S : Nat → Sv) (bk : Nat → Bool), s10 = .slice A n c ∧ OwnV w0 wr gp gc gn N k gl g9 l own C S bk A n c out
set_option maxHeartbeats 16000000 in
theorem cow_walk (n : Int) (A : Option Addr) (len cap : Nat) (L : List A9) (w : World) (hl : L.length = len) (hlc : len ≤ cap) (hcm : cap ≤ maxLen) (hr : RdA9 w A L) (hok : ∀ x ∈ L, x.ok) :
    Calls Try.prog 6 #[.int .i64 n, .slice A len cap] w fun e w' => e = .returned (.bool true) ∧ Below w.heap.size w w' := by
  obtain ⟨K, hK, hKl⟩ := pickN n 100 (by omega) (by omega)
  have hKn : K < 100 := by omega
  obtain ⟨k, hk⟩ : ∃ k : Nat, 1 + (K : Int) = (k : Int) := ⟨1 + K, by omega⟩
  have hk1 : 1 ≤ k ∧ k ≤ 100 := by omega
  have HNW := Lib.hid (fun W => pnew_any k (by omega) (by omega) W)
  have hwr := wdsN_rng k (by omega) (by omega)
  have HPU := Lib.hid (fun (C : Nat → Cv) hz => OwC.start (k := k) (M := 3) (C := C) hk1.1 hz)
  obtain ⟨N, hN⟩ : ∃ N, wdsN k = N := ⟨_, rfl⟩
  rw [hN] at HNW hwr HPU
  have hN32 : N ≤ 4 := by unfold wdsN at hN; omega
  have hN1 : 1 ≤ N := hwr.1
  have hkN : k ≤ 32 * N := hwr.2.2.1
  have HL := Lib.hid hl
  have HR := Lib.hid hr
  have HOK := Lib.hid hok
  have HK := Lib.hid hK
  have HKK := Lib.hid hk
  clear hl hr hok hwr hKl hN
  go_enter Try.func6, Try.ntmps6
  go_upto_region 2 with fail
  clear hk hK
  go_upto_region 3 with (go_at_call 9; refine (HNW.out _).mono ?_; rintro e w1 ⟨gp, gc, gn, rfl, hp, hb, hgp, hgc, hgn⟩; have HP := Lib.hid hp; have HB := Lib.hid hb; clear hp hb)
  go_upto_region 5 with (go_at_call 23; refine (fills_any _).mono ?_; rintro e w2 ⟨rfl, hb⟩; have HP2 := Lib.hid (HP.out.below hb); have HB2 := Lib.hid (bthen HB.out hb); clear hb)
  have hal8 := ball w2 (.cells #[.pointer none, .pointer none, .pointer none] 48)
  have HL8 := Lib.hid (Blk.new w2 48 #[.pointer none, .pointer none, .pointer none])
  have HB8 := Lib.hid (bthen HB2.out hal8)
  have HP8 := Lib.hid (HP2.out.below hal8)
  have hg8 : w.heap.size ≤ w2.heap.size := HB2.out.size
  clear hal8 HP HB HNW HP2 HB2
  go_upto_region 6 with fail
  generalize w2.alloc (.cells #[.pointer none, .pointer none, .pointer none] 48) = w3 at *
  generalize w2.heap.size = gl at *
  have hal9 := ball w3 (.cells #[.pointer none, .pointer none, .pointer none] 50)
  have HS9 := Lib.hid (Blk.new w3 50 #[.pointer none, .pointer none, .pointer none])
  have HL9 := Lib.hid (HL8.out.below hal9)
  have HB9 := Lib.hid (bthen HB8.out hal9)
  have HP9 := Lib.hid (HP8.out.below hal9)
  have hg9 : w.heap.size ≤ w3.heap.size := HB8.out.size
  clear hal9 HB8 HP8 HL8
  go_upto_region 7 with fail
  generalize w3.alloc (.cells #[.pointer none, .pointer none, .pointer none] 50) = w4 at *
  generalize w3.heap.size = g9 at *
  go_upto_region 8 with fail
  go_wp2
  go_loopw [11] (fun s11 wr => MkR w gp gc gn N k gl g9 s11 wr) (fun s11 _ => 4 - (intOf s11).toNat)
  case atStart => exact ⟨0, fun _ => ⟨0, 0, none, 0, 0, [], none⟩, rfl, by omega, CoM.start HP9.out HB9.out hgn, HL9.out, HS9.out, fun v h => by omega⟩
  case round =>
    obtain ⟨i, C, rfl, hi, hco, hbl, hb9, hz⟩ := hrel
    have HCO := Lib.hid hco
    have HBL := Lib.hid hbl
    have HB9' := Lib.hid hb9
    have HZ := Lib.hid hz
    clear hco hbl hb9 hz HS9 HL9 HB9 HP9
    by_cases hlt : i < 3
    · have d : decide ((i : Int) < 3) = true := decide_eq_true (by omega)
      have i1 : (i : Int) < 3 := by omega
      have HCN := Lib.hid (cnew_any HCO.out.po hN1 (by omega) (i : Int))
      go_wp2_with (go_at_call 24; refine (HCN.out).mono ?_; rintro e w5 ⟨ga, q, hga, hq, hqx, rfl, hcs, hb5⟩; have HCO5 := Lib.hid (HCO.out.add hb5 hga hcs (by omega)); have hbl5 := HBL.out.below hb5; have HB95 := Lib.hid (HB9'.out.below hb5); have f5 := hbl5.frozen i; have c5 : w5.cell? ⟨gl, i, none⟩ = some (.pointer none) := (hbl5.cell i).trans (glA_none C hlt); have HBL5 := Lib.hid hbl5; clear hcs hb5 hqx hbl5)
      go_roundw
      case rel =>
        have hk := (Keep.refl [gl] w5).setCell (p := ⟨gl, i, none⟩) (.inl (by simp)) (.pointer (some ⟨ga, 0, none⟩))
        have hs := HBL5.out.set i (.pointer (some ⟨ga, 0, none⟩))
        rw [show (Value.pointer (some ⟨ga, 0, none⟩)) = .pointer (some ⟨(⟨ga, q, none, 0, 0, [], none⟩ : Cv).ga, 0, none⟩) from rfl, glA_set C hlt] at hs
        refine ⟨i + 1, _, by go_num, by omega, HCO5.out.one HBL5.out (by decide) (by decide) (by decide) (by decide) (by decide) (by decide) (by decide) (by decide) hg8 hk, hs, hk.blk HB95.out (by simpa using blkT HB95.out HBL5.out (by decide)), fun v hv => ?_⟩
        by_cases e : v = i
        · subst e; rw [upS_same]; exact ⟨rfl, rfl⟩
        · rw [upS_ne _ _ e]; exact HZ.out v (by omega)
      case measure => simp [intOf]; omega
    · obtain rfl : i = 3 := by omega
      have d : decide (((3 : Nat) : Int) < 3) = false := rfl
      have HV0 := Lib.hid (show OwnV w wr gp gc gn N k gl g9 (newL k) (List.replicate k 0) C (fun _ => none) (fun _ => false) none 0 0 [] from ⟨HCO.out.steps 3 id (fun j h => h), HPU.out C HZ.out, ⟨OwJ.nil _ _, fun u hu g a b => by cases b⟩, HBL.out, HB9'.out, hg8, hg9⟩)
      clear HCO HBL HB9' HZ HPU
      rw [show ((3 : Nat) : Int) = (3 : Int) from rfl]
      have d' : decide ((3 : Int) < 3) = false := rfl
      clear d
      go_upto_region 12 with fail
      go_wp2
      go_loopw [10, 12] (fun s10 s12 wr => OwnR w gp gc gn N k gl g9 len s10 s12 wr) (fun _ s12 _ => 200 - (intOf s12).toNat)
      case atStart => exact ⟨0, 0, 0, none, _, _, _, _, _, _, rfl, rfl, by omega, by omega, HV0.out⟩
      case round =>
        obtain ⟨i, n2, c, B, l, own, out, C, S, bk, rfl, rfl, hi, hi2, hV⟩ := hrel
        have HV := Lib.hid hV
        clear hV HV0
        by_cases hlt : i < len ∧ i < 200
        · have d1 : decide ((i : Int) < (len : Int)) = true := decide_eq_true (by omega)
          have d2 : decide ((i : Int) < 200) = true := decide_eq_true (by omega)
          have i1 : (i : Int) < (len : Int) := by omega
          obtain ⟨b, off, rfl, hbl, hc⟩ := HR.out (by rw [HL.out]; omega)
          have HA := Lib.hid ((hc i (by rw [HL.out]; exact hlt.1)).below HV.out.co.be hbl)
          have HXK := Lib.hid (HOK.out _ (show L.getD i a90 ∈ L by simp [List.getD, show i < L.length by rw [HL.out]; exact hlt.1]))
          obtain ⟨hl1, hl2⟩ := hlt
          clear hc
          generalize L.getD i a90 = x at *
          obtain ⟨xw, xk, xn⟩ := x
          unfold A9.cs at HA
          simp only at HA
          have HZ := Lib.hid (Blk.new wr 54 #[.int .i64 0, .int .i64 0, .int .i64 0])
          have hal := ball wr (.cells #[.int .i64 0, .int .i64 0, .int .i64 0] 54)
          have HAL := Lib.hid hal
          clear hal
          go_upto_region 16 with (first | ((with_reducible refine gd_ldt 54 58 ?_); refine wpList_ldc rfl 54 (.tmp 58) rfl _ rfl _ (HA.out) sA9 ?_) | ((with_reducible refine gd_st 54 13 ?_); refine wpList_st rfl 54 (.tmp 13) _ rfl _ _ rfl _ rfl (HZ.out) sA9.2 (#[.int .i64 xw, .int .i64 xk, .int .i64 xn]) rfl (Nat.le_of_ble_eq_true rfl) rfl ?_; intro w4 hb4 hg4 hs4))
          have k1 : w4.cell? ⟨wr.heap.size, 1, none⟩ = some (.int .i64 xk) := hb4.cell 1
          have HB4 := Lib.hid hb4
          have HW4 := Lib.hid (bgrown HAL.out hg4 (Nat.le_refl _))
          clear hb4 hg4 hs4 HZ HAL HA
          have HV4 := Lib.hid (HV.out.below HW4.out)
          generalize wr.heap.size = g4 at *
          obtain ⟨hw1, hw2, hw3⟩ := HXK.out
          simp only at hw1 hw2 hw3
          have bd1 := bounds_i64 hw1
          have bd3 := bounds_i64 hw3
          clear HV HW4 HXK hw1 hw2 hw3
          obtain ⟨v, hv, hvl⟩ := pickN xk 3 (by omega) (by omega)
          have hv3 : v < 3 := by omega
          go_upto_block 4 with fail
          rw [hv]
          clear hv k1
          go_cut [10, 15, 16, 17] from 65 to 155 (fun s10 s15 s16 s17 wx => OwnM w gp gc gn N k gl g9 s10 wx)
          case first =>
            have k9 : w4.cell? ⟨g9, v, none⟩ = some (sgV' (S v)) := (HV4.out.b9.cell v).trans (sgA_at S hv3)
            have kl : w4.cell? ⟨gl, v, none⟩ = some (.pointer (some ⟨(C v).ga, 0, none⟩)) := (HV4.out.bl.cell v).trans (gaA_at C hv3)
            have hvi : (v : Int) < 3 := hvl
            obtain ⟨ga, hga⟩ : ∃ ga, (C v).ga = ga := ⟨_, rfl⟩
            rw [hga] at kl
            obtain ⟨o, hos⟩ : ∃ o, S v = o := ⟨_, rfl⟩
            have HOS := Lib.hid hos
            have HGA := Lib.hid hga
            rw [hos] at k9
            clear hos hga
            rcases o with _ | ⟨gt, o⟩
            · replace k9 : w4.cell? ⟨g9, v, none⟩ = some (.pointer none) := k9
              have k0 : w4.cell? ⟨g4, 0, none⟩ = some (.int .i64 xw) := HB4.out.cell 0
              have k2 : w4.cell? ⟨g4, 2, none⟩ = some (.int .i64 xn) := HB4.out.cell 2
              obtain ⟨q0, hq0⟩ : ∃ q, (xw.tmod 5 == 0) = q := ⟨_, rfl⟩
              obtain ⟨q1, hq1⟩ : ∃ q, (xw.tmod 5 == 1) = q := ⟨_, rfl⟩
              obtain ⟨q2, hq2⟩ : ∃ q, (xw.tmod 5 == 2) = q := ⟨_, rfl⟩
              obtain ⟨q3, hq3⟩ : ∃ q, (xw.tmod 5 == 3) = q := ⟨_, rfl⟩
              go_upto_region 21 with fail
              go_cut [85] from 86 to 95 (fun s85 wx => ∃ b : Bool, s85 = .bool b ∧ w4 = wx)
              case first =>
                cases q0 with
                | true => go_wp2; go_meet; exact ⟨true, rfl, rfl⟩
                | false =>
                  cases q1 with
                  | true => go_wp2; go_meet; exact ⟨true, rfl, rfl⟩
                  | false => go_wp2; go_meet; exact ⟨false, rfl, rfl⟩
              case rest =>
              obtain ⟨b1, rfl, rfl⟩ := hcut
              cases b1 with
              | true =>
                have HFI := Lib.hid (HV4.out.fill hv3 HOS.out hN1 (by omega))
                rw [HGA.out] at HFI
                go_wp2_with (go_at_call 26; refine (HFI.out).mono ?_; rintro e w7 ⟨gt, q, rfl, hlr⟩; obtain ⟨c9, f9⟩ := hlr.cell hv3; rw [HOS.out] at c9; replace c9 : w7.cell? ⟨g9, v, none⟩ = some (.pointer none) := c9; have HLR := Lib.hid hlr; clear hlr)
                go_meet
                obtain ⟨l2, own2, C2, S2, bk2, h2⟩ := (HLR.out.lay hv3 HV4.out.hl HV4.out.h9).val
                exact ⟨n2, c, B, l2, own2, out, C2, S2, bk2, rfl, h2⟩
              | false =>
                go_upto_region 23 with fail
                go_cut [102] from 103 to 112 (fun s102 wx => ∃ b : Bool, s102 = .bool b ∧ w4 = wx)
                case first =>
                  cases q2 with
                  | true => go_wp2; go_meet; exact ⟨true, rfl, rfl⟩
                  | false =>
                    cases q3 with
                    | true => go_wp2; go_meet; exact ⟨true, rfl, rfl⟩
                    | false => go_wp2; go_meet; exact ⟨false, rfl, rfl⟩
                case rest =>
                obtain ⟨b2, rfl, rfl⟩ := hcut
                clear hq0 hq1 hq2 hq3
                cases b2 with
                | true =>
                  have HPO := Lib.hid (HV4.out.popQ hv3 hk1.2)
                  rw [HGA.out] at HPO
                  have hol := HV4.out.ow.olen
                  have hon := HV4.out.ro.row.len
                  have hnc := HV4.out.ro.row.nc
                  go_upto_region 25 with (go_at_call 27; refine (HPO.out).mono ?_; rintro e w7 ⟨hact, y, b, rfl, hbt, hbf⟩; have HB7 := Lib.hid (hact _ _ HB4.out); have HBT := Lib.hid hbt; have HBF := Lib.hid hbf; clear hbt hbf hact)
                  cases b with
                  | true =>
                    have HX7 := Lib.hid (HBT.out rfl)
                    go_wp2_with (at_builtin; refine wpList_addJ rfl (.tmp 121) (.tmp 123) rfl rfl (HX7.out.row) HX7.out.be HX7.out.be.size y (by omega) _ rfl rfl ?_; intro A8 c8 w8 hI hB hK' hown; have HX8 := Lib.hid (HX7.out.rowK hI hK' hown); clear hI hB hK' hown)
                    go_meet
                    obtain ⟨l2, own2, C2, S2, bk2, h2⟩ := HX8.out.val
                    exact ⟨n2 + 1, c8, A8, l2, own2, out ++ [y], C2, S2, bk2, rfl, h2⟩
                  | false =>
                    obtain ⟨C', hC1, hC2, hV7⟩ := HBF.out rfl
                    have HV7 := Lib.hid hV7
                    clear hV7
                    by_cases hn2 : 0 < n2
                    · have dn : decide ((0 : Int) < (n2 : Int)) = true := decide_eq_true (by omega)
                      have dn' : decide (0 < n2) = true := decide_eq_true hn2
                      obtain ⟨j, hj, hjl⟩ := pickN xn (n2 : Int) (by omega) (by omega)
                      have hw : IntKind.u64.wrap (n2 : Int) = (n2 : Int) := by rw [IntKind.wrap_u64]; omega
                      have hnz : (n2 : Int) ≠ 0 := by omega
                      have hnz' : n2 ≠ 0 := by omega
                      have hnp : (0 : Int) < (n2 : Int) := by omega
                      have HJ := Lib.hid hj
                      have k72 : w7.cell? ⟨g4, 2, none⟩ = some (.int .i64 xn) := HB7.out.cell 2
                      clear hj
                      go_upto_region 29 with fail
                      rw [HJ.out]
                      have hjn : j < n2 := by omega
                      have hij : (j : Int) < (n2 : Int) := by omega
                      obtain ⟨gb, rfl, hcb⟩ := HV7.out.ro.row.at hjn
                      obtain ⟨z, hz⟩ : ∃ z, out.getD j 0 = z := ⟨_, rfl⟩
                      have hsp : out = out.take j ++ z :: out.drop (j + 1) := by
                        have e : out[j]'(by omega) = z := by rw [← hz]; simp [List.getD, show j < out.length by omega]
                        rw [← e, ← List.drop_eq_getElem_cons, List.take_append_drop]
                      rw [hz] at hcb
                      have HPU := Lib.hid ((HV7.out.below (bdrew w7)).putQ hv3 HOS.out hN1 (by omega) hkN (hC1.trans HGA.out) hC2 hsp)
                      have kdl : w7.drew.cell? ⟨gl, v, none⟩ = some (.pointer (some ⟨ga, 0, none⟩)) := by
                        have h1 := (HV7.out.bl.cell v).trans (gaA_at _ hv3)
                        have h2 : upS C v C' v = C' := upS_same C v C'
                        rw [h2, hC1, HGA.out] at h1
                        exact h1
                      have kdb : w7.drew.cell? ⟨gb, j, none⟩ = some (.int .i64 z) := hcb
                      clear hsp hz hcb k72 hw hnz hnz'
                      go_cut [144] from 136 to 145 (fun s144 wx => OwnX w wx gp gc gn N k gl g9 (some ⟨gb, 0, none⟩) n2 c (out.take j ++ out.drop (j + 1)) out)
                      case first =>
                       go_region_law (go_simp; go_at_call 28; refine (HPU.out).mono ?_; rintro e w8 ⟨gt, q, rfl, hlr⟩; obtain ⟨c9, f9⟩ := hlr.cell hv3; rw [HOS.out] at c9; replace c9 : w8.cell? ⟨g9, v, none⟩ = some (.pointer none) := c9; have HLR := Lib.hid hlr; clear hlr)
                       all_goals
                        have HX9 := Lib.hid (show OwnX w (w8.setCell ⟨g9, v, none⟩ (.pointer (some ⟨gt, 0, none⟩))) gp gc gn N k gl g9 (some ⟨gb, 0, none⟩) n2 c (out.take j ++ out.drop (j + 1)) out from HLR.out.lay hv3 HV7.out.hl HV7.out.h9)
                        go_wp2
                        go_meet
                        exact HX9.out
                      case rest =>
                      have HX9 := Lib.hid hcut
                      clear hcut HPU kdl kdb HBT HBF HB7 HPO
                      have hgl' := HV7.out.hl
                      clear HV7
                      obtain ⟨w9, rfl⟩ : ∃ q, q = wc := ⟨_, rfl⟩
                      have hbA := Lib.hid (bthen (bdrew w9) (ball w9.drew (.cells #[] 3)))
                      have HE := Lib.hid (show OwJ w9.heap.size (w9.drew.alloc (.cells #[] 3)) (some ⟨w9.heap.size, 0, none⟩) 0 0 [] from own0J (Blk.new w9.drew 3 #[]))
                      have HR1 := Lib.hid ((HX9.out.row.below hbA.out).rd.less (m := j) (by omega))
                      have hbA' := Lib.hid (bthen (ball w9 (.cells #[] 3)) (bdrew _))
                      have HE' := Lib.hid (show OwJ w9.heap.size ((w9.alloc (.cells #[] 3)).drew) (some ⟨w9.heap.size, 0, none⟩) 0 0 [] from (own0J (Blk.new w9 3 #[])).below (bdrew _))
                      have HR1' := Lib.hid ((HX9.out.row.below hbA'.out).rd.less (m := j) (by omega))
                      have hjc : (j : Int) ≤ (c : Int) := by omega
                      have hjc2 : (j : Int) + 1 ≤ (c : Int) := by omega
                      have hj16 : j ≤ 100 := by omega
                      have hcm2 : c ≤ 9223372036854775807 := by have := hnc.2; unfold maxLen at this; omega
                      have hw1 : IntKind.i64.wrap ((j : Int) + 1) = (j : Int) + 1 := by rw [IntKind.wrap_i64]; omega
                      have hjj : (j : Int) ≤ (j : Int) + 1 := by omega
                      have hj0 : (0 : Int) ≤ (j : Int) + 1 := by omega
                      have hjn2 : (j : Int) + 1 ≤ (n2 : Int) := by omega
                      have hjt : ((j : Int) + 1).toNat = j + 1 := by omega
                      by_cases hcj : c = j + 1
                      · obtain rfl : n2 = j + 1 := by omega
                        subst hcj
                        have HRF := Lib.hid (show ∀ W, Below w9.heap.size w9 W → RdJ W (some ⟨gb, 0, none⟩) 0 0 (out.drop (j + 1)) from fun W _ => by
                          rw [List.drop_eq_nil_of_le (by omega)]
                          exact ⟨rfl, fun h => absurd h (by simp), fun e => by cases e⟩)
                        go_upto_region 30 with fail
                        go_region_law (first
                          | (refine step_joinJ rfl (.tmp 146) (.tmp 149) rfl rfl (HE.out) rfl (HR1.out) (Nat.le_of_lt (by simp)) (by omega) ?_; intro A10 c10 w10 hI10 hk10 hn10; have HI10 := Lib.hid (show OwJ w9.heap.size w10 A10 j c10 (out.take j) by simpa using hI10); have HB10 := Lib.hid (hk10.below hbA.out (Nat.le_refl _) (fun x hx => (by simp [ownLs, Value.ownBlock] at hx; omega))); have HR2 := Lib.hid (HRF.out w10 HB10.out); clear hI10 hk10 hn10)
                          | (refine step_joinJ rfl (.tmp 146) (.tmp 149) rfl rfl (HE'.out) rfl (HR1'.out) (Nat.le_of_lt (by simp)) (by omega) ?_; intro A10 c10 w10 hI10 hk10 hn10; have HI10 := Lib.hid (show OwJ w9.heap.size w10 A10 j c10 (out.take j) by simpa using hI10); have HB10 := Lib.hid (hk10.below hbA'.out (Nat.le_refl _) (fun x hx => (by simp [ownLs, Value.ownBlock] at hx; omega))); have HR2 := Lib.hid (HRF.out w10 HB10.out); clear hI10 hk10 hn10)
                          | (refine step_joinJ rfl (.tmp 150) (.tmp 154) rfl rfl (HI10.out) rfl (HR2.out) HB10.out.size (by omega) ?_; intro A11 c11 w11 hI11 hk11 hn11; have HX11 := Lib.hid (HX9.out.rowNew hI11 (hk11.below HB10.out (Nat.le_refl _) (ownLs_ge HI10.out))); clear hI11 hk11 hn11))
                        all_goals
                          go_wp2
                          go_meet
                          obtain ⟨l2, own2, C2, S2, bk2, h2⟩ := HX11.out.val
                          exact ⟨_, c11, A11, l2, own2, _, C2, S2, bk2, rfl, h2⟩
                      · have hcj2 : (c == j + 1) = false := by simp; omega
                        have HRF := Lib.hid (show ∀ W, Below w9.heap.size w9 W → RdJ W (some ⟨gb, j + 1, none⟩) (n2 - (j + 1)) (c - (j + 1)) (out.drop (j + 1)) from fun W hb => by
                          have hr := (HX9.out.row.below hb).rd
                          by_cases q : j + 1 < n2
                          · obtain ⟨B2, hB2, hr2⟩ := hr.drop q
                            rw [hB2 _ _ rfl] at hr2
                            simpa using hr2
                          · rw [List.drop_eq_nil_of_le (by omega)]
                            exact ⟨by simp; omega, fun h => absurd h (by simp), fun e => by cases e⟩)
                        go_upto_region 30 with fail
                        go_region_law (first
                          | (refine step_joinJ rfl (.tmp 146) (.tmp 149) rfl rfl (HE.out) rfl (HR1.out) (Nat.le_of_lt (by simp)) (by omega) ?_; intro A10 c10 w10 hI10 hk10 hn10; have HI10 := Lib.hid (show OwJ w9.heap.size w10 A10 j c10 (out.take j) by simpa using hI10); have HB10 := Lib.hid (hk10.below hbA.out (Nat.le_refl _) (fun x hx => (by simp [ownLs, Value.ownBlock] at hx; omega))); have HR2 := Lib.hid (HRF.out w10 HB10.out); clear hI10 hk10 hn10)
                          | (refine step_joinJ rfl (.tmp 146) (.tmp 149) rfl rfl (HE'.out) rfl (HR1'.out) (Nat.le_of_lt (by simp)) (by omega) ?_; intro A10 c10 w10 hI10 hk10 hn10; have HI10 := Lib.hid (show OwJ w9.heap.size w10 A10 j c10 (out.take j) by simpa using hI10); have HB10 := Lib.hid (hk10.below hbA'.out (Nat.le_refl _) (fun x hx => (by simp [ownLs, Value.ownBlock] at hx; omega))); have HR2 := Lib.hid (HRF.out w10 HB10.out); clear hI10 hk10 hn10)
                          | (refine step_joinJ rfl (.tmp 150) (.tmp 154) rfl rfl (HI10.out) rfl (HR2.out) HB10.out.size (by omega) ?_; intro A11 c11 w11 hI11 hk11 hn11; have HX11 := Lib.hid (HX9.out.rowNew hI11 (hk11.below HB10.out (Nat.le_refl _) (ownLs_ge HI10.out))); clear hI11 hk11 hn11))
                        all_goals
                          go_wp2
                          go_meet
                          obtain ⟨l2, own2, C2, S2, bk2, h2⟩ := HX11.out.val
                          exact ⟨_, c11, A11, l2, own2, _, C2, S2, bk2, rfl, h2⟩
                    · obtain rfl : n2 = 0 := by omega
                      go_wp2
                      go_meet
                      exact ⟨0, c, B, l, own, out, _, S, bk, rfl, HV7.out⟩
                | false =>
                  have HFI := Lib.hid (HV4.out.flush hv3 HOS.out hN1 (by omega) hk1.2 hkN)
                  rw [HGA.out] at HFI
                  go_wp2_with (go_at_call 29; refine (HFI.out).mono ?_; rintro e w7 ⟨gt, q, rfl, hlr⟩; obtain ⟨c9, f9⟩ := hlr.cell hv3; rw [HOS.out] at c9; replace c9 : w7.cell? ⟨g9, v, none⟩ = some (.pointer none) := c9; have HLR := Lib.hid hlr; clear hlr)
                  go_meet
                  obtain ⟨l2, own2, C2, S2, bk2, h2⟩ := (HLR.out.lay hv3 HV4.out.hl HV4.out.h9).val
                  exact ⟨n2, c, B, l2, own2, out, C2, S2, bk2, rfl, h2⟩
            · replace k9 : w4.cell? ⟨g9, v, none⟩ = some (.pointer (some ⟨gt, 0, none⟩)) := k9
              have HDO := Lib.hid ((HV4.out.below (bdrew w4)).doAny (g0 := ga) hv3 HOS.out (by omega) hk1.2 hkN)
              go_upto_region 19 with fail
              have kd9 : w4.drew.cell? ⟨g9, v, none⟩ = some (.pointer (some ⟨gt, 0, none⟩)) := k9
              have kdl : w4.drew.cell? ⟨gl, v, none⟩ = some (.pointer (some ⟨ga, 0, none⟩)) := kl
              go_region_law (go_simp; go_at_call 25; refine (HDO.out).mono ?_; rintro e w7 ⟨b, rfl, hbt, hbf⟩; have HBT := Lib.hid hbt; have HBF := Lib.hid hbf; clear hbt hbf)
              all_goals
                cases b with
                | true =>
                  have HX7 := Lib.hid (HBT.out rfl)
                  obtain ⟨c9, f9⟩ := HX7.out.cell hv3
                  rw [HOS.out] at c9
                  replace c9 : w7.cell? ⟨g9, v, none⟩ = some (.pointer (some ⟨gt, 0, none⟩)) := c9
                  go_wp2
                  go_meet
                  obtain ⟨l2, own2, C2, S2, bk2, h2⟩ := (HX7.out.lay hv3 HV4.out.hl HV4.out.h9).val
                  exact ⟨n2, c, B, l2, own2, out, C2, S2, bk2, rfl, h2⟩
                | false =>
                  have HX7 := Lib.hid (HBF.out rfl)
                  go_wp2
                  go_meet
                  obtain ⟨l2, own2, C2, S2, bk2, h2⟩ := HX7.out.val
                  exact ⟨n2, c, B, l2, own2, out, C2, S2, bk2, rfl, h2⟩
          case rest =>
            obtain ⟨n5, c5, B5, l5, own5, out5, C5, S5, bk5, rfl, hV5⟩ := hcut
            have HV5 := Lib.hid hV5
            have HON := Lib.hid (once_any hV5.co hV5.ow hV5.ro (by omega) hk1.2 hkN)
            have hk2 : 1 + wrap64 ((IntKind.u64.wrap n).tmod 100) = (k : Int) := by rw [HK.out]; exact HKK.out
            clear HV4 hV5 HB4 bd1 bd3
            go_wp2_with (first | ((with_reducible refine gd_ldt 48 8 ?_); refine wpList_ld rfl 48 (.tmp 8) rfl gl rfl (HV5.out.bl) sC3 ?_) | (go_at_call 30; refine (HON.out).mono ?_; rintro e w7 ⟨rfl, hb7⟩; have HV7 := Lib.hid (HV5.out.below hb7); clear hb7))
            go_roundw
            case rel => exact ⟨i + 1, n5, c5, B5, l5, own5, out5, C5, S5, bk5, rfl, by go_num, by omega, by omega, HV7.out⟩
            case measure => simp [intOf]; omega
        · by_cases hli : i < len
          · obtain rfl : i = 200 := by omega
            have d1 : decide (((200 : Nat) : Int) < (len : Int)) = true := decide_eq_true (by omega)
            have d2 : decide ((200 : Int) < (len : Int)) = true := decide_eq_true (by omega)
            go_wp2
            go_ret
            exact ⟨rfl, HV.out.co.be⟩
          · have d1 : decide ((i : Int) < (len : Int)) = false := decide_eq_false (by omega)
            go_wp2
            go_ret
            exact ⟨rfl, HV.out.co.be⟩
end Go.Proofs.Ytmbceafeonjffaa
