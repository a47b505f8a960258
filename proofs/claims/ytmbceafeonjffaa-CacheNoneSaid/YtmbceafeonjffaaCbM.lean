/-
  CacheNone: its walk. Conditions stand in each theorem.
-/
import Derived.Test.YtmbceafeonjffaaGW
import Derived.Deep.CutBlock
namespace Go.Proofs.Ytmbceafeonjffaa
open Go.RowKit Go.Deep Plain
set_option linter.unusedVariables false
set_option linter.unusedSimpArgs false
set_option maxRecDepth 100000
theorem sA9n : Sty 54 3 := ⟨⟨_, Try.underlying54, rfl⟩, by unfold Siz; kernel_rfl⟩
def lenS : Value → Nat
  | .slice _ n _ => n
  | _ => 0
theorem none_up2 : upS (fun _ : Nat => (none : Sv)) 2 none = fun _ => none := by
  funext u
  unfold upS
  split <;> rfl
/-- while a cache is emptied -/
def DrN (w0 : World) (gp gc gn N k ga0 ga1 : Nat) (l : List Int) (S : Nat → Sv) (b : Int) (za zb v T : Nat) (s12 s14 s15 : Value) (wr : World) : Prop :=
  ∃ (nh ch : Nat) (Ah : Option Addr) (C : Nat → Cv) (y : Int) (ok : Bool), s12 = .slice Ah nh ch ∧ s14 = .int .i64 y ∧ s15 = .bool ok ∧ NnV w0 wr gp gc gn N k ga0 ga1 nh ch Ah l C S b za zb ∧ (ok = false → (C v).n = 0) ∧ nh + (C v).n + (if ok = true then 1 else 0) ≤ T
/-- while all is taken -/
def MkN (w0 : World) (gp gc gn N k ga0 ga1 : Nat) (s12 s13 : Value) (wr : World) : Prop :=
  ∃ (i nh ch : Nat) (Ah : Option Addr) (l : List Int) (C : Nat → Cv), s12 = .slice Ah nh ch ∧ s13 = .int .i64 i ∧ i ≤ 8 ∧ nh ≤ 64 * i ∧ NnV w0 wr gp gc gn N k ga0 ga1 nh ch Ah l C (fun _ => none) (300 * i) 0 0
def NnR (w0 : World) (gp gc gn N k ga0 ga1 len : Nat) (s12 s16 s17 s18 s19 s20 s21 : Value) (wr : World) : Prop :=
  ∃ (i nh ch : Nat) (Ah : Option Addr) (l : List Int) (C : Nat → Cv) (S : Nat → Sv) (full on : Bool), s12 = .slice Ah nh ch ∧ s18 = sgV' (S 2) ∧ s19 = .bool full ∧ s20 = .bool on ∧ s21 = .int .i64 i ∧ i ≤ len ∧ i ≤ 200 ∧ nh ≤ 520 + 40 * i ∧ NnV w0 wr gp gc gn N k ga0 ga1 nh ch Ah l C S (2400 + i) 0 (32 * i) ∧ PhS N l S full on s16 s17
theorem NnV.tail {w0 w : World} {gp gc gn N k ga0 ga1 n1 ch za zb g off : Nat} {l : List Int} {C : Nat → Cv} {S : Nat → Sv} {b : Int} (h : NnV w0 w gp gc gn N k ga0 ga1 (n1 + 1) ch (some ⟨g, off, none⟩) l C S b za zb) : NnV w0 w gp gc gn N k ga0 ga1 n1 (ch - 1) (some ⟨g, if ch = 1 then off else off + 1, none⟩) l C S b za zb := by
  obtain ⟨zs, hz⟩ := h.ro.row
  obtain ⟨x, zs', rfl⟩ : ∃ x zs', zs = x :: zs' := by
    cases zs with
    | nil => have := hz.len; simp at this
    | cons x zs' => exact ⟨x, zs', rfl⟩
  exact ⟨h.co, ⟨⟨zs', hz.tail⟩, fun u hu a q1 q2 => h.ro.ap u hu a q1 q2⟩, h.g0, h.g1, h.z0, h.b0, h.z1, h.wf⟩
/-- behind b's deed -/
def MidB (w0 : World) (gp gc gn N k ga0 ga1 i nh : Nat) (l : List Int) (S : Nat → Sv) (s12 s18 : Value) (wr : World) : Prop :=
  ∃ (nh2 ch2 : Nat) (Ah2 : Option Addr) (t : Sv), s12 = .slice Ah2 nh2 ch2 ∧ s18 = sgV' t ∧ nh2 ≤ nh + 1 ∧ NbR w0 gp gc gn N k ga0 ga1 nh2 ch2 Ah2 l S (2400 + i) 0 (32 * i + 32) t wr
set_option maxHeartbeats 16000000 in
theorem cno_walk (n : Int) (A : Option Addr) (len cap : Nat) (L : List A9) (w : World) (hl : L.length = len) (hlc : len ≤ cap) (hcm : cap ≤ maxLen) (hr : RdA9 w A L) (hok : ∀ x ∈ L, x.ok) :
    Calls Try.prog 7 #[.int .i64 n, .slice A len cap] w fun e w' => e = .returned (.bool true) ∧ Below w.heap.size w w' := by
  obtain ⟨K, hK, hKl⟩ := pickN n 40 (by omega) (by omega)
  have hKn : K < 40 := by omega
  obtain ⟨k, hk⟩ : ∃ k : Nat, 1 + (K : Int) = (k : Int) := ⟨1 + K, by omega⟩
  have hk1 : 1 ≤ k ∧ k ≤ 40 := by omega
  have HNW := Lib.hid (fun W => pnew_any k (by omega) (by omega) W)
  have hwr := wdsN_rng k (by omega) (by omega)
  have HWF := Lib.hid (newL_wf k hk1.1)
  obtain ⟨N, hN⟩ : ∃ N, wdsN k = N := ⟨_, rfl⟩
  rw [hN] at HNW hwr HWF
  have hN32 : N ≤ 2 := by unfold wdsN at hN; omega
  have hN1 : 1 ≤ N := hwr.1
  have hkN : k ≤ 32 * N := hwr.2.2.1
  have HL := Lib.hid hl
  have HR := Lib.hid hr
  have HOK := Lib.hid hok
  clear hl hr hok hwr hKl hN
  go_enter Try.func7, Try.ntmps7
  go_upto_region 2 with fail
  clear hk hK
  go_upto_region 3 with (go_at_call 9; refine (HNW.out _).mono ?_; rintro e w1 ⟨gp, gc, gn, rfl, hp, hb, hgp, hgc, hgn⟩; have HP := Lib.hid hp; have HB := Lib.hid hb; clear hp hb)
  go_upto_region 5 with (go_at_call 23; refine (fills_any _).mono ?_; rintro e w2 ⟨rfl, hb⟩; have HP2 := Lib.hid (HP.out.below hb); have HB2 := Lib.hid (bthen HB.out hb); clear hb)
  have HC2 := Lib.hid (CoM.start (C := fun _ => ⟨0, 0, none, 0, 0, [], none⟩) (o := id) (S := fun _ => none) HP2.out HB2.out hgn)
  have HCN := Lib.hid (cnew_any HP2.out hN1 (by omega) 0)
  clear HP HB HNW
  go_upto_region 6 with (go_at_call 24; refine (HCN.out).mono ?_; rintro e w3 ⟨ga0, q0, hga0, hq0, _, rfl, hcs, hb3⟩; have HC3 := Lib.hid (HC2.out.add hb3 hga0 hcs (by omega)); clear hcs hb3)
  have HCN1 := Lib.hid (cnew_any HC3.out.po hN1 (by omega) 1)
  clear HC2 HCN HP2 HB2
  go_upto_region 7 with (go_at_call 24; refine (HCN1.out).mono ?_; rintro e w4 ⟨ga1, q1, hga1, hq1, _, rfl, hcs, hb4⟩; have HC4 := Lib.hid (HC3.out.add hb4 hga1 hcs (by omega)); clear hcs hb4)
  have HV0 := Lib.hid (show NnV w w4 gp gc gn N k ga0 ga1 0 0 none (newL k) (upS (upS (fun _ => ⟨0, 0, none, 0, 0, [], none⟩) 0 ⟨ga0, q0, none, 0, 0, [], none⟩) (0 + 1) ⟨ga1, q1, none, 0, 0, [], none⟩) (fun _ => none) (300 * (0 : Nat)) 0 0 from ⟨HC4.out.steps 3 o3 (fun j h => by unfold o3; split <;> omega), ⟨⟨[], OwK.nil _ _⟩, fun u hu g a b => by cases b⟩, rfl, rfl, Nat.le_refl _, rfl, Nat.le_refl _, HWF.out⟩)
  clear HC3 HC4 HCN1 HWF
  go_upto_region 8 with fail
  go_wp2
  go_loopw [12, 13, 14, 15] (fun s12 s13 s14 s15 wr => MkN w gp gc gn N k ga0 ga1 s12 s13 wr) (fun _ s13 _ _ _ => 9 - (intOf s13).toNat)
  case atStart => exact ⟨0, 0, 0, none, _, _, rfl, rfl, by omega, by omega, HV0.out⟩
  case round =>
    obtain ⟨i, nh, ch, Ah, l, C, rfl, rfl, hi, hnh, hV⟩ := hrel
    have HV := Lib.hid hV
    clear hV HV0
    by_cases hlt : i < 8
    · have d : decide ((i : Int) < 8) = true := decide_eq_true (by omega)
      have HFI := Lib.hid (HV.out.fillB hN1 (by omega))
      go_upto_region 12 with (first | (go_at_call 26; refine (HFI.out).mono ?_; rintro e w5 ⟨gt, q, rfl, l5, C5, hv5, _⟩; have HRU := Lib.hid (hv5.runB (g0 := ga1) (upS_same _ _ _) (by omega) (by omega) (by omega)); clear hv5) | (go_at_call 31; refine (HRU.out).mono ?_; rintro e w6 ⟨q6, l6, C6, rfl, hv6⟩; have HV6 := Lib.hid hv6; clear hv6))
      have HPO := Lib.hid (HV6.out.popB (by omega))
      go_upto_region 13 with (go_at_call 27; refine (HPO.out).mono ?_; rintro e w7 ⟨y7, ok7, C7, rfl, hv7, h70, h7n⟩; have HV7 := Lib.hid hv7; clear hv7)
      have hz6 := HV6.out.z1
      obtain ⟨w8, rfl⟩ : ∃ q, q = w7 := ⟨_, rfl⟩
      clear HRU HFI
      go_loopw [12, 14, 15] (fun s12 s14 s15 wr2 => DrN w gp gc gn N k ga0 ga1 l6 (upS (upS (fun _ => none) 2 (some (gt, q))) 2 none) (300 * (i : Nat) + 1 + 299) 0 (0 + 32 + 32) 1 (64 * i + 64) s12 s14 s15 wr2) (fun s12 _ _ _ => 64 * i + 64 - lenS s12)
      case atStart => exact ⟨nh, ch, Ah, C7, y7, ok7, rfl, rfl, rfl, HV7.out, h70, by omega⟩
      case round =>
        obtain ⟨nh2, ch2, Ah2, C2, y, ok, rfl, rfl, rfl, hv, h0, hT⟩ := hrel
        have HW := Lib.hid hv
        clear hv HV6 HV7 HPO
        cases ok with
        | true =>
          have hT2 : nh2 + (C2 1).n + 1 ≤ 64 * i + 64 := by simpa using hT
          obtain ⟨zs, hz⟩ := HW.out.ro.row
          have HZ := Lib.hid hz
          clear hz hT h0
          go_upto_region 14 with (at_builtin; refine wpList_addK rfl (.tmp 72) (.tmp 74) rfl rfl (HZ.out) HW.out.co.be.size y (by omega) _ rfl rfl ?_; intro A8 c8 w8 hI hK' ho; have HX8 := Lib.hid (HW.out.held hK' hI ho); have HPO8 := Lib.hid (HX8.out.popB (by omega)); clear hI hK' ho)
          go_wp2_with (go_at_call 27; refine (HPO8.out).mono ?_; rintro e w9 ⟨y9, ok9, C9, rfl, hv9, h90, h9n⟩; have HV9 := Lib.hid hv9; clear hv9)
          go_roundw
          case rel =>
            refine ⟨nh2 + 1, c8, A8, C9, y9, ok9, rfl, rfl, rfl, HV9.out, h90, ?_⟩
            generalize (if ok9 = true then 1 else 0) = z at *
            omega
          case measure => simp [lenS]; omega
        | false =>
          have hn0 : (C2 1).n = 0 := h0 rfl
          have hT2 : nh2 ≤ 64 * i + 64 := by have : nh2 + (C2 1).n + 0 ≤ 64 * i + 64 := by simpa using hT
                                             omega
          clear hT h0
          go_wp2
          go_roundw
          case rel =>
            refine ⟨i + 1, nh2, ch2, Ah2, l6, C2, rfl, by go_num, by omega, by omega, ?_⟩
            have h1 := HW.out.up (b' := 300 * ((i + 1 : Nat) : Int)) (za' := 0) (zb' := 64) (by omega) (by omega) (by omega)
            rw [show upS (upS (fun _ => none) 2 (some (gt, q))) 2 none = (fun _ => none : Nat → Sv) by rw [upS_up, none_up2]] at h1
            exact ⟨h1.co, h1.ro, h1.g0, h1.g1, h1.z0, h1.b0, by omega, h1.wf⟩
          case measure => simp [intOf]; omega
    · obtain rfl : i = 8 := by omega
      have d : decide (((8 : Nat) : Int) < 8) = false := rfl
      rw [show ((8 : Nat) : Int) = (8 : Int) from rfl]
      have d' : decide ((8 : Int) < 8) = false := rfl
      clear d
      go_upto_region 16 with fail
      have HV1 := Lib.hid (HV.out.up (b' := 2400 + ((0 : Nat) : Int)) (za' := 0) (zb' := 32 * 0) (by omega) (by omega) (by omega))
      clear HV
      go_upto_region 19 with fail
      go_wp2
      go_loopw [12, 16, 17, 18, 19, 20, 21] (fun s12 s16 s17 s18 s19 s20 s21 wr => NnR w gp gc gn N k ga0 ga1 len s12 s16 s17 s18 s19 s20 s21 wr) (fun _ _ _ _ _ _ s21 _ => 200 - (intOf s21).toNat)
      case atStart => exact ⟨0, nh, ch, Ah, l, C, _, _, _, rfl, rfl, rfl, rfl, rfl, by omega, by omega, by omega, HV1.out, .inl ⟨rfl, rfl, rfl, rfl⟩⟩
      case round =>
        obtain ⟨i, nh, ch, Ah, l, C, S, full, on, rfl, rfl, rfl, rfl, rfl, hi, hi2, hnh, hV, hPh⟩ := hrel
        have HV := Lib.hid hV
        have HPH := Lib.hid hPh
        clear hV hPh HV1
        by_cases hlt : i < len ∧ i < 200
        · have d1 : decide ((i : Int) < (len : Int)) = true := decide_eq_true (by omega)
          have d2 : decide ((i : Int) < 200) = true := decide_eq_true (by omega)
          have i1 : (i : Int) < (len : Int) := by omega
          obtain ⟨b, off, rfl, hbl, hc⟩ := HR.out (by rw [HL.out]; omega)
          have HA := Lib.hid ((hc i (by rw [HL.out]; exact hlt.1)).below HV.out.co.be hbl)
          have HXK := Lib.hid (HOK.out _ (show L.getD i a90 ∈ L by simp [List.getD, show i < L.length by rw [HL.out]; exact hlt.1]))
          obtain ⟨hl1, hl2⟩ := hlt
          clear hc
          generalize L.getD i a90 = x at *
          obtain ⟨xw, xk, xn⟩ := x
          unfold A9.cs at HA
          simp only at HA
          have HZ := Lib.hid (Blk.new wr 54 #[.int .i64 0, .int .i64 0, .int .i64 0])
          have hal := ball wr (.cells #[.int .i64 0, .int .i64 0, .int .i64 0] 54)
          have HAL := Lib.hid hal
          clear hal
          go_upto_region 22 with (first | ((with_reducible refine gd_ldt 54 88 ?_); refine wpList_ldc rfl 54 (.tmp 88) rfl _ rfl _ (HA.out) sA9n ?_) | ((with_reducible refine gd_st 54 22 ?_); refine wpList_st rfl 54 (.tmp 22) _ rfl _ _ rfl _ rfl (HZ.out) sA9n.2 (#[.int .i64 xw, .int .i64 xk, .int .i64 xn]) rfl (Nat.le_of_ble_eq_true rfl) rfl ?_; intro w4 hb4 hg4 hs4))
          have k1 : w4.cell? ⟨wr.heap.size, 1, none⟩ = some (.int .i64 xk) := hb4.cell 1
          have HB4 := Lib.hid hb4
          have HW4 := Lib.hid (bgrown HAL.out hg4 (Nat.le_refl _))
          clear hb4 hg4 hs4 HZ HAL HA
          have HV4 := Lib.hid (HV.out.below HW4.out)
          generalize wr.heap.size = g4 at *
          clear HV HW4 HXK
          obtain ⟨q2, hq2⟩ : ∃ q, (xk.tmod 2 == 0) = q := ⟨_, rfl⟩
          have k0 : w4.cell? ⟨g4, 0, none⟩ = some (.int .i64 xw) := HB4.out.cell 0
          have k2 : w4.cell? ⟨g4, 2, none⟩ = some (.int .i64 xn) := HB4.out.cell 2
          cases q2 with
          | true =>
            go_upto_block 6 with fail
            clear hq2
            go_cut [12, 18, 23, 24] from 94 to 135 (fun s12 s18 s23 s24 wx => MidB w gp gc gn N k ga0 ga1 i nh l S s12 s18 wx)
            case first =>
              obtain ⟨os, hos⟩ : ∃ o, S 2 = o := ⟨_, rfl⟩
              have HOS := Lib.hid hos
              rcases os with _ | ⟨gt, q⟩
              · rw [show sgV' (S 2) = .pointer none by rw [hos]; rfl]
                clear hos
                obtain ⟨q3, hq3⟩ : ∃ q, (xw.tmod 3 == 0) = q := ⟨_, rfl⟩
                obtain ⟨q1, hq1⟩ : ∃ q, (xw.tmod 3 == 1) = q := ⟨_, rfl⟩
                obtain ⟨qn, hqn⟩ : ∃ q, decide ((0 : Int) < (nh : Int)) = q := ⟨_, rfl⟩
                have hqn' : decide (0 < nh) = qn := by rw [← hqn]; congr 1; simp
                go_upto_region 29 with fail
                go_cut [110] from 111 to 119 (fun s110 wx => ∃ v : Bool, s110 = .bool v ∧ (v = true → 0 < nh) ∧ w4 = wx)
                case first =>
                  cases q3 with
                  | true =>
                    cases qn with
                    | true => go_wp2; go_meet; exact ⟨true, rfl, (fun _ => of_decide_eq_true hqn'), rfl⟩
                    | false => go_wp2; go_meet; exact ⟨false, rfl, (by simp), rfl⟩
                  | false => go_wp2; go_meet; exact ⟨false, rfl, (by simp), rfl⟩
                case rest =>
                obtain ⟨v, rfl, hv, rfl⟩ := hcut
                cases v with
                | true =>
                  have h0 : 0 < nh := hv rfl
                  obtain ⟨n1, rfl⟩ : ∃ n1, nh = n1 + 1 := ⟨nh - 1, by omega⟩
                  clear hv hqn hqn' hq3 hq1
                  obtain ⟨zs, hz⟩ := HV4.out.ro.row
                  obtain ⟨g, off, rfl, hch⟩ := hz.at h0
                  have hnc := hz.nc
                  rw [Nat.add_zero] at hch
                  generalize zs.getD 0 0 = y at *
                  have HPU := Lib.hid (HV4.out.putB HOS.out hN1 (by omega) hkN (by omega) y)
                  have i0 : (0 : Int) < (n1 : Int) + 1 := by omega
                  have i0' : (0 : Int) < ((n1 + 1 : Nat) : Int) := by omega
                  clear hz
                  go_upto_region 31 with (go_at_call 28; refine (HPU.out).mono ?_; rintro e w5 ⟨v, C5, rfl, hv5⟩; have HV5 := Lib.hid hv5.tail; clear hv5)
                  have HFL := Lib.hid (HV5.out.flushB hN1 (by omega) hkN (by omega))
                  have j1 : (1 : Int) ≤ (n1 : Int) + 1 := by omega
                  have j2 : n1 + 1 - 1 = n1 := by omega
                  by_cases hc1 : ch = 1
                  · obtain rfl : n1 = 0 := by omega
                    subst hc1
                    rw [if_pos rfl] at HFL
                    go_wp2_with (go_at_call 29; refine (HFL.out).mono ?_; rintro e w6 ⟨gt, q, rfl, hnb⟩; have HNB := Lib.hid hnb; clear hnb)
                    go_meet
                    exact ⟨0, 0, _, some (gt, q), rfl, rfl, by omega, HNB.out⟩
                  · rw [if_neg hc1] at HFL
                    go_wp2_with (go_at_call 29; refine (HFL.out).mono ?_; rintro e w6 ⟨gt, q, rfl, hnb⟩; have HNB := Lib.hid hnb; clear hnb)
                    go_meet
                    exact ⟨n1, ch - 1, _, some (gt, q), rfl, rfl, by omega, HNB.out⟩
                | false =>
                  clear hv hq3 hqn hqn'
                  cases q1 with
                  | true =>
                    have HFI := Lib.hid (HV4.out.fillB hN1 (by omega))
                    go_wp2_with (go_at_call 26; refine (HFI.out).mono ?_; rintro e w5 ⟨gt, q, rfl, hnb⟩; have HNB := Lib.hid hnb; clear hnb)
                    go_meet
                    exact ⟨nh, ch, Ah, some (gt, q), rfl, rfl, by omega, HNB.out⟩
                  | false =>
                    have HPO := Lib.hid (HV4.out.popB (by omega))
                    go_upto_region 24 with (go_at_call 27; refine (HPO.out).mono ?_; rintro e w5 ⟨y, ok, C5, rfl, hv5, _, _⟩; have HV5 := Lib.hid hv5; clear hv5)
                    have hS2 : upS S 2 none = S := by rw [← HOS.out]; exact upS_self S 2
                    cases ok with
                    | true =>
                      obtain ⟨zs, hz⟩ := HV5.out.ro.row
                      have HZ := Lib.hid hz
                      clear hz
                      go_wp2_with (at_builtin; refine wpList_addK rfl (.tmp 100) (.tmp 102) rfl rfl (HZ.out) HV5.out.co.be.size y (by omega) _ rfl rfl ?_; intro A8 c8 w8 hI hK' ho; have HX8 := Lib.hid (HV5.out.held hK' hI ho); clear hI hK' ho)
                      go_meet
                      exact ⟨nh + 1, c8, A8, none, rfl, rfl, by omega, l, C5, by rw [hS2]; exact HX8.out.up (by omega) (by omega) (by omega), ChP.refl _ _⟩
                    | false =>
                      go_wp2
                      go_meet
                      exact ⟨nh, ch, Ah, none, rfl, rfl, by omega, l, C5, by rw [hS2]; exact HV5.out.up (by omega) (by omega) (by omega), ChP.refl _ _⟩
              · rw [show sgV' (S 2) = .pointer (some ⟨gt, 0, none⟩) by rw [hos]; rfl]
                have HDO := Lib.hid (HV4.out.doB (g0 := ga1) hos (by omega) (by omega) (by omega))
                clear hos
                go_upto_if 109 with (go_at_call 25; refine (HDO.out).mono ?_; rintro e w5 ⟨dd, rfl, t, ht1, ht2, hnb⟩; have HNB := Lib.hid hnb; have HT1 := Lib.hid ht1; have HT2 := Lib.hid ht2; clear hnb ht1 ht2)
                cases dd with
                | true =>
                  obtain rfl := HT1.out rfl
                  go_wp2
                  go_meet
                  exact ⟨nh, ch, Ah, none, rfl, rfl, by omega, HNB.out⟩
                | false =>
                  have hT2 := Lib.hid (HT2.out rfl)
                  go_wp2
                  go_meet
                  exact ⟨nh, ch, Ah, t, rfl, by rw [hT2.out, HOS.out]; rfl, by omega, HNB.out⟩
            case rest =>
            obtain ⟨nh2, ch2, Ah2, t, rfl, rfl, hnh2, l2, C2, hv2, hch⟩ := hcut
            have HV5 := Lib.hid hv2
            have h35 := HPH.out.other (S2 := upS S 2 t) hch (by omega) (upS_ne _ _ (by decide)) (upS_ne _ _ (by decide))
            have HFE := Lib.hid (free_any hv2.co.po (by omega))
            clear hv2 hch HB4 HV4 k0 k2 HPH
            go_upto_region 35 with fail
            go_cut [19] from 136 to 149 (fun s19 wx => ∃ f : Bool, s19 = .bool f ∧ PhS N l2 (upS S 2 t) f on u16 u17 ∧ NnV w wx gp gc gn N k ga0 ga1 nh2 ch2 Ah2 l2 C2 (upS S 2 t) (2400 + (i : Int) + 1) 0 (32 * i + 32))
            case first =>
              rcases h35 with ⟨rfl, hp⟩ | ⟨gt, rfl, hp⟩
              · have HPP := Lib.hid hp
                clear hp
                cases full with
                | true => go_wp2; go_meet; exact ⟨true, rfl, HPP.out, HV5.out⟩
                | false => go_wp2; go_meet; exact ⟨false, rfl, HPP.out, HV5.out⟩
              · have HPP := Lib.hid hp
                clear hp
                cases full with
                | false => go_wp2; go_meet; exact ⟨false, rfl, HPP.out true (by simp), HV5.out⟩
                | true =>
                  cases on with
                  | true => go_wp2; go_meet; exact ⟨true, rfl, HPP.out true (by simp), HV5.out⟩
                  | false =>
                    go_wp2_with (go_at_call 16; refine (HFE.out).mono ?_; rintro e w7 ⟨A7, m7, c7, rfl, ho, hb⟩; have hm7 := Lib.hid ho.len; have HV7 := Lib.hid (HV5.out.below hb); clear ho hb)
                    go_meet
                    refine ⟨((m7 : Int) == 0), rfl, ?_, HV7.out⟩
                    have h1 := HPP.out ((m7 : Int) == 0) (fun q => HV5.out.fulz (by rw [hm7.out]; intro z; rw [z] at q; simp at q))
                    simpa using h1
            case rest =>
            obtain ⟨f, rfl, hp, hv⟩ := hcut
            have HP6 := Lib.hid hp
            have HV6 := Lib.hid hv
            clear hp hv h35 HFE HV5
            go_wp2
            go_roundw
            case rel => exact ⟨i + 1, nh2, ch2, Ah2, l2, C2, upS S 2 t, f, on, rfl, by rw [upS_same], rfl, rfl, by go_num, by omega, by omega, by omega, HV6.out.up (by omega) (by omega) (by omega), HP6.out⟩
            case measure => simp [intOf]; omega
          | false =>
            rcases HPH.out with ⟨rfl, rfl, hS0, hS1⟩ | ⟨gt, gs, t, rfl, rfl, hS0, hS1, htk, hrd, hP⟩ | ⟨g0, gt, gs, u, t, rfl, rfl, hS0, hS1, htk, hP⟩
            · have HFA := Lib.hid (HV4.out.fillA hN1 (by omega) hS1)
              clear HPH hS0 hS1
              go_wp2_with (go_at_call 26; refine (HFA.out).mono ?_; rintro e w5 ⟨gt, t, rfl, hv5, hp5⟩; have HV5 := Lib.hid hv5; have HP5 := Lib.hid hp5; clear hv5 hp5)
              go_roundw
              case rel => exact ⟨i + 1, nh, ch, Ah, l, C, upS S 0 t, full, on, rfl, by rw [upS_ne _ _ (by decide)], rfl, rfl, by go_num, by omega, by omega, by omega, HV5.out.up (by omega) (by omega) (by omega), HP5.out full on⟩
              case measure => simp [intOf]; omega
            · have HDO := Lib.hid (HV4.out.doOwn (g0 := ga0) hS0 hS1 htk hrd hP (by omega) (by omega))
              clear HPH hS0 hS1 htk hrd hP
              go_upto_if 184 with (go_at_call 25; refine (HDO.out).mono ?_; rintro e w5 ⟨dd, rfl, hf, ht⟩; have HF := Lib.hid hf; have HT := Lib.hid ht; clear hf ht)
              cases dd with
              | false =>
                obtain ⟨S2, hv, hs2, hp⟩ := HF.out rfl
                have HV5 := Lib.hid hv
                have HP5 := Lib.hid hp
                clear hv hp HF HT
                go_wp2
                go_roundw
                case rel => exact ⟨i + 1, nh, ch, Ah, l, C, S2, full, on, rfl, by rw [hs2], rfl, rfl, by go_num, by omega, by omega, by omega, HV5.out.up (by omega) (by omega) (by omega), HP5.out on⟩
                case measure => simp [intOf]; omega
              | true =>
                obtain ⟨l2, C2, S2, t2, hv, s0, s1, s2, hcs, hst, hno⟩ := HT.out rfl
                obtain ⟨no, hnq⟩ : ∃ q, t2.no = q := ⟨_, rfl⟩
                have HNO := Lib.hid (cnone_any hcs hst)
                rw [hnq] at HNO
                have HV5 := Lib.hid hv
                have HCS := Lib.hid hcs
                have HST := Lib.hid hst
                clear hv hcs hst HF HT HDO
                cases no with
                | true =>
                  obtain ⟨hz0, hno⟩ := hno hnq
                  have HNP := Lib.hid hno
                  have HV6 := Lib.hid (show NnV w w5 gp gc gn N k ga0 ga1 nh ch Ah l2 C2 S2 (2400 + (i : Int) + 1) 0 (32 * i) from ⟨HV5.out.co, HV5.out.ro, HV5.out.g0, HV5.out.g1, by omega, HV5.out.b0, HV5.out.z1, HV5.out.wf⟩)
                  have HAG := Lib.hid (HV6.out.again s0 (by omega) HCS.out HST.out hnq)
                  clear hno hz0
                  go_wp2_with (first | (go_at_call 33; refine (HNO.out).mono ?_; rintro e w6 ⟨rfl, rfl⟩) | (go_at_call 34; refine (HAG.out).mono ?_; rintro e w7 ⟨g2, t3, rfl, hv7, hb7, hp7⟩; have HV7 := Lib.hid hv7; have HP7 := Lib.hid hp7; have HFE := Lib.hid (free_any hv7.co.po (by omega)); clear hv7 hb7 hp7) | (go_at_call 16; refine (HFE.out).mono ?_; rintro e w8 ⟨A8, m8, c8, rfl, ho, hb⟩; have hm8 := Lib.hid ho.len; have HV8 := Lib.hid (HV7.out.below hb); clear ho hb))
                  go_roundw
                  case rel =>
                    refine ⟨i + 1, nh, ch, Ah, l2, C2, upS S2 1 t3, ((m8 : Int) == 0), false, rfl, by rw [upS_ne _ _ (by decide), s2], rfl, rfl, by go_num, by omega, by omega, by omega, HV8.out.up (by omega) (by omega) (by omega), HP7.out _ (HNP.out _ (fun q => HV8.out.fulz (by rw [hm8.out]; intro z; rw [z] at q; simp at q)))⟩
                  case measure => simp [intOf]; omega
                | false =>
                  clear hno
                  have hz5 := HV5.out.z0
                  have HPO := Lib.hid (HV5.out.popA (by omega))
                  go_upto_region 50 with (first | (go_at_call 33; refine (HNO.out).mono ?_; rintro e w6 ⟨rfl, rfl⟩) | (go_at_call 27; refine (HPO.out).mono ?_; rintro e w7 ⟨y7, ok7, C7, rfl, hv7, h70, h7n⟩; have HV7 := Lib.hid hv7; clear hv7))
                  clear HNO HCS HST HPO
                  go_loopw [12, 25, 26] (fun s12 s25 s26 wr2 => DrN w gp gc gn N k ga0 ga1 l2 S2 (2400 + (i : Int) + 1) 32 (32 * i) 0 (nh + 32) s12 s25 s26 wr2) (fun s12 _ _ _ => nh + 32 - lenS s12)
                  case atStart =>
                    refine ⟨nh, ch, Ah, C7, y7, ok7, rfl, rfl, rfl, HV7.out, h70, ?_⟩
                    generalize (if ok7 = true then 1 else 0) = z at *
                    omega
                  case round =>
                    obtain ⟨nh2, ch2, Ah2, C8, y, ok, rfl, rfl, rfl, hv, h0, hT⟩ := hrel
                    have HW := Lib.hid hv
                    clear hv HV7 HV5 HV4 HB4 k0 k2
                    cases ok with
                    | true =>
                      have hT2 : nh2 + (C8 0).n + 1 ≤ nh + 32 := by simpa using hT
                      obtain ⟨zs, hz⟩ := HW.out.ro.row
                      have HZ := Lib.hid hz
                      clear hz hT h0
                      go_upto_region 51 with (at_builtin; refine wpList_addK rfl (.tmp 208) (.tmp 210) rfl rfl (HZ.out) HW.out.co.be.size y (by omega) _ rfl rfl ?_; intro A8 c8 w8 hI hK' ho; have HX8 := Lib.hid (HW.out.held hK' hI ho); have HPO8 := Lib.hid (HX8.out.popA (by omega)); clear hI hK' ho)
                      go_wp2_with (go_at_call 27; refine (HPO8.out).mono ?_; rintro e w9 ⟨y9, ok9, C9, rfl, hv9, h90, h9n⟩; have HV9 := Lib.hid hv9; clear hv9)
                      go_roundw
                      case rel =>
                        refine ⟨nh2 + 1, c8, A8, C9, y9, ok9, rfl, rfl, rfl, HV9.out, h90, ?_⟩
                        generalize (if ok9 = true then 1 else 0) = z at *
                        omega
                      case measure => simp [lenS]; omega
                    | false =>
                      have hn0 : (C8 0).n = 0 := h0 rfl
                      have hT2 : nh2 ≤ nh + 32 := by have : nh2 + (C8 0).n + 0 ≤ nh + 32 := by simpa using hT
                                                     omega
                      clear hT h0
                      go_wp2
                      go_roundw
                      case rel =>
                        have h1 := HW.out.up (b' := 2400 + ((i + 1 : Nat) : Int)) (za' := 32) (zb' := 32 * (i + 1)) (by omega) (by omega) (by omega)
                        exact ⟨i + 1, nh2, ch2, Ah2, l2, C8, S2, full, on, rfl, by rw [s2], rfl, rfl, by go_num, by omega, by omega, by omega, ⟨h1.co, h1.ro, h1.g0, h1.g1, by omega, h1.b0, h1.z1, h1.wf⟩, .inl ⟨rfl, rfl, s0, s1⟩⟩
                      case measure => simp [intOf]; omega
            · have HDA := Lib.hid (HV4.out.doAgain (g0 := ga0) hS1 hS0 htk hP (by omega))
              obtain ⟨qw, hqw⟩ : ∃ q, (xw.tmod 2 == 0) = q := ⟨_, rfl⟩
              obtain ⟨qn, hqn⟩ : ∃ q, (xn.tmod 2 == 0) = q := ⟨_, rfl⟩
              go_upto_region 36 with fail
              go_cut [150] from 151 to 162 (fun s150 wx => ∃ v : Bool, s150 = .bool v ∧ (v = true → on = false) ∧ w4 = wx)
              case first =>
                cases on with
                | true => go_wp2; go_meet; exact ⟨false, rfl, (by simp), rfl⟩
                | false =>
                  cases qw with
                  | true => go_wp2; go_meet; exact ⟨true, rfl, (by simp), rfl⟩
                  | false => go_wp2; go_meet; exact ⟨false, rfl, (by simp), rfl⟩
              case rest =>
              obtain ⟨v, rfl, hv, rfl⟩ := hcut
              cases v with
              | true =>
                obtain rfl := hv rfl
                have HPH2 := Lib.hid (show PhS N l S full qn (.pointer (some ⟨g0, 0, none⟩)) (.pointer (some ⟨gt, 0, none⟩)) by
                  refine .inr (.inr ⟨g0, gt, gs, u, t, rfl, rfl, hS0, hS1, htk, ?_⟩)
                  cases qn with
                  | false => exact hP
                  | true =>
                    rcases hP with ⟨q, _⟩ | ⟨p1, p2, p3, p4, p5⟩
                    · cases q
                    · refine .inr ⟨p1, p2, p3, p4, ?_⟩
                      rcases p5 with ⟨q, _⟩ | ⟨u', q1, q2, q3, q4, _, q6⟩
                      · cases q
                      · exact .inr ⟨u', q1, q2, q3, q4, (fun q => by cases q), q6⟩)
                clear hP htk hS0 hS1 HDA hqw
                go_wp2
                go_roundw
                case rel => exact ⟨i + 1, nh, ch, Ah, l, C, S, full, qn, rfl, rfl, rfl, rfl, by go_num, by omega, by omega, by omega, HV4.out.up (by omega) (by omega) (by omega), HPH2.out⟩
                case measure => simp [intOf]; omega
              | false =>
                clear hv hqn hqw hP htk hS0 hS1 HPH
                go_upto_if 172 with (go_at_call 25; refine (HDA.out).mono ?_; rintro e w5 ⟨dd, rfl, hf, ht⟩; have HF := Lib.hid hf; have HT := Lib.hid ht; clear hf ht)
                cases dd with
                | false =>
                  obtain ⟨S2, hv, hs2, hp⟩ := HF.out rfl
                  have HV5 := Lib.hid hv
                  have HP5 := Lib.hid hp
                  clear hv hp HF HT
                  go_wp2
                  go_roundw
                  case rel => exact ⟨i + 1, nh, ch, Ah, l, C, S2, full, true, rfl, by rw [hs2], rfl, rfl, by go_num, by omega, by omega, by omega, HV5.out.up (by omega) (by omega) (by omega), HP5.out g0⟩
                  case measure => simp [intOf]; omega
                | true =>
                  obtain ⟨C2, S2, ca, u2, hv, s0, s1, s2, hcs, hst, hsm⟩ := HT.out rfl
                  obtain ⟨sm, hsq⟩ : ∃ q, u2.sm = q := ⟨_, rfl⟩
                  have HSM := Lib.hid (csame_any hcs hst)
                  rw [hsq] at HSM hsm
                  have HV5 := Lib.hid hv
                  clear hv hcs hst HF HT HDA
                  cases sm with
                  | true =>
                    obtain rfl := hsm rfl
                    go_wp2_with (go_at_call 32; refine (HSM.out).mono ?_; rintro e w6 ⟨rfl, rfl⟩)
                    go_roundw
                    case rel => exact ⟨i + 1, nh, ch, Ah, l, C2, S2, true, true, rfl, by rw [s2], rfl, rfl, by go_num, by omega, by omega, by omega, HV5.out.up (by omega) (by omega) (by omega), .inl ⟨rfl, rfl, s0, s1⟩⟩
                    case measure => simp [intOf]; omega
                  | false =>
                    clear hsm
                    go_wp2_with (go_at_call 32; refine (HSM.out).mono ?_; rintro e w6 ⟨rfl, rfl⟩)
                    go_roundw
                    case rel => exact ⟨i + 1, nh, ch, Ah, l, C2, S2, full, true, rfl, by rw [s2], rfl, rfl, by go_num, by omega, by omega, by omega, HV5.out.up (by omega) (by omega) (by omega), .inl ⟨rfl, rfl, s0, s1⟩⟩
                    case measure => simp [intOf]; omega
        · by_cases hli : i < len
          · obtain rfl : i = 200 := by omega
            have d1 : decide (((200 : Nat) : Int) < (len : Int)) = true := decide_eq_true (by omega)
            have d2 : decide ((200 : Int) < (len : Int)) = true := decide_eq_true (by omega)
            go_wp2
            go_ret
            exact ⟨rfl, HV.out.co.be⟩
          · have d1 : decide ((i : Int) < (len : Int)) = false := decide_eq_false (by omega)
            go_wp2
            go_ret
            exact ⟨rfl, HV.out.co.be⟩
end Go.Proofs.Ytmbceafeonjffaa
