/-
  CacheStacks: its walk. Conditions stand in each theorem.
-/
import Derived.Test.YtmbceafeonjffaaGT
import Derived.Deep.CutBlock
namespace Go.Proofs.Ytmbceafeonjffaa
open Go.RowKit Go.Deep Plain
set_option linter.unusedVariables false
set_option linter.unusedSimpArgs false
set_option maxRecDepth 100000
def StR (w0 : World) (ga gp gc gn N k len : Nat) (s10 s11 s12 : Value) (wr : World) : Prop :=
  ∃ (i home n c nm cm nh ch : Nat) (A Am Ah : Option Addr) (Z H l own : List Int), s10 = .slice Am nm cm ∧ s11 = .slice Ah nh ch ∧ s12 = .int .i64 i ∧ i ≤ len ∧ i ≤ 100 ∧ Z.length ≤ 16 ∧ StkV w0 wr ga gp gc gn N k home A n c Am nm cm Ah nh ch Z H l own
def StM (w0 : World) (ga gp gc gn N k : Nat) (s10 s11 : Value) (wr : World) : Prop :=
  ∃ (home n c nm cm nh ch : Nat) (A Am Ah : Option Addr) (Z H l own : List Int), s10 = .slice Am nm cm ∧ s11 = .slice Ah nh ch ∧ Z.length ≤ 16 ∧ StkV w0 wr ga gp gc gn N k home A n c Am nm cm Ah nh ch Z H l own
def StN (w0 : World) (ga gp gc gn N k : Nat) (Ah : Option Addr) (nh ch : Nat) (H : List Int) (s10 : Value) (wr : World) : Prop :=
  ∃ (home n c nm cm : Nat) (A Am : Option Addr) (Z l own : List Int), s10 = .slice Am nm cm ∧ Z.length ≤ 16 ∧ StkV w0 wr ga gp gc gn N k home A n c Am nm cm Ah nh ch Z H l own
set_option maxHeartbeats 8000000 in
theorem cst_walk (n : Int) (A : Option Addr) (len cap : Nat) (L : List Int) (w : World) (hl : L.length = len) (hlc : len ≤ cap) (hcm : cap ≤ maxLen) (hr : RdN .i64 w A L) :
    Calls Try.prog 8 #[.int .i64 n, .slice A len cap] w fun e w' => e = .returned (.bool true) ∧ Below w.heap.size w w' := by
  obtain ⟨K, hK, hKl⟩ := pickN n 100 (by omega) (by omega)
  have hKn : K < 100 := by omega
  have HNW := Lib.hid (fun W => pnew_any (40 + K) (by omega) (by omega) W)
  have hwr := wdsN_rng (40 + K) (by omega) (by omega)
  have HSP := Lib.hid (StkP.start (k := 40 + K) (by omega))
  obtain ⟨N, hN⟩ : ∃ N, wdsN (40 + K) = N := ⟨_, rfl⟩
  rw [hN] at HNW hwr HSP
  have hN32 : N ≤ 7 := by unfold wdsN at hN; omega
  have hN1 : 1 ≤ N := hwr.1
  have HSZ := Lib.hid (show 40 + K ≤ 32 * N by unfold wdsN at hN; omega)
  have HKC := Lib.hid (show ((40 + K : Nat) : Int) = 40 + (K : Int) by omega)
  rw [show ((40 + K : Nat) : Int) = 40 + (K : Int) by omega] at HNW
  have HL := Lib.hid hl
  have HR := Lib.hid hr
  clear hl hr hwr hKl hN
  go_enter Try.func8, Try.ntmps8
  go_upto_region 3 with (go_at_call 9; refine (HNW.out _).mono ?_; rintro e w1 ⟨gp, gc, gn, rfl, hp, hb, hgp, hgc, hgn⟩; have HP := Lib.hid hp; have HB := Lib.hid hb; have HCN := Lib.hid (cnew_any hp hN1 (by omega) 0); clear hp hb)
  go_upto_region 4 with (go_at_call 24; refine (HCN.out).mono ?_; rintro e w2 ⟨ga, q, hga, hq, hqx, rfl, hcs, hb2⟩; have HCS := Lib.hid hcs; have HB2 := Lib.hid (bthen HB.out hb2); have HP2 := Lib.hid (HP.out.below hb2); clear hcs hb2 hqx)
  go_upto_region 8 with (go_at_call 23; refine (fills_any _).mono ?_; rintro e w3 ⟨rfl, hb⟩; have HCS3 := Lib.hid ((HCS.out w.heap.size).below hb); have HP3 := Lib.hid (HP2.out.below hb); have HB3 := Lib.hid (bthen HB2.out hb); clear hb)
  have hg1 : w.heap.size ≤ w1.heap.size := HB.out.size
  have hvv := HP3.out
  rw [← HKC.out] at hvv
  have HV0 := Lib.hid (show StkV w w3 ga gp gc gn N (40 + K) q none 0 0 none 0 0 none 0 0 [] [] (newL (40 + K)) (List.replicate (40 + K) 0) from ⟨hvv, HCS3.out, OwJ.nil _ _, OwJ.nil _ _, HSP.out, (fun g e => (by cases e)), (fun g e => (by cases e)), (fun g e => (by cases e)), HB3.out, ⟨by omega, hgp, hgc, hgn⟩, by omega⟩)
  clear hvv HP HB HP2 HB2 HP3 HB3 HCS HCS3 HCN HNW HSP
  go_loopw [10, 11, 12] (fun s10 s11 s12 wr => StR w ga gp gc gn N (40 + K) len s10 s11 s12 wr) (fun _ _ s12 _ => 100 - (intOf s12).toNat)
  case atStart => exact ⟨0, q, 0, 0, 0, 0, 0, 0, none, none, none, [], [], _, _, rfl, rfl, rfl, by omega, by omega, by simp, HV0.out⟩
  case round =>
    obtain ⟨i, home, m, c, nm, cm, nh, ch, B, Am, Ah, Z, H, l, own, rfl, rfl, rfl, hi, hi2, hz, hV⟩ := hrel
    have HV := Lib.hid hV
    have HZ16 := Lib.hid hz
    clear hV HV0 hz
    by_cases hlt : i < len ∧ i < 100
    · obtain ⟨hl1, hl2⟩ := hlt
      have d1 : decide ((i : Int) < (len : Int)) = true := decide_eq_true (by omega)
      have d2 : decide ((i : Int) < 100) = true := decide_eq_true (by omega)
      have i1 : (i : Int) < (len : Int) := by omega
      have hhl : H.length = nh := HV.out.he.len
      have hzl : Z.length = m := HV.out.ca.row.len
      have hml : Z.length = nm := HV.out.mi.len
      have hnh : nh ≤ 140 := by have := HV.out.st.count HV.out.po.cl.u64 HSZ.out; omega
      obtain ⟨b, off, rfl, hbl, hc⟩ := HR.out.2 (by rw [HL.out]; omega)
      have hxc : wr.cell? ⟨b, off + i, none⟩ = some (.int .i64 (L.getD i 0)) := (HV.out.be.cell (p := ⟨b, off + i, none⟩) hbl).trans (hc i (by rw [HL.out]; exact hl1))
      clear hc
      generalize L.getD i 0 = x at *
      obtain ⟨p1, hp1⟩ : ∃ p1, (x.tmod 3 == 0) = p1 := ⟨_, rfl⟩
      obtain ⟨p2, hp2⟩ : ∃ p2, decide ((0 : Int) < (nh : Int)) = p2 := ⟨_, rfl⟩
      have hp3 : decide (0 < nh) = p2 := by rw [← hp2]; congr 1; simp
      go_upto_region 10 with fail
      go_cut [60] from 50 to 60 (fun s60 wx => ∃ v : Bool, s60 = .bool v ∧ (v = true → 0 < nh) ∧ wr = wx)
      case first =>
        cases p1 with
        | true =>
          cases p2 with
          | true =>
            go_wp2
            go_meet
            exact ⟨true, rfl, fun _ => of_decide_eq_true hp3, rfl⟩
          | false =>
            go_wp2
            go_meet
            exact ⟨false, rfl, (by simp), rfl⟩
        | false =>
          go_wp2
          go_meet
          exact ⟨false, rfl, (by simp), rfl⟩
      case rest =>
      obtain ⟨v, rfl, hv, rfl⟩ := hcut
      clear hxc hp1 hp2 hp3
      go_upto_if 60 with fail
      go_cut [10, 11, 13, 14] from 61 to 137 (fun s10 s11 s13 s14 wx => StM w ga gp gc gn N (40 + K) s10 s11 wx)
      case first =>
        cases v with
        | true =>
          have h0 : 0 < nh := hv rfl
          clear hv
          obtain ⟨mh, hmh⟩ : ∃ mh, nh = mh + 1 := ⟨nh - 1, by omega⟩
          obtain ⟨H', y, rfl, hl', hg', ht'⟩ := last_of hhl hmh
          obtain ⟨gh, rfl, hch⟩ := HV.out.he.at (i := mh) (by omega)
          rw [hg'] at hch
          have hhc := HV.out.he.nc
          have e1 : (nh : Int) - 1 = (mh : Int) := by omega
          have i2 : (mh : Int) < (nh : Int) := by omega
          have i3 : (mh : Int) ≤ (ch : Int) := by omega
          have i4 : mh ≤ ch := by omega
          have hm16 := HZ16.out
          have HMH := Lib.hid hmh
          have hmhn : mh < nh := by omega
          have hmb : mh ≤ 140 := by omega
          clear hg' hmh
          go_upto_region 12 with (at_builtin; refine wpList_addJ rfl (.tmp 61) (.tmp 68) rfl rfl (HV.out.mi) HV.out.be HV.out.be.size y (by omega) _ rfl rfl ?_; intro A2 c2 w2 hI hB hK' hown; have HX2 := Lib.hid (HV.out.x.miK hI hK' hown); clear hI hB hK' hown)
          obtain ⟨gh2, egh, hch2⟩ := HX2.out.he.at (i := mh) (by omega)
          injection egh with egh; injection egh with egh
          subst egh
          have hgd : (H' ++ [y]).getD mh 0 = y := by rw [← hl']; simp [List.getD]
          rw [hgd] at hch2
          have HPU := Lib.hid (put_any HX2.out.ca HX2.out.po hN1 (by omega) (by have := HSZ.out; omega) (by omega) HX2.out.be.size y)
          clear hgd hch
          have HST := Lib.hid HV.out.st
          clear HV
          go_upto_region 14 with (first | (go_at_call 28; refine (HPU.out).mono ?_; rintro e w5 hmv; obtain ⟨gt, rfl, hrun⟩ := stk_put (g0 := ga) HX2.out HST.out hN1 (by omega) HSZ.out (by omega) hmv; have HRU := Lib.hid hrun; clear hmv hrun) | (go_at_call 31; refine (HRU.out).mono ?_; rintro e w6 ⟨q6, q1, q2, rfl, l6, own6, A6, c6, n6, home6, Z6, hz6, hx6, hs6⟩; have dq : decide ((q6 : Int) < 0) = false := decide_eq_false (by omega); have HX6 := Lib.hid hx6; have HS6 := Lib.hid hs6; have HZ6 := Lib.hid hz6; clear hx6 hs6 hz6))
          have HX7 := Lib.hid (HX6.out.heLess (m := mh) (by omega))
          rw [ht'] at HX7
          clear HX6 HX2 HPU HRU hch2
          by_cases h16 : m + 1 ≤ 16
          · obtain rfl : Z6 = Z ++ [y] := by rw [HZ6.out, if_pos h16]
            have dm : decide ((16 : Int) < (nm : Int) + 1) = false := decide_eq_false (by omega)
            have dm' : decide (16 < nm + 1) = false := decide_eq_false (by omega)
            have hz7 : (Z ++ [y]).length ≤ 16 := by rw [List.length_append, hzl]; simpa using h16
            clear h16
            go_wp2
            go_meet
            exact ⟨home6, n6, c6, nm + 1, c2, mh, ch, A6, A2, _, Z ++ [y], H', l6, own6, rfl, rfl, hz7, HX7.out.v HS6.out⟩
          · obtain rfl : Z6 = (Z ++ [y]).drop 8 := by rw [HZ6.out, if_neg h16]
            obtain rfl : nm = 16 := by omega
            have dm : decide ((16 : Int) < ((16 : Nat) : Int) + 1) = true := rfl
            obtain ⟨g2, rfl, _⟩ := HX7.out.mi.at (i := 0) (by omega)
            have hc2 := HX7.out.mi.nc
            have hc8 : ¬ c2 = 8 := by omega
            have hc9 : 17 ≤ c2 := by omega
            have hc10 : c2 ≤ 9223372036854775807 := by have := hc2.2; unfold maxLen at this; omega
            have hal := ball w6 (.cells #[] 3)
            have HE := Lib.hid (own0J (Blk.new w6 3 #[]))
            have HRD : Hid (RdJ (w6.alloc (.cells #[] 3)) (some ⟨g2, 8, none⟩) 9 (c2 - 8) ((Z ++ [y]).drop 8)) := Lib.hid (by
              obtain ⟨B, hB, hr⟩ := (HX7.out.mi.rd.below hal).drop (i := 8) (by omega)
              rw [hB _ _ rfl] at hr
              simpa using hr)
            have HAL := Lib.hid hal
            have hz7 : ((Z ++ [y]).drop 8).length ≤ 16 := by rw [List.length_drop, List.length_append, hml]; simp
            clear hc2 hal h16
            go_upto_region 16 with fail
            go_wp2_with (at_builtin; refine wpList_joinJ rfl (.tmp 89) (.tmp 91) rfl rfl (HE.out) rfl (HRD.out) (Below.refl _ _) (by simp) (by omega) ?_; intro A8 c8 w8 hI8 hB8 hK8 hat8; have HX8 := Lib.hid (HX7.out.miNew2 (n' := 9) (M' := (Z ++ [y]).drop 8) (by simpa using hI8) HAL.out hK8); clear hI8 hB8 hK8 hat8)
            go_meet
            exact ⟨home6, n6, c6, 9, c8, mh, ch, A6, A8, _, _, H', l6, own6, rfl, rfl, hz7, HX8.out.v HS6.out⟩
        | false =>
          clear hv
          have HX := Lib.hid HV.out.x
          have HST := Lib.hid HV.out.st
          have HFI := Lib.hid (stk_fillAny (g0 := ga) HX.out HST.out hN1 (by omega) HSZ.out HZ16.out)
          clear HV
          obtain ⟨vb, hvb⟩ : ∃ vb, ((nm : Int) == 0) = vb := ⟨_, rfl⟩
          have hvb' : (nm == 0) = vb := by cases vb <;> simp at hvb ⊢ <;> omega
          go_upto_if 100 with (first | (go_at_call 26; refine (HFI.out).mono ?_; rintro e w5 ⟨gt, rfl, hrun⟩; have HRU := Lib.hid hrun; clear hrun) | (go_at_call 31; refine (HRU.out).mono ?_; rintro e w6 ⟨q6, q1, q2, rfl, l6, own6, A6, c6, n6, home6, Z6, hz6, hx6, hs6⟩; have dq : decide ((q6 : Int) < 0) = false := decide_eq_false (by omega); have HX6 := Lib.hid hx6; have HS6 := Lib.hid hs6; have HZ6 := Lib.hid hz6; clear hx6 hs6 hz6))
          have hz6 := HZ6.out.2
          have hl6 := HX6.out.ca.row.len
          have hnm16 : nm ≤ 16 := by have := HZ16.out; omega
          clear HX HST HFI HRU
          go_cut [10] from 101 to 104 (fun s10 wx => StN w ga gp gc gn N (40 + K) Ah nh ch H s10 wx)
          case first =>
            cases vb with
            | true =>
              obtain rfl : nm = 0 := by simpa using hvb'
              obtain rfl : Z = [] := List.length_eq_zero_iff.1 hml
              have HAL := Lib.hid (all_any HX6.out.ca (by omega))
              go_wp2_with (first | (go_at_call 35; refine (HAL.out).mono ?_; rintro e w7 ⟨A7, c7, rfl, hr7, hb7⟩; have HR7 := Lib.hid hr7; have HX7 := Lib.hid (HX6.out.below hb7); clear hr7 hb7) | (at_builtin; refine wpList_joinJ rfl (.tmp 101) (.tmp 103) rfl rfl (HX7.out.mi) rfl (HR7.out) HX7.out.be HX7.out.be.size (by omega) ?_; intro A8 c8 w8 hI8 hB8 hK8 hat8; have HX8 := Lib.hid (HX7.out.miK (A' := A8) (n' := n6) (c' := c8) (M' := Z6) (by simpa using hI8) hK8 (fun g hg => (by rw [own_any_len n6 c8 A8 (0 + n6) c8] at hg; rcases hat8 with q | q; exact .inl (by rw [← q]; exact hg); right; rw [hg] at q; injection q with q; omega))); clear hI8 hB8 hK8 hat8))
              go_meet
              exact ⟨home6, n6, c6, n6, c8, A6, A8, Z6, l6, own6, rfl, hz6, HX8.out.v HS6.out⟩
            | false =>
              have hm0 : nm ≠ 0 := by simpa using hvb'
              obtain rfl : Z6 = Z := HZ6.out.1 (by omega)
              go_wp2
              go_meet
              exact ⟨home6, n6, c6, nm, cm, A6, Am, _, l6, own6, rfl, hz6, HX6.out.v HS6.out⟩
          case rest =>
          obtain ⟨home7, n7, c7, nm7, cm7, A7, Am7, Z7, l7, own7, rfl, hz7, hV7⟩ := hcut
          have HV7 := Lib.hid hV7
          clear hV7 HX6 HS6 HZ6 hz6 hl6 hml hzl HZ16 hvb hvb'
          have hl7 : Z7.length = n7 := HV7.out.ca.row.len
          have hm7 : Z7.length = nm7 := HV7.out.mi.len
          have HPO := Lib.hid (pop_any HV7.out.ca (by omega))
          have HST7 := Lib.hid HV7.out.st
          by_cases hp : 0 < n7
          · obtain ⟨n8, hn8⟩ : ∃ n8, n7 = n8 + 1 := ⟨n7 - 1, by omega⟩
            obtain ⟨Z8, y, rfl, hl8, hg8, ht8⟩ := last_of hl7 hn8
            obtain ⟨g7, rfl, hc7⟩ := HV7.out.mi.at (i := n8) (by omega)
            rw [hg8] at hc7
            have e7 : topF (Z8 ++ [y]) = y := by unfold topF; rw [List.length_append, hl8]; exact hg8
            rw [e7, decide_eq_true hp, show n7 - 1 = n8 by omega, ht8] at HPO
            have hnm : nm7 = n8 + 1 := by omega
            subst hnm
            have dn : decide ((0 : Int) < ((n8 + 1 : Nat) : Int)) = true := decide_eq_true (by omega)
            have dn' : decide ((0 : Int) < (n8 : Int) + 1) = true := decide_eq_true (by omega)
            have e1 : ((n8 + 1 : Nat) : Int) - 1 = (n8 : Int) := by omega
            have e2 : (n8 : Int) + 1 - 1 = (n8 : Int) := by omega
            have i2 : (n8 : Int) < (n8 : Int) + 1 := by omega
            have hcm7 := HV7.out.mi.nc
            have i3 : (n8 : Int) ≤ (cm7 : Int) := by omega
            have i4 : n8 ≤ cm7 := by omega
            have hn8b : n8 ≤ 16 := by rw [List.length_append] at hz7; simp at hz7; omega
            have dne : (y != y) = false := by simp
            go_upto_region 22 with (go_at_call 27; refine (HPO.out).mono ?_; rintro e w8 ⟨rfl, hc8, hk8⟩; have HX8 := Lib.hid (HV7.out.x.pop (by rw [List.dropLast_concat]; exact hc8) hk8); rw [List.dropLast_concat] at HX8; clear hc8 hk8)
            obtain ⟨g8, eg8, hc8⟩ := HX8.out.mi.at (i := n8) (by omega)
            injection eg8 with eg8; injection eg8 with eg8
            subst eg8
            rw [hg8] at hc8
            clear HPO hc7 HV7
            go_upto_region 25 with fail
            have HY0 := Lib.hid (HX8.out.below (bdrew w8))
            have HY := Lib.hid ((HY0.out.below (ball w8.drew (.cells #[.int .i64 y] 3))).miLess (m := n8) (by omega))
            rw [show (Z8 ++ [y]).take n8 = Z8 from ht8] at HY
            have HBK := Lib.hid (Blk.new w8.drew 3 #[.int .i64 y])
            have hw8 : IntKind.i64.wrap (n8 : Int) = (n8 : Int) := by rw [IntKind.wrap_i64]; omega
            clear HX8 hc8
            go_region_law (refine step_addJ rfl (.tmp 134) (.tmp 136) rfl rfl (HY.out.he) HY.out.be.size y (by omega) rfl (HBK.out) ?_; intro A9 c9 w9 hI9 hK9 ho9; have HX9 := Lib.hid (HY.out.heK hI9 hK9 ho9); clear hI9 hK9 ho9)
            all_goals
              go_wp2
              go_meet
              exact ⟨home7, n8, c7, n8, cm7, nh + 1, c9, A7, _, A9, Z8, H ++ [y], l7, _, rfl, rfl, by omega, HX9.out.v HST7.out.pop⟩
          · obtain rfl : n7 = 0 := by omega
            obtain rfl : Z7 = [] := List.length_eq_zero_iff.1 hl7
            obtain rfl : nm7 = 0 := hm7.symm
            go_wp2_with (go_at_call 27; refine (HPO.out).mono ?_; rintro e w8 ⟨rfl, hc8, hk8⟩; have HX8 := Lib.hid (HV7.out.x.pop hc8 hk8); clear hc8 hk8)
            go_meet
            exact ⟨home7, 0, c7, 0, cm7, nh, ch, A7, _, Ah, [], H, l7, own7, rfl, rfl, by simp, HX8.out.v HST7.out⟩
      case rest =>
      clear HV HZ16 hzl hml hhl hnh
      obtain ⟨home2, m2, c2, nm2, cm2, nh2, ch2, B2, Am2, Ah2, Z2, H2, l2, own2, rfl, rfl, hz2, hV2⟩ := hcut
      have hl2 : Z2.length = m2 := hV2.ca.row.len
      have hm2 : Z2.length = nm2 := hV2.mi.len
      have hh2 : H2.length = nh2 := hV2.he.len
      obtain rfl : m2 = nm2 := by omega
      have hct := hV2.st.count hV2.po.cl.u64 HSZ.out
      have hnm2 : m2 ≤ 16 := by omega
      have hnh2 : nh2 ≤ 140 := by omega
      have dg : decide ((16 : Int) < (m2 : Int)) = false := decide_eq_false (by omega)
      have dg' : decide (16 < m2) = false := decide_eq_false (by omega)
      have HAL := Lib.hid (all_any hV2.ca (by omega))
      have HV2 := Lib.hid hV2
      have HCT := Lib.hid hct
      have HZ2 := Lib.hid hz2
      have HM2 := Lib.hid hm2
      have HH2 := Lib.hid hh2
      clear hV2 hct hz2 hl2 hm2 hh2
      go_wp2_with (first | (go_at_call 35; refine (HAL.out).mono ?_; rintro e w7 ⟨A7, c7, rfl, hr7, hb7⟩; have HV7 := Lib.hid (HV2.out.below hb7); have HLK := Lib.hid (alike_eq hr7 HV7.out.mi.rd (by omega)); clear hr7 hb7) | (go_at_call 36; refine (HLK.out).mono ?_; rintro e w9 ⟨rfl, q9, rfl⟩; have HV9 := Lib.hid (HV7.out.below (bdrewN _ q9)); have HFE := Lib.hid (free_any HV9.out.po (by omega))) | (go_at_call 16; refine (HFE.out).mono ?_; rintro e w10 ⟨A10, m10, c10, rfl, ho, hb⟩; have hm10 : m10 + m2 + nh2 = 40 + K := (by have h1 := ho.len; have h2 := HCT.out; have h3 := HM2.out; have h4 := HH2.out; omega); have hmb : m10 ≤ 140 := (by omega); have de : (((m10 : Int) + (m2 : Int) + (nh2 : Int)) != 40 + (K : Int)) = false := (by simp; omega); have HV10 := Lib.hid (HV9.out.below hb); have HLV := Lib.hid (leaving_none HV10.out.ca); clear ho hb hm10) | (go_at_call 37; refine (HLV.out).mono ?_; rintro e w11 ⟨rfl, rfl⟩))
      go_roundw
      case rel => exact ⟨i + 1, home2, m2, c2, m2, cm2, nh2, ch2, B2, Am2, Ah2, Z2, H2, l2, own2, rfl, rfl, by go_num, by omega, by omega, HZ2.out, HV10.out⟩
      case measure => simp [intOf]; omega
    · have hzl : Z.length = m := HV.out.ca.row.len
      have hm16 := HZ16.out
      have hhl : H.length = nh := HV.out.he.len
      have HFL := Lib.hid (flush_any HV.out.ca HV.out.po hN1 (by omega) (by have := HSZ.out; omega) (by omega))
      by_cases hli : i < len
      · obtain rfl : i = 100 := by omega
        have d1 : decide (((100 : Nat) : Int) < (len : Int)) = true := decide_eq_true (by omega)
        have d2 : decide ((100 : Int) < (len : Int)) = true := decide_eq_true (by omega)
        go_upto_region 28 with fail
        go_wp2_with (first | (go_at_call 29; refine (HFL.out).mono ?_; rintro e w5 hmv; obtain ⟨gt, rfl, hrun⟩ := stk_flush (g0 := ga) HV.out hN1 (by omega) HSZ.out (by omega) hmv; have HRU := Lib.hid hrun; clear hmv hrun) | (go_at_call 31; refine (HRU.out).mono ?_; rintro e w6 ⟨q6, q1, q2, rfl, l6, own6, A6, c6, home6, hp6, hc6, hst6, hb6⟩; have dq : decide ((0 : Int) < (q6 : Int)) = true := decide_eq_true (by omega); have dq' : decide (0 < q6) = true := decide_eq_true (by omega); have HCT := Lib.hid (hst6.count hp6.cl.u64 HSZ.out); have HAL := Lib.hid (all_any hc6 (by omega)); have HP6 := Lib.hid hp6; have HB6 := Lib.hid hb6; clear hp6 hc6 hst6 hb6) | (go_at_call 35; refine (HAL.out).mono ?_; rintro e w7 ⟨A7, c7, rfl, hr7, hb7⟩; have HFE := Lib.hid (free_any (HP6.out.below hb7) (by omega)); have HB7 := Lib.hid (bthen HB6.out hb7); clear hr7 hb7) | (go_at_call 16; refine (HFE.out).mono ?_; rintro e w8 ⟨A8, m8, c8, rfl, ho, hb⟩; have hm8 := ho.len; have hct := HCT.out; have de : ((m8 : Int) == wrap64 (40 + (K : Int) - (nh : Int))) = true := (by have hw : wrap64 (40 + (K : Int) - (nh : Int)) = 40 + (K : Int) - (nh : Int) := (by unfold wrap64; simp at hct; omega); rw [hw]; simp at hct ⊢; omega); have HB8 := Lib.hid (bthen HB7.out hb); clear ho hb hm8 hct))
        go_ret
        exact ⟨rfl, HB8.out⟩
      · have d1 : decide ((i : Int) < (len : Int)) = false := decide_eq_false (by omega)
        go_upto_region 28 with fail
        go_wp2_with (first | (go_at_call 29; refine (HFL.out).mono ?_; rintro e w5 hmv; obtain ⟨gt, rfl, hrun⟩ := stk_flush (g0 := ga) HV.out hN1 (by omega) HSZ.out (by omega) hmv; have HRU := Lib.hid hrun; clear hmv hrun) | (go_at_call 31; refine (HRU.out).mono ?_; rintro e w6 ⟨q6, q1, q2, rfl, l6, own6, A6, c6, home6, hp6, hc6, hst6, hb6⟩; have dq : decide ((0 : Int) < (q6 : Int)) = true := decide_eq_true (by omega); have dq' : decide (0 < q6) = true := decide_eq_true (by omega); have HCT := Lib.hid (hst6.count hp6.cl.u64 HSZ.out); have HAL := Lib.hid (all_any hc6 (by omega)); have HP6 := Lib.hid hp6; have HB6 := Lib.hid hb6; clear hp6 hc6 hst6 hb6) | (go_at_call 35; refine (HAL.out).mono ?_; rintro e w7 ⟨A7, c7, rfl, hr7, hb7⟩; have HFE := Lib.hid (free_any (HP6.out.below hb7) (by omega)); have HB7 := Lib.hid (bthen HB6.out hb7); clear hr7 hb7) | (go_at_call 16; refine (HFE.out).mono ?_; rintro e w8 ⟨A8, m8, c8, rfl, ho, hb⟩; have hm8 := ho.len; have hct := HCT.out; have de : ((m8 : Int) == wrap64 (40 + (K : Int) - (nh : Int))) = true := (by have hw : wrap64 (40 + (K : Int) - (nh : Int)) = 40 + (K : Int) - (nh : Int) := (by unfold wrap64; simp at hct; omega); rw [hw]; simp at hct ⊢; omega); have HB8 := Lib.hid (bthen HB7.out hb); clear ho hb hm8 hct))
        go_ret
        exact ⟨rfl, HB8.out⟩
end Go.Proofs.Ytmbceafeonjffaa
