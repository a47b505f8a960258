/-
  EpochOne: of several Advances that go on at one time, from one epoch, just one wins. Conditions stand in each theorem.
-/
import Derived.Test.YtkiiofaemladcaaEpL
namespace Go.Proofs.Ytkiiofaemladcaa
open Go.RowKit Go.Deep Plain
set_option linter.unusedVariables false
set_option maxRecDepth 100000

/-- hidden from the walk -/
structure Kp (p : Prop) : Prop where
  out : p
theorem lt5_of {a t k : Nat} (h : a + t ≤ k + 1) : (t : Int) < (k : Int) + 5 := by omega
theorem less_of {a b t k : Nat} (h : a < b) (h' : b + t ≤ k + 1) : a + (t + 1) ≤ k + 1 := by omega
theorem le_of {a t k : Nat} (h : a + (t + 1) ≤ k + 1) : t ≤ k := by omega
/-- what holds within the two loops at the end -/
def InR (w : World) (ge gc gn gg gl k i c : Nat) (P : Nat → Option Nat) (t : Nat) (wt : World) : Prop :=
  ∃ (S' : Nat → Sv) (x : Nat), OneI k S' x ∧ EpB wt ge gc gn gg k (l1 k x) ∧ Sts wt gl gc k P S' ∧ Below w.heap.size w wt ∧ (∀ j, j < i → (S' j).nx = 0) ∧ CntW S' i c ∧ fu k (S' i) + t ≤ k + 1
def OutR (w : World) (ge gc gn gg gl k : Nat) (P : Nat → Option Nat) (i c : Nat) (wt : World) : Prop :=
  ∃ (S' : Nat → Sv) (x : Nat), i ≤ k ∧ c ≤ 1 ∧ OneI k S' x ∧ EpB wt ge gc gn gg k (l1 k x) ∧ Sts wt gl gc k P S' ∧ Below w.heap.size w wt ∧ (∀ j, j < i → (S' j).nx = 0) ∧ CntW S' i c
def MidR (w : World) (ge gc gn gg gl k nz : Nat) (P : Nat → Option Nat) (j : Nat) (wt : World) : Prop :=
  ∃ (S' : Nat → Sv) (x : Nat), j ≤ 200 ∧ j ≤ nz ∧ OneI k S' x ∧ EpB wt ge gc gn gg k (l1 k x) ∧ Sts wt gl gc k P S' ∧ Below w.heap.size w wt

set_option maxHeartbeats 80000000 in
theorem epochOne_walk (n0 : Int) (A : Option Addr) (nz cz : Nat) (zs : List Int) (w : World) (hz : zs.length = nz) (hnc : nz ≤ cz) (hm : cz ≤ maxLen) (hR : RdN .i64 w A zs) :
    Calls Try.prog 6 #[.int .i64 n0, .slice A nz cz] w fun e w' => e = .returned (.bool true) ∧ Below w.heap.size w w' := by
  have HM := Kp.mk hm
  unfold maxLen at hm
  have HZ := Kp.mk hz
  have HR := Kp.mk hR
  clear hz hR
  obtain ⟨K, hK, hKl⟩ := pickN n0 8 (by omega) (by omega)
  go_enter Try.func6, Try.ntmps6
  go_upto_region 2 with fail
  obtain ⟨n, hn⟩ : ∃ n : Nat, (n : Int) = 1 + (K : Int) := ⟨K + 1, by omega⟩
  rw [← hn]
  have hn1 : 1 ≤ n := by omega
  have hn2 : n ≤ 8 := by omega
  clear hK hn hKl
  go_upto_region 3 with (go_at_call 21; refine (eNew_any n hn1 (by omega) w).mono ?_; rintro e w1 ⟨ge, gc, gn, gg, rfl, he, hbg, hB, s1, s2, s3, s4⟩)
  have HE := Kp.mk he
  have HB := Kp.mk hB
  have z1 := hB.size
  clear he hbg hB
  go_upto_region 5 with (go_at_call 12; refine (moves_any _).mono ?_; rintro e w2 ⟨rfl, hb⟩)
  have HE2 := Kp.mk (HE.out.below hb)
  have HB2 := Kp.mk (HB.out.trans (hb.mono z1))
  have z2 := HB2.out.size
  clear HE HB hb z1
  have hmk := run_mkS n (by omega) w2
  go_upto_region 6 with fail
  clear hmk
  have er : (List.replicate n (Value.pointer none)).toArray = Array.replicate n (Value.pointer none) := by simp
  have HS3 := Kp.mk (Sts.made gc n w2 ⟨0, 0, 0, false⟩)
  have HE3 := Kp.mk (HE2.out.below (ball w2 (.cells (List.replicate n (Value.pointer none)).toArray 24)))
  have HB3 := Kp.mk (HB2.out.trans ((ball w2 (.cells (List.replicate n (Value.pointer none)).toArray 24)).mono z2))
  rw [er] at HS3 HE3 HB3
  clear HE2 HB2 er
  generalize w2.alloc (.cells (Array.replicate n (Value.pointer none)) 24) = w3 at *
  generalize w2.heap.size = gl at *
  go_wp2
  go_loopw [9] (fun s9 wr => ∃ (k : Nat) (P : Nat → Option Nat) (S : Nat → Sv), s9 = .int .i64 k ∧ k ≤ n ∧ EpB wr ge gc gn gg n (l1 n 0) ∧ Sts wr gl gc n P S ∧ Below w.heap.size w wr ∧ (∀ i, i < k → S i = ⟨5, 0, 1, false⟩ ∧ ∃ g, P i = some g) ∧ ∀ i g, P i = some g → w.heap.size ≤ g) (fun i _ => n - (intOf i).toNat)
  case atStart => exact ⟨0, _, _, rfl, by omega, HE3.out, HS3.out, HB3.out, (by omega), by simp⟩
  case round =>
    obtain ⟨k, P, S, rfl, hk, he, hs, hB, ha, hp⟩ := hrel
    have HE := Kp.mk he
    have HS := Kp.mk hs
    have HB := Kp.mk hB
    have HA := Kp.mk ha
    have HP := Kp.mk hp
    have z4 := hB.size
    clear he hs hB ha hp HE3 HS3 HB3
    by_cases hlt : k < n
    · have lg := HS.out.lt
      go_upto_region 10 with (go_at_call 26; refine (eAdvance_any HE.out).mono ?_; rintro e w4 ⟨rfl, hs4, hb4⟩; have c4 := (HS.out.below hb4).cell k hlt; have f4 := (HS.out.below hb4).free k)
      have HSA := Kp.mk (HS.out.below hb4)
      have hnew : ∀ j, j < n → P j ≠ some wr.heap.size := fun j hj hpj => by have := (HS.out.st j _ hj hpj).lt; omega
      have HS5 := Kp.mk (HSA.out.put1 hlt wr.heap.size (adv n 0 0) hs4 hnew)
      have HE5 := Kp.mk ((HE.out.below hb4).put HSA.out k (.pointer (some ⟨wr.heap.size, 0, none⟩)))
      have HB5 := Kp.mk ((HB.out.trans (hb4.mono z4)).setCell (p := ⟨gl, k, none⟩) z2 (.pointer (some ⟨wr.heap.size, 0, none⟩)))
      clear hs4 hb4 c4 f4 HSA hnew HE HS HB
      generalize w4.setCell ⟨gl, k, none⟩ (.pointer (some ⟨wr.heap.size, 0, none⟩)) = w5 at *
      generalize wr.heap.size = g at *
      have c5 := HS5.out.at1 hlt (upE_same _ _ _)
      have HST := Kp.mk (HS5.out.st k g hlt (upE_same _ _ _))
      rw [upE_same] at HST
      go_wp2_with (go_at_call 19; refine (adv_do HE5.out 0 HST.out rfl (fun j h1 _ => .inl (l1_at n 0 j h1)) (by omega)).mono ?_; rintro e w6 ⟨rfl, he6, hs6, hk6⟩)
      have HS6 := Kp.mk (HS5.out.did HE5.out hlt (upE_same _ _ _) hk6 hs6)
      have HB6 := Kp.mk (hk6.two HB5.out (Nat.le_refl _) s3 z4)
      go_roundw
      case rel =>
        refine ⟨k + 1, _, _, by go_num, by omega, he6, HS6.out, HB6.out, fun i hi => ?_, fun i b hb => ?_⟩
        · by_cases e : i = k
          · subst e
            rw [upE_same, upE_same]
            refine ⟨?_, g, rfl⟩
            unfold adv; rw [if_neg (by omega), if_pos (by omega)]
          · rw [upE_ne _ _ e, upE_ne _ _ e, upE_ne _ _ e]; exact HA.out i (by omega)
        · by_cases e : i = k
          · subst e; rw [upE_same] at hb; injection hb with hb; omega
          · rw [upE_ne _ _ e] at hb; exact HP.out i b hb
      case measure => simp [intOf]; omega
    · obtain rfl : k = n := by omega
      have HON := Kp.mk (show OneI k S 0 from ⟨fun i hi => by rw [(HA.out i hi).1]; exact ⟨rfl, .inl ⟨rfl, Nat.le_refl 1, hn1, rfl⟩⟩, .inl ⟨rfl, fun i hi => by rw [(HA.out i hi).1]; simp⟩⟩)
      have HPS := Kp.mk (fun i (hi : i < k) => (HA.out i hi).2)
      clear HA z4
      go_wp2
      go_loopw [10] (fun s10 wr => ∃ j : Nat, s10 = .int .i64 j ∧ MidR w ge gc gn gg gl k nz P j wr) (fun i _ => 200 - (intOf i).toNat)
      case atStart => exact ⟨0, rfl, S, 0, by omega, by omega, HON.out, HE.out, HS.out, HB.out⟩
      case round =>
        obtain ⟨j, rfl, S2, x, hj, hjz, ho, he, hs, hB⟩ := hrel
        have HO := Kp.mk ho
        have HE := Kp.mk he
        have HS := Kp.mk hs
        have HB := Kp.mk hB
        have z5 := hB.size
        clear ho he hs hB HON
        by_cases hlt2 : j < nz ∧ j < 200
        · obtain ⟨hl1, hl2⟩ := hlt2
          obtain ⟨bk, off, rfl, hbl, hcell⟩ := HR.out.2 (by rw [HZ.out]; omega)
          have cj := (HB.out.cell (p := ⟨bk, off + j, none⟩) hbl).trans (hcell j (by rw [HZ.out]; exact hl1))
          clear hcell
          generalize zs.getD j 0 = pk at *
          obtain ⟨K, hK, hKl⟩ := pickN pk k (by omega) (by omega)
          have hKn : K < k := by omega
          obtain ⟨g, hg⟩ := HPS.out K hKn
          have hgB := HP.out K g hg
          have cg := HS.out.at1 hKn hg
          obtain ⟨x', s', hst, hone, hfu, hpos⟩ := one_step hn1 HO.out hKn
          have hd := stp_t HE.out (HS.out.st K g hKn hg) (HO.out.1 K hKn).ok
          rw [hst] at hd
          have HD := Kp.mk hd
          have HON := Kp.mk hone
          clear hd hone hfu hpos hst
          go_wp2_with (go_at_call 19; refine (HD.out).mono ?_; rintro e w6 ⟨rfl, he6, hs6, hk6⟩)
          have HS6 := Kp.mk (HS.out.did HE.out hKn hg hk6 hs6)
          have HB6 := Kp.mk (hk6.two HB.out (Nat.le_refl _) s3 hgB)
          go_roundw
          case rel => exact ⟨j + 1, by go_num, _, x', by omega, by omega, HON.out, he6, HS6.out, HB6.out⟩
          case measure => simp [intOf]; omega
        · go_upto_region 13 with fail
          go_cut [55] (fun s55 wx => s55 = .bool false ∧ wx = wr)
          case first =>
            go_wp2
            all_goals (go_meet; exact ⟨by first | rfl | (simp; omega), rfl⟩)
          case rest =>
            obtain ⟨rfl, rfl⟩ := hcut
            go_wp2
            go_loopw [11, 12] (fun s11 s12 wr => ∃ i c : Nat, s11 = .int .i64 c ∧ s12 = .int .i64 i ∧ OutR w ge gc gn gg gl k P i c wr) (fun _ i _ => k - (intOf i).toNat)
            case atStart => exact ⟨0, 0, rfl, rfl, S2, x, by omega, by omega, HO.out, HE.out, HS.out, HB.out, by omega, .inr ⟨rfl, by omega⟩⟩
            case round =>
              obtain ⟨i, c, rfl, rfl, S3, x3, hi, hc1, ho, he, hs, hB, hdn, hcw⟩ := hrel
              have HO := Kp.mk ho
              have HE := Kp.mk he
              have HS := Kp.mk hs
              have HB := Kp.mk hB
              have HD := Kp.mk hdn
              have HC := Kp.mk hcw
              have z6 := hB.size
              clear ho he hs hB hdn hcw
              by_cases hik : i < k
              · obtain ⟨g, hg⟩ := HPS.out i hik
                have hgB := HP.out i g hg
                have dik : decide ((i : Int) < (k : Int)) = true := decide_eq_true (by omega)
                go_wp2
                go_loopw [13] (fun s13 wt => ∃ t : Nat, s13 = .int .i64 t ∧ InR w ge gc gn gg gl k i c P t wt) (fun t _ => k + 2 - (intOf t).toNat)
                case atStart => exact ⟨0, rfl, S3, x3, HO.out, HE.out, HS.out, HB.out, HD.out, HC.out, fine_fu (HO.out.1 i hik)⟩
                case round =>
                  obtain ⟨t, rfl, S4, x4, ho, he, hs, hB, hdn, hcw, hft⟩ := hrel
                  have HS := Kp.mk hs
                  have HE := Kp.mk he
                  have HB := Kp.mk hB
                  have cg := hs.at1 hik hg
                  obtain ⟨x', s', hst, hone, hfu, hpos⟩ := one_step hn1 ho hik
                  have hd := stp_t he (hs.st i g hik hg) (ho.1 i hik).ok
                  rw [hst] at hd
                  have hdn' : ∀ j, j < i → (upE S4 i s' j).nx = 0 := fun j hj => by rw [upE_ne _ _ (by omega)]; exact hdn j hj
                  have HDN := Kp.mk hdn'
                  have HCN := Kp.mk (hcw.at s')
                  have HON := Kp.mk hone
                  have HFU := Kp.mk hfu
                  have HPO := Kp.mk hpos
                  have HFT := Kp.mk hft
                  have t5 := lt5_of hft
                  have k3 : k ≤ 8 := hn2
                  by_cases hs0 : s'.nx = 0
                  · have e0 : (s'.nx == 0) = true := by simpa using hs0
                    simp only [e0] at hd
                    have HDO := Kp.mk hd
                    clear hst hone hfu hpos hdn hcw hdn' ho he hs hB hft e0 hd
                    go_upto_region 23 with (go_at_call 19; refine (HDO.out).mono ?_; rintro e w6 ⟨rfl, he6, hs6, hk6⟩)
                    have HS6 := Kp.mk (HS.out.did HE.out hik hg hk6 hs6)
                    have HB6 := Kp.mk (hk6.two HB.out (Nat.le_refl _) s3 hgB)
                    have HE6 := Kp.mk he6
                    have c6 := HS6.out.at1 hik hg
                    have hwn : Calls Try.prog 20 #[.pointer (some ⟨g, 0, none⟩)] w6 fun e w' => e = .returned (.bool s'.won) ∧ w6 = w' := eWon_any hs6
                    have HD6 := Kp.mk (show ∀ j, j < i + 1 → (upE S4 i s' j).nx = 0 from fun j hj => by
                      by_cases e : j = i
                      · subst e; rw [upE_same]; exact hs0
                      · exact HDN.out j (by omega))
                    by_cases hw : s'.won = true
                    · rw [hw] at hwn
                      have HW := Kp.mk hwn
                      obtain ⟨hc0, hcw'⟩ := HCN.out.yes HON.out hik (by rw [upE_same]; exact hw)
                      have HC6 := Kp.mk hcw'
                      subst hc0
                      clear hwn hcw' he6 hs6 hk6 HS HE HB cg
                      go_wp2_with (go_at_call 20; refine (HW.out).mono ?_; rintro e w7 ⟨rfl, rfl⟩)
                      go_roundw
                      case rel => exact ⟨i + 1, 1, by go_num, by go_num, _, x', by omega, by omega, HON.out, HE6.out, HS6.out, HB6.out, HD6.out, HC6.out⟩
                      case measure => simp [intOf]; omega
                    · have hw' : s'.won = false := by simpa using hw
                      rw [hw'] at hwn
                      have HW := Kp.mk hwn
                      have HC6 := Kp.mk (HCN.out.no (by rw [upE_same]; exact hw'))
                      clear hwn he6 hs6 hk6 HS HE HB cg
                      go_wp2_with (go_at_call 20; refine (HW.out).mono ?_; rintro e w7 ⟨rfl, rfl⟩)
                      go_roundw
                      case rel => exact ⟨i + 1, c, by go_num, by go_num, _, x', by omega, by omega, HON.out, HE6.out, HS6.out, HB6.out, HD6.out, HC6.out⟩
                      case measure => simp [intOf]; omega
                  · have e0 : (s'.nx == 0) = false := by simpa using hs0
                    simp only [e0] at hd
                    have HDO := Kp.mk hd
                    have hf' : fu k s' + (t + 1) ≤ k + 1 := by
                      rcases hfu with h | h
                      · exact less_of h hft
                      · exact absurd h.2 hs0
                    have HF := Kp.mk hf'
                    have tk : t ≤ k := le_of hf'
                    clear hst hone hfu hpos hdn hcw hdn' ho he hs hB hft e0 hd hf'
                    go_wp2_with (go_at_call 19; refine (HDO.out).mono ?_; rintro e w6 ⟨rfl, he6, hs6, hk6⟩)
                    have HS6 := Kp.mk (HS.out.did HE.out hik hg hk6 hs6)
                    have HB6 := Kp.mk (hk6.two HB.out (Nat.le_refl _) s3 hgB)
                    go_roundw
                    case rel => exact ⟨t + 1, by go_num, _, x', HON.out, he6, HS6.out, HB6.out, HDN.out, HCN.out, by rw [upE_same]; exact HF.out⟩
                    case measure => simp [intOf]; omega
              · obtain rfl : i = k := by omega
                obtain ⟨rfl, rfl⟩ := HC.out.end HO.out hn1 HD.out
                go_wp2_with (go_at_call 13; refine (eNow_any HE.out 1 rfl (by omega)).mono ?_; rintro e w6 ⟨rfl, rfl⟩)
                go_ret
                exact ⟨rfl, HB.out⟩
end Go.Proofs.Ytkiiofaemladcaa
