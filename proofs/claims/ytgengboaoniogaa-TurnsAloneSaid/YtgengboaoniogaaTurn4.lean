/-
  Package turns: byPicks, Run, Rest. Conditions stand in each theorem.
-/
import Derived.Test.YtgengboaoniogaaTurn3
namespace Go.Proofs.Ytgengboaoniogaa
open Go.RowKit Plain
set_option linter.unusedVariables false
set_option maxRecDepth 100000

/-- who a pick is -/
def pk (m : Nat) (z : Int) : Nat := (wrap64 ((IntKind.u64.wrap z).tmod (m : Int))).toNat
theorem pk_eq (m : Nat) (z : Int) (h : 0 < m) (h2 : m ≤ 64) : wrap64 ((IntKind.u64.wrap z).tmod (m : Int)) = (pk m z : Int) ∧ pk m z < m := by
  obtain ⟨K, hK, hl⟩ := pickN z (m : Int) (by omega) (by omega)
  unfold pk
  rw [hK]
  exact ⟨by simp, by simp; omega⟩
theorem take_one' (zs : List Int) (k : Nat) (h : k < zs.length) : zs.take (k + 1) = zs.take k ++ [zs.getD k 0] := by
  rw [List.take_succ_eq_append_getElem h]; simp [List.getD, h]

section
variable {w0 w : World} {gc gn n gw m : Nat} {P : Nat → Value} {V : Nat → Option Addr × Nat × Nat} {os : Nat → List OpV} {s : TS} {ov : Value}

theorem tm_one {w w4 : World} {t : TS} {v v' : Value} (hM : TM w0 w gc gn n gw m P os t v) (hp : TP w0 gc gn gw m P V os) (i : Nat) (hpl : i < m) (hnx : t.D i < (os i).length)
    (hC : Cl w4 gc gn n (stL t.l ((os i).getD (t.D i) default) (t.K i))) (hW : Wks w4 gw m P (upd t.D i (t.D i + 1)) (upd t.K i (stK t.l ((os i).getD (t.D i) default) (t.K i)))) (hK : Keep [gn, gw] w0 w4)
    (how : w4.ownsRow w0.heap.size 35 3 v' (t.out.length + 1) (outC (t.out ++ [(i, t.D i, stG t.l ((os i).getD (t.D i) default) (t.K i))]))) : TM w0 w4 gc gn n gw m P os (one os t i) v' := by
  rw [one_yes os t i hnx]
  refine ⟨hC, hW, hK, fun j => ?_, ?_, ?_, fun j hj => ?_⟩
  · show U64 (upd t.K i _ j)
    by_cases e : j = i
    · subst e; rw [upd_same]; exact stK_u _ (fun i => hM.cl.u64 i) _ _ (hM.ku j) ((hp.rd j hpl).okAt hnx)
    · unfold upd; rw [if_neg e]; exact hM.ku j
  · rw [List.length_append]; exact how
  · have h1 := sumD_upd t.D i (t.D i + 1) m hpl
    have h2 := hM.ou
    show (t.out ++ _).length = sumD (upd t.D i (t.D i + 1)) m
    rw [List.length_append, List.length_singleton]; omega
  · show upd t.D i (t.D i + 1) j ≤ _
    by_cases e : j = i
    · subst e; rw [upd_same]; omega
    · unfold upd; rw [if_neg e]; exact hM.dl j hj

set_option maxHeartbeats 2000000 in
theorem byPicks_any (hp : TP w0 gc gn gw m P V os) (A : Option Addr) (np pc : Nat) (zs : List Int) (hz : zs.length = np) (hR : RdN .i64 w0 A zs) (hA : 0 < np → offB [gn, gw] A) (hnp : np ≤ pc) (hpc : pc ≤ maxLen) (hm0 : 0 < m)
    (hM : TM w0 w gc gn n gw m P os s (.slice none 0 0)) :
    Calls Try.prog 42 #[.pointer (some ⟨gc, 0, none⟩), .slice (some ⟨gw, 0, none⟩) m m, .slice A np pc] w fun e w' => ∃ A' c', e = .returned (.slice A' (many os s (zs.map (pk m))).out.length c') ∧ TM w0 w' gc gn n gw m P os (many os s (zs.map (pk m))) (.slice A' (many os s (zs.map (pk m))).out.length c') := by
  unfold maxLen at hpc
  have HP := Lib.hid hp
  have HR := Lib.hid hR
  have HA := Lib.hid hA
  have HZ := Lib.hid hz
  have HM := Lib.hid hM
  have hm64 := hp.m64
  clear hp hR hA hz hM
  have e0 : ((m : Int) == 0) = false := by rw [beq_eq_false_iff_ne]; omega
  go_enter Try.func42, Try.ntmps42
  go_wp2
  go_loopw [7, 16] (fun s7 s16 wr => ∃ (k c' : Nat) (A' : Option Addr) (t : TS), s7 = .slice A' t.out.length c' ∧ s16 = .int .i64 k ∧ k ≤ np ∧ t = many os s ((zs.take k).map (pk m)) ∧ TM w0 wr gc gn n gw m P os t (.slice A' t.out.length c')) (fun _ i _ => np - (intOf i).toNat)
  case atStart =>
    have h0 : s.out.length = 0 := by
      rcases HM.out.ow.2 with ⟨_, e⟩ | ⟨g, cap, cur, e, _⟩
      · exact e
      · cases e
    exact ⟨0, 0, none, s, by rw [h0], rfl, by omega, rfl, by rw [h0]; exact HM.out⟩
  case round =>
    obtain ⟨k, c', A', t, rfl, rfl, hk, ht, hM2⟩ := hrel
    have HT := Lib.hid ht
    have HM2 := Lib.hid hM2
    clear ht hM2 HM
    by_cases hlt : k < np
    · obtain ⟨b, off, rfl, hbl, hcell⟩ := HR.out.2 (by rw [HZ.out]; omega)
      have c0 := (HM2.out.kp.cell (p := ⟨b, off + k, none⟩) hbl (HA.out (by omega) b off rfl)).trans (hcell k (by rw [HZ.out]; exact hlt))
      obtain ⟨hpk, hpl⟩ := pk_eq m (zs.getD k 0) hm0 hm64
      have HS := Lib.hid (show many os s ((zs.take (k + 1)).map (pk m)) = one os t (pk m (zs.getD k 0)) by
        rw [take_one' zs k (by rw [HZ.out]; exact hlt), List.map_append, HT.out]; exact many_snoc _ _ _ _)
      clear hcell
      generalize zs.getD k 0 = z at *
      have i0 : (k : Int) < (np : Int) := by omega
      go_upto_region 8 with fail
      rw [hpk]
      clear hpk c0
      generalize pk m z = i at *
      have i1 : (i : Int) < (m : Int) := by omega
      have hPi := HP.out.pr i hpl
      obtain ⟨hln, hlm⟩ := HP.out.ln i hpl
      go_wp2_with fail
      refine (hasNext_any HM2.out.wk i hpl _ _ _ hPi).mono ?_
      rintro e w2 ⟨rfl, q, hw⟩
      have HM3 := Lib.hid (show TM w0 w2 gc gn n gw m P os t (.slice A' t.out.length c') by rw [hw]; exact HM2.out.drewN q)
      have HPI := Lib.hid hPi
      have HLN := Lib.hid hln
      clear hw HM2 hPi hln
      by_cases hnx : t.D i < (V i).2.1
      · have d1 : decide (t.D i < (V i).2.1) = true := by simpa using hnx
        have hyes := one_yes os t i (by rw [HLN.out]; exact hnx)
        have HY := Lib.hid hyes
        clear hyes
        go_wp2_with fail
        refine (turn_any HM3.out.cl HM3.out.wk i hpl _ _ _ HPI.out (os i) ((HP.out.rd i hpl).keep HM3.out.kp (HP.out.off i hpl)) HLN.out (t.D i) rfl (t.K i) rfl hnx hlm HP.out.n1 HP.out.n2 (HM3.out.ku i) (HP.out.off i hpl) (i : Int)).mono ?_
        rintro e w3 ⟨rfl, hC3, hW3, hK3⟩
        have l1 := HP.out.lg
        have l2 := HP.out.lw
        have HOW := Lib.hid (ownsRow_keep HM3.out.ow hK3 (by simp; omega))
        have HK3 := Lib.hid (HM3.out.kp.trans hK3)
        have HC3 := Lib.hid hC3
        have HW3 := Lib.hid hW3
        have hfew := HM3.out.few HP.out
        clear hC3 hW3 hK3 l1 l2
        obtain ⟨g, hg⟩ : ∃ g, g = stG t.l ((os i).getD (t.D i) default) (t.K i) := ⟨_, rfl⟩
        rw [← hg]
        have HG := Lib.hid hg
        clear hg
        go_wp2_with (at_builtin; refine wpList_done rfl (.tmp 31) (.tmp 38) rfl rfl HC3.out HW3.out HK3.out HOW.out HP.out (i, t.D i, g) _ rfl rfl hfew ?_)
        intro A2 c2 w4 how hC4 hW4 hK4
        have HM4 := Lib.hid (tm_one HM3.out HP.out i hpl (by rw [HLN.out]; exact hnx) hC4 hW4 hK4 (by rw [← HG.out]; exact how))
        have HL4 := Lib.hid (show (one os t i).out.length = t.out.length + 1 by rw [HY.out]; simp)
        clear how hC4 hW4 hK4
        go_wp2
        go_roundw
        case rel => exact ⟨k + 1, c2, A2, one os t i, by rw [HL4.out], by go_num, by omega, HS.out.symm, by rw [HL4.out]; exact HM4.out⟩
        case measure => simp [intOf]; omega
      · have d1 : decide (t.D i < (V i).2.1) = false := by simpa using hnx
        have HN := Lib.hid (one_no os t i (by rw [HLN.out]; exact hnx))
        go_wp2
        go_roundw
        case rel => exact ⟨k + 1, c', A', t, rfl, by go_num, by omega, by rw [HS.out, HN.out], HM3.out⟩
        case measure => simp [intOf]; omega
    · obtain rfl : k = np := by omega
      go_wp2
      go_ret
      have e : zs.take k = zs := List.take_of_length_le (by rw [HZ.out]; omega)
      have ht := HT.out
      rw [e] at ht
      rw [← ht]
      exact ⟨A', c', rfl, HM2.out⟩
end
end Go.Proofs.Ytgengboaoniogaa
