/-
  The document's Width of a row of events. Conditions stand in each theorem.
-/
import Derived.Test.YtbnlpidhbilenaaHr
import Derived.Test.YtbnlpidhbilenaaH4
import Derived.BigQuiet
namespace Go.Proofs.Ytbnlpidhbilenaa
open Go.RowKit Plain
set_option linter.unusedVariables false
set_option linter.unusedSimpArgs false
set_option maxRecDepth 100000
def wiM (L : List En) (i : Nat) : Nat := mx (((L.map En.t3).take i).map fun p => cnt p.1 (L.map En.t3))
def wiC (L : List En) (v : Int) (k : Nat) : Nat := cnt v ((L.map En.t3).take k)
theorem wiM_succ (L : List En) (i : Nat) (hi : i < L.length) : wiM L (i + 1) = max (wiM L i) (wiC L (L.getD i en0).b L.length) := by
  unfold wiM wiC
  have e : (L.map En.t3).take L.length = L.map En.t3 := List.take_of_length_le (by simp)
  rw [List.take_succ_eq_append_getElem (by simpa using hi), List.map_append, List.map_cons, List.map_nil, mx_snoc, e]
  simp [List.getD, hi, En.t3]
theorem wiM_all (L : List En) : wiM L L.length = wid (L.map En.t3) := by
  unfold wiM wid
  rw [List.take_of_length_le (by simp)]
theorem wiC_succ (L : List En) (v : Int) (k : Nat) (hk : k < L.length) : wiC L v (k + 1) = wiC L v k + (if liv v (L.getD k en0).t3 = true then 1 else 0) := by
  unfold wiC cnt
  rw [List.take_succ_eq_append_getElem (by simpa using hk), List.filter_append, List.length_append]
  congr 1
  have e : (L.map En.t3)[k]'(by simpa using hk) = (L.getD k en0).t3 := by simp [List.getD, hk]
  rw [e]
  by_cases h : liv v (L.getD k en0).t3 = true
  · rw [List.filter_cons_of_pos h, if_pos h]; rfl
  · rw [List.filter_cons_of_neg h, if_neg h]; rfl
theorem wiC_zero (L : List En) (v : Int) : wiC L v 0 = 0 := rfl
theorem wiC_le (L : List En) (v : Int) (k : Nat) : wiC L v k ≤ k := by
  unfold wiC cnt
  exact Nat.le_trans (List.length_filter_le _ _) (by rw [List.length_take]; omega)
set_option maxHeartbeats 4000000 in
theorem rwidth18_any (A : Option Addr) (n c : Nat) (L : List En) (w : World) (hn : L.length = n) (hl : n ≤ 1000000) (hR : RdE w A L) :
    Calls Try.prog 21 #[.slice A n c] w fun e w' => e = .returned (.int .i64 (widR L)) ∧ Below w.heap.size w w' := by
  have HRi := Lib.hid (rright18_any A n c L w hn (by omega) hR)
  have Hn := Lib.hid hn
  have HR := Lib.hid hR
  clear hn hR
  by_cases hr : rgt (L.map En.t3) = false
  · have HE := Lib.hid (show widR L = 0 by unfold widR; rw [hr]; rfl)
    have HRi := Lib.hid (show Calls Try.prog 25 #[.slice A n c] w fun e w' => e = .returned (.bool false) ∧ Below w.heap.size w w' by have := HRi.out; rw [hr] at this; exact this)
    clear hr
    go_enter Try.func21, Try.ntmps21
    go_wp2_with (go_at_call 25; refine (HRi.out).mono ?_; rintro ee w1 ⟨rfl, hb⟩)
    go_ret
    exact ⟨by rw [HE.out]; rfl, hb⟩
  have hrt : rgt (L.map En.t3) = true := by simpa using hr
  have HE := Lib.hid (show widR L = wiM L n by unfold widR; rw [if_pos hrt, ← Hn.out, wiM_all])
  have HRi := Lib.hid (show Calls Try.prog 25 #[.slice A n c] w fun e w' => e = .returned (.bool true) ∧ Below w.heap.size w w' by have := HRi.out; rw [hrt] at this; exact this)
  clear hr hrt
  go_enter Try.func21, Try.ntmps21
  go_wp2_with (go_at_call 25; refine (HRi.out).mono ?_; rintro ee w1 ⟨rfl, hb⟩)
  go_loopw [3, 4] (fun s3 s4 wr => ∃ i M : Nat, i ≤ n ∧ s4 = .int .i64 i ∧ s3 = .int .i64 M ∧ M = wiM L i ∧ Below w.heap.size w wr) (fun _ s4 _ => n - (intOf s4).toNat)
  case atStart => exact ⟨0, 0, Nat.zero_le _, rfl, rfl, rfl, hb⟩
  case round =>
    obtain ⟨i, M, hi, rfl, rfl, hM, hb2⟩ := hrel
    have HM := Lib.hid hM
    have HB := Lib.hid hb2
    clear hM hb2
    by_cases hlt : i < n
    · have hbi : decide ((i : Int) < (n : Int)) = true := decide_eq_true (by omega)
      obtain ⟨g, off, rfl, hg, hc⟩ := HR.out (by have := Hn.out; omega)
      have HC := Lib.hid hc
      have HMs := Lib.hid (wiM_succ L i (by have := Hn.out; omega))
      have HA := ((hc i (by have := Hn.out; omega)) 0 _ rfl)
      obtain ⟨v, hv⟩ : ∃ v, v = (L.getD i en0).b := ⟨_, rfl⟩
      rw [← hv] at HMs HA
      have HAi := Lib.hid (show w.cell? ⟨g, off + i * 11, none⟩ = some (.int .i64 v) by simpa [addr_add] using HA)
      clear HA hc hv
      go_wp2
      go_loopw [5, 6] (fun s5 s6 wx => ∃ k q : Nat, k ≤ n ∧ s6 = .int .i64 k ∧ s5 = .int .i64 q ∧ q = wiC L v k ∧ Below w.heap.size w wx) (fun _ s6 _ => n - (intOf s6).toNat)
      case atStart => exact ⟨0, 0, Nat.zero_le _, rfl, rfl, rfl, HB.out⟩
      case round =>
        obtain ⟨k, q, hk, rfl, rfl, hq, hb3⟩ := hrel
        have HQ := Lib.hid hq
        have HB3 := Lib.hid hb3
        have hqk : q ≤ k := by rw [hq]; exact wiC_le L v k
        clear hq hb3
        by_cases hkt : k < n
        · have hbk : decide ((k : Int) < (n : Int)) = true := decide_eq_true (by omega)
          have i0 : (0 : Int) ≤ (k : Int) := by omega
          have i1 : (k : Int) < (n : Int) := by omega
          have i2 : (0 : Int) ≤ (i : Int) := by omega
          have i3 : (i : Int) < (n : Int) := by omega
          have HCs := Lib.hid (wiC_succ L v k (by have := Hn.out; omega))
          have HK := (HC.out k (by have := Hn.out; omega)).below HB3.out hg
          have ki := (HB3.out.cell (p := ⟨g, off + i * 11, none⟩) hg).trans HAi.out
          generalize L.getD k en0 = x at *
          obtain ⟨b, e, ends, out, fA, fn, fc, tick, port, aA, an, ac, err, pr, po⟩ := x
          have HK0 := HK 0 _ rfl
          have HK1 := HK 1 _ rfl
          have k0 : wr.cell? ⟨g, off + k * 11, none⟩ = some (.int .i64 b) := by simpa [addr_add] using HK0
          have k1 : wr.cell? ⟨g, off + k * 11 + 1, none⟩ = some (.int .i64 e) := by simpa [addr_add] using HK1
          clear HK HK0 HK1
          by_cases h1 : b ≤ v
          · have b1 : decide (b ≤ v) = true := decide_eq_true h1
            by_cases h2 : e = -1
            · subst h2
              have b2 : ((-1 : Int) == -1) = true := by decide
              have HF := Lib.hid (show liv v (b, -1, ends) = true by unfold liv; simp [h1])
              clear h1
              go_upto_region 11 with fail
              go_quiet (fail)
              have HW := bthen HB3.out (bdrewN wr nq)
              go_wp2
              go_roundw
              case rel => exact ⟨k + 1, q + 1, by omega, by go_num, by go_num, by rw [HCs.out, ← HQ.out]; rw [show (En.mk b (-1) ends out fA fn fc tick port aA an ac err pr po).t3 = (b, (-1), ends) from rfl, HF.out]; rfl, HW⟩
              case measure => simp [intOf]; omega
            · have b2 : (e == -1) = false := by simp [h2]
              by_cases h3 : v < e
              · have b3 : decide (v < e) = true := decide_eq_true h3
                have HF := Lib.hid (show liv v (b, e, ends) = true by unfold liv; simp [h1, h3])
                clear h1 h2 h3
                go_upto_region 11 with fail
                go_quiet (fail)
                have HW := bthen HB3.out (bdrewN wr nq)
                go_wp2
                go_roundw
                case rel => exact ⟨k + 1, q + 1, by omega, by go_num, by go_num, by rw [HCs.out, ← HQ.out]; rw [show (En.mk b e ends out fA fn fc tick port aA an ac err pr po).t3 = (b, e, ends) from rfl, HF.out]; rfl, HW⟩
                case measure => simp [intOf]; omega
              · have b3 : decide (v < e) = false := decide_eq_false h3
                have HF := Lib.hid (show liv v (b, e, ends) = false by unfold liv; simp [h1, h2, h3])
                clear h1 h2 h3
                go_upto_region 11 with fail
                go_quiet (fail)
                have HW := bthen HB3.out (bdrewN wr nq)
                go_wp2
                go_roundw
                case rel => exact ⟨k + 1, q, by omega, by go_num, rfl, by rw [HCs.out, ← HQ.out]; rw [show (En.mk b e ends out fA fn fc tick port aA an ac err pr po).t3 = (b, e, ends) from rfl, HF.out]; rfl, HW⟩
                case measure => simp [intOf]; omega
          · have b1 : decide (b ≤ v) = false := decide_eq_false h1
            have HF := Lib.hid (show liv v (b, e, ends) = false by unfold liv; simp [h1])
            clear h1
            go_upto_region 11 with fail
            go_quiet (fail)
            have HW := bthen HB3.out (bdrewN wr nq)
            go_wp2
            go_roundw
            case rel => exact ⟨k + 1, q, by omega, by go_num, rfl, by rw [HCs.out, ← HQ.out]; rw [show (En.mk b e ends out fA fn fc tick port aA an ac err pr po).t3 = (b, e, ends) from rfl, HF.out]; rfl, HW⟩
            case measure => simp [intOf]; omega
        · have hbk : decide ((k : Int) < (n : Int)) = false := decide_eq_false (by omega)
          obtain rfl : k = n := by omega
          have HQ2 := Lib.hid (show wiM L (i + 1) = max M q by rw [HMs.out, HM.out, HQ.out, Hn.out])
          go_upto_region 13 with fail
          by_cases h7 : (M : Int) ≤ (q : Int)
          · go_wp2
            go_roundw
            case rel => exact ⟨i + 1, q, by omega, by go_num, by congr 1; omega, by rw [HQ2.out]; omega, HB3.out⟩
            case measure => simp [intOf]; omega
          · have h8 : (q : Int) < (M : Int) := by omega
            go_wp2
            go_roundw
            case rel => exact ⟨i + 1, M, by omega, by go_num, by congr 1; omega, by rw [HQ2.out]; omega, HB3.out⟩
            case measure => simp [intOf]; omega
    · have hbi : decide ((i : Int) < (n : Int)) = false := decide_eq_false (by omega)
      obtain rfl : i = n := by omega
      go_wp2
      go_ret
      exact ⟨by rw [HE.out, HM.out]; rfl, HB.out⟩
end Go.Proofs.Ytbnlpidhbilenaa
