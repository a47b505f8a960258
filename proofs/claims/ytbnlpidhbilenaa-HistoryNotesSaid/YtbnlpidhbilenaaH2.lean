/-
  Package history: Right. Conditions stand in each theorem.
-/
import Derived.Test.YtbnlpidhbilenaaGA
import Derived.BigQuiet
namespace Go.Proofs.Ytbnlpidhbilenaa
open Go.RowKit Plain
set_option linter.unusedVariables false
set_option linter.unusedSimpArgs false
set_option maxRecDepth 100000

def En.t3 (x : En) : T3 := (x.b, x.e, x.ends)
def En.ok (x : En) : Prop := -9223372036854775808 ≤ x.b ∧ x.b ≤ 9223372036854775807 ∧ -9223372036854775808 ≤ x.e ∧ x.e ≤ 9223372036854775807
def en0 : En := ⟨0, 0, false, false, none, 0, 0, 0, 0, none, 0, 0, 0, 0, 0⟩
/-- a slice of Entries that reads as a list -/
def RdE (w : World) (A : Option Addr) (L : List En) : Prop :=
  0 < L.length → ∃ b off, A = some ⟨b, off, none⟩ ∧ b < w.heap.size ∧ ∀ i, i < L.length → At w ⟨b, off + i * 11, none⟩ (L.getD i en0).cs
theorem RdE.below {w w' : World} {A : Option Addr} {L : List En} (h : RdE w A L) (hb : Below w.heap.size w w') : RdE w' A L := fun hp => by
  obtain ⟨b, off, e, hl, hc⟩ := h hp
  exact ⟨b, off, e, Nat.lt_of_lt_of_le hl hb.size, fun i hi => (hc i hi).below hb hl⟩
theorem rgt_take (L : List En) (k : Nat) (hk : k < L.length) : rgt ((L.map En.t3).take (k + 1)) = (rgt ((L.map En.t3).take k) && rg1 (L.getD k en0).t3) := by
  unfold rgt
  rw [List.take_succ_eq_append_getElem (by simpa using hk), List.all_append]
  simp [List.getD, hk]
theorem rgt_no (L : List En) (k : Nat) (hk : k < L.length) (h : rg1 (L.getD k en0).t3 = false) : rgt (L.map En.t3) = false := by
  unfold rgt
  rw [List.all_eq_false]
  refine ⟨(L.getD k en0).t3, ?_, by rw [h]; simp⟩
  rw [List.mem_map]
  refine ⟨L.getD k en0, ?_, rfl⟩
  simp [List.getD, hk]
set_option maxHeartbeats 2000000 in
theorem right_any (A : Option Addr) (n c : Nat) (L : List En) (w : World) (hn : L.length = n) (hl : n ≤ 1000000) (hR : RdE w A L) :
    Calls Try.prog 19 #[.slice A n c] w fun e w' => e = .returned (.bool (rgt (L.map En.t3))) ∧ Below w.heap.size w w' := by
  have Hn := Lib.hid hn
  have HR := Lib.hid hR
  clear hn hR
  go_enter Try.func19, Try.ntmps19
  go_wp2
  go_loopw [7] (fun s7 wr => ∃ k : Nat, k ≤ n ∧ s7 = .int .i64 k ∧ rgt ((L.map En.t3).take k) = true ∧ Below w.heap.size w wr) (fun s7 _ => n - (intOf s7).toNat)
  case atStart => exact ⟨0, Nat.zero_le _, rfl, rfl, Below.refl _ _⟩
  case round =>
    obtain ⟨k, hk, rfl, hr, hb⟩ := hrel
    have HB := Lib.hid hb
    have HG := Lib.hid hr
    clear hb hr
    by_cases hlt : k < n
    · have hb : decide ((k : Int) < (n : Int)) = true := decide_eq_true (by omega)
      obtain ⟨g, off, rfl, hg, hc⟩ := HR.out (by have := Hn.out; omega)
      have HA := Lib.hid (((fun h => (hc k h).below HB.out hg) (by have := Hn.out; omega)))
      have HT := Lib.hid (rgt_take L k (by have := Hn.out; omega))
      have HN := Lib.hid (rgt_no L k (by have := Hn.out; omega))
      clear hc
      generalize L.getD k en0 = x at *
      have HD := Lib.hid (isDone_any x)
      obtain ⟨b, e, ends, out, fA, fn, fc, tick, port, aA, an, ac, err, pr, po⟩ := x
      unfold En.val at HD
      unfold En.cs at *
      have HZ := Lib.hid (Blk.new wr 55 #[.int .i64 0, .int .i64 0, .bool false, .bool false, .slice none 0 0, .int .i64 0, .int .i64 0, .slice none 0 0, .int .i64 0, .int .i64 0, .int .i64 0])
      have HB1 := Lib.hid (bthen HB.out (ball wr (.cells #[.int .i64 0, .int .i64 0, .bool false, .bool false, .slice none 0 0, .int .i64 0, .int .i64 0, .slice none 0 0, .int .i64 0, .int .i64 0, .int .i64 0] 55)))
      have HS := Lib.hid (show w.heap.size ≤ wr.heap.size from HB.out.size)
      go_upto_region 4 with (first | ((with_reducible refine gd_ldt 55 9 ?_); refine wpList_ldc rfl 55 (.tmp 9) rfl _ rfl _ (HA.out) sEn ?_) | ((with_reducible refine gd_st 55 4 ?_); refine wpList_st rfl 55 (.tmp 4) _ rfl _ _ rfl _ rfl (HZ.out) sEn.2 (#[.int .i64 b, .int .i64 e, .bool ends, .bool out, .slice fA fn fc, .int .i64 tick, .int .i64 port, .slice aA an ac, .int .i64 err, .int .i64 pr, .int .i64 po]) rfl (Nat.le_of_ble_eq_true rfl) rfl ?_; intro w4 hb4 hg4 hs4))
      have k0 : w4.cell? ⟨wr.heap.size, 0, none⟩ = some (.int .i64 b) := hb4.cell 0
      have HK := Lib.hid hb4
      have HB4 := Lib.hid (bgrown HB1.out hg4 HS.out)
      clear hb4 hg4 hs4 HZ HB1 HA
      generalize wr.heap.size = g4 at *
      by_cases h1 : b < 1
      · have b1 : decide (b < 1) = true := decide_eq_true h1
        have HF := Lib.hid (show rg1 (b, e, ends) = false by
          unfold rg1
          have : ¬ (1 ≤ b) := by omega
          simp [this])
        clear h1
        go_wp2
        go_ret
        exact ⟨by rw [HN.out HF.out]; rfl, HB4.out⟩
      · have b1 : decide (b < 1) = false := decide_eq_false h1
        by_cases h2 : e = -1
        · subst h2
          have q : ((-1 : Int) != -1) = false := by decide
          cases ends with
          | true =>
            have HF := Lib.hid (show rg1 (b, -1, true) = false by unfold rg1; simp)
            clear h1
            go_wp2_with (first | ((with_reducible refine gd_ldt 55 4 ?_); refine wpList_ldw (by rfl) 55 (.tmp 4) rfl _ rfl _ (Blk.at HK.out) sEn ?_) | (go_at_call 41; refine (HD.out _).mono ?_; rintro ee w5 ⟨rfl, hx⟩; first | (have k2 := (HK.out.below hx).cell 2; have k1 := (HK.out.below hx).cell 1; have k0 := (HK.out.below hx).cell 0; have HK := Lib.hid (HK.out.below hx); have HB4 := Lib.hid (bthen HB4.out hx); clear hx)))
            go_ret
            exact ⟨by rw [HN.out HF.out]; rfl, HB4.out⟩
          | false =>
            have HF := Lib.hid (show rg1 (b, -1, false) = true by unfold rg1; simp; omega)
            clear h1
            go_wp2_with (first | ((with_reducible refine gd_ldt 55 4 ?_); refine wpList_ldw (by rfl) 55 (.tmp 4) rfl _ rfl _ (Blk.at HK.out) sEn ?_) | (go_at_call 41; refine (HD.out _).mono ?_; rintro ee w5 ⟨rfl, hx⟩; first | (have k2 := (HK.out.below hx).cell 2; have k1 := (HK.out.below hx).cell 1; have k0 := (HK.out.below hx).cell 0; have HK := Lib.hid (HK.out.below hx); have HB4 := Lib.hid (bthen HB4.out hx); clear hx)))
            go_roundw
            case rel => exact ⟨k + 1, by omega, by go_num, by rw [HT.out, HG.out]; exact HF.out, HB4.out⟩
            case measure => simp [intOf]; omega
        · have q : (e != -1) = true := by simp [h2]
          by_cases h3 : e ≤ b
          · have b3 : decide (e ≤ b) = true := decide_eq_true h3
            have HF := Lib.hid (show rg1 (b, e, ends) = false by
              unfold rg1
              have h4 : ¬ (b < e) := by omega
              simp [h2, h4])
            clear h1 h2 h3
            go_wp2_with (first | ((with_reducible refine gd_ldt 55 4 ?_); refine wpList_ldw (by rfl) 55 (.tmp 4) rfl _ rfl _ (Blk.at HK.out) sEn ?_) | (go_at_call 41; refine (HD.out _).mono ?_; rintro ee w5 ⟨rfl, hx⟩; first | (have k2 := (HK.out.below hx).cell 2; have k1 := (HK.out.below hx).cell 1; have k0 := (HK.out.below hx).cell 0; have HK := Lib.hid (HK.out.below hx); have HB4 := Lib.hid (bthen HB4.out hx); clear hx)))
            go_ret
            exact ⟨by rw [HN.out HF.out]; rfl, HB4.out⟩
          · have b3 : decide (e ≤ b) = false := decide_eq_false h3
            have HF := Lib.hid (show rg1 (b, e, ends) = true by
              unfold rg1
              have h4 : b < e := by omega
              have h5 : 1 ≤ b := by omega
              simp [h2, h4, h5])
            clear h1 h2 h3
            go_wp2_with (first | ((with_reducible refine gd_ldt 55 4 ?_); refine wpList_ldw (by rfl) 55 (.tmp 4) rfl _ rfl _ (Blk.at HK.out) sEn ?_) | (go_at_call 41; refine (HD.out _).mono ?_; rintro ee w5 ⟨rfl, hx⟩; first | (have k2 := (HK.out.below hx).cell 2; have k1 := (HK.out.below hx).cell 1; have k0 := (HK.out.below hx).cell 0; have HK := Lib.hid (HK.out.below hx); have HB4 := Lib.hid (bthen HB4.out hx); clear hx)))
            go_roundw
            case rel => exact ⟨k + 1, by omega, by go_num, by rw [HT.out, HG.out]; exact HF.out, HB4.out⟩
            case measure => simp [intOf]; omega
    · have hb : decide ((k : Int) < (n : Int)) = false := decide_eq_false (by omega)
      have HE := Lib.hid (show rgt (L.map En.t3) = true by
        have e : (L.map En.t3).take k = L.map En.t3 := List.take_of_length_le (by rw [List.length_map, Hn.out]; omega)
        have := HG.out
        rw [e] at this; exact this)
      go_wp2
      go_ret
      exact ⟨by rw [HE.out]; rfl, HB.out⟩
end Go.Proofs.Ytbnlpidhbilenaa
