/-
  The document's Right of a row of events. Conditions stand in each theorem.
-/
import Derived.Test.YtbnlpidhbilenaaH2
import Derived.BigQuiet
namespace Go.Proofs.Ytbnlpidhbilenaa
open Go.RowKit Plain
set_option linter.unusedVariables false
set_option linter.unusedSimpArgs false
set_option maxRecDepth 100000
set_option maxHeartbeats 4000000 in
theorem rright18_any (A : Option Addr) (n c : Nat) (L : List En) (w : World) (hn : L.length = n) (hl : n ≤ 1000000) (hR : RdE w A L) :
    Calls Try.prog 25 #[.slice A n c] w fun e w' => e = .returned (.bool (rgt (L.map En.t3))) ∧ Below w.heap.size w w' := by
  have Hn := Lib.hid hn
  have HR := Lib.hid hR
  clear hn hR
  go_enter Try.func25, Try.ntmps25
  go_wp2
  go_loopw [3] (fun s3 wr => ∃ k : Nat, k ≤ n ∧ s3 = .int .i64 k ∧ rgt ((L.map En.t3).take k) = true ∧ Below w.heap.size w wr) (fun s3 _ => n - (intOf s3).toNat)
  case atStart => exact ⟨0, Nat.zero_le _, rfl, rfl, Below.refl _ _⟩
  case round =>
    obtain ⟨k, hk, rfl, hr, hb⟩ := hrel
    have HB := Lib.hid hb
    have HG := Lib.hid hr
    clear hb hr
    by_cases hlt : k < n
    · have hb : decide ((k : Int) < (n : Int)) = true := decide_eq_true (by omega)
      have i0 : (0 : Int) ≤ (k : Int) := by omega
      have i1 : (k : Int) < (n : Int) := by omega
      obtain ⟨g, off, rfl, hg, hc⟩ := HR.out (by have := Hn.out; omega)
      have HA := (((fun h => (hc k h).below HB.out hg) (by have := Hn.out; omega)))
      have HT := Lib.hid (rgt_take L k (by have := Hn.out; omega))
      have HN := Lib.hid (rgt_no L k (by have := Hn.out; omega))
      have hgr : g < wr.heap.size := Nat.lt_of_lt_of_le hg HB.out.size
      clear hc
      generalize L.getD k en0 = x at *
      obtain ⟨b, e, ends, out, fA, fn, fc, tick, port, aA, an, ac, err, pr, po⟩ := x
      unfold En.cs at *
      have HA2 := Lib.hid HA
      clear HA
      have q0 : ∀ W, Below wr.heap.size wr W → W.cell? ⟨g, off + k * 11, none⟩ = some (.int .i64 b) := fun W h => (h.cell (p := ⟨g, off + k * 11, none⟩) hgr).trans (by have := HA2.out 0 _ rfl; simpa [addr_add] using this)
      have q1 : ∀ W, Below wr.heap.size wr W → W.cell? ⟨g, off + k * 11 + 1, none⟩ = some (.int .i64 e) := fun W h => (h.cell (p := ⟨g, off + k * 11 + 1, none⟩) hgr).trans (by have := HA2.out 1 _ rfl; simpa [addr_add] using this)
      have q2 : ∀ W, Below wr.heap.size wr W → W.cell? ⟨g, off + k * 11 + 2, none⟩ = some (.bool ends) := fun W h => (h.cell (p := ⟨g, off + k * 11 + 2, none⟩) hgr).trans (by have := HA2.out 2 _ rfl; simpa [addr_add] using this)
      have k0 := q0 wr (Below.refl _ _)
      have k1 := q1 wr (Below.refl _ _)
      have k2 := q2 wr (Below.refl _ _)
      clear q0 q1 q2
      by_cases h1 : b < 1
      · have b1 : decide (b < 1) = true := decide_eq_true h1
        have HF := Lib.hid (show rg1 (b, e, ends) = false by
          unfold rg1
          have : ¬ (1 ≤ b) := by omega
          simp [this])
        clear h1
        go_upto_region 4 with fail
        go_quiet (fail)
        have HQ := bthen HB.out (bdrewN wr nq)
        go_wp2
        go_ret
        exact ⟨by rw [HN.out HF.out]; rfl, HQ⟩
      · have b1 : decide (b < 1) = false := decide_eq_false h1
        by_cases h2 : e = -1
        · subst h2
          have b4 : decide ((-1 : Int) ≤ b) = true := decide_eq_true (by omega)
          have q : ((-1 : Int) != -1) = false := by decide
          cases ends with
          | true =>
            have HF := Lib.hid (show rg1 (b, -1, true) = false by unfold rg1; simp)
            clear h1
            go_upto_region 4 with fail
            go_quiet (fail)
            have HQ := bthen HB.out (bdrewN wr nq)
            go_wp2
            go_ret
            exact ⟨by rw [HN.out HF.out]; rfl, HQ⟩
          | false =>
            have HF := Lib.hid (show rg1 (b, -1, false) = true by unfold rg1; simp; omega)
            clear h1
            go_upto_region 4 with fail
            go_quiet (fail)
            have HQ := bthen HB.out (bdrewN wr nq)
            go_wp2
            go_roundw
            case rel => exact ⟨k + 1, by omega, by go_num, by rw [HT.out, HG.out]; exact HF.out, HQ⟩
            case measure => simp [intOf]; omega
        · have q : (e != -1) = true := by simp [h2]
          by_cases h3 : e ≤ b
          · have b3 : decide (e ≤ b) = true := decide_eq_true h3
            have HF := Lib.hid (show rg1 (b, e, ends) = false by
              unfold rg1
              have h4 : ¬ (b < e) := by omega
              simp [h2, h4])
            clear h1 h2 h3
            go_upto_region 4 with fail
            go_quiet (fail)
            have HQ := bthen HB.out (bdrewN wr nq)
            go_wp2
            go_ret
            exact ⟨by rw [HN.out HF.out]; rfl, HQ⟩
          · have b3 : decide (e ≤ b) = false := decide_eq_false h3
            have HF := Lib.hid (show rg1 (b, e, ends) = true by
              unfold rg1
              have h4 : b < e := by omega
              have h5 : 1 ≤ b := by omega
              simp [h2, h4, h5])
            clear h1 h2 h3
            go_upto_region 4 with fail
            go_quiet (fail)
            have HQ := bthen HB.out (bdrewN wr nq)
            go_wp2
            go_roundw
            case rel => exact ⟨k + 1, by omega, by go_num, by rw [HT.out, HG.out]; exact HF.out, HQ⟩
            case measure => simp [intOf]; omega
    · have hb : decide ((k : Int) < (n : Int)) = false := decide_eq_false (by omega)
      have HE := Lib.hid (show rgt (L.map En.t3) = true by
        have e : (L.map En.t3).take k = L.map En.t3 := List.take_of_length_le (by rw [List.length_map, Hn.out]; omega)
        have := HG.out
        rw [e] at this; exact this)
      go_wp2
      go_ret
      exact ⟨by rw [HE.out]; rfl, HB.out⟩
end Go.Proofs.Ytbnlpidhbilenaa
