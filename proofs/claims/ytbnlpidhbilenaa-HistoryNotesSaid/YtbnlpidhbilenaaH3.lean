/-
  Package history: widest. Conditions stand in each theorem.
-/
import Derived.Test.YtbnlpidhbilenaaH2
namespace Go.Proofs.Ytbnlpidhbilenaa
open Go.RowKit Plain
set_option linter.unusedVariables false
set_option linter.unusedSimpArgs false
set_option maxRecDepth 100000
theorem RdN.at {k : IntKind} {w : World} {A : Option Addr} {zs : List Int} (h : RdN k w A zs) (hp : 0 < zs.length) : ∃ b off, A = some ⟨b, off, none⟩ ∧ ∀ j, j < zs.length → w.cell? ⟨b, off + j, none⟩ = some (.int k (zs.getD j 0)) := by
  obtain ⟨b, off, e, _, hc⟩ := h.2 hp
  exact ⟨b, off, e, hc⟩
def WdR (bs es : List Int) (n : Nat) (s5 s6 s11 : Value) : Prop :=
  ∃ k o M : Nat, k ≤ n ∧ s11 = .int .i64 k ∧ s6 = .int .i64 o ∧ s5 = .int .i64 M ∧ M = wst bs es k ∧ M ≤ k ∧ o ≤ es.length ∧ (k < n → o ≤ lec (bs.getD k 0) es)
theorem wst_le (bs es : List Int) (k : Nat) : wst bs es k ≤ k := by
  unfold wst
  refine mx_le fun x hx => ?_
  obtain ⟨j, hj, rfl⟩ := List.mem_map.1 hx
  have := List.mem_range.1 hj
  omega
theorem getD_mono {bs : List Int} (h : bs.Pairwise (· ≤ ·)) (k : Nat) (hk : k + 1 < bs.length) : bs.getD k 0 ≤ bs.getD (k + 1) 0 := by
  have e1 : bs.getD k 0 = bs[k] := by simp [List.getD, show k < bs.length by omega]
  have e2 : bs.getD (k + 1) 0 = bs[k + 1] := by simp [List.getD, hk]
  rw [e1, e2]
  exact List.pairwise_iff_getElem.1 h k (k + 1) (by omega) hk (by omega)
set_option maxHeartbeats 2000000 in
theorem widest_any (A B : Option Addr) (n c m d : Nat) (bs es : List Int) (w : World) (hn : bs.length = n) (hm : es.length = m) (hl : n ≤ 1000000) (hl2 : m ≤ 1000000) (hA : RdN .i64 w A bs) (hB : RdN .i64 w B es) (hs : bs.Pairwise (· ≤ ·)) (ht : es.Pairwise (· ≤ ·)) :
    Calls Try.prog 48 #[.slice A n c, .slice B m d] w fun e w' => e = .returned (.int .i64 (wst bs es n)) ∧ w = w' := by
  have Hn := Lib.hid hn
  have Hm := Lib.hid hm
  have HA := Lib.hid hA
  have HB := Lib.hid hB
  have HS := Lib.hid hs
  have HT := Lib.hid ht
  clear hn hm hA hB hs ht
  go_enter Try.func48, Try.ntmps48
  go_wp2
  go_loop [5, 6, 11] (fun s5 s6 s11 => WdR bs es n s5 s6 s11) (fun _ _ s11 => n - (intOf s11).toNat)
  case atStart => exact ⟨0, 0, 0, Nat.zero_le _, rfl, rfl, rfl, rfl, Nat.le_refl _, Nat.zero_le _, fun _ => Nat.zero_le _⟩
  case round =>
    obtain ⟨k, o, M, hk, rfl, rfl, rfl, hM, hMk, ho, hol⟩ := hrel
    have HM := Lib.hid hM
    have HO := Lib.hid hol
    have ho2 : o ≤ m := by have := Hm.out; omega
    clear hM hol ho
    by_cases hlt : k < n
    · have hb : decide ((k : Int) < (n : Int)) = true := decide_eq_true (by omega)
      obtain ⟨gb, ob, rfl, hcb⟩ := HA.out.at (by have := Hn.out; omega)
      have c0 := hcb k (by have := Hn.out; omega)
      have HL := Lib.hid (HO.out hlt)
      have hv := HA.out.wf k (by have := Hn.out; omega)
      have hv := bounds_i64 hv
      obtain ⟨v, hve⟩ : ∃ v, v = bs.getD k 0 := ⟨_, rfl⟩
      rw [← hve] at c0 hv HL
      have HV := Lib.hid hve
      clear hcb hve
      go_wp2
      go_loop [6] (fun s6 => ∃ o1 : Nat, s6 = .int .i64 o1 ∧ o1 ≤ m ∧ o1 ≤ lec v es) (fun s6 => m - (intOf s6).toNat)
      case atStart => exact ⟨o, rfl, ho2, HL.out⟩
      case round =>
        obtain ⟨o1, rfl, hom, hov⟩ := hrel
        have HLV := Lib.hid (lec_le v es)
        by_cases h1 : o1 < lec v es
        · have h2 : o1 < m := by have := HLV.out; have := Hm.out; omega
          obtain ⟨ge, oe, rfl, hce⟩ := HB.out.at (by have := Hm.out; omega)
          have c1 := hce o1 (by have := Hm.out; omega)
          have hle := (lec_at HT.out v o1 (by have := Hm.out; omega)).2 h1
          generalize es.getD o1 0 = x at *
          have b1 : decide ((o1 : Int) < (m : Int)) = true := decide_eq_true (by omega)
          have b2 : decide (x ≤ v) = true := decide_eq_true hle
          have H1 := Lib.hid h1
          clear hce h1 hle
          go_wp2
          go_round
          case rel => exact ⟨o1 + 1, by go_num, by omega, by have := H1.out; omega⟩
          case measure => simp [intOf]; omega
        · have hoe : o1 = lec v es := by omega
          have HE := Lib.hid (show wst bs es (k + 1) = max M (k + 1 - o1) by rw [wst_succ, HM.out, ← HV.out, ← hoe])
          have HN := Lib.hid (show k + 1 < n → o1 ≤ lec (bs.getD (k + 1) 0) es by
            intro hk1
            have h5 := getD_mono HS.out k (by have := Hn.out; omega)
            rw [← HV.out] at h5
            have := lec_mono h5 es
            omega)
          have HO1 := Lib.hid (show o1 ≤ es.length by have := HLV.out; omega)
          by_cases h2 : o1 < m
          · obtain ⟨ge, oe, rfl, hce⟩ := HB.out.at (by have := Hm.out; omega)
            have c1 := hce o1 (by have := Hm.out; omega)
            have hle : ¬ (es.getD o1 0 ≤ v) := fun h => h1 ((lec_at HT.out v o1 (by have := Hm.out; omega)).1 h)
            generalize es.getD o1 0 = x at *
            have b1 : decide ((o1 : Int) < (m : Int)) = true := decide_eq_true (by omega)
            have b2 : decide (x ≤ v) = false := decide_eq_false hle
            clear hce h1 hle hoe hov
            go_upto_region 7 with fail
            by_cases h7 : (M : Int) ≤ (k : Int) + 1 - (o1 : Int)
            · go_wp2
              go_round
              case rel => exact ⟨k + 1, o1, k + 1 - o1, by omega, by go_num, rfl, by congr 1; omega, by rw [HE.out]; omega, by omega, HO1.out, HN.out⟩
              case measure => simp [intOf]; omega
            · have h8 : (k : Int) + 1 - (o1 : Int) < (M : Int) := by omega
              go_wp2
              go_round
              case rel => exact ⟨k + 1, o1, M, by omega, by go_num, rfl, rfl, by rw [HE.out]; omega, by omega, HO1.out, HN.out⟩
              case measure => simp [intOf]; omega
          · have b1 : decide ((o1 : Int) < (m : Int)) = false := decide_eq_false (by omega)
            clear h1 hoe hov
            go_upto_region 7 with fail
            by_cases h7 : (M : Int) ≤ (k : Int) + 1 - (o1 : Int)
            · go_wp2
              go_round
              case rel => exact ⟨k + 1, o1, k + 1 - o1, by omega, by go_num, rfl, by congr 1; omega, by rw [HE.out]; omega, by omega, HO1.out, HN.out⟩
              case measure => simp [intOf]; omega
            · have h8 : (k : Int) + 1 - (o1 : Int) < (M : Int) := by omega
              go_wp2
              go_round
              case rel => exact ⟨k + 1, o1, M, by omega, by go_num, rfl, rfl, by rw [HE.out]; omega, by omega, HO1.out, HN.out⟩
              case measure => simp [intOf]; omega
    · have hb : decide ((k : Int) < (n : Int)) = false := decide_eq_false (by omega)
      obtain rfl : k = n := by omega
      go_wp2
      go_ret
      exact ⟨by rw [HM.out]; rfl, rfl⟩
end Go.Proofs.Ytbnlpidhbilenaa
