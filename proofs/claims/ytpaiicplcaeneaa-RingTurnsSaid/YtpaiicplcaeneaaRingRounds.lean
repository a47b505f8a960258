/-
  RingRounds: as many as may are put, and got, again and again, round the ring. Conditions stand in each theorem.
-/
import Derived.Test.YtpaiicplcaeneaaRi6
namespace Go.Proofs.Ytpaiicplcaeneaa
open Go.RowKit Plain
set_option linter.unusedVariables false
set_option maxRecDepth 100000

theorem mod_apart {a b N : Nat} (h1 : a < b) (h2 : b - a < N) : a % N ≠ b % N := by
  intro h
  have h3 := Nat.div_add_mod a N
  have h4 := Nat.div_add_mod b N
  rcases Nat.lt_or_ge (a / N) (b / N) with c | c
  · have := Nat.mul_le_mul_left N (show a / N + 1 ≤ b / N from c)
    rw [Nat.mul_add, Nat.mul_one] at this
    omega
  · have := Nat.mul_le_mul_left N c
    omega
/-- what waits is what was put -/
structure Fif (N go pu : Nat) (vs : List Int) (f : Nat → Int) : Prop where
  len : vs.length = N
  at' : ∀ k, go ≤ k → k < pu → vs.getD (k % N) 0 = f k
theorem Fif.put {N go pu : Nat} {vs : List Int} {f : Nat → Int} (h : Fif N go pu vs f) (hN : pu - go < N) (m : Nat) (hm : m = pu + 1) (v : Int) (hv : v = f pu) : Fif N go m (vs.set (pu % N) v) f := by
  subst hm hv
  refine ⟨by rw [List.length_set]; exact h.len, fun k h1 h2 => ?_⟩
  by_cases hk : k = pu
  · subst hk
    have : k % N < vs.length := by rw [h.len]; exact Nat.mod_lt _ (by omega)
    simp [List.getD, this]
  · rw [← h.at' k h1 (by omega)]
    have := mod_apart (a := k) (b := pu) (N := N) (by omega) (by omega)
    simp [List.getD, Ne.symm this]
theorem Fif.get {N go pu : Nat} {vs : List Int} {f : Nat → Int} (h : Fif N go pu vs f) (m : Nat) (hm : m = go + 1) : Fif N m pu vs f := ⟨h.len, fun k h1 h2 => h.at' k (by omega) h2⟩
def f31 (k : Nat) : Int := (k : Int) * 3 + 1
structure RRR (w wt : World) (gr gc gn N pu go : Nat) (vs : List Int) (P G : Option Nat) (p g : RSt) : Prop where
  r : RgW w wt gr gc gn N pu go vs P G p g
  f : Fif N go pu vs f31
  h1 : go ≤ pu
  h2 : pu ≤ go + N
  o1 : goB P p = false
  o2 : goB G g = false
def RelP (w : World) (gr gc gn N go b : Nat) (G : Option Nat) (g : RSt) (s8 : Value) (wt : World) : Prop :=
  ∃ pu vs P p, s8 = .int .u64 (pu : Nat) ∧ pu ≤ b ∧ RRR w wt gr gc gn N pu go vs P G p g
def RelG (w : World) (gr gc gn N pu : Nat) (vs : List Int) (P : Option Nat) (p : RSt) (s9 : Value) (wt : World) : Prop :=
  ∃ go G g, s9 = .int .u64 (go : Nat) ∧ RRR w wt gr gc gn N pu go vs P G p g
def RelO (w : World) (gr gc gn N b : Nat) (s8 s9 : Value) (wt : World) : Prop :=
  ∃ pu go vs P G p g, s8 = .int .u64 (pu : Nat) ∧ s9 = .int .u64 (go : Nat) ∧ pu ≤ b ∧ RRR w wt gr gc gn N pu go vs P G p g
theorem pickQ (x m : Int) (h0 : 0 < m) (h1 : m < 4611686018427387904) : ∃ K : Nat, wrap64 ((IntKind.u64.wrap ((IntKind.u64.wrap x).tdiv 7)).tmod m) = (K : Int) ∧ (K : Int) < m := by
  have e : IntKind.u64.wrap x = x % 18446744073709551616 := IntKind.wrap_u64 x
  have n0 : 0 ≤ x % 18446744073709551616 := by omega
  have e3 : (x % 18446744073709551616).tdiv 7 = x % 18446744073709551616 / 7 := Int.tdiv_eq_ediv_of_nonneg n0
  have n1 : 0 ≤ x % 18446744073709551616 / 7 := by omega
  have e2 : (x % 18446744073709551616 / 7).tmod m = x % 18446744073709551616 / 7 % m := Int.tmod_eq_emod_of_nonneg n1
  have l0 := Int.emod_nonneg (x % 18446744073709551616 / 7) (show m ≠ 0 by omega)
  have l1 := Int.emod_lt_of_pos (x % 18446744073709551616 / 7) h0
  have e4 : IntKind.u64.wrap (x % 18446744073709551616 / 7) = x % 18446744073709551616 / 7 := by rw [IntKind.wrap_u64]; omega
  rw [e, e3, e4, e2]
  generalize x % 18446744073709551616 / 7 % m = y at *
  refine ⟨y.toNat, ?_, by omega⟩
  unfold wrap64; omega
set_option maxHeartbeats 8000000 in
theorem ringRounds_walk (n0 : Int) (A : Option Addr) (nz cz : Nat) (zs : List Int) (w : World) (hz : zs.length = nz) (hnc : nz ≤ cz) (hm : cz ≤ maxLen) (hR : RdN .i64 w A zs) :
    Calls Try.prog 6 #[.int .i64 n0, .slice A nz cz] w fun e w' => e = .returned (.bool true) ∧ Below w.heap.size w w' := by
  have HM := Lib.hid hm
  unfold maxLen at hm
  have HZ := Lib.hid hz
  have HR := Lib.hid hR
  clear hz hR
  obtain ⟨K, hK, hKl⟩ := pickN n0 256 (by omega) (by omega)
  go_enter Try.func6, Try.ntmps6
  go_upto_region 2 with fail
  obtain ⟨N, hn⟩ : ∃ n : Nat, (n : Int) = 1 + (K : Int) := ⟨K + 1, by omega⟩
  rw [← hn]
  have hn1 : 1 ≤ N := by omega
  have hn2 : N ≤ 256 := by omega
  clear hK hn hKl
  go_upto_region 3 with (go_at_call 21; refine (made_any (w0 := w) N hn1 hn2 (Below.refl _ _)).mono ?_; rintro e w1 ⟨gr, gc, gn, rfl, h1⟩)
  have H1 := Lib.hid h1
  clear h1
  go_upto_region 5 with (go_at_call 12; refine (waits_any _).mono ?_; rintro e w2 ⟨rfl, hb⟩)
  have H2 := Lib.hid (show RRR w w2 gr gc gn N 0 0 (List.replicate N 0) none none ⟨0, 0, 0, false⟩ ⟨0, 0, 0, false⟩ from ⟨H1.out.down hb, ⟨List.length_replicate, by omega⟩, by omega, by omega, rfl, rfl⟩)
  clear hb H1
  go_wp2
  go_loopw [8, 9, 10] (fun s8 s9 s10 wr => ∃ i : Nat, s10 = .int .i64 i ∧ i ≤ 12 ∧ RelO w gr gc gn N (300 * i) s8 s9 wr) (fun _ _ i _ => 12 - (intOf i).toNat)
  case atStart => exact ⟨0, rfl, by omega, 0, 0, _, _, _, _, _, rfl, rfl, by omega, H2.out⟩
  case round =>
    obtain ⟨i, rfl, hi, pu, go, vs, P, G, p, g, rfl, rfl, hpb, hr⟩ := hrel
    have H3 := Lib.hid hr
    clear hr H2
    by_cases hlt : i < nz ∧ i < 12
    · obtain ⟨hl1, hl2⟩ := hlt
      obtain ⟨bk, off, rfl, hbl, hcell⟩ := HR.out.2 (by rw [HZ.out]; omega)
      have hc0 := hcell i (by rw [HZ.out]; exact hl1)
      clear hcell
      generalize zs.getD i 0 = pk at *
      have HCJ := Lib.hid (fun W (hW : Below w.heap.size w W) => (hW.cell (p := ⟨bk, off + i, none⟩) hbl).trans hc0)
      clear hc0
      obtain ⟨K, hK, hKl⟩ := pickN pk ((N : Int) + 2) (by omega) (by omega)
      have di1 : decide ((i : Int) < (nz : Int)) = true := decide_eq_true (by omega)
      have di2 : decide ((i : Int) < 12) = true := decide_eq_true (by omega)
      go_upto_region 9 with fail
      clear di1 di2
      go_wp2
      go_loopw [8, 11] (fun s8 s11 wt => ∃ j : Nat, s11 = .int .i64 j ∧ j ≤ K ∧ RelP w gr gc gn N go (300 * i + j) G g s8 wt) (fun _ j _ => K - (intOf j).toNat)
      case atStart => exact ⟨0, rfl, by omega, pu, _, _, _, rfl, by omega, H3.out⟩
      case round =>
        obtain ⟨j, rfl, hj, pu, vs, P, p, rfl, hpb, hr⟩ := hrel
        have H4 := Lib.hid hr
        clear hr H3
        have cj := HCJ.out _ H4.out.r.bel
        by_cases hjk : j < K
        · have hgo := H4.out.h1
          have hgN := H4.out.h2
          by_cases hroom : pu - go < N
          · have b1 : ((pu : Int) - (go : Int) == (N : Int)) = false := by simp; omega
            have HN1 := Lib.hid (show ((pu + 1 : Nat) : Int) = (pu : Int) + 1 by omega)
            go_upto_region 12 with fail
            go_wp2_with fail
            refine (H4.out.r.put _ H4.out.o1).mono ?_
            rintro e w4 ⟨a, rfl, h5, _, _⟩
            have H5 := Lib.hid h5
            clear h5
            go_wp2_with fail
            refine (H5.out.runP (by unfold U64; omega) hgo (by omega) (pu + 1) rfl hroom).mono ?_
            rintro e w5 ⟨rfl, h6, _⟩
            have H6 := Lib.hid h6
            clear h6 H5
            have HF := Lib.hid (H4.out.f.put hroom (pu + 1) rfl ((pu : Int) * 3 + 1) rfl)
            have HO2 := Lib.hid H4.out.o2
            clear H4 cj
            go_wp2
            go_roundw
            case rel => exact ⟨j + 1, by go_num, by omega, pu + 1, _, _, _, by go_num, by omega, ⟨H6.out, HF.out, by omega, by omega, rfl, HO2.out⟩⟩
            case measure => simp [intOf]; omega
          · have b1 : ((pu : Int) - (go : Int) == (N : Int)) = true := by simp; omega
            go_upto_region 12 with fail
            go_wp2_with fail
            refine (H4.out.r.put _ H4.out.o1).mono ?_
            rintro e w4 ⟨a, rfl, h5, _, _⟩
            have H5 := Lib.hid h5
            clear h5
            go_wp2_with fail
            refine (H5.out.runF hgo (by omega) (by omega)).mono ?_
            rintro e w5 ⟨rfl, h6, _⟩
            have H6 := Lib.hid h6
            clear h6 H5
            have HF := Lib.hid H4.out.f
            have HO2 := Lib.hid H4.out.o2
            clear H4 cj
            go_wp2
            go_roundw
            case rel => exact ⟨j + 1, by go_num, by omega, pu, _, _, _, rfl, by omega, ⟨H6.out, HF.out, by omega, by omega, rfl, HO2.out⟩⟩
            case measure => simp [intOf]; omega
        · obtain rfl : j = K := by omega
          have hpb' : pu ≤ 300 * (i + 1) := by omega
          have H5 := Lib.hid H4.out
          clear H4
          go_upto_region 17 with fail
          clear cj hjk hj hpb hK hKl
          obtain ⟨K, hK, hKl⟩ := pickQ pk ((N : Int) + 2) (by omega) (by omega)
          go_wp2
          go_loopw [9, 13] (fun s9 s13 wt => ∃ j : Nat, s13 = .int .i64 j ∧ j ≤ K ∧ RelG w gr gc gn N pu vs P p s9 wt) (fun _ j _ => K - (intOf j).toNat)
          case atStart => exact ⟨0, rfl, by omega, go, _, _, rfl, H5.out⟩
          case round =>
            obtain ⟨j, rfl, hj, go, G, g, rfl, hr⟩ := hrel
            have H6 := Lib.hid hr
            clear hr H5
            have cj := HCJ.out _ H6.out.r.bel
            have hgo := H6.out.h1
            have hgN := H6.out.h2
            by_cases hjk : j < K
            · by_cases he : pu = go
              · subst he
                have b1 : ((pu : Int) == (pu : Int)) = true := by simp
                go_upto_region 20 with fail
                go_wp2_with fail
                refine (H6.out.r.get H6.out.o2).mono ?_
                rintro e w4 ⟨a, rfl, h7, _, _⟩
                have H7 := Lib.hid h7
                clear h7
                go_wp2_with fail
                refine (H7.out.runE rfl).mono ?_
                rintro e w5 ⟨rfl, h8, _⟩
                have H8 := Lib.hid h8
                clear h8 H7
                have HF := Lib.hid H6.out.f
                have HO1 := Lib.hid H6.out.o1
                clear H6 cj
                go_wp2
                go_roundw
                case rel => exact ⟨j + 1, by go_num, by omega, pu, _, _, rfl, ⟨H8.out, HF.out, by omega, by omega, HO1.out, rfl⟩⟩
                case measure => simp [intOf]; omega
              · have b1 : ((pu : Int) == (go : Int)) = false := by simp; omega
                go_upto_region 20 with fail
                go_wp2_with fail
                refine (H6.out.r.get H6.out.o2).mono ?_
                rintro e w4 ⟨a, rfl, h7, _, _⟩
                have H7 := Lib.hid h7
                clear h7
                go_wp2_with fail
                refine (H7.out.runG (by omega) (go + 1) rfl he).mono ?_
                rintro e w5 ⟨rfl, h8, _⟩
                have hv := value_any (h8.rb.gs a rfl)
                rw [if_pos rfl] at hv
                simp only at hv
                rw [H6.out.f.at' go (Nat.le_refl _) (by omega)] at hv
                unfold f31 at hv
                have HV := Lib.hid hv
                have H8 := Lib.hid h8
                clear h8 H7 hv
                have HF := Lib.hid (H6.out.f.get (go + 1) rfl)
                have HO1 := Lib.hid H6.out.o1
                clear H6 cj
                go_wp2_with (go_at_call 20; refine (HV.out).mono ?_; rintro e w' ⟨rfl, rfl⟩)
                go_roundw
                case rel => exact ⟨j + 1, by go_num, by omega, go + 1, _, _, by go_num, ⟨H8.out, HF.out, by omega, by omega, HO1.out, rfl⟩⟩
                case measure => simp [intOf]; omega
            · obtain rfl : j = K := by omega
              have HE := Lib.hid (show ((pu - go : Nat) : Int) = (pu : Int) - (go : Int) by omega)
              have hL := H6.out.r.len hgo hgN (by omega)
              unfold LenW at hL
              rw [HE.out] at hL
              have HL := Lib.hid hL
              clear hL
              go_wp2_with (go_at_call 16; refine (HL.out).mono ?_; rintro e w6 ⟨rfl, h7⟩; have H7 := Lib.hid h7; clear h7)
              go_roundw
              case rel => exact ⟨i + 1, by go_num, by omega, pu, go, _, _, _, _, _, rfl, rfl, hpb', ⟨H7.out, H6.out.f, hgo, hgN, H6.out.o1, H6.out.o2⟩⟩
              case measure => simp [intOf]; omega
    · have HB := Lib.hid H3.out.r.bel
      clear H3
      by_cases hl1 : i < nz
      · obtain rfl : i = 12 := by omega
        go_wp2
        go_ret
        exact ⟨rfl, HB.out⟩
      · go_wp2
        go_ret
        exact ⟨rfl, HB.out⟩
end Go.Proofs.Ytpaiicplcaeneaa
