/-
  SumSwaps: its walk.
-/
import Derived.Test.YtnaopekljknlaaaOpenW
namespace Go.Proofs.Ytnaopekljknlaaa
open Go.RowKit Plain
set_option linter.unusedVariables false

theorem or_u16 (s : Int) (h0 : 0 ≤ s) (h1 : s ≤ 65535) : bits .or .u16 (s * 256 % 65536) (s / 256) = s % 256 * 256 + s / 256 := by
  have e : s * 256 % 65536 = s % 256 * 256 := by omega
  rw [e]
  have a0 : 0 ≤ s % 256 := by omega
  have a1 : s % 256 ≤ 255 := by omega
  have b0 : 0 ≤ s / 256 := by omega
  have b1 : s / 256 ≤ 255 := by omega
  generalize s % 256 = x at *
  generalize s / 256 = y at *
  go_bits2

set_option maxHeartbeats 4000000 in
theorem sumSwaps_walk (A : Option Addr) (n c : Nat) (zs : List Int) (w : World) (hn : zs.length = n) (hnc : n ≤ c) (hm : c ≤ maxLen) (hR : RdW w A zs) :
    Calls Try.prog 6 #[.slice A n c] w fun e w' => e = .returned (.bool true) ∧ Below w.heap.size w w' := by
  unfold maxLen at hm
  have Hn := Lib.hid hn
  clear hn
  go_enter Try.func6, Try.ntmps6
  go_upto_region 1 with fail
  go_cut [0] (fun s0 wx => ∃ (k : Nat) (ws : List Int), s0 = .slice A k c ∧ ws.length = k ∧ k ≤ 100 ∧ RdW w A ws ∧ wx = w)
  case first =>
    by_cases h100 : n ≤ 100
    · go_wp2
      go_meet
      exact ⟨n, zs, rfl, Hn.out, h100, hR, rfl⟩
    · go_wp2
      go_meet
      exact ⟨100, zs.take 100, rfl, by rw [List.length_take, Hn.out]; omega, Nat.le_refl _, hR.take 100, rfl⟩
  case rest =>
    obtain ⟨k, ws, rfl, hk, hk100, hW, rfl⟩ := hcut
    have HW := Lib.hid hW
    have Hk := Lib.hid hk
    clear hR hW hk
    go_wp2
    go_loopw [3, 4, 5] (fun s3 s4 i wr => ∃ (j c1 c2 : Nat) (A1 A2 : Option Addr), s3 = .slice A1 (2 * j) c1 ∧ s4 = .slice A2 (2 * j) c2 ∧ i = .int .i64 j ∧ j ≤ k ∧
        Own wr wc.heap.size A1 (2 * j) c1 (W1 (ws.take j)) ∧ Own wr wc.heap.size A2 (2 * j) c2 (W2 (ws.take j)) ∧ Dis A1 A2 ∧ Below wc.heap.size wc wr) (fun _ _ i _ => k - (intOf i).toNat)
    case atStart =>
      exact ⟨0, 0, 0, none, none, rfl, rfl, rfl, Nat.zero_le _, Own.nil _ _, Own.nil _ _, (fun g h _ => by cases h), Below.refl _ _⟩
    case round =>
      obtain ⟨j, c1, c2, A1, A2, rfl, rfl, rfl, hj, ho1, ho2, hd, hbel⟩ := hrel
      have hsz := hbel.size
      by_cases hlt : j < k
      · obtain ⟨b, off, rfl, hb, hc⟩ := HW.out.2 (by rw [Hk.out]; omega)
        have c0 := (hbel.cell (p := ⟨b, off + j, none⟩) hb).trans (hc j (by rw [Hk.out]; exact hlt))
        have bx := words_getD HW.out.1 j
        have e1 := Lib.hid (W1_snoc ws j (by rw [Hk.out]; exact hlt))
        have e2 := Lib.hid (W2_snoc ws j (by rw [Hk.out]; exact hlt))
        generalize ws.getD j 0 = x at *
        have Ho1 := Lib.hid ho1
        have Ho2 := Lib.hid ho2
        have Hd := Lib.hid hd
        have Hb := Lib.hid hbel
        clear ho1 ho2 hd hbel hc
        have i0 : (j : Int) < (k : Int) := by omega
        go_wp2_with (at_builtin; refine wpList_app rfl (.tmp 23) (.tmp 29) rfl rfl (Ho1.out.alloc _) [x / 256, x % 256] rfl (Own.lit _ (Nat.le_refl _) _ (by exact By.mk (by omega) (by omega) (By.mk (by omega) (by omega) By.nil)) 2 rfl (by decide) _ rfl).rd rfl (by omega) (by simp; omega) ?_)
        intro A1' c1' w1 ho1' hg1 hA1
        have ho2 := (Ho2.out.alloc _).apart (Ho1.out.alloc _) hg1 Hd.out.symm
        have hd := Dis.grown Hd.out.symm Ho2.out hA1 (by omega)
        have hb1 := below_app (Hb.out.alloc (by simpa using hsz) _) hg1 (Ho1.out.alloc _) (Nat.le_refl _) (by simp; omega)
        have hsz1 := hb1.size
        rw [← e1.out] at ho1'
        have Ho1' := Lib.hid ho1'
        have Ho2' := Lib.hid ho2
        have Hd' := Lib.hid hd
        have Hb1 := Lib.hid hb1
        clear ho1' ho2 hd hb1 hg1 hA1 Ho1 Ho2 Hd Hb c0
        go_wp2_with (at_builtin; refine wpList_app rfl (.tmp 31) (.tmp 37) rfl rfl (Ho2'.out.alloc _) [x % 256, x / 256] rfl (Own.lit _ (Nat.le_refl _) _ (by exact By.mk (by omega) (by omega) (By.mk (by omega) (by omega) By.nil)) 2 rfl (by decide) _ rfl).rd rfl (by omega) (by simp; omega) ?_)
        intro A2' c2' w2 ho2' hg2 hA2
        have ho1 := (Ho1'.out.alloc _).apart (Ho2'.out.alloc _) hg2 Hd'.out.symm
        have hd := Dis.grown Hd'.out.symm Ho1'.out hA2 (by omega)
        have hb2 := below_app (Hb1.out.alloc (by simpa using hsz1) _) hg2 (Ho2'.out.alloc _) (Nat.le_refl _) (by simp; omega)
        rw [← e2.out] at ho2'
        clear hg2 hA2 Ho1' Ho2' Hd' Hb1
        have R := Lib.hid (And.intro ho1 (And.intro ho2' (And.intro hd hb2)))
        clear ho1 ho2' hd hb2
        go_wp2
        go_roundw
        case rel =>
          obtain ⟨ho1, ho2', hd, hb2⟩ := R.out
          exact ⟨j + 1, c1', c2', A1', A2', rfl, rfl, by go_num, by omega, ho1, ho2', hd, hb2⟩
        case measure => simp [intOf]; omega
      · obtain rfl : j = k := by omega
        have hws := Lib.hid (show ws.take j = ws by rw [← Hk.out, List.take_length])
        rw [hws.out] at ho1 ho2
        obtain ⟨q, q0, hq, hz, hT⟩ := tot_W2 ws HW.out.1
        have hS := wsum_nonneg ws HW.out.1
        have hF := F_swap (wsum ws) (tot (W2 ws)) q hS hq hz hT
        have hC1 : Cs (W1 ws) = 65535 - F (wsum ws) := by unfold Cs; rw [tot_W1]
        have hr := Cs_range _ ho1.byt
        have hC2 : Cs (W2 ws) = Cs (W1 ws) % 256 * 256 + Cs (W1 ws) / 256 := by
          have := F_range _ hS
          unfold Cs; rw [tot_W1, hF]; omega
        have hor := or_u16 (Cs (W1 ws)) hr.1 hr.2
        have heq : (Cs (W2 ws) == bits .or .u16 (IntKind.u16.wrap (Cs (W1 ws) * 256)) (Cs (W1 ws) / 256)) = true := by
          rw [IntKind.wrap_u16, hor, hC2]; simp
        clear hq hz hT hF hC1 hC2 hor
        have Ho1 := Lib.hid ho1
        have Ho2 := Lib.hid ho2
        have Hb := Lib.hid hbel
        clear ho1 ho2 hbel hd
        go_wp2_with fail
        refine (of_n _ _ _ (W1 ws) _ Ho1.out.len (by omega) Ho1.out.rd).mono ?_
        rintro e w' ⟨rfl, q1, rfl⟩
        go_wp2_with fail
        refine (sums_any _).mono ?_
        rintro e w3 ⟨rfl, hb3⟩
        have Ho3 := Lib.hid ((Ho2.out.drewN q1).below hb3)
        have Hb3 := Lib.hid ((below_drewN Hb.out q1).trans (hb3.mono (by simpa using hsz)))
        clear hb3
        go_wp2_with fail
        refine (of_n _ _ _ (W2 ws) _ Ho3.out.len (by omega) Ho3.out.rd).mono ?_
        rintro e w' ⟨rfl, q2, rfl⟩
        go_wp2
        go_ret
        exact ⟨rfl, below_drewN Hb3.out q2⟩
end Go.Proofs.Ytnaopekljknlaaa
