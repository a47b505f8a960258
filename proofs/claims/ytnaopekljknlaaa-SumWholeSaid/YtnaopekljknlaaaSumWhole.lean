/-
  SumWhole's walk.
-/
import Derived.Test.YtnaopekljknlaaaSumN
import Derived.RegionTactic
import Derived.Deep.DeepCutAuto
namespace Go.Proofs.Ytnaopekljknlaaa
open Go.RowKit Plain
set_option linter.unusedVariables false

/-- a number that any int picks below m -/
theorem pick_any (bit m : Int) (h0 : 0 < m) (h1 : m < 4611686018427387904) : ∃ K : Nat, wrap64 ((IntKind.u64.wrap bit).tmod m) = (K : Int) ∧ (K : Int) < m := by
  have e : IntKind.u64.wrap bit = bit % 18446744073709551616 := IntKind.wrap_u64 bit
  have n0 : 0 ≤ bit % 18446744073709551616 := by omega
  have e2 : (bit % 18446744073709551616).tmod m = bit % 18446744073709551616 % m := Int.tmod_eq_emod_of_nonneg n0
  have l0 := Int.emod_nonneg (bit % 18446744073709551616) (show m ≠ 0 by omega)
  have l1 := Int.emod_lt_of_pos (bit % 18446744073709551616) h0
  rw [e, e2]
  generalize bit % 18446744073709551616 % m = x at *
  refine ⟨x.toNat, ?_, by omega⟩
  unfold wrap64; omega

theorem turned_bits (x : Int) (K : Nat) (h0 : 0 ≤ x) (h1 : x ≤ 255) : Turned x (bits .xor .u8 x (2 ^ (K % 8) % 256)) := by
  obtain ⟨a, rfl⟩ := Int.eq_ofNat_of_zero_le h0
  have hj : K % 8 < 8 := by omega
  generalize K % 8 = j at hj ⊢
  have e : ((2 : Int) ^ j % 256) = ((2 ^ j : Nat) : Int) := by
    have : ∀ j, j < 8 → ((2 : Int) ^ j % 256) = ((2 ^ j : Nat) : Int) := by decide
    exact this j hj
  have h2 : 2 ^ j < 256 := by
    have : ∀ j, j < 8 → 2 ^ j < 256 := by decide
    exact this j hj
  rw [e, u8_xor_nat a (2 ^ j) (by omega) h2]
  exact turned a j (by omega) hj

set_option maxHeartbeats 1000000 in
theorem sumWhole_walk (A : Option Addr) (n c : Nat) (zs : List Int) (bit : Int) (w : World) (hn : zs.length = n) (hnc : n ≤ c) (hm : c ≤ maxLen) (hR : Rd w A zs) (hb0 : -9223372036854775808 ≤ bit) (hb1 : bit ≤ 9223372036854775807) :
    Calls Try.prog 7 #[.slice A n c, .int .i64 bit] w fun e w' => e = .returned (.bool true) ∧ Below w.heap.size w w' := by
  unfold maxLen at hm
  have Hn := Lib.hid hn
  clear hn
  go_enter Try.func7, Try.ntmps7
  go_upto_region 1 with fail
  go_cut [0] (fun s0 wx => ∃ (A' : Option Addr) (k c' : Nat) (ys : List Int), s0 = .slice A' k c' ∧ Own wx w.heap.size A' k c' ys ∧ k % 2 = 0 ∧ k ≤ 200 ∧ Below w.heap.size w wx)
  case first =>
    have r1 := Lib.hid (hR.take (n / 2 * 2))
    have r2 := Lib.hid (hR.take 200)
    clear hR
    by_cases h200 : n ≤ 200
    · go_wp2_with (at_builtin; refine wpList_app rfl (.tmp 7) (.tmp 14) rfl rfl (Own.empty w (Nat.le_refl _)) (zs.take (n / 2 * 2)) rfl (r1.out.alloc _) (by rw [List.length_take, Hn.out]; omega) (by omega) (by simp) ?_)
      intro A' c' w' hown hg _
      go_wp2
      go_meet
      exact ⟨A', _, c', _, rfl, hown, by omega, by omega, below_app ((Below.refl _ _).alloc (Nat.le_refl _) _) hg (Own.empty w (Nat.le_refl _)) (Nat.le_refl _) (by simp)⟩
    · go_wp2_with (at_builtin; refine wpList_app rfl (.tmp 7) (.tmp 14) rfl rfl (Own.empty w (Nat.le_refl _)) (zs.take 200) rfl (r2.out.alloc _) (by rw [List.length_take, Hn.out]; omega) (by omega) (by simp) ?_)
      intro A' c' w' hown hg _
      go_wp2
      go_meet
      exact ⟨A', _, c', _, rfl, hown, by omega, by omega, below_app ((Below.refl _ _).alloc (Nat.le_refl _) _) hg (Own.empty w (Nat.le_refl _)) (Nat.le_refl _) (by simp)⟩
  case rest =>
    obtain ⟨A', k, c', ys, rfl, hown, hk2, hk, hbel⟩ := hcut
    have hBy := hown.byt
    have hs := Cs_range ys hBy
    have hsz := hbel.size
    have Hown := Lib.hid hown
    have Hbel := Lib.hid hbel
    clear hown hbel hR
    go_wp2_with fail
    refine (of_n A' k c' ys _ Hown.out.len (by omega) Hown.out.rd).mono ?_
    rintro e w' ⟨rfl, q, rfl⟩
    go_wp2_with (at_builtin; refine wpList_app rfl (.tmp 18) (.tmp 24) rfl rfl ((Hown.out.drewN q).alloc _) [Cs ys / 256, Cs ys % 256] rfl (Own.lit _ (Nat.le_refl _) _ (by exact By.mk (by omega) (by omega) (By.mk (by omega) (by omega) By.nil)) 2 rfl (by decide) _ rfl).rd rfl (by omega) (by simp; omega) ?_)
    intro A2 c2 w2 hown2 hg2 _
    obtain ⟨l, hl⟩ : ∃ l, l = ys ++ [Cs ys / 256, Cs ys % 256] := ⟨_, rfl⟩
    have hz : F (tot l) = 65535 := by rw [hl]; exact whole_sum ys hBy (by rw [Hown.out.len]; exact hk2) _ rfl
    rw [← hl] at hown2
    have hb2 : Below w.heap.size w w2 := below_app ((below_drewN Hbel.out q).alloc (by simp; omega) _) hg2 ((Hown.out.drewN q).alloc _) (Nat.le_refl _) (by simp; omega)
    have hz2 : Cs l = 0 := by unfold Cs; omega
    have hmod : tot l % 65535 = 0 := by
      have := F_mod _ (tot_nonneg l hown2.byt)
      omega
    clear Hown Hbel hg2 hl
    rcases hown2.form with ⟨_, h0, _⟩ | ⟨g, rfl, hg0, hg1⟩
    · omega
    have Hown := Lib.hid hown2
    have Hbel := Lib.hid hb2
    have HZ := Lib.hid hz
    have HZ2 := Lib.hid hz2
    have Hmod := Lib.hid hmod
    clear hown2 hb2 hz hz2 hmod
    go_wp2_with fail
    refine (sums_any _).mono ?_
    rintro e w3 ⟨rfl, hb3⟩
    have Hown3 := Lib.hid (Hown.out.below hb3)
    have Hbel3 := Lib.hid (Hbel.out.trans (hb3.mono Hbel.out.size))
    clear Hown Hbel hb3
    go_wp2_with fail
    refine (of_n _ _ c2 l _ Hown3.out.len (by omega) Hown3.out.rd).mono ?_
    rintro e w' ⟨rfl, q2, rfl⟩
    rw [HZ2.out]
    obtain ⟨K, hK, hKl⟩ := pick_any bit (8 * ((k : Int) + 2)) (by omega) (by omega)
    have HK := Lib.hid hK
    clear hK
    go_wp2
    rw [HK.out]
    have hc := Hown3.out.at (k := K / 8) (by omega)
    have hf := Hown3.out.free (K / 8)
    have bx := Hown3.out.byt.getD (K / 8)
    obtain ⟨x, hx⟩ : ∃ x, x = l.getD (K / 8) 0 := ⟨_, rfl⟩
    rw [← hx] at hc bx
    have Hx := Lib.hid hx
    clear hx
    have i0 : (K : Int) / 8 < (k : Int) + 2 := by omega
    have i1 : 0 ≤ (K : Int) / 8 := by omega
    have i2 : ((K : Int) / 8).toNat = K / 8 := by omega
    have i3 : 0 ≤ (K : Int) % 8 := by omega
    go_region
    have ht := turned_bits x K bx.1 bx.2
    obtain ⟨y, hy⟩ : ∃ y, y = bits .xor .u8 x (2 ^ (K % 8) % 256) := ⟨_, rfl⟩
    rw [← hy] at ht
    rw [← hy]
    have hne := turned_sum l (K / 8) y (by rw [Hown3.out.len]; omega) Hown3.out.byt Hmod.out (by rw [← Hx.out]; exact ht)
    have hcs : (Cs (l.set (K / 8) y) != 0) = true := by
      rw [bne_iff_ne]; unfold Cs; omega
    have Hown4 := Lib.hid ((Hown3.out.drewN (q2 + 1)).set (K / 8) y ht.1 ht.2.1)
    have Hbel4 := Lib.hid (Below.setCell (below_drewN Hbel3.out (q2 + 1)) (p := ⟨g, K / 8, none⟩) hg0 (Value.int .u8 y))
    clear hc hf hne ht Hown3 Hbel3 hy i2
    go_wp2_with fail
    refine (of_n _ _ c2 _ _ Hown4.out.len (by omega) Hown4.out.rd).mono ?_
    rintro e w' ⟨rfl, q5, rfl⟩
    go_wp2
    go_ret
    exact ⟨rfl, below_drewN Hbel4.out q5⟩
end Go.Proofs.Ytnaopekljknlaaa
