/-
  SumBytes: its walk.
-/
import Derived.Test.YtnaopekljknlaaaCut
namespace Go.Proofs.Ytnaopekljknlaaa
open Go.RowKit Plain
set_option linter.unusedVariables false

/-- what stays all through a statement: a row of bytes of one's own, and all that was there -/
structure SB (w0 : World) (B : Nat) (A : Option Addr) (n c : Nat) (zs : List Int) (w : World) : Prop where
  own : Own w B A n c zs
  bel : Below B w0 w
theorem SB.below {w0 w w' : World} {B n c : Nat} {A : Option Addr} {zs : List Int} (h : SB w0 B A n c zs w) (hb : Below w.heap.size w w') (hB : B ≤ w0.heap.size) : SB w0 B A n c zs w' :=
  ⟨h.own.below hb, h.bel.trans (hb.mono (Nat.le_trans hB h.bel.size))⟩
theorem SB.drewN {w0 w : World} {B n c : Nat} {A : Option Addr} {zs : List Int} (h : SB w0 B A n c zs w) (q : Nat) : SB w0 B A n c zs (w.drewN q) := ⟨h.own.drewN q, below_drewN h.bel q⟩
theorem SB.drew {w0 w : World} {B n c : Nat} {A : Option Addr} {zs : List Int} (h : SB w0 B A n c zs w) : SB w0 B A n c zs w.drew := ⟨h.own.drewN 1, h.bel.drew⟩

theorem SB.redrewN {w0 w : World} {B n c a : Nat} {A : Option Addr} {zs : List Int} (h : SB w0 B A n c zs (w.drewN a)) (b : Nat) : SB w0 B A n c zs (w.drewN b) :=
  ⟨⟨h.own.len, h.own.byt, h.own.row⟩, ⟨h.bel.os, h.bel.tape, h.bel.output, h.bel.size, h.bel.block⟩⟩

theorem Rd.tail {w : World} {g : Nat} {zs : List Int} {j : Nat} (h : Rd w (some ⟨g, 0, none⟩) zs) (hj : j ≤ zs.length) : Rd w (some ⟨g, j, none⟩) (zs.drop j) :=
  ⟨h.1.drop j, fun hp => by
    rw [List.length_drop] at hp
    obtain ⟨b, off, e, hc⟩ := h.2 (by omega)
    injection e with e
    injection e with e1 e2
    subst e1 e2
    refine ⟨g, j, rfl, fun k hk => ?_⟩
    rw [List.length_drop] at hk
    rw [getD_drop]
    have := hc (j + k) (by omega)
    rwa [Nat.zero_add] at this⟩

set_option maxHeartbeats 4000000 in
theorem sumBytes_walk (A : Option Addr) (n c : Nat) (zs : List Int) (at_ s : Int) (w : World) (hn : zs.length = n) (hnc : n ≤ c) (hm : c ≤ maxLen) (hR : Rd w A zs) (hb0 : -9223372036854775808 ≤ at_) (hb1 : at_ ≤ 9223372036854775807) (hs0 : 0 ≤ s) (hs1 : s ≤ 4294967295) :
    Calls Try.prog 3 #[.slice A n c, .int .i64 at_, .int .u32 s] w fun e w' => e = .returned (.bool true) ∧ Below w.heap.size w w' := by
  unfold maxLen at hm
  have Hn := Lib.hid hn
  clear hn
  go_enter Try.func3, Try.ntmps3
  go_upto_region 1 with fail
  go_cut [0] (fun s0 wx => ∃ (g k c' : Nat) (ys : List Int), s0 = .slice (some ⟨g, 0, none⟩) k c' ∧ Own wx w.heap.size (some ⟨g, 0, none⟩) k c' ys ∧ k ≤ 200 ∧ Below w.heap.size w wx)
  case first =>
    have r1 := Lib.hid hR
    have r2 := Lib.hid (hR.take 200)
    clear hR
    by_cases h200 : n ≤ 200
    · go_wp2_with (at_builtin; refine wpList_app rfl (.tmp 9) (.tmp 14) rfl rfl (Own.empty w (Nat.le_refl _)) zs rfl (r1.out.alloc _) Hn.out (by omega) (by simp) ?_)
      intro A' c' w' hown hg hA
      have hbe := below_app ((Below.refl _ _).alloc (Nat.le_refl _) _) hg (Own.empty w (Nat.le_refl _)) (Nat.le_refl _) (by simp)
      obtain ⟨g, rfl⟩ : ∃ g, A' = some ⟨g, 0, none⟩ := by rcases hA with h | h <;> exact ⟨_, h⟩
      clear hA hg
      go_wp2
      go_meet
      exact ⟨g, _, c', _, rfl, hown, by omega, hbe⟩
    · go_wp2_with (at_builtin; refine wpList_app rfl (.tmp 9) (.tmp 14) rfl rfl (Own.empty w (Nat.le_refl _)) (zs.take 200) rfl (r2.out.alloc _) (by rw [List.length_take, Hn.out]; omega) (by omega) (by simp) ?_)
      intro A' c' w' hown hg hA
      have hbe := below_app ((Below.refl _ _).alloc (Nat.le_refl _) _) hg (Own.empty w (Nat.le_refl _)) (Nat.le_refl _) (by simp)
      obtain ⟨g, rfl⟩ : ∃ g, A' = some ⟨g, 0, none⟩ := by rcases hA with h | h <;> exact ⟨_, h⟩
      clear hA hg
      go_wp2
      go_meet
      exact ⟨g, _, c', _, rfl, hown, by omega, hbe⟩
  case rest =>
    obtain ⟨g, k, c', ys, rfl, hown, hk, hbel⟩ := hcut
    have hBy := hown.byt
    have hsz := hbel.size
    have hkc := hown.cap
    have hcv := run_str wc _ k c' ys hown.len hown.rd
    have Hown := Lib.hid hown
    have Hbel := Lib.hid hbel
    clear hown hbel hR
    obtain ⟨K, hK, hKl⟩ := pick_any at_ ((k : Int) + 1) (by omega) (by omega)
    go_wp2
    clear hcv hK
    obtain ⟨j, hj⟩ : ∃ j : Nat, (j : Int) = (K : Int) / 2 * 2 := ⟨K / 2 * 2, by omega⟩
    rw [← hj]
    have hjk : j ≤ k := by omega
    have hj2 : j % 2 = 0 := by omega
    clear hj
    have hS : SB w w.heap.size (some ⟨g, 0, none⟩) k c' ys wc := ⟨Hown.out, Hbel.out⟩
    have hlen := Lib.hid Hown.out.len
    clear Hown Hbel hKl
    have hcv : ∀ W, SB w w.heap.size (some ⟨g, 0, none⟩) k c' ys W → (convert 22 9 (.slice (some ⟨g, 0, none⟩) k c')).run Try.prog W = .ok (.string (strOfNums ys)) W := fun W h => run_str W _ k c' ys hlen.out h.own.rd
    have t0 := tot_nonneg _ (hBy.take j)
    have t00 := tot_nonneg _ hBy
    have fr0 := F_range (s + tot ys) (by omega)
    have frs := F_range s hs0
    have fr := F_range (s + tot (ys.take j)) (by omega)
    have f1 : (F (F (s + tot (ys.take j)) + tot (ys.drop j)) == F (s + tot ys)) = true := by
      have e : tot ys = tot (ys.take j) + tot (ys.drop j) := by
        rw [← tot_append _ _ (by rw [List.length_take, hlen.out, Nat.min_eq_left hjk]; exact hj2), List.take_append_drop]
      rw [F_add _ _ (by omega) (tot_nonneg _ (hBy.drop j)), e, beq_iff_eq, Int.add_assoc]
    have f2 : (65535 - F s == 65535 - F s) = true := by simp
    have i0 : (0 : Int) ≤ (j : Int) := by omega
    have i1 : (j : Int) ≤ (k : Int) := by omega
    have i2 : (j : Int) ≤ (c' : Int) := by omega
    have i3 : (k : Int) ≤ (c' : Int) := by omega
    have hl1 := Lib.hid (show (ys.take j).length = j by rw [List.length_take, hlen.out]; omega)
    have hl2 := Lib.hid (show (ys.drop j).length = k - j by rw [List.length_drop, hlen.out])
    have ws : IntKind.i64.wrap s = s := by rw [IntKind.wrap_i64]; omega
    have wu : IntKind.u32.wrap (F (s + tot ys)) = F (s + tot ys) := by rw [IntKind.wrap_u32']; omega
    have wd : IntKind.i64.wrap (65535 - F s) = 65535 - F s := by rw [IntKind.wrap_i64]; omega
    have wd2 : IntKind.u16.wrap (65535 - F s) = 65535 - F s := by rw [IntKind.wrap_u16]; omega
    by_cases hjc : c' = j
    · have hd := Lib.hid (show ys.drop j = [] from List.eq_nil_of_length_eq_zero (by rw [hl2.out]; omega))
      obtain rfl : c' = k := by omega
      obtain rfl : c' = j := hjc
      have hl3 := Lib.hid (show (ys.drop c').length = 0 by rw [hd.out]; rfl)
      clear hl2 i0 i1 i2 i3 hjk hkc
      go_region_held3 (fun w' => SB w w.heap.size (some ⟨g, 0, none⟩) c' c' ys w')
        (first | exact hS.drew | exact SB.below (by assumption) (by assumption) (Nat.le_refl _) | exact SB.redrewN (by assumption) _ | exact SB.drewN (by assumption) _ | assumption)
        (first
          | (go_at_call 15; refine (sums_any _).mono ?_; rintro e w' ⟨rfl, hb⟩)
          | (go_at_call 16; refine (of_n _ c' c' ys _ hlen.out (by omega) ?_).mono ?_; (exact SB.own (by assumption) |>.rd); rintro e w' ⟨rfl, q, rfl⟩)
          | (go_at_call 17; refine (refOf_n _ c' c' ys _ hlen.out (by omega) ?_).mono ?_; (exact SB.own (by assumption) |>.rd); rintro e w' ⟨rfl, rfl⟩)
          | (go_at_call_of 18 (Value.int .u32 s); refine (more_n s _ _ _ (ys.take c') _ hs0 (by omega) hl1.out (by omega) ?_).mono ?_; (exact (SB.own (by assumption) |>.rd).take c'); rintro e w' ⟨rfl, q, rfl⟩)
          | (go_at_call 18; refine (more_n _ _ _ _ (ys.drop c') _ (by omega) (by omega) hl3.out (by omega) ?_).mono ?_; (exact by rw [hd.out]; exact Rd.nil _ _); rintro e w' ⟨rfl, q, rfl⟩)
          | (go_at_call 19; refine (refSum_n s _ c' c' ys _ hs0 (by omega) hlen.out (by omega) ?_).mono ?_; (exact SB.own (by assumption) |>.rd); rintro e w' ⟨rfl, rfl⟩)
          | (go_at_call 20; refine (done_any s _ hs0 (by omega)).mono ?_; rintro e w' ⟨rfl, rfl⟩)
          | (go_at_call 21; refine (refFold_any s _ hs0 (by omega)).mono ?_; rintro e w' ⟨rfl, rfl⟩))
      go_wp2
      go_ret
      exact ⟨rfl, SB.bel (by assumption)⟩
    · go_region_held3 (fun w' => SB w w.heap.size (some ⟨g, 0, none⟩) k c' ys w')
        (first | exact hS.drew | exact SB.below (by assumption) (by assumption) (Nat.le_refl _) | exact SB.redrewN (by assumption) _ | exact SB.drewN (by assumption) _ | assumption)
        (first
          | (go_at_call 15; refine (sums_any _).mono ?_; rintro e w' ⟨rfl, hb⟩)
          | (go_at_call 16; refine (of_n _ k c' ys _ hlen.out (by omega) ?_).mono ?_; (exact SB.own (by assumption) |>.rd); rintro e w' ⟨rfl, q, rfl⟩)
          | (go_at_call 17; refine (refOf_n _ k c' ys _ hlen.out (by omega) ?_).mono ?_; (exact SB.own (by assumption) |>.rd); rintro e w' ⟨rfl, rfl⟩)
          | (go_at_call_of 18 (Value.int .u32 s); refine (more_n s _ _ _ (ys.take j) _ hs0 (by omega) hl1.out (by omega) ?_).mono ?_; (exact (SB.own (by assumption) |>.rd).take j); rintro e w' ⟨rfl, q, rfl⟩)
          | (go_at_call 18; refine (more_n _ _ _ _ (ys.drop j) _ (by omega) (by omega) hl2.out (by omega) ?_).mono ?_; (exact Rd.tail (SB.own (by assumption) |>.rd) (by rw [hlen.out]; omega)); rintro e w' ⟨rfl, q, rfl⟩)
          | (go_at_call 19; refine (refSum_n s _ k c' ys _ hs0 (by omega) hlen.out (by omega) ?_).mono ?_; (exact SB.own (by assumption) |>.rd); rintro e w' ⟨rfl, rfl⟩)
          | (go_at_call 20; refine (done_any s _ hs0 (by omega)).mono ?_; rintro e w' ⟨rfl, rfl⟩)
          | (go_at_call 21; refine (refFold_any s _ hs0 (by omega)).mono ?_; rintro e w' ⟨rfl, rfl⟩))
      go_wp2
      go_ret
      exact ⟨rfl, SB.bel (by assumption)⟩
end Go.Proofs.Ytnaopekljknlaaa
