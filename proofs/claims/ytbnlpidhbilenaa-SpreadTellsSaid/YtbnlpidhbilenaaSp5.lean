/-
  spread: Worker. Conditions stand in each theorem.
-/
import Derived.Test.YtbnlpidhbilenaaSp4
namespace Go.Proofs.Ytbnlpidhbilenaa
open Go.RowKit Plain
set_option linter.unusedVariables false
set_option maxRecDepth 100000
/-- a far end's parts can be kept -/
structure Fo.ok (f : Fo) : Prop where
  a0 : 0 ≤ f.ad
  a1 : f.ad ≤ 4294967295
  p0 : 0 ≤ f.po
  p1 : f.po ≤ 65535
def wkF (ws : Int) (out : Bool) (zs : List Int) : Int :=
  if farE zs ≠ 0 then 0 else if ws < 1 then 0 else hF (farF out zs).pr (farF out zs).ad (farF out zs).po % ws
theorem hF_range (a b c : Int) : 0 ≤ hF a b c ∧ hF a b c < 4294967296 := by unfold hF; omega
set_option maxHeartbeats 4000000 in
theorem worker_any (ws : Int) (hw0 : -9223372036854775808 ≤ ws) (hw1 : ws ≤ 9223372036854775807) (out : Bool) (A : Option Addr) (n c : Nat) (zs : List Int) (w : World) (hn : zs.length = n) (hnc : n ≤ c) (hl : n ≤ 100000) (hR : Rd w A zs) (hok : (farF out zs).ok) :
    Calls Try.prog 30 #[.int .i64 ws, .bool out, .slice A n c] w fun e w' => e = .returned (.int .i64 (wkF ws out zs)) ∧ Below w.heap.size w w' := by
  have hC := far_any out A n c zs w hn hnc hl hR
  obtain ⟨er, her⟩ : ∃ e, e = farE zs := ⟨_, rfl⟩
  obtain ⟨fo, hfo⟩ : ∃ f, f = farF out zs := ⟨_, rfl⟩
  rw [← her, ← hfo] at hC
  rw [← hfo] at hok
  have HW := Lib.hid (show wkF ws out zs = if er ≠ 0 then 0 else if ws < 1 then 0 else hF fo.pr fo.ad fo.po % ws by unfold wkF; rw [← her, ← hfo])
  have HC := Lib.hid hC
  clear hC her hfo hn hR
  obtain ⟨a0, a1, a2⟩ := fo
  have HH := fun w => hash_any a0 a1 a2 hok.a0 hok.a1 hok.p0 hok.p1 w
  have hr := hF_range a0 a1 a2
  obtain ⟨h, hh⟩ : ∃ h, h = hF a0 a1 a2 := ⟨_, rfl⟩
  simp only [← hh] at HH HW hr
  have HHH := Lib.hid HH
  clear HH hh hok
  go_enter Try.func30, Try.ntmps30
  go_upto_region 2 with (go_at_call 27; refine (HC.out).mono ?_; rintro e w1 ⟨rfl, hb1⟩; rw [show (Fo.mk a0 a1 a2).val = .agg #[.int .i64 a0, .int .u32 a1, .int .u16 a2] from rfl])
  obtain ⟨w2, hw2⟩ : ∃ w2, w2 = w1.alloc (.cells #[.int .i64 a0, .int .u32 a1, .int .u16 a2] 67) := ⟨_, rfl⟩
  rw [← hw2]
  have HF2 := Lib.hid (show Blk w2 w1.heap.size 67 #[.int .i64 a0, .int .u32 a1, .int .u16 a2] by rw [hw2]; exact Blk.new w1 _ _)
  have HB2 := Lib.hid (show Below w.heap.size w w2 by rw [hw2]; exact hb1.alloc hb1.size _)
  clear hw2 hb1 HC
  generalize w1.heap.size = g7 at *
  by_cases hz : er = 0
  · obtain rfl := hz
    by_cases hw : ws < 1
    · have b1 : decide (ws < 1) = true := by simp [hw]
      have HE := Lib.hid (show wkF ws out zs = 0 by rw [HW.out, if_neg (by decide), if_pos hw])
      clear hr
      go_wp2
      go_ret
      rw [HE.out]
      exact ⟨rfl, HB2.out⟩
    · have b1 : decide (ws < 1) = false := by simp [hw]
      have HE := Lib.hid (show wkF ws out zs = h % ws by rw [HW.out, if_neg (by decide), if_neg hw])
      have e1 : IntKind.u64.wrap ws = ws := by rw [IntKind.wrap_u64]; omega
      have e2 : h.tmod ws = h % ws := Int.tmod_eq_emod_of_nonneg hr.1
      have m0 : 0 ≤ h % ws := Int.emod_nonneg _ (by omega)
      have m1 : h % ws ≤ h := by
        have := Int.emod_add_mul_ediv h ws
        have := Int.ediv_nonneg hr.1 (show 0 ≤ ws by omega)
        have := Int.mul_nonneg (show 0 ≤ ws by omega) this
        omega
      obtain ⟨x, hx⟩ : ∃ x, h % ws = x := ⟨_, rfl⟩
      rw [hx] at e2 m0 m1 HE
      have e3 : wrap64 x = x := by unfold wrap64; omega
      have e4 : IntKind.u64.wrap x = x := by rw [IntKind.wrap_u64]; omega
      have nz : (ws == 0) = false := by simp; omega
      have nz2 : ¬ (ws = 0) := by omega
      clear hx
      go_wp2_with (first | ((with_reducible refine gd_ld 67 7 ?_); refine wpList_ld rfl 67 (.tmp 7) rfl _ rfl (HF2.out) sFlow ?_) | (go_at_call 33; refine (HHH.out _).mono ?_; rintro e w3 ⟨rfl, hb3⟩))
      go_ret
      rw [HE.out]
      exact ⟨rfl, bthen HB2.out hb3⟩
  · have b1 : (er == 0) = false := by simp [hz]
    have b2 : (er != 0) = true := by simp [hz]
    have HE := Lib.hid (show wkF ws out zs = 0 by rw [HW.out, if_pos hz])
    clear hr
    go_wp2
    go_ret
    rw [HE.out]
    exact ⟨rfl, HB2.out⟩
set_option maxHeartbeats 4000000 in
theorem rworker_any (ws : Int) (hw0 : -9223372036854775808 ≤ ws) (hw1 : ws ≤ 9223372036854775807) (out : Bool) (A : Option Addr) (n c : Nat) (zs : List Int) (w : World) (hn : zs.length = n) (hnc : n ≤ c) (hl : n ≤ 100000) (hR : Rd w A zs) (hok : (farF out zs).ok) :
    Calls Try.prog 31 #[.int .i64 ws, .bool out, .slice A n c] w fun e w' => e = .returned (.int .i64 (wkF ws out zs)) ∧ Below w.heap.size w w' := by
  have hC := rfar_any out A n c zs w hn hnc hl hR
  obtain ⟨er, her⟩ : ∃ e, e = farE zs := ⟨_, rfl⟩
  obtain ⟨fo, hfo⟩ : ∃ f, f = farF out zs := ⟨_, rfl⟩
  rw [← her, ← hfo] at hC
  rw [← hfo] at hok
  have HW := Lib.hid (show wkF ws out zs = if er ≠ 0 then 0 else if ws < 1 then 0 else hF fo.pr fo.ad fo.po % ws by unfold wkF; rw [← her, ← hfo])
  have HC := Lib.hid hC
  clear hC her hfo hn hR
  obtain ⟨a0, a1, a2⟩ := fo
  have HH := fun w => rhash_any a0 a1 a2 hok.a0 hok.a1 hok.p0 hok.p1 w
  have hr := hF_range a0 a1 a2
  obtain ⟨h, hh⟩ : ∃ h, h = hF a0 a1 a2 := ⟨_, rfl⟩
  simp only [← hh] at HH HW hr
  have HHH := Lib.hid HH
  clear HH hh hok
  go_enter Try.func31, Try.ntmps31
  go_upto_region 2 with (go_at_call 28; refine (HC.out).mono ?_; rintro e w1 ⟨rfl, hb1⟩; rw [show (Fo.mk a0 a1 a2).val = .agg #[.int .i64 a0, .int .u32 a1, .int .u16 a2] from rfl])
  obtain ⟨w2, hw2⟩ : ∃ w2, w2 = w1.alloc (.cells #[.int .i64 a0, .int .u32 a1, .int .u16 a2] 70) := ⟨_, rfl⟩
  rw [← hw2]
  have HF2 := Lib.hid (show Blk w2 w1.heap.size 70 #[.int .i64 a0, .int .u32 a1, .int .u16 a2] by rw [hw2]; exact Blk.new w1 _ _)
  have HB2 := Lib.hid (show Below w.heap.size w w2 by rw [hw2]; exact hb1.alloc hb1.size _)
  clear hw2 hb1 HC
  generalize w1.heap.size = g7 at *
  by_cases hz : er = 0
  · obtain rfl := hz
    by_cases hw : ws < 1
    · have b1 : decide (ws < 1) = true := by simp [hw]
      have HE := Lib.hid (show wkF ws out zs = 0 by rw [HW.out, if_neg (by decide), if_pos hw])
      clear hr
      go_wp2
      go_ret
      rw [HE.out]
      exact ⟨rfl, HB2.out⟩
    · have b1 : decide (ws < 1) = false := by simp [hw]
      have HE := Lib.hid (show wkF ws out zs = h % ws by rw [HW.out, if_neg (by decide), if_neg hw])
      have e1 : IntKind.u64.wrap ws = ws := by rw [IntKind.wrap_u64]; omega
      have e2 : h.tmod ws = h % ws := Int.tmod_eq_emod_of_nonneg hr.1
      have m0 : 0 ≤ h % ws := Int.emod_nonneg _ (by omega)
      have m1 : h % ws ≤ h := by
        have := Int.emod_add_mul_ediv h ws
        have := Int.ediv_nonneg hr.1 (show 0 ≤ ws by omega)
        have := Int.mul_nonneg (show 0 ≤ ws by omega) this
        omega
      obtain ⟨x, hx⟩ : ∃ x, h % ws = x := ⟨_, rfl⟩
      rw [hx] at e2 m0 m1 HE
      have e3 : wrap64 x = x := by unfold wrap64; omega
      have e4 : IntKind.u64.wrap x = x := by rw [IntKind.wrap_u64]; omega
      have nz : (ws == 0) = false := by simp; omega
      have nz2 : ¬ (ws = 0) := by omega
      clear hx
      go_wp2_with (first | ((with_reducible refine gd_ld 70 7 ?_); refine wpList_ld rfl 70 (.tmp 7) rfl _ rfl (HF2.out) rFlow ?_) | (go_at_call 35; refine (HHH.out _).mono ?_; rintro e w3 ⟨rfl, hb3⟩))
      go_ret
      rw [HE.out]
      exact ⟨rfl, bthen HB2.out hb3⟩
  · have b1 : (er == 0) = false := by simp [hz]
    have b2 : (er != 0) = true := by simp [hz]
    have HE := Lib.hid (show wkF ws out zs = 0 by rw [HW.out, if_pos hz])
    clear hr
    go_wp2
    go_ret
    rw [HE.out]
    exact ⟨rfl, HB2.out⟩
end Go.Proofs.Ytbnlpidhbilenaa
