/-
  Package fanlightlaw03: the frame of a Sent. Conditions stand in each theorem.
-/
import Derived.Test.YtbnlpidhbilenaaSent
import Derived.Test.YtbnlpidhbilenaaHeads
namespace Go.Proofs.Ytbnlpidhbilenaa
open Go.RowKit Plain
set_option linter.unusedVariables false
set_option linter.unusedSimpArgs false
set_option maxRecDepth 100000

theorem Sn.ok.below {x : Sn} {w w' : World} (h : x.ok w) (hb : Below w.heap.size w w') : x.ok w' :=
  ⟨h.s0, h.s1, h.d0, h.d1, h.f0, h.f1, h.t0, h.t1, h.len, h.cap, h.max, h.rd.below hb⟩

theorem carL_len (K : Nat) (s d f t fl : Int) (L : List Int) (hl : L.length ≤ 40) : (carL K s d f t fl L).length ≤ 100 := by
  unfold carL
  split
  · rw [udL_len]; omega
  · rw [tcL_len]; omega
  · rw [icL_len]; omega
  · rw [icL_len]; omega
  · rw [icL_len, frm_len, udL_len]; omega
  · rw [icL_len, List.length_take, frm_len, tcL_len]; omega
  · rw [icL_len, frm_len, icL_len]; omega
theorem carP_range (K : Nat) : 0 ≤ carP K ∧ carP K ≤ 255 := by unfold carP; split <;> decide

/-- the frame of a Sent -/
def frL (x : Sn) (K : Nat) : List Int := frm 64 (carP K) x.s x.d (carL K x.s x.d x.f x.t x.fl (x.ys.take 40))
def FrameOk (x : Sn) (K : Nat) (w : World) (e : Ending) (w' : World) : Prop :=
  ∃ g m cc, e = .returned (.slice (some ⟨g, 0, none⟩) (20 + m) cc) ∧ m = (carL K x.s x.d x.f x.t x.fl (x.ys.take 40)).length ∧ m ≤ 100 ∧ Own w' w.heap.size (some ⟨g, 0, none⟩) (20 + m) cc (frL x K) ∧ Below w.heap.size w w'

set_option maxHeartbeats 4000000 in
theorem frame_of (x : Sn) (K : Nat) (w : World) (ok : x.ok w) (hC : ∀ w', x.ok w' → Calls Try.prog 54 #[x.val] w' (CarOk x K w')) :
    Calls Try.prog 36 #[x.val] w (FrameOk x K w) := by
  have HC := Lib.hid hC
  have HOk := Lib.hid ok
  clear hC ok
  obtain ⟨what, s, d, f, t, fl, A, n, c, ys⟩ := x
  rw [show (Sn.mk what s d f t fl A n c ys).val = .agg #[.int .i64 what, .int .u32 s, .int .u32 d, .int .u16 f, .int .u16 t, .int .i64 fl, .slice A n c] from rfl] at *
  go_enter Try.func36, Try.ntmps36
  go_wp2_with fail
  have HB1 := Lib.hid (ball w (.cells #[.int .i64 what, .int .u32 s, .int .u32 d, .int .u16 f, .int .u16 t, .int .i64 fl, .slice A n c] 80))
  have HK1 := Lib.hid (Blk.new w 80 #[.int .i64 what, .int .u32 s, .int .u32 d, .int .u16 f, .int .u16 t, .int .i64 fl, .slice A n c])
  generalize w.alloc (.cells #[.int .i64 what, .int .u32 s, .int .u32 d, .int .u16 f, .int .u16 t, .int .i64 fl, .slice A n c] 80) = w1 at *
  have hs1 := HB1.out.size
  obtain ⟨g, hg⟩ : ∃ g, g = w.heap.size := ⟨_, rfl⟩
  rw [← hg] at HK1
  rw [← hg]
  clear hg
  refine (HC.out _ (HOk.out.below HB1.out)).mono ?_
  rintro e w2 ⟨g2, m, cc, rfl, ho, hb⟩
  have HO2 := Lib.hid (ho.mono hs1)
  have HB2 := Lib.hid (bthen HB1.out hb)
  have HK2 := Lib.hid (HK1.out.below hb)
  clear ho hb HB1 HK1
  have k1 : w2.cell? ⟨g, 1, none⟩ = some (.int .u32 s) := HK2.out.cell 1
  have k2 : w2.cell? ⟨g, 2, none⟩ = some (.int .u32 d) := HK2.out.cell 2
  have hpr := carP_range K
  have hm : m ≤ 100 := by
    have h1 := HO2.out.len
    have h2 := carL_len K s d f t fl (ys.take 40) (by rw [List.length_take]; omega)
    simp only at h1
    omega
  obtain ⟨L, hL⟩ : ∃ L, L = carL K s d f t fl (ys.take 40) := ⟨_, rfl⟩
  obtain ⟨pr, hp⟩ : ∃ p, p = carP K := ⟨_, rfl⟩
  have HO3 := Lib.hid (show Own w2 w.heap.size (some ⟨g2, 0, none⟩) m cc L by rw [hL]; exact HO2.out)
  rw [← hp] at hpr
  rw [← hp]
  have HP := Lib.hid hp
  have HL := Lib.hid hL
  clear hp hL HO2
  go_wp2_with fail
  have okk := HOk.out
  refine (rput_yes 0 0 64 pr s d (some ⟨g2, 0, none⟩) m cc L _ (by omega) HO3.out.len HO3.out.rd (by omega) (by omega) hpr.1 hpr.2 okk.s0 okk.s1 okk.d0 okk.d1).mono ?_
  rintro e w3 ⟨g3, c3, rfl, ho3, hb3⟩
  have HO4 := Lib.hid ho3
  have HB3 := Lib.hid (bthen HB2.out hb3)
  have hs2 := HB2.out.size
  clear ho3 hb3 okk
  go_wp2
  go_ret
  refine ⟨g3, m, c3, rfl, ?_, hm, ?_, HB3.out⟩
  · have := HO3.out.len
    rw [HL.out] at this
    exact this.symm
  · have := HO4.out.mono hs2
    rw [HP.out, HL.out] at this
    exact this

theorem frame_low (x : Sn) (K : Nat) (hK4 : K < 4) (w : World) (ok : x.ok w) (hK : wrap64 ((IntKind.u64.wrap x.what).tmod 7) = (K : Int)) :
    Calls Try.prog 36 #[x.val] w (FrameOk x K w) :=
  frame_of x K w ok fun w' ok' => carried_low x K hK4 w' ok' hK
end Go.Proofs.Ytbnlpidhbilenaa
