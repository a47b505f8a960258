/-
  Package place: Load and Cas of Places. Conditions stand in each theorem.
-/
import Derived.Test.YtpiobdbaljkkpaaPlS
import Derived.RegionTactic
import Derived.BigRegion
import Derived.Deep.QuietTactic
import Derived.BigQuiet
import Derived.Deep.DeepCutAuto
import Derived.Deep.RegionHeld3
namespace Go.Proofs.Ytpiobdbaljkkpaa
open Go.RowKit Plain
set_option linter.unusedVariables false
set_option maxRecDepth 100000
set_option linter.unusedSimpArgs false

section
variable {w : World} {gp gc gn n : Nat} {l : List Int}
def wz : Wd := ⟨0, 0, 0, 0⟩
theorem Blk.c4set {w : World} {g : Nat} {t : TypeId} {x0 x1 x2 x3 : Value} (h : Blk w g t #[x0, x1, x2, x3]) (v0 v1 v2 v3 : Value) :
    Blk ((((w.setCell ⟨g, 0, none⟩ v0).setCell ⟨g, 1, none⟩ v1).setCell ⟨g, 2, none⟩ v2).setCell ⟨g, 3, none⟩ v3) g t #[v0, v1, v2, v3] :=
  (((h.set 0 v0).set 1 v1).set 2 v2).set 3 v3

theorem pload_out (h : PlB w gp gc gn n l) (i : Int) (hi : inC n i = false) :
    Calls Try.prog 23 #[.pointer (some ⟨gp, 0, none⟩), .int .i64 i] w fun e w' => e = .returned wz.val ∧ Below w.heap.size w w' := by
  have HI := Lib.hid hi
  have H := Lib.hid (h.alloc (.cells #[.int .i64 0, .int .i64 0, .int .i64 0, .int .i64 0] 62))
  rw [show wz.val = .agg #[.int .i64 0, .int .i64 0, .int .i64 0, .int .i64 0] from rfl]
  clear h hi
  go_enter Try.func23, Try.ntmps23
  go_wp2_with fail
  refine (phas_any H.out i).mono ?_
  rintro e w' ⟨rfl, rfl⟩
  rw [HI.out]
  go_wp2
  refine bodyPost_ret (v := .agg #[.int .i64 0, .int .i64 0, .int .i64 0, .int .i64 0]) (by simp [results, Try.results23, go_sem]) rfl ⟨rfl, ?_⟩
  exact ball w _

set_option maxHeartbeats 1000000 in
theorem pload_any (h : PlB w gp gc gn n l) (i : Nat) (hi : i < n) :
    Calls Try.prog 23 #[.pointer (some ⟨gp, 0, none⟩), .int .i64 i] w fun e w' => e = .returned (wdOf (l.getD (2 * i) 0)).val ∧ Below w.heap.size w w' := by
  have hmx := h.mx
  have hu := h.cl.u64 (2 * i)
  have H := Lib.hid (h.alloc (.cells #[.int .i64 0, .int .i64 0, .int .i64 0, .int .i64 0] 62))
  have HU := Lib.hid (unpack_any (l.getD (2 * i) 0) hu.1 hu.2)
  have hlt := h.lt
  obtain ⟨x, hx⟩ : ∃ x, x = wdOf (l.getD (2 * i) 0) := ⟨_, rfl⟩
  rw [← hx] at HU ⊢
  obtain ⟨a, b, c, d⟩ := x
  rw [Wd.v4] at HU ⊢
  clear h hx
  go_enter Try.func23, Try.ntmps23
  go_wp2_with fail
  refine (phas_any H.out i).mono ?_
  rintro e w' ⟨rfl, rfl⟩
  rw [inC_nat hi]
  obtain ⟨v, hv⟩ : ∃ v, v = l.getD (2 * i) 0 := ⟨_, rfl⟩
  rw [← hv] at HU hu
  have c0 : (w.alloc (.cells #[.int .i64 0, .int .i64 0, .int .i64 0, .int .i64 0] 62)).cell? ⟨gp, 0, none⟩ = some (.pointer (some ⟨gc, 0, none⟩)) := H.out.ptr
  have HL := Lib.hid (load_eq (H.out.drewN 1).cl (2 * i) (by omega) v hv.symm)
  have bk0 := Lib.hid (Blk.drewN (Blk.new w 62 #[.int .i64 0, .int .i64 0, .int .i64 0, .int .i64 0]) 1)
  have hb0 := Lib.hid ((ball w (.cells #[.int .i64 0, .int .i64 0, .int .i64 0, .int .i64 0] 62)).drew)
  have hne : gp ≠ w.heap.size := by omega
  have hg1 : gp < (w.alloc (.cells #[.int .i64 0, .int .i64 0, .int .i64 0, .int .i64 0] 62)).heap.size := by simp; omega
  have Hv := Lib.hid hv
  clear hv H
  go_upto_region 3 with fail
  generalize w.alloc (.cells #[.int .i64 0, .int .i64 0, .int .i64 0, .int .i64 0] 62) = w1 at *
  go_region_with (first
      | (go_at_call 62; refine (wordCell_any i (by omega) _).mono ?_; rintro e w' ⟨rfl, rfl⟩)
      | (go_at_call 20; refine (HL.out).mono ?_; rintro e w' ⟨rfl, rfl⟩)
      | (go_at_call 61; refine (HU.out _).mono ?_; rintro e w' ⟨rfl, hb⟩; have bk := Lib.hid (bk0.out.below hb); obtain ⟨k0, k1, k2, k3⟩ := bk.out.c4; have f0 := bk.out.frozen 0; have f1 := bk.out.frozen 1; have f2 := bk.out.frozen 2; have f3 := bk.out.frozen 3; have Hb := Lib.hid (hb0.out.trans (hb.mono (Below.size hb0.out))); clear hb))
  all_goals
    have BF := Lib.hid (bk.out.c4set (.int .i64 a) (.int .i64 b) (.int .i64 c) (.int .i64 d))
    have HF := Lib.hid ((((Hb.out.setCell (p := ⟨w.heap.size, 0, none⟩) (Nat.le_refl _) (.int .i64 a)).setCell (p := ⟨w.heap.size, 1, none⟩) (Nat.le_refl _) (.int .i64 b)).setCell (p := ⟨w.heap.size, 2, none⟩) (Nat.le_refl _) (.int .i64 c)).setCell (p := ⟨w.heap.size, 3, none⟩) (Nat.le_refl _) (.int .i64 d))
    clear k0 k1 k2 k3 f0 f1 f2 f3 bk Hb
    generalize (((w'.setCell ⟨w.heap.size, 0, none⟩ (Value.int IntKind.i64 a)).setCell ⟨w.heap.size, 1, none⟩ (Value.int IntKind.i64 b)).setCell ⟨w.heap.size, 2, none⟩ (Value.int IntKind.i64 c)).setCell ⟨w.heap.size, 3, none⟩ (Value.int IntKind.i64 d) = w9 at *
    go_wp2
    exact bodyPost_ret (res_cell1 Try.results23 _ w.heap.size rfl BF.out styW) rfl ⟨rfl, HF.out⟩
end
end Go.Proofs.Ytpiobdbaljkkpaa
