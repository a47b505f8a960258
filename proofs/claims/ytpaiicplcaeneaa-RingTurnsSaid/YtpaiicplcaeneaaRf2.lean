/-
  The document's ring (fanlightref20): Do, step by step. Conditions stand in each theorem.
-/
import Derived.Test.YtpaiicplcaeneaaRf
namespace Go.Proofs.Ytpaiicplcaeneaa
open Go.RowKit Plain
set_option linter.unusedVariables false
set_option maxRecDepth 100000
section
variable {w : World} {gf gl N go hd : Nat} {vs : List Int} {P G : Option Nat} {p g : FSt} {v : Int} {a : Nat}
set_option maxHeartbeats 2000000 in
theorem fdo1y (h : RfB w gf gl N go hd vs P G ⟨0, 0, v, 11, false⟩ g) (ha : P = some a) (hle : go ≤ hd) (hm : hd ≤ 1000000) (hN : hd - go = N) :
    Calls Try.prog 23 #[.pointer (some ⟨gf, 0, none⟩), .pointer (some ⟨a, 0, none⟩)] w (FdoOk w gf gl N go hd vs P G ⟨0, 1, v, 9, true⟩ g [gf, gl, a] true) := by
  have hb := h.ps a ha
  have c1 : w.cell? ⟨a, 1, none⟩ = some (.int .i64 0) := hb.cell 1
  have c4 : w.cell? ⟨a, 4, none⟩ = some (.bool false) := hb.cell 4
  have f1 := hb.frozen 1
  have hne : a ≠ gf := blk_types hb h.rs (by decide)
  have hnl : a ≠ gl := blk_types hb h.rw' (by decide)
  have n1 := h.n1
  have n2 := h.n2
  have H2 := Lib.hid (h.setP ha 1 (.int .i64 1) ⟨0, 1, v, 11, false⟩ rfl)
  have HK2 := Lib.hid ((Keep.refl [gf, gl, a] w).setCell (p := ⟨a, 1, none⟩) (.inl (by simp)) (.int .i64 1))
  have HA := Lib.hid ha
  clear h ha hb
  go_enter Try.func23, Try.ntmps23
  go_upto_region 4 with fail
  clear c1 c4 f1
  generalize w.setCell ⟨a, 1, none⟩ (.int .i64 1) = w2 at *
  have c0 : w2.cell? ⟨a, 0, none⟩ = some (.int .i64 0) := (H2.out.ps a HA.out).cell 0
  have c1 : w2.cell? ⟨a, 1, none⟩ = some (.int .i64 1) := (H2.out.ps a HA.out).cell 1
  have c2 : w2.cell? ⟨a, 2, none⟩ = some (.int .u64 v) := (H2.out.ps a HA.out).cell 2
  have c4 : w2.cell? ⟨a, 4, none⟩ = some (.bool false) := (H2.out.ps a HA.out).cell 4
  have r0 : w2.cell? ⟨gf, 0, none⟩ = some (.int .i64 N) := H2.out.rs.cell 0
  have r1 : w2.cell? ⟨gf, 1, none⟩ = some (.int .u64 go) := H2.out.rs.cell 1
  have r2 : w2.cell? ⟨gf, 2, none⟩ = some (.int .u64 hd) := H2.out.rs.cell 2
  have r3 : w2.cell? ⟨gf, 3, none⟩ = some (.slice (some ⟨gl, 0, none⟩) N N) := H2.out.rs.cell 3
  have eN : IntKind.u64.wrap (N : Int) = (N : Int) := by rw [IntKind.wrap_u64]; omega
  have e1 : IntKind.u64.wrap ((hd : Int) - (go : Int)) = (hd : Int) - (go : Int) := by rw [IntKind.wrap_u64]; omega
  have b1 : ((hd : Int) - (go : Int) == (N : Int)) = true := by simp; omega
  clear hN
  go_upto_region 8 with fail
  go_quiet (fail)
  have H3 := Lib.hid (H2.out.drewN nq)
  have HK3 := Lib.hid (HK2.out.drewN nq)
  clear H2 HK2 c0 c1 c2 c4 r0 r1 r2 r3
  go_wp2_with fail
  refine (fend_any 9 a ⟨0, 1, v, 11, false⟩ _ (H3.out.ps a HA.out)).mono ?_
  rintro e w4 ⟨rfl, hw4⟩
  have h4 := (H3.out.setP HA.out 3 (.int .i64 9) ⟨0, 1, v, 9, false⟩ rfl).setP HA.out 4 (.bool true) ⟨0, 1, v, 9, true⟩ rfl
  have hk4 := (HK3.out.setCell (p := ⟨a, 3, none⟩) (.inl (by simp)) (.int .i64 9)).setCell (p := ⟨a, 4, none⟩) (.inl (by simp)) (.bool true)
  rw [← hw4] at h4 hk4
  have H4 := Lib.hid h4
  have HK4 := Lib.hid hk4
  clear h4 hk4 hw4 H3 HK3
  have c4 : w4.cell? ⟨a, 4, none⟩ = some (.bool true) := (H4.out.ps a HA.out).cell 4
  go_wp2
  go_ret
  exact ⟨rfl, H4.out, HK4.out⟩
set_option maxHeartbeats 2000000 in
theorem fdo1n (h : RfB w gf gl N go hd vs P G ⟨0, 0, v, 11, false⟩ g) (ha : P = some a) (hle : go ≤ hd) (hm : hd ≤ 1000000) (hN : hd - go ≠ N) :
    Calls Try.prog 23 #[.pointer (some ⟨gf, 0, none⟩), .pointer (some ⟨a, 0, none⟩)] w (FdoOk w gf gl N go hd vs P G ⟨0, 1, v, 11, false⟩ g [gf, gl, a] false) := by
  have hb := h.ps a ha
  have c1 : w.cell? ⟨a, 1, none⟩ = some (.int .i64 0) := hb.cell 1
  have c4 : w.cell? ⟨a, 4, none⟩ = some (.bool false) := hb.cell 4
  have f1 := hb.frozen 1
  have hne : a ≠ gf := blk_types hb h.rs (by decide)
  have hnl : a ≠ gl := blk_types hb h.rw' (by decide)
  have n1 := h.n1
  have n2 := h.n2
  have H2 := Lib.hid (h.setP ha 1 (.int .i64 1) ⟨0, 1, v, 11, false⟩ rfl)
  have HK2 := Lib.hid ((Keep.refl [gf, gl, a] w).setCell (p := ⟨a, 1, none⟩) (.inl (by simp)) (.int .i64 1))
  have HA := Lib.hid ha
  clear h ha hb
  go_enter Try.func23, Try.ntmps23
  go_upto_region 4 with fail
  clear c1 c4 f1
  generalize w.setCell ⟨a, 1, none⟩ (.int .i64 1) = w2 at *
  have c0 : w2.cell? ⟨a, 0, none⟩ = some (.int .i64 0) := (H2.out.ps a HA.out).cell 0
  have c1 : w2.cell? ⟨a, 1, none⟩ = some (.int .i64 1) := (H2.out.ps a HA.out).cell 1
  have c2 : w2.cell? ⟨a, 2, none⟩ = some (.int .u64 v) := (H2.out.ps a HA.out).cell 2
  have c4 : w2.cell? ⟨a, 4, none⟩ = some (.bool false) := (H2.out.ps a HA.out).cell 4
  have r0 : w2.cell? ⟨gf, 0, none⟩ = some (.int .i64 N) := H2.out.rs.cell 0
  have r1 : w2.cell? ⟨gf, 1, none⟩ = some (.int .u64 go) := H2.out.rs.cell 1
  have r2 : w2.cell? ⟨gf, 2, none⟩ = some (.int .u64 hd) := H2.out.rs.cell 2
  have r3 : w2.cell? ⟨gf, 3, none⟩ = some (.slice (some ⟨gl, 0, none⟩) N N) := H2.out.rs.cell 3
  have eN : IntKind.u64.wrap (N : Int) = (N : Int) := by rw [IntKind.wrap_u64]; omega
  have e1 : IntKind.u64.wrap ((hd : Int) - (go : Int)) = (hd : Int) - (go : Int) := by rw [IntKind.wrap_u64]; omega
  have b1 : ((hd : Int) - (go : Int) == (N : Int)) = false := by simp; omega
  clear hN
  go_upto_region 8 with fail
  go_quiet (fail)
  go_wp2
  go_ret
  exact ⟨rfl, H2.out.drewN _, HK2.out.drewN _⟩
set_option maxHeartbeats 2000000 in
theorem fdo4y (h : RfB w gf gl N go hd vs P G p ⟨1, 0, v, 11, false⟩) (ha : G = some a) (hN : hd = go) :
    Calls Try.prog 23 #[.pointer (some ⟨gf, 0, none⟩), .pointer (some ⟨a, 0, none⟩)] w (FdoOk w gf gl N go hd vs P G p ⟨1, 1, v, 7, true⟩ [gf, gl, a] true) := by
  have hb := h.gs a ha
  have c1 : w.cell? ⟨a, 1, none⟩ = some (.int .i64 0) := hb.cell 1
  have c4 : w.cell? ⟨a, 4, none⟩ = some (.bool false) := hb.cell 4
  have f1 := hb.frozen 1
  have hne : a ≠ gf := blk_types hb h.rs (by decide)
  have hnl : a ≠ gl := blk_types hb h.rw' (by decide)
  have n1 := h.n1
  have n2 := h.n2
  have H2 := Lib.hid (h.setG ha 1 (.int .i64 1) ⟨1, 1, v, 11, false⟩ rfl)
  have HK2 := Lib.hid ((Keep.refl [gf, gl, a] w).setCell (p := ⟨a, 1, none⟩) (.inl (by simp)) (.int .i64 1))
  have HA := Lib.hid ha
  clear h ha hb
  go_enter Try.func23, Try.ntmps23
  go_upto_region 4 with fail
  clear c1 c4 f1
  generalize w.setCell ⟨a, 1, none⟩ (.int .i64 1) = w2 at *
  have c0 : w2.cell? ⟨a, 0, none⟩ = some (.int .i64 1) := (H2.out.gs a HA.out).cell 0
  have c1 : w2.cell? ⟨a, 1, none⟩ = some (.int .i64 1) := (H2.out.gs a HA.out).cell 1
  have c2 : w2.cell? ⟨a, 2, none⟩ = some (.int .u64 v) := (H2.out.gs a HA.out).cell 2
  have c4 : w2.cell? ⟨a, 4, none⟩ = some (.bool false) := (H2.out.gs a HA.out).cell 4
  have r0 : w2.cell? ⟨gf, 0, none⟩ = some (.int .i64 N) := H2.out.rs.cell 0
  have r1 : w2.cell? ⟨gf, 1, none⟩ = some (.int .u64 go) := H2.out.rs.cell 1
  have r2 : w2.cell? ⟨gf, 2, none⟩ = some (.int .u64 hd) := H2.out.rs.cell 2
  have r3 : w2.cell? ⟨gf, 3, none⟩ = some (.slice (some ⟨gl, 0, none⟩) N N) := H2.out.rs.cell 3
  have eN : IntKind.u64.wrap (N : Int) = (N : Int) := by rw [IntKind.wrap_u64]; omega
  have b1 : ((hd : Int) == (go : Int)) = true := by simp; omega
  clear hN
  go_upto_region 16 with fail
  go_quiet (fail)
  have H3 := Lib.hid (H2.out.drewN nq)
  have HK3 := Lib.hid (HK2.out.drewN nq)
  clear H2 HK2 c0 c1 c2 c4 r0 r1 r2 r3
  go_wp2_with fail
  refine (fend_any 7 a ⟨1, 1, v, 11, false⟩ _ (H3.out.gs a HA.out)).mono ?_
  rintro e w4 ⟨rfl, hw4⟩
  have h4 := (H3.out.setG HA.out 3 (.int .i64 7) ⟨1, 1, v, 7, false⟩ rfl).setG HA.out 4 (.bool true) ⟨1, 1, v, 7, true⟩ rfl
  have hk4 := (HK3.out.setCell (p := ⟨a, 3, none⟩) (.inl (by simp)) (.int .i64 7)).setCell (p := ⟨a, 4, none⟩) (.inl (by simp)) (.bool true)
  rw [← hw4] at h4 hk4
  have H4 := Lib.hid h4
  have HK4 := Lib.hid hk4
  clear h4 hk4 hw4 H3 HK3
  have c4 : w4.cell? ⟨a, 4, none⟩ = some (.bool true) := (H4.out.gs a HA.out).cell 4
  go_wp2
  go_ret
  exact ⟨rfl, H4.out, HK4.out⟩
set_option maxHeartbeats 2000000 in
theorem fdo4n (h : RfB w gf gl N go hd vs P G p ⟨1, 0, v, 11, false⟩) (ha : G = some a) (hN : hd ≠ go) :
    Calls Try.prog 23 #[.pointer (some ⟨gf, 0, none⟩), .pointer (some ⟨a, 0, none⟩)] w (FdoOk w gf gl N go hd vs P G p ⟨1, 1, v, 11, false⟩ [gf, gl, a] false) := by
  have hb := h.gs a ha
  have c1 : w.cell? ⟨a, 1, none⟩ = some (.int .i64 0) := hb.cell 1
  have c4 : w.cell? ⟨a, 4, none⟩ = some (.bool false) := hb.cell 4
  have f1 := hb.frozen 1
  have hne : a ≠ gf := blk_types hb h.rs (by decide)
  have hnl : a ≠ gl := blk_types hb h.rw' (by decide)
  have n1 := h.n1
  have n2 := h.n2
  have H2 := Lib.hid (h.setG ha 1 (.int .i64 1) ⟨1, 1, v, 11, false⟩ rfl)
  have HK2 := Lib.hid ((Keep.refl [gf, gl, a] w).setCell (p := ⟨a, 1, none⟩) (.inl (by simp)) (.int .i64 1))
  have HA := Lib.hid ha
  clear h ha hb
  go_enter Try.func23, Try.ntmps23
  go_upto_region 4 with fail
  clear c1 c4 f1
  generalize w.setCell ⟨a, 1, none⟩ (.int .i64 1) = w2 at *
  have c0 : w2.cell? ⟨a, 0, none⟩ = some (.int .i64 1) := (H2.out.gs a HA.out).cell 0
  have c1 : w2.cell? ⟨a, 1, none⟩ = some (.int .i64 1) := (H2.out.gs a HA.out).cell 1
  have c2 : w2.cell? ⟨a, 2, none⟩ = some (.int .u64 v) := (H2.out.gs a HA.out).cell 2
  have c4 : w2.cell? ⟨a, 4, none⟩ = some (.bool false) := (H2.out.gs a HA.out).cell 4
  have r0 : w2.cell? ⟨gf, 0, none⟩ = some (.int .i64 N) := H2.out.rs.cell 0
  have r1 : w2.cell? ⟨gf, 1, none⟩ = some (.int .u64 go) := H2.out.rs.cell 1
  have r2 : w2.cell? ⟨gf, 2, none⟩ = some (.int .u64 hd) := H2.out.rs.cell 2
  have r3 : w2.cell? ⟨gf, 3, none⟩ = some (.slice (some ⟨gl, 0, none⟩) N N) := H2.out.rs.cell 3
  have eN : IntKind.u64.wrap (N : Int) = (N : Int) := by rw [IntKind.wrap_u64]; omega
  have b1 : ((hd : Int) == (go : Int)) = false := by simp; omega
  clear hN
  go_upto_region 16 with fail
  go_quiet (fail)
  go_wp2
  go_ret
  exact ⟨rfl, H2.out.drewN _, HK2.out.drewN _⟩
set_option maxHeartbeats 2000000 in
theorem fdo2 (h : RfB w gf gl N go hd vs P G ⟨0, 1, v, 11, false⟩ g) (ha : P = some a) (hv : U64 v) (hm : hd ≤ 1000000) :
    Calls Try.prog 23 #[.pointer (some ⟨gf, 0, none⟩), .pointer (some ⟨a, 0, none⟩)] w (FdoOk w gf gl N go hd (vs.set (hd % N) v) P G ⟨0, 2, v, 11, false⟩ g [gf, gl, a] false) := by
  have hb := h.ps a ha
  have c1 : w.cell? ⟨a, 1, none⟩ = some (.int .i64 1) := hb.cell 1
  have c4 : w.cell? ⟨a, 4, none⟩ = some (.bool false) := hb.cell 4
  have f1 := hb.frozen 1
  have hne : a ≠ gf := blk_types hb h.rs (by decide)
  have hnl : a ≠ gl := blk_types hb h.rw' (by decide)
  have n1 := h.n1
  have n2 := h.n2
  have H2 := Lib.hid (h.setP ha 1 (.int .i64 2) ⟨0, 2, v, 11, false⟩ rfl)
  have HK2 := Lib.hid ((Keep.refl [gf, gl, a] w).setCell (p := ⟨a, 1, none⟩) (.inl (by simp)) (.int .i64 2))
  have HA := Lib.hid ha
  clear h ha hb
  go_enter Try.func23, Try.ntmps23
  go_upto_region 4 with fail
  clear c1 c4 f1
  generalize w.setCell ⟨a, 1, none⟩ (.int .i64 2) = w2 at *
  have c0 : w2.cell? ⟨a, 0, none⟩ = some (.int .i64 0) := (H2.out.ps a HA.out).cell 0
  have c1 : w2.cell? ⟨a, 1, none⟩ = some (.int .i64 2) := (H2.out.ps a HA.out).cell 1
  have c2 : w2.cell? ⟨a, 2, none⟩ = some (.int .u64 v) := (H2.out.ps a HA.out).cell 2
  have c4 : w2.cell? ⟨a, 4, none⟩ = some (.bool false) := (H2.out.ps a HA.out).cell 4
  have r0 : w2.cell? ⟨gf, 0, none⟩ = some (.int .i64 N) := H2.out.rs.cell 0
  have r1 : w2.cell? ⟨gf, 1, none⟩ = some (.int .u64 go) := H2.out.rs.cell 1
  have r2 : w2.cell? ⟨gf, 2, none⟩ = some (.int .u64 hd) := H2.out.rs.cell 2
  have r3 : w2.cell? ⟨gf, 3, none⟩ = some (.slice (some ⟨gl, 0, none⟩) N N) := H2.out.rs.cell 3
  have eN : IntKind.u64.wrap (N : Int) = (N : Int) := by rw [IntKind.wrap_u64]; omega
  have hlt : hd % N < N := Nat.mod_lt _ (by omega)
  have HV := Lib.hid hv
  clear hv
  have ez : IntKind.u64.wrap ((hd : Int).tmod (N : Int)) = ((hd % N : Nat) : Int) := by
    rw [Int.tmod_eq_emod_of_nonneg (by omega), ← Int.natCast_emod, IntKind.wrap_u64]; omega
  have ez2 : (hd : Int).tmod (N : Int) = ((hd % N : Nat) : Int) := by
    rw [Int.tmod_eq_emod_of_nonneg (by omega), ← Int.natCast_emod]
  have nz : ((N : Int) == 0) = false := by simp; omega
  have nz2 : ¬ ((N : Int) = 0) := by omega
  obtain ⟨m, hmm⟩ : ∃ m, hd % N = m := ⟨_, rfl⟩
  rw [hmm] at ez ez2 hlt
  have HMM := Lib.hid hmm
  have q2 := H2.out.at' hlt
  have f2 := H2.out.rw'.frozen m
  obtain ⟨x, hx⟩ : ∃ x, vs.getD m 0 = x := ⟨_, rfl⟩
  rw [hx] at q2
  have i0 : (0 : Int) ≤ (m : Int) := by omega
  have i1 : (m : Int) < (N : Int) := by omega
  clear hx hmm
  go_upto_region 11 with fail
  go_region
  have H3 := Lib.hid ((H2.out.setL m v HV.out).drewN 1)
  have HK3 := Lib.hid ((HK2.out.setCell (p := ⟨gl, m, none⟩) (.inl (by simp)) (.int .u64 v)).drewN 1)
  have HD := Lib.hid (show (w2.setCell ⟨gl, m, none⟩ (.int .u64 v)).drewN 1 = (w2.setCell ⟨gl, m, none⟩ (.int .u64 v)).drew from rfl)
  rw [HD.out] at H3 HK3
  clear H2 HK2 c0 c1 c2 c4 r0 r1 r2 r3 q2 f2 HD ez ez2
  generalize (w2.setCell ⟨gl, m, none⟩ (.int .u64 v)).drew = w3 at *
  have c4 : w3.cell? ⟨a, 4, none⟩ = some (.bool false) := (H3.out.ps a HA.out).cell 4
  go_wp2
  go_ret
  exact ⟨rfl, by rw [HMM.out]; exact H3.out, HK3.out⟩
set_option maxHeartbeats 2000000 in
theorem fdo3 (h : RfB w gf gl N go hd vs P G ⟨0, 2, v, 11, false⟩ g) (ha : P = some a) (hm : hd ≤ 1000000) (m : Nat) (hmm : m = hd + 1) :
    Calls Try.prog 23 #[.pointer (some ⟨gf, 0, none⟩), .pointer (some ⟨a, 0, none⟩)] w (FdoOk w gf gl N go m vs P G ⟨0, 3, v, 0, true⟩ g [gf, gl, a] true) := by
  have hb := h.ps a ha
  have c1 : w.cell? ⟨a, 1, none⟩ = some (.int .i64 2) := hb.cell 1
  have c4 : w.cell? ⟨a, 4, none⟩ = some (.bool false) := hb.cell 4
  have f1 := hb.frozen 1
  have hne : a ≠ gf := blk_types hb h.rs (by decide)
  have hnl : a ≠ gl := blk_types hb h.rw' (by decide)
  have n1 := h.n1
  have n2 := h.n2
  have H2 := Lib.hid (h.setP ha 1 (.int .i64 3) ⟨0, 3, v, 11, false⟩ rfl)
  have HK2 := Lib.hid ((Keep.refl [gf, gl, a] w).setCell (p := ⟨a, 1, none⟩) (.inl (by simp)) (.int .i64 3))
  have HA := Lib.hid ha
  clear h ha hb
  go_enter Try.func23, Try.ntmps23
  go_upto_region 4 with fail
  clear c1 c4 f1
  generalize w.setCell ⟨a, 1, none⟩ (.int .i64 3) = w2 at *
  have c0 : w2.cell? ⟨a, 0, none⟩ = some (.int .i64 0) := (H2.out.ps a HA.out).cell 0
  have c1 : w2.cell? ⟨a, 1, none⟩ = some (.int .i64 3) := (H2.out.ps a HA.out).cell 1
  have c2 : w2.cell? ⟨a, 2, none⟩ = some (.int .u64 v) := (H2.out.ps a HA.out).cell 2
  have c4 : w2.cell? ⟨a, 4, none⟩ = some (.bool false) := (H2.out.ps a HA.out).cell 4
  have r0 : w2.cell? ⟨gf, 0, none⟩ = some (.int .i64 N) := H2.out.rs.cell 0
  have r1 : w2.cell? ⟨gf, 1, none⟩ = some (.int .u64 go) := H2.out.rs.cell 1
  have r2 : w2.cell? ⟨gf, 2, none⟩ = some (.int .u64 hd) := H2.out.rs.cell 2
  have r3 : w2.cell? ⟨gf, 3, none⟩ = some (.slice (some ⟨gl, 0, none⟩) N N) := H2.out.rs.cell 3
  have eN : IntKind.u64.wrap (N : Int) = (N : Int) := by rw [IntKind.wrap_u64]; omega
  have f2 := H2.out.rs.frozen 2
  have e1 : IntKind.u64.wrap ((hd : Int) + 1) = (m : Int) := by rw [IntKind.wrap_u64]; omega
  have e2 : (hd : Int) + 1 = (m : Int) := by omega
  clear hmm
  go_upto_region 14 with fail
  have H3 := Lib.hid (H2.out.setR 2 (.int .u64 m) go m P G ⟨0, 3, v, 11, false⟩ g rfl H2.out.ps H2.out.gs H2.out.ne)
  have HK3 := Lib.hid (HK2.out.setCell (p := ⟨gf, 2, none⟩) (.inl (by simp)) (.int .u64 m))
  clear H2 HK2 c0 c1 c2 c4 r0 r1 r2 r3 f2 e1 e2
  generalize w2.setCell ⟨gf, 2, none⟩ (.int .u64 m) = w3 at *
  go_wp2_with fail
  refine (fend_any 0 a ⟨0, 3, v, 11, false⟩ _ (H3.out.ps a HA.out)).mono ?_
  rintro e w4 ⟨rfl, hw4⟩
  have h4 := (H3.out.setP HA.out 3 (.int .i64 0) ⟨0, 3, v, 0, false⟩ rfl).setP HA.out 4 (.bool true) ⟨0, 3, v, 0, true⟩ rfl
  have hk4 := (HK3.out.setCell (p := ⟨a, 3, none⟩) (.inl (by simp)) (.int .i64 0)).setCell (p := ⟨a, 4, none⟩) (.inl (by simp)) (.bool true)
  rw [← hw4] at h4 hk4
  have H4 := Lib.hid h4
  have HK4 := Lib.hid hk4
  clear h4 hk4 hw4 H3 HK3
  have c4 : w4.cell? ⟨a, 4, none⟩ = some (.bool true) := (H4.out.ps a HA.out).cell 4
  go_wp2
  go_ret
  exact ⟨rfl, H4.out, HK4.out⟩
set_option maxHeartbeats 2000000 in
theorem fdo5 (h : RfB w gf gl N go hd vs P G p ⟨1, 1, v, 11, false⟩) (ha : G = some a) (hm : go ≤ 1000000) (x : Int) (hx : vs.getD (go % N) 0 = x) :
    Calls Try.prog 23 #[.pointer (some ⟨gf, 0, none⟩), .pointer (some ⟨a, 0, none⟩)] w (FdoOk w gf gl N go hd vs P G p ⟨1, 2, x, 11, false⟩ [gf, gl, a] false) := by
  have hb := h.gs a ha
  have c1 : w.cell? ⟨a, 1, none⟩ = some (.int .i64 1) := hb.cell 1
  have c4 : w.cell? ⟨a, 4, none⟩ = some (.bool false) := hb.cell 4
  have f1 := hb.frozen 1
  have hne : a ≠ gf := blk_types hb h.rs (by decide)
  have hnl : a ≠ gl := blk_types hb h.rw' (by decide)
  have n1 := h.n1
  have n2 := h.n2
  have H2 := Lib.hid (h.setG ha 1 (.int .i64 2) ⟨1, 2, v, 11, false⟩ rfl)
  have HK2 := Lib.hid ((Keep.refl [gf, gl, a] w).setCell (p := ⟨a, 1, none⟩) (.inl (by simp)) (.int .i64 2))
  have HA := Lib.hid ha
  clear h ha hb
  go_enter Try.func23, Try.ntmps23
  go_upto_region 4 with fail
  clear c1 c4 f1
  generalize w.setCell ⟨a, 1, none⟩ (.int .i64 2) = w2 at *
  have c0 : w2.cell? ⟨a, 0, none⟩ = some (.int .i64 1) := (H2.out.gs a HA.out).cell 0
  have c1 : w2.cell? ⟨a, 1, none⟩ = some (.int .i64 2) := (H2.out.gs a HA.out).cell 1
  have c2 : w2.cell? ⟨a, 2, none⟩ = some (.int .u64 v) := (H2.out.gs a HA.out).cell 2
  have c4 : w2.cell? ⟨a, 4, none⟩ = some (.bool false) := (H2.out.gs a HA.out).cell 4
  have r0 : w2.cell? ⟨gf, 0, none⟩ = some (.int .i64 N) := H2.out.rs.cell 0
  have r1 : w2.cell? ⟨gf, 1, none⟩ = some (.int .u64 go) := H2.out.rs.cell 1
  have r2 : w2.cell? ⟨gf, 2, none⟩ = some (.int .u64 hd) := H2.out.rs.cell 2
  have r3 : w2.cell? ⟨gf, 3, none⟩ = some (.slice (some ⟨gl, 0, none⟩) N N) := H2.out.rs.cell 3
  have eN : IntKind.u64.wrap (N : Int) = (N : Int) := by rw [IntKind.wrap_u64]; omega
  have hlt : go % N < N := Nat.mod_lt _ (by omega)
  have ez : IntKind.u64.wrap ((go : Int).tmod (N : Int)) = ((go % N : Nat) : Int) := by
    rw [Int.tmod_eq_emod_of_nonneg (by omega), ← Int.natCast_emod, IntKind.wrap_u64]; omega
  have ez2 : (go : Int).tmod (N : Int) = ((go % N : Nat) : Int) := by
    rw [Int.tmod_eq_emod_of_nonneg (by omega), ← Int.natCast_emod]
  have nz : ((N : Int) == 0) = false := by simp; omega
  have nz2 : ¬ ((N : Int) = 0) := by omega
  obtain ⟨m, hmm⟩ : ∃ m, go % N = m := ⟨_, rfl⟩
  rw [hmm] at ez ez2 hlt hx
  have q2 := H2.out.at' hlt
  rw [hx] at q2
  have f2 := (H2.out.gs a HA.out).frozen 2
  have i0 : (0 : Int) ≤ (m : Int) := by omega
  have i1 : (m : Int) < (N : Int) := by omega
  clear hx hmm
  go_upto_region 19 with fail
  go_region
  have H3 := Lib.hid ((H2.out.setG HA.out 2 (.int .u64 x) ⟨1, 2, x, 11, false⟩ rfl).drewN 1)
  have HK3 := Lib.hid ((HK2.out.setCell (p := ⟨a, 2, none⟩) (.inl (by simp)) (.int .u64 x)).drewN 1)
  have HD := Lib.hid (show (w2.setCell ⟨a, 2, none⟩ (.int .u64 x)).drewN 1 = (w2.setCell ⟨a, 2, none⟩ (.int .u64 x)).drew from rfl)
  rw [HD.out] at H3 HK3
  clear H2 HK2 c0 c1 c2 c4 r0 r1 r2 r3 q2 f2 HD ez ez2
  generalize (w2.setCell ⟨a, 2, none⟩ (.int .u64 x)).drew = w3 at *
  have c4 : w3.cell? ⟨a, 4, none⟩ = some (.bool false) := (H3.out.gs a HA.out).cell 4
  go_wp2
  go_ret
  exact ⟨rfl, H3.out, HK3.out⟩
set_option maxHeartbeats 2000000 in
theorem fdo6 (h : RfB w gf gl N go hd vs P G p ⟨1, 2, v, 11, false⟩) (ha : G = some a) (hm : go ≤ 1000000) (m : Nat) (hmm : m = go + 1) :
    Calls Try.prog 23 #[.pointer (some ⟨gf, 0, none⟩), .pointer (some ⟨a, 0, none⟩)] w (FdoOk w gf gl N m hd vs P G p ⟨1, 3, v, 0, true⟩ [gf, gl, a] true) := by
  have hb := h.gs a ha
  have c1 : w.cell? ⟨a, 1, none⟩ = some (.int .i64 2) := hb.cell 1
  have c4 : w.cell? ⟨a, 4, none⟩ = some (.bool false) := hb.cell 4
  have f1 := hb.frozen 1
  have hne : a ≠ gf := blk_types hb h.rs (by decide)
  have hnl : a ≠ gl := blk_types hb h.rw' (by decide)
  have n1 := h.n1
  have n2 := h.n2
  have H2 := Lib.hid (h.setG ha 1 (.int .i64 3) ⟨1, 3, v, 11, false⟩ rfl)
  have HK2 := Lib.hid ((Keep.refl [gf, gl, a] w).setCell (p := ⟨a, 1, none⟩) (.inl (by simp)) (.int .i64 3))
  have HA := Lib.hid ha
  clear h ha hb
  go_enter Try.func23, Try.ntmps23
  go_upto_region 4 with fail
  clear c1 c4 f1
  generalize w.setCell ⟨a, 1, none⟩ (.int .i64 3) = w2 at *
  have c0 : w2.cell? ⟨a, 0, none⟩ = some (.int .i64 1) := (H2.out.gs a HA.out).cell 0
  have c1 : w2.cell? ⟨a, 1, none⟩ = some (.int .i64 3) := (H2.out.gs a HA.out).cell 1
  have c2 : w2.cell? ⟨a, 2, none⟩ = some (.int .u64 v) := (H2.out.gs a HA.out).cell 2
  have c4 : w2.cell? ⟨a, 4, none⟩ = some (.bool false) := (H2.out.gs a HA.out).cell 4
  have r0 : w2.cell? ⟨gf, 0, none⟩ = some (.int .i64 N) := H2.out.rs.cell 0
  have r1 : w2.cell? ⟨gf, 1, none⟩ = some (.int .u64 go) := H2.out.rs.cell 1
  have r2 : w2.cell? ⟨gf, 2, none⟩ = some (.int .u64 hd) := H2.out.rs.cell 2
  have r3 : w2.cell? ⟨gf, 3, none⟩ = some (.slice (some ⟨gl, 0, none⟩) N N) := H2.out.rs.cell 3
  have eN : IntKind.u64.wrap (N : Int) = (N : Int) := by rw [IntKind.wrap_u64]; omega
  have f1 := H2.out.rs.frozen 1
  have e1 : IntKind.u64.wrap ((go : Int) + 1) = (m : Int) := by rw [IntKind.wrap_u64]; omega
  have e2 : (go : Int) + 1 = (m : Int) := by omega
  clear hmm
  go_upto_region 6 with fail
  have H3 := Lib.hid (H2.out.setR 1 (.int .u64 m) m hd P G p ⟨1, 3, v, 11, false⟩ rfl H2.out.ps H2.out.gs H2.out.ne)
  have HK3 := Lib.hid (HK2.out.setCell (p := ⟨gf, 1, none⟩) (.inl (by simp)) (.int .u64 m))
  clear H2 HK2 c0 c1 c2 c4 r0 r1 r2 r3 f1 e1 e2
  generalize w2.setCell ⟨gf, 1, none⟩ (.int .u64 m) = w3 at *
  go_wp2_with fail
  refine (fend_any 0 a ⟨1, 3, v, 11, false⟩ _ (H3.out.gs a HA.out)).mono ?_
  rintro e w4 ⟨rfl, hw4⟩
  have h4 := (H3.out.setG HA.out 3 (.int .i64 0) ⟨1, 3, v, 0, false⟩ rfl).setG HA.out 4 (.bool true) ⟨1, 3, v, 0, true⟩ rfl
  have hk4 := (HK3.out.setCell (p := ⟨a, 3, none⟩) (.inl (by simp)) (.int .i64 0)).setCell (p := ⟨a, 4, none⟩) (.inl (by simp)) (.bool true)
  rw [← hw4] at h4 hk4
  have H4 := Lib.hid h4
  have HK4 := Lib.hid hk4
  clear h4 hk4 hw4 H3 HK3
  have c4 : w4.cell? ⟨a, 4, none⟩ = some (.bool true) := (H4.out.gs a HA.out).cell 4
  go_wp2
  go_ret
  exact ⟨rfl, H4.out, HK4.out⟩
end
end Go.Proofs.Ytpaiicplcaeneaa
