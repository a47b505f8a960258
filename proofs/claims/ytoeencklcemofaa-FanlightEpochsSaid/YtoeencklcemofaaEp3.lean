/-
  Package epoch: the steps of Pin and Advance. Conditions stand in each theorem.
-/
import Derived.Test.YtoeencklcemofaaEpA
namespace Go.Proofs.Ytoeencklcemofaa
open Go.RowKit Plain
set_option linter.unusedVariables false
set_option maxRecDepth 100000

section
variable {w : World} {ge gc gn gg n : Nat} {l : List Int}
set_option maxHeartbeats 1000000 in
theorem pin2_any {gs ce : Nat} {ep : Int} {won : Bool} (h : EpB w ge gc gn gg n l) (hs : St w gs gc 2 ep ce won) (n1 : ge ≠ gs) (n2 : gc ≠ gs) (n3 : gn ≠ gs) (hce : ce < n + 1) :
    Calls Try.prog 83 #[.pointer (some ⟨gs, 0, none⟩)] w fun e w' => e = .returned (.tuple #[]) ∧ EpB w' ge gc gn gg n (l.set ce (m64 (ep + 1))) ∧ St w' gs gc 3 ep ce won ∧ Keep [gn, gs] w w' := by
  unfold St at hs
  have c0 : w.cell? ⟨gs, 0, none⟩ = some (.pointer (some ⟨gc, 0, none⟩)) := hs.cell 0
  have c1 : w.cell? ⟨gs, 1, none⟩ = some (.int .i64 2) := hs.cell 1
  have c2 : w.cell? ⟨gs, 2, none⟩ = some (.int .u64 ep) := hs.cell 2
  have c3 : w.cell? ⟨gs, 3, none⟩ = some (.int .i64 ce) := hs.cell 3
  have f1 := hs.frozen 1
  have hw : IntKind.u64.wrap (ep + 1) = m64 (ep + 1) := IntKind.wrap_u64 _
  have H := Lib.hid h
  have HS := Lib.hid hs
  have HST := Lib.hid (store_any (h.cl.drewN 1) ce hce (m64 (ep + 1)))
  clear h hs
  go_enter Try.func83, Try.ntmps83
  go_upto_region 5 with fail
  go_region_held3 (fun W => W.cell? ⟨gs, 0, none⟩ = some (.pointer (some ⟨gc, 0, none⟩)) ∧ W.cell? ⟨gs, 2, none⟩ = some (.int .u64 ep) ∧ W.cell? ⟨gs, 3, none⟩ = some (.int .i64 ce))
    (first | go_keep | assumption | (exact ⟨(World.cell?_setCell_other _ _ _ _ (by simp <;> omega)).trans c0, (World.cell?_setCell_other _ _ _ _ (by simp <;> omega)).trans c2, (World.cell?_setCell_other _ _ _ _ (by simp <;> omega)).trans c3⟩))
    (first | (go_at_call 90; refine (HST.out).mono ?_; rintro e w' ⟨rfl, hw'⟩))
  have d1 : ((w.drewN 1).setCell ⟨gn, ce, none⟩ (.int .u64 (m64 (ep + 1)))).cell? ⟨gs, 1, none⟩ = some (.int .i64 2) := (World.cell?_setCell_other _ _ _ _ (by simp <;> omega)).trans c1
  have g1 : ((w.drewN 1).setCell ⟨gn, ce, none⟩ (.int .u64 (m64 (ep + 1)))).frozen? ⟨gs, 1, none⟩ = false := (Blk.ne (p := ⟨gn, ce, none⟩) (Blk.drewN HS.out 1) n3 _).frozen 1
  have HS2 := Lib.hid (Blk.ne (p := ⟨gn, ce, none⟩) (Blk.drewN HS.out 1) n3 (.int .u64 (m64 (ep + 1))))
  have H2 := Lib.hid ((H.out.drewN 1).set ce (m64 (ep + 1)) (m64_u _))
  have HK2 := Lib.hid (((Keep.refl [gn, gs] w).drewN 1).setCell (p := ⟨gn, ce, none⟩) (.inl (by simp)) (.int .u64 (m64 (ep + 1))))
  clear c0 c1 c2 c3 f1 hw
  generalize (w.drewN 1).setCell ⟨gn, ce, none⟩ (.int .u64 (m64 (ep + 1))) = w2 at *
  go_wp2
  go_end0
  exact ⟨rfl, H2.out.other n1 n2 n3 1 _, HS2.out.set 1 _, HK2.out.setCell (.inl (by simp)) _⟩
set_option maxHeartbeats 1000000 in
theorem pin3_any {gs : Nat} {ep ce : Int} {won : Bool} (h : EpB w ge gc gn gg n l) (hs : St w gs gc 3 ep ce won) (n1 : ge ≠ gs) (n2 : gc ≠ gs) (n3 : gn ≠ gs) (nx : Int) (hnx : nx = if l.getD 0 0 = ep then 0 else 1) :
    Calls Try.prog 83 #[.pointer (some ⟨gs, 0, none⟩)] w fun e w' => e = .returned (.tuple #[]) ∧ EpB w' ge gc gn gg n l ∧ St w' gs gc nx ep ce won ∧ Keep [gn, gs] w w' := by
  unfold St at hs
  have c0 : w.cell? ⟨gs, 0, none⟩ = some (.pointer (some ⟨gc, 0, none⟩)) := hs.cell 0
  have c1 : w.cell? ⟨gs, 1, none⟩ = some (.int .i64 3) := hs.cell 1
  have c2 : w.cell? ⟨gs, 2, none⟩ = some (.int .u64 ep) := hs.cell 2
  have f1 := hs.frozen 1
  have H := Lib.hid h
  have HS := Lib.hid hs
  obtain ⟨x, hx⟩ : ∃ x, l.getD 0 0 = x := ⟨_, rfl⟩
  rw [hx] at hnx
  have HLD := Lib.hid (fun q => load_eq (h.cl.drewN q) 0 (by omega) x hx)
  have HNX := Lib.hid hnx
  clear h hs hx hnx
  by_cases he : x = ep
  · have HN := Lib.hid (show nx = 0 by rw [HNX.out, if_pos he])
    subst he
    clear HNX
    go_enter Try.func83, Try.ntmps83
    go_upto_region 8 with fail
    go_quiet ((go_at_call 57; exact quietB (HLD.out _)))
    go_wp2
    go_end0
    refine ⟨rfl, (H.out.drewN nq).other n1 n2 n3 1 _, ?_, ((Keep.refl _ _).drewN nq).setCell (.inl (by simp)) _⟩
    rw [HN.out]; exact Blk.set (Blk.drewN HS.out nq) 1 _
  · have HN := Lib.hid (show nx = 1 by rw [HNX.out, if_neg he])
    have d1 : (x == ep) = false := by rw [beq_eq_false_iff_ne]; exact he
    clear HNX he
    go_enter Try.func83, Try.ntmps83
    go_upto_region 8 with fail
    go_quiet ((go_at_call 57; exact quietB (HLD.out _)))
    go_wp2
    go_end0
    refine ⟨rfl, (H.out.drewN nq).other n1 n2 n3 1 _, ?_, ((Keep.refl _ _).drewN nq).setCell (.inl (by simp)) _⟩
    rw [HN.out]; exact Blk.set (Blk.drewN HS.out nq) 1 _

/-- what is next behind a look -/
def lookN (n : Nat) (x ep : Int) (ce : Nat) : Int := if x ≠ 0 ∧ x ≠ m64 (ep + 1) then 0 else if n + 1 ≤ ce + 1 then 6 else 5
set_option maxHeartbeats 2000000 in
theorem look_any {gs ce : Nat} {ep : Int} {won : Bool} (h : EpB w ge gc gn gg n l) (hs : St w gs gc 5 ep ce won) (n1 : ge ≠ gs) (n2 : gc ≠ gs) (n3 : gn ≠ gs) (hce : ce < n + 1) :
    Calls Try.prog 100 #[.pointer (some ⟨gs, 0, none⟩)] w fun e w' => e = .returned (.tuple #[]) ∧ EpB w' ge gc gn gg n l ∧ St w' gs gc (lookN n (l.getD ce 0) ep ce) ep ((ce + 1 : Nat) : Int) won ∧ Keep [gn, gs] w w' := by
  unfold St at hs
  have c0 : w.cell? ⟨gs, 0, none⟩ = some (.pointer (some ⟨gc, 0, none⟩)) := hs.cell 0
  have c1 : w.cell? ⟨gs, 1, none⟩ = some (.int .i64 5) := hs.cell 1
  have c2 : w.cell? ⟨gs, 2, none⟩ = some (.int .u64 ep) := hs.cell 2
  have c3 : w.cell? ⟨gs, 3, none⟩ = some (.int .i64 ce) := hs.cell 3
  have f1 := hs.frozen 1
  have f3 := hs.frozen 3
  have hn2 := h.n2
  have hw : IntKind.u64.wrap (ep + 1) = m64 (ep + 1) := IntKind.wrap_u64 _
  have H := Lib.hid h
  have HS := Lib.hid hs
  obtain ⟨x, hx⟩ : ∃ x, l.getD ce 0 = x := ⟨_, rfl⟩
  have HLD := Lib.hid (fun q => load_eq (h.cl.drewN q) ce hce x hx)
  rw [hx]
  clear h hs hx
  go_enter Try.func100, Try.ntmps100
  go_upto_region 0 with fail
  go_quiet ((go_at_call 57; exact quietB (HLD.out _)))
  go_upto_region 2 with fail
  have e3 : ((ce : Int) + 1) = ((ce + 1 : Nat) : Int) := by omega
  rw [e3]
  have H2 := Lib.hid ((H.out.drewN nq).other n1 n2 n3 3 (.int .i64 ((ce + 1 : Nat) : Int)))
  have HS2 := Lib.hid (show St ((w.drewN nq).setCell ⟨gs, 3, none⟩ (.int .i64 ((ce + 1 : Nat) : Int))) gs gc 5 ep ((ce + 1 : Nat) : Int) won from Blk.set (Blk.drewN HS.out nq) 3 _)
  have HK2 := Lib.hid (((Keep.refl [gn, gs] w).drewN nq).setCell (p := ⟨gs, 3, none⟩) (.inl (by simp)) (.int .i64 ((ce + 1 : Nat) : Int)))
  clear e3 c0 c1 c2 c3 f1 f3 H HS HLD
  generalize (w.drewN nq).setCell ⟨gs, 3, none⟩ (.int .i64 ((ce + 1 : Nat) : Int)) = w2 at *
  have hs2 := HS2.out
  unfold St at hs2
  have c0 : w2.cell? ⟨gs, 0, none⟩ = some (.pointer (some ⟨gc, 0, none⟩)) := hs2.cell 0
  have c1 : w2.cell? ⟨gs, 1, none⟩ = some (.int .i64 5) := hs2.cell 1
  have c2 : w2.cell? ⟨gs, 2, none⟩ = some (.int .u64 ep) := hs2.cell 2
  have c3 : w2.cell? ⟨gs, 3, none⟩ = some (.int .i64 ((ce + 1 : Nat) : Int)) := hs2.cell 3
  have f1 := hs2.frozen 1
  have HSZ := Lib.hid (fun q => size_any (H2.out.cl.drewN q))
  clear hs2
  obtain ⟨k, hk⟩ : ∃ k, k = ce + 1 := ⟨_, rfl⟩
  rw [← hk] at c3 HS2
  have hk' : ce + 1 ≤ k := by omega
  have hk'' : k ≤ ce + 1 := by omega
  rw [← hk]
  have HKK := Lib.hid hk
  clear hk
  by_cases ha : x ≠ 0 ∧ x ≠ m64 (ep + 1)
  · have d1 : (x != 0) = true := by rw [bne_iff_ne]; exact ha.1
    have d2 : (x != m64 (ep + 1)) = true := by rw [bne_iff_ne]; exact ha.2
    have HN := Lib.hid (show lookN n x ep ce = 0 by unfold lookN; rw [if_pos ha])
    clear ha
    go_wp2
    go_end0
    rw [HN.out, ← HKK.out]
    exact ⟨rfl, H2.out.other n1 n2 n3 1 _, Blk.set HS2.out 1 _, HK2.out.setCell (.inl (by simp)) _⟩
  · have key : (x != 0) = false ∨ ((x != 0) = true ∧ (x != m64 (ep + 1)) = false) := by
      by_cases h0 : x = 0
      · left; simp [h0]
      · right; refine ⟨by rw [bne_iff_ne]; exact h0, ?_⟩
        have : x = m64 (ep + 1) := Classical.byContradiction fun hne => ha ⟨h0, hne⟩
        simp [this]
    have HN := Lib.hid (show lookN n x ep ce = if n + 1 ≤ ce + 1 then 6 else 5 by unfold lookN; rw [if_neg ha])
    clear ha
    rcases key with k1 | ⟨k1, k2⟩
    all_goals
      go_upto_region 4 with fail
      go_quiet ((go_at_call 101; exact quietB (HSZ.out _)))
      by_cases hl : n + 1 ≤ ce + 1
      · have d3 : decide (((n + 1 : Nat) : Int) ≤ (k : Int)) = true := by simp; omega
        have d4 : (n : Int) + 1 ≤ (k : Int) := by omega
        have HM := Lib.hid (show lookN n x ep ce = 6 by rw [HN.out, if_pos hl])
        go_wp2
        go_end0
        rw [HM.out, ← HKK.out]
        exact ⟨rfl, (H2.out.drewN _).other n1 n2 n3 1 _, Blk.set (Blk.drewN HS2.out _) 1 _, (HK2.out.drewN _).setCell (.inl (by simp)) _⟩
      · have d3 : decide (((n + 1 : Nat) : Int) ≤ (k : Int)) = false := by simp; omega
        have d4 : (k : Int) < (n : Int) + 1 := by omega
        have HM := Lib.hid (show lookN n x ep ce = 5 by rw [HN.out, if_neg hl])
        go_wp2
        go_end0
        rw [HM.out, ← HKK.out]
        exact ⟨rfl, H2.out.drewN _, Blk.drewN HS2.out _, HK2.out.drewN _⟩

set_option maxHeartbeats 1000000 in
theorem adv5_any {gs ce : Nat} {ep : Int} {won : Bool} (h : EpB w ge gc gn gg n l) (hs : St w gs gc 5 ep ce won) (n1 : ge ≠ gs) (n2 : gc ≠ gs) (n3 : gn ≠ gs) (hce : ce < n + 1) :
    Calls Try.prog 84 #[.pointer (some ⟨gs, 0, none⟩)] w fun e w' => e = .returned (.tuple #[]) ∧ EpB w' ge gc gn gg n l ∧ St w' gs gc (lookN n (l.getD ce 0) ep ce) ep ((ce + 1 : Nat) : Int) won ∧ Keep [gn, gs] w w' := by
  have c1 : w.cell? ⟨gs, 1, none⟩ = some (.int .i64 5) := Blk.cell hs 1
  have HLK := Lib.hid (look_any h hs n1 n2 n3 hce)
  clear h hs
  go_enter Try.func84, Try.ntmps84
  go_wp2_with fail
  refine (HLK.out).mono ?_
  rintro e w' ⟨rfl, h1, h2, h3⟩
  have H1 := Lib.hid h1
  have H2 := Lib.hid h2
  have H3 := Lib.hid h3
  clear h1 h2 h3
  go_wp2
  go_end0
  exact ⟨rfl, H1.out, H2.out, H3.out⟩
set_option maxHeartbeats 1000000 in
theorem adv6_yes {gs : Nat} {ep ce : Int} {won : Bool} (h : EpB w ge gc gn gg n l) (hs : St w gs gc 6 ep ce won) (n1 : ge ≠ gs) (n2 : gc ≠ gs) (n3 : gn ≠ gs) (he : l.getD 0 0 = ep) :
    Calls Try.prog 84 #[.pointer (some ⟨gs, 0, none⟩)] w fun e w' => e = .returned (.tuple #[]) ∧ EpB w' ge gc gn gg n (l.set 0 (m64 (ep + 1))) ∧ St w' gs gc 0 ep ce true ∧ Keep [gn, gs] w w' := by
  unfold St at hs
  have c0 : w.cell? ⟨gs, 0, none⟩ = some (.pointer (some ⟨gc, 0, none⟩)) := hs.cell 0
  have c1 : w.cell? ⟨gs, 1, none⟩ = some (.int .i64 6) := hs.cell 1
  have c2 : w.cell? ⟨gs, 2, none⟩ = some (.int .u64 ep) := hs.cell 2
  have c4 : w.cell? ⟨gs, 4, none⟩ = some (.bool won) := hs.cell 4
  have hw : IntKind.u64.wrap (ep + 1) = m64 (ep + 1) := IntKind.wrap_u64 _
  have hsn := Blk.ne (p := ⟨gn, 0, none⟩) (Blk.drewN hs 1) n3 (.int .u64 (m64 (ep + 1)))
  have d4 : ((w.drewN 1).setCell ⟨gn, 0, none⟩ (.int .u64 (m64 (ep + 1)))).cell? ⟨gs, 4, none⟩ = some (.bool won) := hsn.cell 4
  have g4 := hsn.frozen 4
  have HS2 := Lib.hid (hsn.set 4 (.bool true))
  have H2 := Lib.hid (((h.drewN 1).set 0 (m64 (ep + 1)) (m64_u _)).other n1 n2 n3 4 (.bool true))
  have HK2 := Lib.hid ((((Keep.refl [gn, gs] w).drewN 1).setCell (p := ⟨gn, 0, none⟩) (.inl (by simp)) (.int .u64 (m64 (ep + 1)))).setCell (p := ⟨gs, 4, none⟩) (.inl (by simp)) (.bool true))
  have HCA := Lib.hid (cas_yes (h.cl.drewN 1) 0 (by omega) ep (m64 (ep + 1)) he)
  clear h hs hsn he
  go_enter Try.func84, Try.ntmps84
  go_upto_region 7 with fail
  go_region_held3 (fun W => W.cell? ⟨gs, 0, none⟩ = some (.pointer (some ⟨gc, 0, none⟩)) ∧ W.cell? ⟨gs, 2, none⟩ = some (.int .u64 ep))
    (first | go_keep | assumption | (exact ⟨(World.cell?_setCell_other _ _ _ _ (by simp <;> omega)).trans c0, (World.cell?_setCell_other _ _ _ _ (by simp <;> omega)).trans c2⟩) | (exact ⟨(World.cell?_setCell_other _ _ _ _ (by simp <;> omega)).trans ((World.cell?_setCell_other _ _ _ _ (by simp <;> omega)).trans c0), (World.cell?_setCell_other _ _ _ _ (by simp <;> omega)).trans ((World.cell?_setCell_other _ _ _ _ (by simp <;> omega)).trans c2)⟩))
    (first | (go_at_call 58; refine (HCA.out).mono ?_; rintro e w' ⟨rfl, hw'⟩))
  clear d4 g4 c0 c1 c2 c4 hw
  generalize ((w.drewN 1).setCell ⟨gn, 0, none⟩ (.int .u64 (m64 (ep + 1)))).setCell ⟨gs, 4, none⟩ (.bool true) = w2 at *
  have d1 : w2.cell? ⟨gs, 1, none⟩ = some (.int .i64 6) := HS2.out.cell 1
  have g1 := HS2.out.frozen 1
  go_wp2
  go_end0
  exact ⟨rfl, H2.out.other n1 n2 n3 1 _, HS2.out.set 1 _, HK2.out.setCell (.inl (by simp)) _⟩
set_option maxHeartbeats 1000000 in
theorem adv6_no {gs : Nat} {ep ce : Int} {won : Bool} (h : EpB w ge gc gn gg n l) (hs : St w gs gc 6 ep ce won) (n1 : ge ≠ gs) (n2 : gc ≠ gs) (n3 : gn ≠ gs) (he : ¬ l.getD 0 0 = ep) :
    Calls Try.prog 84 #[.pointer (some ⟨gs, 0, none⟩)] w fun e w' => e = .returned (.tuple #[]) ∧ EpB w' ge gc gn gg n l ∧ St w' gs gc 0 ep ce false ∧ Keep [gn, gs] w w' := by
  unfold St at hs
  have c0 : w.cell? ⟨gs, 0, none⟩ = some (.pointer (some ⟨gc, 0, none⟩)) := hs.cell 0
  have c1 : w.cell? ⟨gs, 1, none⟩ = some (.int .i64 6) := hs.cell 1
  have c2 : w.cell? ⟨gs, 2, none⟩ = some (.int .u64 ep) := hs.cell 2
  have c4 : w.cell? ⟨gs, 4, none⟩ = some (.bool won) := hs.cell 4
  have f4 := hs.frozen 4
  have hw : IntKind.u64.wrap (ep + 1) = m64 (ep + 1) := IntKind.wrap_u64 _
  have HS2 := Lib.hid ((Blk.drewN hs 1).set 4 (.bool false))
  have H2 := Lib.hid ((h.drewN 1).other n1 n2 n3 4 (.bool false))
  have HK2 := Lib.hid (((Keep.refl [gn, gs] w).drewN 1).setCell (p := ⟨gs, 4, none⟩) (.inl (by simp)) (.bool false))
  have HCA := Lib.hid (cas_miss (h.cl.drewN 1) 0 (by omega) ep (m64 (ep + 1)) he)
  clear h hs he
  go_enter Try.func84, Try.ntmps84
  go_upto_region 7 with fail
  go_region_held3 (fun W => W.cell? ⟨gs, 0, none⟩ = some (.pointer (some ⟨gc, 0, none⟩)) ∧ W.cell? ⟨gs, 2, none⟩ = some (.int .u64 ep))
    (first | go_keep | assumption | (exact ⟨(World.cell?_setCell_other _ _ _ _ (by simp <;> omega)).trans c0, (World.cell?_setCell_other _ _ _ _ (by simp <;> omega)).trans c2⟩))
    (first | (go_at_call 58; refine (HCA.out).mono ?_; rintro e w' ⟨rfl, rfl⟩))
  clear c0 c1 c2 c4 f4 hw
  generalize (w.drewN 1).setCell ⟨gs, 4, none⟩ (.bool false) = w2 at *
  have d1 : w2.cell? ⟨gs, 1, none⟩ = some (.int .i64 6) := HS2.out.cell 1
  have g1 := HS2.out.frozen 1
  go_wp2
  go_end0
  exact ⟨rfl, H2.out.other n1 n2 n3 1 _, HS2.out.set 1 _, HK2.out.setCell (.inl (by simp)) _⟩
end
end Go.Proofs.Ytoeencklcemofaa
