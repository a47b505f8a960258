/-
  Package cache: None, Same of a Step; calls of none; Word. Conditions stand in each theorem.
-/
import Derived.Test.YtmbceafeonjffaaGO
namespace Go.Proofs.Ytmbceafeonjffaa
open Go.RowKit Go.Deep Plain
set_option linter.unusedVariables false
set_option linter.unusedSimpArgs false
set_option maxRecDepth 100000
set_option maxHeartbeats 4000000 in
theorem pnone_nil (w : World) : Calls Try.prog 20 #[.pointer none] w fun e w' => e = .returned (.bool false) ∧ w = w' := by
  go_enter Try.func20, Try.ntmps20
  go_wp2
  go_ret
  exact ⟨rfl, rfl⟩
set_option maxHeartbeats 4000000 in
theorem psame_nil (w : World) : Calls Try.prog 21 #[.pointer none] w fun e w' => e = .returned (.bool false) ∧ w = w' := by
  go_enter Try.func21, Try.ntmps21
  go_wp2
  go_ret
  exact ⟨rfl, rfl⟩
set_option maxHeartbeats 4000000 in
theorem pdo_nil (w : World) (gp : Nat) : Calls Try.prog 14 #[.pointer (some ⟨gp, 0, none⟩), .pointer none] w fun e w' => e = .returned (.bool true) ∧ w = w' := by
  go_enter Try.func14, Try.ntmps14
  go_wp2
  go_ret
  exact ⟨rfl, rfl⟩
set_option maxHeartbeats 4000000 in
theorem word_nil (w : World) : Calls Try.prog 67 #[.pointer none] w fun e w' => e = .returned (.int .i64 (-1)) ∧ w = w' := by
  go_enter Try.func67, Try.ntmps67
  go_wp2
  go_ret
  exact ⟨rfl, rfl⟩
/-- where a Take took: none is told by -1 -/
def wrdF (s : Ps) : Int := if s.tk = 0 then -1 else s.wd
set_option maxHeartbeats 4000000 in
theorem word_any {w : World} {gs gc n : Nat} {s : Ps} (hs : StW w gs gc n s) :
    Calls Try.prog 67 #[.pointer (some ⟨gs, 0, none⟩)] w fun e w' => e = .returned (.int .i64 (wrdF s)) ∧ w = w' := by
  obtain ⟨⟨gv, hsp, hg⟩, _⟩ := hs
  have c37 := hsp.c37
  have c2 := hsp.c2
  clear hsp hg
  by_cases h : s.tk = 0
  · have d : ((s.tk : Int) == 0) = true := by simp [h]
    have e : wrdF s = -1 := by simp [wrdF, h]
    clear h
    rw [e]
    go_enter Try.func67, Try.ntmps67
    go_wp2
    go_ret
    exact ⟨rfl, rfl⟩
  · have d : ((s.tk : Int) == 0) = false := by simp [h]
    have e : wrdF s = s.wd := by simp [wrdF, h]
    clear h
    rw [e]
    go_enter Try.func67, Try.ntmps67
    go_wp2
    go_ret
    exact ⟨rfl, rfl⟩
section
variable {w : World} {gt gs gc n : Nat} {ca : Option Nat} {s : Ps}
set_option maxHeartbeats 4000000 in
theorem cnone_any (ht : CsB w gt ca (some gs)) (hs : StW w gs gc n s) :
    Calls Try.prog 33 #[.pointer (some ⟨gt, 0, none⟩)] w fun e w' => e = .returned (.bool s.no) ∧ w = w' := by
  have HN := Lib.hid (pnone_any hs)
  have c1 : w.cell? ⟨gt, 1, none⟩ = some (.pointer (some ⟨gs, 0, none⟩)) := ht.cell 1
  clear hs ht
  go_enter Try.func33, Try.ntmps33
  go_wp2_with (go_at_call 20; refine (HN.out).mono ?_; rintro e w1 ⟨rfl, rfl⟩)
  go_ret
  exact ⟨rfl, rfl⟩
set_option maxHeartbeats 4000000 in
theorem cnone_nil (ht : CsB w gt ca none) :
    Calls Try.prog 33 #[.pointer (some ⟨gt, 0, none⟩)] w fun e w' => e = .returned (.bool false) ∧ w = w' := by
  have HN := Lib.hid (pnone_nil w)
  have c1 : w.cell? ⟨gt, 1, none⟩ = some (.pointer none) := ht.cell 1
  clear ht
  go_enter Try.func33, Try.ntmps33
  go_wp2_with (go_at_call 20; refine (HN.out).mono ?_; rintro e w1 ⟨rfl, rfl⟩)
  go_ret
  exact ⟨rfl, rfl⟩
set_option maxHeartbeats 4000000 in
theorem csame_any (ht : CsB w gt ca (some gs)) (hs : StW w gs gc n s) :
    Calls Try.prog 32 #[.pointer (some ⟨gt, 0, none⟩)] w fun e w' => e = .returned (.bool s.sm) ∧ w = w' := by
  have HN := Lib.hid (psame_any hs)
  have c1 : w.cell? ⟨gt, 1, none⟩ = some (.pointer (some ⟨gs, 0, none⟩)) := ht.cell 1
  clear hs ht
  go_enter Try.func32, Try.ntmps32
  go_wp2_with (go_at_call 21; refine (HN.out).mono ?_; rintro e w1 ⟨rfl, rfl⟩)
  go_ret
  exact ⟨rfl, rfl⟩
set_option maxHeartbeats 4000000 in
theorem csame_nil (ht : CsB w gt ca none) :
    Calls Try.prog 32 #[.pointer (some ⟨gt, 0, none⟩)] w fun e w' => e = .returned (.bool false) ∧ w = w' := by
  have HN := Lib.hid (psame_nil w)
  have c1 : w.cell? ⟨gt, 1, none⟩ = some (.pointer none) := ht.cell 1
  clear ht
  go_enter Try.func32, Try.ntmps32
  go_wp2_with (go_at_call 21; refine (HN.out).mono ?_; rintro e w1 ⟨rfl, rfl⟩)
  go_ret
  exact ⟨rfl, rfl⟩
end
end Go.Proofs.Ytmbceafeonjffaa
