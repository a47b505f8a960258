/-
  HistoryNotes: the port that is told of an answer. Conditions stand in each theorem.
-/
import Derived.Test.YtbnlpidhbilenaaGQ
import Derived.Test.YtbnlpidhbilenaaH9
namespace Go.Proofs.Ytbnlpidhbilenaa
open Go.RowKit Plain
set_option linter.unusedVariables false
set_option linter.unusedSimpArgs false
set_option maxRecDepth 100000
def poF (err : Int) (out : Bool) (port : Int) (zs : List Int) : Int := if err = 8 then -1 else if err = 9 then -2 else if err = 0 ∧ out = true then srcF zs else port
set_option maxHeartbeats 2000000 in
theorem portOf_any (out : Bool) (fA : Option Addr) (fn fc : Nat) (tick port : Int) (A : Option Addr) (n c : Nat) (zs : List Int) (err : Int) (w : World) (hn : zs.length = n) (hnc : n ≤ c) (hl : n ≤ 100000) (hR : Rd w A zs) :
    Calls Try.prog 42 #[.agg #[.bool out, .slice fA fn fc, .int .i64 tick, .int .i64 port], .agg #[.slice A n c, .int .i64 err]] w fun e w' => e = .returned (.int .i64 (poF err out port zs)) ∧ Below w.heap.size w w' := by
  have HB := Lib.hid (bthen (ball w (.cells #[.bool out, .slice fA fn fc, .int .i64 tick, .int .i64 port] 29)) (ball _ (.cells #[.slice A n c, .int .i64 err] 33)))
  have h1 : Blk ((w.alloc (.cells #[.bool out, .slice fA fn fc, .int .i64 tick, .int .i64 port] 29)).alloc (.cells #[.slice A n c, .int .i64 err] 33)) w.heap.size 29 #[.bool out, .slice fA fn fc, .int .i64 tick, .int .i64 port] := (Blk.new w _ _).alloc _
  have h2 := Blk.new (w.alloc (.cells #[.bool out, .slice fA fn fc, .int .i64 tick, .int .i64 port] 29)) 33 #[.slice A n c, .int .i64 err]
  rw [World.size_alloc] at h2
  obtain ⟨w1, hw1⟩ : ∃ w1, w1 = (w.alloc (.cells #[.bool out, .slice fA fn fc, .int .i64 tick, .int .i64 port] 29)).alloc (.cells #[.slice A n c, .int .i64 err] 33) := ⟨_, rfl⟩
  rw [← hw1] at h1 h2 HB
  have HW := Lib.hid hw1
  clear hw1
  have HS := Lib.hid (source_any A n c zs w1 hn hnc hl (hR.below HB.out))
  have x0 : w1.cell? ⟨w.heap.size, 0, none⟩ = some (.bool out) := h1.cell 0
  have x3 : w1.cell? ⟨w.heap.size, 3, none⟩ = some (.int .i64 port) := h1.cell 3
  have y0 : w1.cell? ⟨w.heap.size + 1, 0, none⟩ = some (.slice A n c) := h2.cell 0
  have y1 : w1.cell? ⟨w.heap.size + 1, 1, none⟩ = some (.int .i64 err) := h2.cell 1
  clear h1 h2 hR hn
  go_enter Try.func42, Try.ntmps42
  go_upto_region 1 with fail
  rw [← HW.out]
  by_cases e8 : err = 8
  · subst e8
    go_wp2
    go_ret
    exact ⟨rfl, HB.out⟩
  by_cases e9 : err = 9
  · subst e9
    go_wp2
    go_ret
    exact ⟨rfl, HB.out⟩
  have b8 : (err == 8) = false := by simpa using e8
  have b9 : (err == 9) = false := by simpa using e9
  by_cases e0 : err = 0
  · subst e0
    cases out with
    | true =>
      have HF := Lib.hid (show poF 0 true port zs = srcF zs by unfold poF; simp)
      go_wp2_with (go_at_call 57; refine (HS.out).mono ?_; rintro e w2 ⟨rfl, hb⟩)
      go_ret
      exact ⟨by rw [HF.out]; rfl, bthen HB.out hb⟩
    | false =>
      have HF := Lib.hid (show poF 0 false port zs = port by unfold poF; simp)
      go_wp2
      go_ret
      exact ⟨by rw [HF.out]; rfl, HB.out⟩
  · have b0 : (err == 0) = false := by simpa using e0
    have HF := Lib.hid (show poF err out port zs = port by unfold poF; rw [if_neg e8, if_neg e9, if_neg (fun h => e0 h.1)])
    clear e8 e9 e0
    go_wp2
    go_ret
    exact ⟨by rw [HF.out]; rfl, HB.out⟩
end Go.Proofs.Ytbnlpidhbilenaa
