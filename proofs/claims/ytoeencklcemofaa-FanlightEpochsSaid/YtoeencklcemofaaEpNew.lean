/-
  Package epoch: New, and Do whatever is next. Conditions stand in each theorem.
-/
import Derived.Test.YtoeencklcemofaaEpDo
namespace Go.Proofs.Ytoeencklcemofaa
open Go.RowKit Plain
set_option linter.unusedVariables false
set_option maxRecDepth 100000

section
variable {w : World} {ge gc gn gg n : Nat} {l : List Int}
theorem do0 {gs : Nat} {ep ce : Int} {won : Bool} (hs : St w gs gc 0 ep ce won) :
    Calls Try.prog 51 #[.pointer (some ⟨ge, 0, none⟩), .pointer (some ⟨gs, 0, none⟩)] w fun e w' => e = .returned (.bool true) ∧ w = w' := by
  have c1 : w.cell? ⟨gs, 1, none⟩ = some (.int .i64 0) := Blk.cell hs 1
  clear hs
  go_enter Try.func51, Try.ntmps51
  go_wp2
  go_ret
  exact ⟨rfl, rfl⟩
theorem do_any {gs ce : Nat} {ep : Int} {won : Bool} (nx : Nat) (h : EpB w ge gc gn gg n l) (hs : St w gs gc nx ep ce won) (n1 : ge ≠ gs) (n2 : gc ≠ gs) (n3 : gn ≠ gs) (hnx : 1 ≤ nx ∧ nx ≤ 6) (hce : nx = 2 ∨ nx = 5 → ce < n + 1) :
    Calls Try.prog 51 #[.pointer (some ⟨ge, 0, none⟩), .pointer (some ⟨gs, 0, none⟩)] w (DoP w ge gc gn gg n gs (stepF n l nx ep ce won)) := by
  have key : nx = 1 ∨ nx = 2 ∨ nx = 3 ∨ nx = 4 ∨ nx = 5 ∨ nx = 6 := by omega
  rcases key with rfl | rfl | rfl | rfl | rfl | rfl
  · exact do1 h hs n1 n2 n3
  · exact do2 h hs n1 n2 n3 (hce (.inl rfl))
  · by_cases he : l.getD 0 0 = ep
    · rw [show stepF n l 3 ep ce won = (l, 0, ep, ce, won) from if_pos he]; exact do3y h hs n1 n2 n3 he
    · rw [show stepF n l 3 ep ce won = (l, 1, ep, ce, won) from if_neg he]; exact do3n h hs n1 n2 n3 he
  · exact do4 h hs n1 n2 n3
  · have hc := hce (.inr rfl)
    by_cases hk : l.getD ce 0 ≠ 0 ∧ l.getD ce 0 ≠ m64 (ep + 1)
    · rw [show stepF n l 5 ep ce won = (l, 0, ep, ce + 1, won) from if_pos hk]; exact do5z h hs n1 n2 n3 hc hk
    · by_cases hk2 : n + 1 ≤ ce + 1
      · rw [show stepF n l 5 ep ce won = (l, 6, ep, ce + 1, won) from (if_neg hk).trans (if_pos hk2)]; exact do5m h hs n1 n2 n3 hc hk hk2
      · rw [show stepF n l 5 ep ce won = (l, 5, ep, ce + 1, won) from (if_neg hk).trans (if_neg hk2)]; exact do5g h hs n1 n2 n3 hc hk hk2
  · by_cases he : l.getD 0 0 = ep
    · rw [show stepF n l 6 ep ce won = (l.set 0 (m64 (ep + 1)), 0, ep, ce, true) from if_pos he]; exact do6y h hs n1 n2 n3 he
    · rw [show stepF n l 6 ep ce won = (l, 0, ep, ce, false) from if_neg he]; exact do6n h hs n1 n2 n3 he
end

theorem infoGs : (Try.prog.info? 140).map (fun i => (i.zero, i.size, i.bytes)) = some (some (.slice none 0 0), 1, 24) := by kernel_rfl
theorem run_mkG (n : Nat) (hn : n ≤ 64) (w : World) : (Instr.makeSlice 115 (.int .i64 n) (.int .i64 n)).run Try.prog w = .ok (.slice (some ⟨w.heap.size, 0, none⟩) n n) (w.alloc (.cells (List.replicate n (Value.slice none 0 0)).toArray 140)) := by
  obtain ⟨i, hi, hz, hs, hb⟩ := info_parts infoGs
  have h := run_make (P := Try.prog) w 115 140 i _ Try.underlying115 hi hz .i64 .i64 n n (by omega) (by omega) (by rw [hb]; omega) (by omega)
  have e1 : madeCells (Value.slice none 0 0).cells (n * 1) = (List.replicate n (Value.slice none 0 0)).toArray := by
    apply Array.ext'
    rw [show (Value.slice none 0 0).cells = #[Value.slice none 0 0] from rfl, toList_madeCells_one, Nat.mul_one]
  rw [hs, Int.toNat_natCast, e1] at h
  exact h
set_option maxHeartbeats 1000000 in
theorem eNew_any (n : Nat) (h1 : 1 ≤ n) (h2 : n ≤ 64) (w : World) :
    Calls Try.prog 48 #[.int .i64 n] w fun e w' => ∃ ge gc gn gg, e = .returned (.tuple #[.pointer (some ⟨ge, 0, none⟩), .int .i64 0]) ∧ EpB w' ge gc gn gg n (List.replicate (n + 1) 0) ∧ Blk w' gg 140 (List.replicate n (Value.slice none 0 0)).toArray ∧ Below w.heap.size w w' ∧ w.heap.size ≤ ge ∧ w.heap.size ≤ gc ∧ w.heap.size ≤ gn ∧ w.heap.size ≤ gg := by
  have d1 : decide ((n : Int) < 1) = false := by simp; omega
  have d2 : decide ((64 : Int) < (n : Int)) = false := by simp; omega
  have e1 : (1 + (n : Int)) = ((n + 1 : Nat) : Int) := by omega
  have HE := Lib.hid e1
  clear e1
  go_enter Try.func48, Try.ntmps48
  go_wp2_with fail
  rw [HE.out]
  refine (new_any (n + 1) (by omega) (by omega) w).mono ?_
  rintro e w1 ⟨rfl, hc, hb, hs⟩
  have HC := Lib.hid hc
  have HB := Lib.hid hb
  have hs' : w.heap.size + 2 ≤ w1.heap.size := by omega
  clear hc hb hs
  have hmk := run_mkG n h2 w1
  go_wp2
  go_ret2
  have er : (List.replicate n (Value.slice none 0 0)).toArray = Array.replicate n (Value.slice none 0 0) := by simp
  have hb1 := ball w1 (.cells (Array.replicate n (Value.slice none 0 0)) 140)
  have hb2 := ball (w1.alloc (.cells (Array.replicate n (Value.slice none 0 0)) 140)) (.cells #[.pointer (some ⟨w.heap.size + 1, 0, none⟩), .slice (some ⟨w1.heap.size, 0, none⟩) n n] 117)
  have hes := Blk.new (w1.alloc (.cells (Array.replicate n (Value.slice none 0 0)) 140)) 117 #[.pointer (some ⟨w.heap.size + 1, 0, none⟩), .slice (some ⟨w1.heap.size, 0, none⟩) n n]
  rw [World.size_alloc] at hes
  refine ⟨w1.heap.size + 1, w.heap.size + 1, w.heap.size, w1.heap.size, rfl, ⟨hes, (HC.out.below hb1).below hb2, h1, h2, by omega⟩, ?_, bthen HB.out (bthen hb1 hb2), by omega, by omega, by omega, by omega⟩
  rw [er]
  exact (Blk.new w1 _ _).alloc _
end Go.Proofs.Ytoeencklcemofaa
