/-
  HistoryNotes: Ended. Conditions stand in each theorem.
-/
import Derived.Test.YtbnlpidhbilenaaGD
namespace Go.Proofs.Ytbnlpidhbilenaa
open Go.RowKit Plain
set_option linter.unusedVariables false
set_option linter.unusedSimpArgs false
set_option maxRecDepth 100000
set_option maxHeartbeats 4000000 in
theorem ended_no {w : World} {base gh : Nat} {now : Int} {v : Value} {es : List En} (h : HiS w base gh now v es) (since tick proto port : Int) (hs : since < 1 ∨ now < since) :
    Calls Try.prog 13 #[.pointer (some ⟨gh, 0, none⟩), .int .i64 since, .int .i64 tick, .int .i64 proto, .int .i64 port] w fun e w' => e = .returned (.int .i64 (-1)) ∧ w = w' := by
  have c0 : w.cell? ⟨gh, 0, none⟩ = some (.int .i64 now) := h.st.cell 0
  clear h
  by_cases h1 : since < 1
  · have b1 : decide (since < 1) = true := decide_eq_true h1
    clear hs h1
    go_enter Try.func13, Try.ntmps13
    go_wp2
    go_ret
    exact ⟨rfl, rfl⟩
  · have b1 : decide (since < 1) = false := decide_eq_false h1
    have b2 : decide (now < since) = true := decide_eq_true (by omega)
    clear hs h1
    go_enter Try.func13, Try.ntmps13
    go_wp2
    go_ret
    exact ⟨rfl, rfl⟩
set_option maxHeartbeats 4000000 in
theorem ended_yes {w : World} {base gh : Nat} {now : Int} {A : Option Addr} {n c : Nat} {es : List En} (h : HiS w base gh now (.slice A n c) es) (hn : es.length = n) (hl : n ≤ 1000) (n0 : 0 ≤ now) (n1 : now ≤ 100000) (since tick proto port : Int) (hs1 : 1 ≤ since) (hs2 : since ≤ now) :
    Calls Try.prog 13 #[.pointer (some ⟨gh, 0, none⟩), .int .i64 since, .int .i64 tick, .int .i64 proto, .int .i64 port] w fun e w' => e = .returned (.int .i64 n) ∧ ∃ A' c', HiS w' base gh (now + 1) (.slice A' (n + 1) c') (es ++ [⟨since, now + 1, true, false, none, 0, 0, tick, 0, none, 0, 0, 0, proto, port⟩]) ∧ Keep (hiL gh (.slice A n c)) w w' ∧ ((Value.slice A n c).ownBlock = (Value.slice A' (n + 1) c').ownBlock ∨ ∀ g, (Value.slice A' (n + 1) c').ownBlock = some g → w.heap.size ≤ g) := by
  have c0 : w.cell? ⟨gh, 0, none⟩ = some (.int .i64 now) := h.st.cell 0
  have f0 : w.frozen? ⟨gh, 0, none⟩ = false := Blk.frozen h.st 0
  have b1 : decide (since < 1) = false := decide_eq_false (by omega)
  have b2 : decide (now < since) = false := decide_eq_false (by omega)
  have HH4 := Lib.hid (h.tick (now + 1))
  have HK4 := Lib.hid ((Keep.refl (hiL gh (.slice A n c)) w).setCell (p := ⟨gh, 0, none⟩) (.inl (by unfold hiL; simp)) (.int .i64 (now + 1)))
  clear h hs1 hs2
  go_enter Try.func13, Try.ntmps13
  go_upto_region 4 with fail
  generalize w.setCell ⟨gh, 0, none⟩ (.int .i64 (now + 1)) = w4 at *
  clear c0 f0
  have c0 : w4.cell? ⟨gh, 0, none⟩ = some (.int .i64 (now + 1)) := HH4.out.st.cell 0
  have HN := Lib.hid (note_any HH4.out hn (by omega) ⟨since, now + 1, true, false, none, 0, 0, tick, 0, none, 0, 0, 0, proto, port⟩)
  unfold En.val En.cs at HN
  go_wp2_with (go_at_call 40; refine (HN.out).mono ?_; rintro ee w5 ⟨rfl, A', c', hh5, hk5, ho5⟩)
  go_ret
  refine ⟨rfl, A', c', hh5, HK4.out.trans hk5, ?_⟩
  rcases ho5 with h | h
  · exact .inl h
  · exact .inr (fun g hg => Nat.le_trans HK4.out.size (h g hg))
end Go.Proofs.Ytbnlpidhbilenaa
