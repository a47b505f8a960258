/-
  Package epoch: Do, one step of a Pin or an Advance. Conditions stand in each theorem.
-/
import Derived.Test.YtoeencklcemofaaEp3
namespace Go.Proofs.Ytoeencklcemofaa
open Go.RowKit Plain
set_option linter.unusedVariables false
set_option maxRecDepth 100000

/-- what a step tells and leaves -/
def DoP (w : World) (ge gc gn gg n gs : Nat) (r : List Int × Nat × Int × Nat × Bool) (e : Ending) (w' : World) : Prop :=
  e = .returned (.bool (r.2.1 == 0)) ∧ EpB w' ge gc gn gg n r.1 ∧ St w' gs gc r.2.1 r.2.2.1 r.2.2.2.1 r.2.2.2.2 ∧ Keep [gn, gs] w w'
section
variable {w : World} {ge gc gn gg n : Nat} {l : List Int}
set_option maxHeartbeats 1000000 in
theorem do1 {gs ce : Nat} {ep : Int} {won : Bool} (h : EpB w ge gc gn gg n l) (hs : St w gs gc 1 ep ce won) (n1 : ge ≠ gs) (n2 : gc ≠ gs) (n3 : gn ≠ gs) :
    Calls Try.prog 51 #[.pointer (some ⟨ge, 0, none⟩), .pointer (some ⟨gs, 0, none⟩)] w (DoP w ge gc gn gg n gs (l, 2, l.getD 0 0, ce, won)) := by
  have c1 : w.cell? ⟨gs, 1, none⟩ = some (.int .i64 1) := Blk.cell hs 1
  have HC := Lib.hid (pin1_any h hs n1 n2 n3)
  clear h hs
  go_enter Try.func51, Try.ntmps51
  go_wp2_with fail
  refine (HC.out).mono ?_
  rintro e w2 ⟨rfl, h1, h2, h3⟩
  have d1 := Blk.cell h2 1
  simp only [List.getElem?_toArray, List.getElem?_cons_zero, List.getElem?_cons_succ] at d1
  have H1 := Lib.hid h1
  have H2 := Lib.hid h2
  have H3 := Lib.hid h3
  clear h1 h2 h3 c1
  go_wp2
  go_ret
  exact ⟨rfl, H1.out, H2.out, H3.out⟩
set_option maxHeartbeats 1000000 in
theorem do2 {gs ce : Nat} {ep : Int} {won : Bool} (h : EpB w ge gc gn gg n l) (hs : St w gs gc 2 ep ce won) (n1 : ge ≠ gs) (n2 : gc ≠ gs) (n3 : gn ≠ gs) (hce : ce < n + 1) :
    Calls Try.prog 51 #[.pointer (some ⟨ge, 0, none⟩), .pointer (some ⟨gs, 0, none⟩)] w (DoP w ge gc gn gg n gs (l.set ce (m64 (ep + 1)), 3, ep, ce, won)) := by
  have c1 : w.cell? ⟨gs, 1, none⟩ = some (.int .i64 2) := Blk.cell hs 1
  have HC := Lib.hid (pin2_any h hs n1 n2 n3 hce)
  clear h hs
  go_enter Try.func51, Try.ntmps51
  go_wp2_with fail
  refine (HC.out).mono ?_
  rintro e w2 ⟨rfl, h1, h2, h3⟩
  have d1 := Blk.cell h2 1
  simp only [List.getElem?_toArray, List.getElem?_cons_zero, List.getElem?_cons_succ] at d1
  have H1 := Lib.hid h1
  have H2 := Lib.hid h2
  have H3 := Lib.hid h3
  clear h1 h2 h3 c1
  go_wp2
  go_ret
  exact ⟨rfl, H1.out, H2.out, H3.out⟩
set_option maxHeartbeats 1000000 in
theorem do3y {gs ce : Nat} {ep : Int} {won : Bool} (h : EpB w ge gc gn gg n l) (hs : St w gs gc 3 ep ce won) (n1 : ge ≠ gs) (n2 : gc ≠ gs) (n3 : gn ≠ gs) (he : l.getD 0 0 = ep) :
    Calls Try.prog 51 #[.pointer (some ⟨ge, 0, none⟩), .pointer (some ⟨gs, 0, none⟩)] w (DoP w ge gc gn gg n gs (l, 0, ep, ce, won)) := by
  have c1 : w.cell? ⟨gs, 1, none⟩ = some (.int .i64 3) := Blk.cell hs 1
  have HC := Lib.hid (pin3_any h hs n1 n2 n3 0 (by rw [if_pos he]))
  clear h hs
  go_enter Try.func51, Try.ntmps51
  go_wp2_with fail
  refine (HC.out).mono ?_
  rintro e w2 ⟨rfl, h1, h2, h3⟩
  have d1 := Blk.cell h2 1
  simp only [List.getElem?_toArray, List.getElem?_cons_zero, List.getElem?_cons_succ] at d1
  have H1 := Lib.hid h1
  have H2 := Lib.hid h2
  have H3 := Lib.hid h3
  clear h1 h2 h3 c1
  go_wp2
  go_ret
  exact ⟨rfl, H1.out, H2.out, H3.out⟩
set_option maxHeartbeats 1000000 in
theorem do3n {gs ce : Nat} {ep : Int} {won : Bool} (h : EpB w ge gc gn gg n l) (hs : St w gs gc 3 ep ce won) (n1 : ge ≠ gs) (n2 : gc ≠ gs) (n3 : gn ≠ gs) (he : ¬ l.getD 0 0 = ep) :
    Calls Try.prog 51 #[.pointer (some ⟨ge, 0, none⟩), .pointer (some ⟨gs, 0, none⟩)] w (DoP w ge gc gn gg n gs (l, 1, ep, ce, won)) := by
  have c1 : w.cell? ⟨gs, 1, none⟩ = some (.int .i64 3) := Blk.cell hs 1
  have HC := Lib.hid (pin3_any h hs n1 n2 n3 1 (by rw [if_neg he]))
  clear h hs
  go_enter Try.func51, Try.ntmps51
  go_wp2_with fail
  refine (HC.out).mono ?_
  rintro e w2 ⟨rfl, h1, h2, h3⟩
  have d1 := Blk.cell h2 1
  simp only [List.getElem?_toArray, List.getElem?_cons_zero, List.getElem?_cons_succ] at d1
  have H1 := Lib.hid h1
  have H2 := Lib.hid h2
  have H3 := Lib.hid h3
  clear h1 h2 h3 c1
  go_wp2
  go_ret
  exact ⟨rfl, H1.out, H2.out, H3.out⟩
set_option maxHeartbeats 1000000 in
theorem do4 {gs ce : Nat} {ep : Int} {won : Bool} (h : EpB w ge gc gn gg n l) (hs : St w gs gc 4 ep ce won) (n1 : ge ≠ gs) (n2 : gc ≠ gs) (n3 : gn ≠ gs) :
    Calls Try.prog 51 #[.pointer (some ⟨ge, 0, none⟩), .pointer (some ⟨gs, 0, none⟩)] w (DoP w ge gc gn gg n gs (l, 5, l.getD 0 0, ce, won)) := by
  have c1 : w.cell? ⟨gs, 1, none⟩ = some (.int .i64 4) := Blk.cell hs 1
  have HC := Lib.hid (adv4_any h hs n1 n2 n3)
  clear h hs
  go_enter Try.func51, Try.ntmps51
  go_wp2_with fail
  refine (HC.out).mono ?_
  rintro e w2 ⟨rfl, h1, h2, h3⟩
  have d1 := Blk.cell h2 1
  simp only [List.getElem?_toArray, List.getElem?_cons_zero, List.getElem?_cons_succ] at d1
  have H1 := Lib.hid h1
  have H2 := Lib.hid h2
  have H3 := Lib.hid h3
  clear h1 h2 h3 c1
  go_wp2
  go_ret
  exact ⟨rfl, H1.out, H2.out, H3.out⟩
set_option maxHeartbeats 1000000 in
theorem do6y {gs ce : Nat} {ep : Int} {won : Bool} (h : EpB w ge gc gn gg n l) (hs : St w gs gc 6 ep ce won) (n1 : ge ≠ gs) (n2 : gc ≠ gs) (n3 : gn ≠ gs) (he : l.getD 0 0 = ep) :
    Calls Try.prog 51 #[.pointer (some ⟨ge, 0, none⟩), .pointer (some ⟨gs, 0, none⟩)] w (DoP w ge gc gn gg n gs (l.set 0 (m64 (ep + 1)), 0, ep, ce, true)) := by
  have c1 : w.cell? ⟨gs, 1, none⟩ = some (.int .i64 6) := Blk.cell hs 1
  have HC := Lib.hid (adv6_yes h hs n1 n2 n3 he)
  clear h hs
  go_enter Try.func51, Try.ntmps51
  go_wp2_with fail
  refine (HC.out).mono ?_
  rintro e w2 ⟨rfl, h1, h2, h3⟩
  have d1 := Blk.cell h2 1
  simp only [List.getElem?_toArray, List.getElem?_cons_zero, List.getElem?_cons_succ] at d1
  have H1 := Lib.hid h1
  have H2 := Lib.hid h2
  have H3 := Lib.hid h3
  clear h1 h2 h3 c1
  go_wp2
  go_ret
  exact ⟨rfl, H1.out, H2.out, H3.out⟩
set_option maxHeartbeats 1000000 in
theorem do6n {gs ce : Nat} {ep : Int} {won : Bool} (h : EpB w ge gc gn gg n l) (hs : St w gs gc 6 ep ce won) (n1 : ge ≠ gs) (n2 : gc ≠ gs) (n3 : gn ≠ gs) (he : ¬ l.getD 0 0 = ep) :
    Calls Try.prog 51 #[.pointer (some ⟨ge, 0, none⟩), .pointer (some ⟨gs, 0, none⟩)] w (DoP w ge gc gn gg n gs (l, 0, ep, ce, false)) := by
  have c1 : w.cell? ⟨gs, 1, none⟩ = some (.int .i64 6) := Blk.cell hs 1
  have HC := Lib.hid (adv6_no h hs n1 n2 n3 he)
  clear h hs
  go_enter Try.func51, Try.ntmps51
  go_wp2_with fail
  refine (HC.out).mono ?_
  rintro e w2 ⟨rfl, h1, h2, h3⟩
  have d1 := Blk.cell h2 1
  simp only [List.getElem?_toArray, List.getElem?_cons_zero, List.getElem?_cons_succ] at d1
  have H1 := Lib.hid h1
  have H2 := Lib.hid h2
  have H3 := Lib.hid h3
  clear h1 h2 h3 c1
  go_wp2
  go_ret
  exact ⟨rfl, H1.out, H2.out, H3.out⟩
set_option maxHeartbeats 1000000 in
theorem do5z {gs ce : Nat} {ep : Int} {won : Bool} (h : EpB w ge gc gn gg n l) (hs : St w gs gc 5 ep ce won) (n1 : ge ≠ gs) (n2 : gc ≠ gs) (n3 : gn ≠ gs) (hce : ce < n + 1) (hk : l.getD ce 0 ≠ 0 ∧ l.getD ce 0 ≠ m64 (ep + 1)) :
    Calls Try.prog 51 #[.pointer (some ⟨ge, 0, none⟩), .pointer (some ⟨gs, 0, none⟩)] w (DoP w ge gc gn gg n gs (l, 0, ep, ce + 1, won)) := by
  have c1 : w.cell? ⟨gs, 1, none⟩ = some (.int .i64 5) := Blk.cell hs 1
  have HC := Lib.hid (by have := adv5_any h hs n1 n2 n3 hce; rw [show lookN n (l.getD ce 0) ep ce = 0 by unfold lookN; rw [if_pos hk]] at this; exact this)
  clear h hs
  go_enter Try.func51, Try.ntmps51
  go_wp2_with fail
  refine (HC.out).mono ?_
  rintro e w2 ⟨rfl, h1, h2, h3⟩
  have d1 := Blk.cell h2 1
  simp only [List.getElem?_toArray, List.getElem?_cons_zero, List.getElem?_cons_succ] at d1
  have H1 := Lib.hid h1
  have H2 := Lib.hid h2
  have H3 := Lib.hid h3
  clear h1 h2 h3 c1
  go_wp2
  go_ret
  exact ⟨rfl, H1.out, H2.out, H3.out⟩
set_option maxHeartbeats 1000000 in
theorem do5m {gs ce : Nat} {ep : Int} {won : Bool} (h : EpB w ge gc gn gg n l) (hs : St w gs gc 5 ep ce won) (n1 : ge ≠ gs) (n2 : gc ≠ gs) (n3 : gn ≠ gs) (hce : ce < n + 1) (hk : ¬ (l.getD ce 0 ≠ 0 ∧ l.getD ce 0 ≠ m64 (ep + 1))) (hk2 : n + 1 ≤ ce + 1) :
    Calls Try.prog 51 #[.pointer (some ⟨ge, 0, none⟩), .pointer (some ⟨gs, 0, none⟩)] w (DoP w ge gc gn gg n gs (l, 6, ep, ce + 1, won)) := by
  have c1 : w.cell? ⟨gs, 1, none⟩ = some (.int .i64 5) := Blk.cell hs 1
  have HC := Lib.hid (by have := adv5_any h hs n1 n2 n3 hce; rw [show lookN n (l.getD ce 0) ep ce = 6 by unfold lookN; rw [if_neg hk, if_pos hk2]] at this; exact this)
  clear h hs
  go_enter Try.func51, Try.ntmps51
  go_wp2_with fail
  refine (HC.out).mono ?_
  rintro e w2 ⟨rfl, h1, h2, h3⟩
  have d1 := Blk.cell h2 1
  simp only [List.getElem?_toArray, List.getElem?_cons_zero, List.getElem?_cons_succ] at d1
  have H1 := Lib.hid h1
  have H2 := Lib.hid h2
  have H3 := Lib.hid h3
  clear h1 h2 h3 c1
  go_wp2
  go_ret
  exact ⟨rfl, H1.out, H2.out, H3.out⟩
set_option maxHeartbeats 1000000 in
theorem do5g {gs ce : Nat} {ep : Int} {won : Bool} (h : EpB w ge gc gn gg n l) (hs : St w gs gc 5 ep ce won) (n1 : ge ≠ gs) (n2 : gc ≠ gs) (n3 : gn ≠ gs) (hce : ce < n + 1) (hk : ¬ (l.getD ce 0 ≠ 0 ∧ l.getD ce 0 ≠ m64 (ep + 1))) (hk2 : ¬ n + 1 ≤ ce + 1) :
    Calls Try.prog 51 #[.pointer (some ⟨ge, 0, none⟩), .pointer (some ⟨gs, 0, none⟩)] w (DoP w ge gc gn gg n gs (l, 5, ep, ce + 1, won)) := by
  have c1 : w.cell? ⟨gs, 1, none⟩ = some (.int .i64 5) := Blk.cell hs 1
  have HC := Lib.hid (by have := adv5_any h hs n1 n2 n3 hce; rw [show lookN n (l.getD ce 0) ep ce = 5 by unfold lookN; rw [if_neg hk, if_neg hk2]] at this; exact this)
  clear h hs
  go_enter Try.func51, Try.ntmps51
  go_wp2_with fail
  refine (HC.out).mono ?_
  rintro e w2 ⟨rfl, h1, h2, h3⟩
  have d1 := Blk.cell h2 1
  simp only [List.getElem?_toArray, List.getElem?_cons_zero, List.getElem?_cons_succ] at d1
  have H1 := Lib.hid h1
  have H2 := Lib.hid h2
  have H3 := Lib.hid h3
  clear h1 h2 h3 c1
  go_wp2
  go_ret
  exact ⟨rfl, H1.out, H2.out, H3.out⟩
end
end Go.Proofs.Ytoeencklcemofaa
