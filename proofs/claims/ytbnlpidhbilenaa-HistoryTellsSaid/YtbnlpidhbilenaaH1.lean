/-
  Package history: an Entry; isDone, Ahead. No condition.
-/
import Derived.Test.YtbnlpidhbilenaaBase
import Derived.Deep.DeepCutAuto
namespace Go.Proofs.Ytbnlpidhbilenaa
open Go.RowKit Plain
set_option linter.unusedVariables false
set_option linter.unusedSimpArgs false
set_option maxRecDepth 100000

/-- an Entry -/
structure En where
  b : Int
  e : Int
  ends : Bool
  out : Bool
  fA : Option Addr
  fn : Nat
  fc : Nat
  tick : Int
  port : Int
  aA : Option Addr
  an : Nat
  ac : Nat
  err : Int
  pr : Int
  po : Int
def En.cs (x : En) : List Value := [.int .i64 x.b, .int .i64 x.e, .bool x.ends, .bool x.out, .slice x.fA x.fn x.fc, .int .i64 x.tick, .int .i64 x.port, .slice x.aA x.an x.ac, .int .i64 x.err, .int .i64 x.pr, .int .i64 x.po]
def En.val (x : En) : Value := .agg x.cs.toArray
theorem sEn : Sty 55 11 := ⟨⟨_, Try.underlying55, rfl⟩, by unfold Siz; kernel_rfl⟩
theorem isDone_any (x : En) (w : World) : Calls Try.prog 41 #[x.val] w fun e w' => e = .returned (.bool (x.e != -1)) ∧ Below w.heap.size w w' := by
  obtain ⟨b, e, ends, out, fA, fn, fc, tick, port, aA, an, ac, err, pr, po⟩ := x
  unfold En.val En.cs
  have HB := Lib.hid (ball w (.cells #[.int .i64 b, .int .i64 e, .bool ends, .bool out, .slice fA fn fc, .int .i64 tick, .int .i64 port, .slice aA an ac, .int .i64 err, .int .i64 pr, .int .i64 po] 55))
  go_enter Try.func41, Try.ntmps41
  go_wp2
  go_ret
  exact ⟨rfl, HB.out⟩
theorem ahead_any (x y : En) (w : World) : Calls Try.prog 26 #[x.val, y.val] w fun e w' => e = .returned (.bool (x.e != -1 && decide (x.e < y.b))) ∧ Below w.heap.size w w' := by
  have HD := Lib.hid (isDone_any x)
  obtain ⟨b, e, ends, out, fA, fn, fc, tick, port, aA, an, ac, err, pr, po⟩ := x
  obtain ⟨b2, e2, ends2, out2, fA2, fn2, fc2, tick2, port2, aA2, an2, ac2, err2, pr2, po2⟩ := y
  unfold En.val En.cs at *
  have HB := Lib.hid (bthen (ball w (.cells #[.int .i64 b, .int .i64 e, .bool ends, .bool out, .slice fA fn fc, .int .i64 tick, .int .i64 port, .slice aA an ac, .int .i64 err, .int .i64 pr, .int .i64 po] 55)) (ball _ (.cells #[.int .i64 b2, .int .i64 e2, .bool ends2, .bool out2, .slice fA2 fn2 fc2, .int .i64 tick2, .int .i64 port2, .slice aA2 an2 ac2, .int .i64 err2, .int .i64 pr2, .int .i64 po2] 55)))
  have h1 : Blk ((w.alloc (.cells #[.int .i64 b, .int .i64 e, .bool ends, .bool out, .slice fA fn fc, .int .i64 tick, .int .i64 port, .slice aA an ac, .int .i64 err, .int .i64 pr, .int .i64 po] 55)).alloc (.cells #[.int .i64 b2, .int .i64 e2, .bool ends2, .bool out2, .slice fA2 fn2 fc2, .int .i64 tick2, .int .i64 port2, .slice aA2 an2 ac2, .int .i64 err2, .int .i64 pr2, .int .i64 po2] 55)) w.heap.size 55 _ := (Blk.new w _ _).alloc _
  have h2 := Blk.new (w.alloc (.cells #[.int .i64 b, .int .i64 e, .bool ends, .bool out, .slice fA fn fc, .int .i64 tick, .int .i64 port, .slice aA an ac, .int .i64 err, .int .i64 pr, .int .i64 po] 55)) 55 #[.int .i64 b2, .int .i64 e2, .bool ends2, .bool out2, .slice fA2 fn2 fc2, .int .i64 tick2, .int .i64 port2, .slice aA2 an2 ac2, .int .i64 err2, .int .i64 pr2, .int .i64 po2]
  rw [World.size_alloc] at h2
  obtain ⟨w1, hw1⟩ : ∃ w1, w1 = (w.alloc (.cells #[.int .i64 b, .int .i64 e, .bool ends, .bool out, .slice fA fn fc, .int .i64 tick, .int .i64 port, .slice aA an ac, .int .i64 err, .int .i64 pr, .int .i64 po] 55)).alloc (.cells #[.int .i64 b2, .int .i64 e2, .bool ends2, .bool out2, .slice fA2 fn2 fc2, .int .i64 tick2, .int .i64 port2, .slice aA2 an2 ac2, .int .i64 err2, .int .i64 pr2, .int .i64 po2] 55) := ⟨_, rfl⟩
  have HB1 := Lib.hid (show Below w.heap.size w w1 by rw [hw1]; exact HB.out)
  rw [← hw1] at h1 h2
  have HW := Lib.hid hw1
  clear hw1 HB
  have H1 := Lib.hid h1
  have H2 := Lib.hid h2
  clear h1 h2
  by_cases hd : e = -1
  · subst hd
    have q : ((-1 : Int) != -1) = false := by decide
    have Q := Lib.hid q
    go_enter Try.func26, Try.ntmps26
    go_upto_region 1 with fail
    rw [← HW.out]
    go_wp2_with (first | ((with_reducible refine gd_ld 55 2 ?_); refine wpList_ld rfl 55 (.tmp 2) rfl _ rfl (H1.out) sEn ?_) | (go_at_call 41; refine (HD.out _).mono ?_; rintro ee w2 ⟨rfl, hb2⟩; have HB2 := Lib.hid (bthen HB1.out hb2); clear hb2))
    go_ret
    exact ⟨by rw [Q.out]; rfl, HB2.out⟩
  · have q : (e != -1) = true := by simp [hd]
    have Q := Lib.hid q
    clear hd
    go_enter Try.func26, Try.ntmps26
    go_upto_region 1 with fail
    rw [← HW.out]
    go_wp2_with (first | ((with_reducible refine gd_ld 55 2 ?_); refine wpList_ld rfl 55 (.tmp 2) rfl _ rfl (H1.out) sEn ?_) | (go_at_call 41; refine (HD.out _).mono ?_; rintro ee w2 ⟨rfl, hb2⟩; have c1 := (H1.out.below hb2).cell 1; have c2 := (H2.out.below hb2).cell 0; have HB2 := Lib.hid (bthen HB1.out hb2); clear hb2))
    go_ret
    exact ⟨by rw [Q.out]; rfl, HB2.out⟩
end Go.Proofs.Ytbnlpidhbilenaa
