/-
  Package place: Keys; Key and SetKey, Copy, Count; calls of none. Conditions stand in each theorem.
-/
import Derived.Test.YtpiobdbaljkkpaaPlV
import Derived.Test.YtpiobdbaljkkpaaPlR
import Derived.Test.YtpiobdbaljkkpaaPlN
import Derived.Test.YtpiobdbaljkkpaaCellsC
namespace Go.Proofs.Ytpiobdbaljkkpaa
open Go.RowKit Plain
set_option linter.unusedVariables false
set_option maxRecDepth 100000
set_option linter.unusedSimpArgs false

/-- a Key -/
structure Fl where
  p : Int
  a : Int
  o : Int
  deriving DecidableEq, Inhabited
def Fl.val (x : Fl) : Value := .agg #[.int .i64 x.p, .int .u32 x.a, .int .u16 x.o]
theorem Fl.v3 (p a o : Int) : (Fl.mk p a o).val = .agg #[.int .i64 p, .int .u32 a, .int .u16 o] := rfl
def Fl.ok (x : Fl) : Prop := i64 x.p ∧ (0 ≤ x.a ∧ x.a ≤ 4294967295) ∧ (0 ≤ x.o ∧ x.o ≤ 65535)
def Fl.can (x : Fl) : Prop := (0 ≤ x.p ∧ x.p ≤ 255) ∧ (0 ≤ x.a ∧ x.a ≤ 4294967295) ∧ (0 ≤ x.o ∧ x.o ≤ 65535)
def Fl.num (x : Fl) : Int := 281474976710656 * x.p + 65536 * x.a + x.o
def flOf (n : Int) : Fl := ⟨n / 281474976710656, n / 65536 % 4294967296, n % 65536⟩
theorem flOf_num (x : Fl) (h : x.can) : flOf x.num = x := by
  obtain ⟨⟨p0, p1⟩, ⟨a0, a1⟩, ⟨o0, o1⟩⟩ := h
  obtain ⟨p, a, o⟩ := x
  simp only [flOf, Fl.num, Fl.mk.injEq] at *
  omega
theorem fnum_range (x : Fl) (h : x.can) : 0 ≤ x.num ∧ x.num < 18446744073709551616 := by
  obtain ⟨⟨p0, p1⟩, ⟨a0, a1⟩, ⟨o0, o1⟩⟩ := h
  unfold Fl.num; omega

theorem lkey_any (x : Fl) (w : World) : Calls Try.prog 33 #[x.val] w fun e w' => e = .returned x.val ∧ Below w.heap.size w w' := by
  obtain ⟨a, b, c⟩ := x
  rw [Fl.v3]
  go_enter Try.func33, Try.ntmps33
  go_wp2
  refine bodyPost_ret (v := .agg #[.int .i64 a, .int .u32 b, .int .u16 c]) (by simp [results, Try.results33, go_sem]) rfl ⟨rfl, ?_⟩
  exact b2all w _ _
theorem lfromKey_any (x : Fl) (w : World) : Calls Try.prog 35 #[x.val] w fun e w' => e = .returned x.val ∧ Below w.heap.size w w' := by
  obtain ⟨a, b, c⟩ := x
  rw [Fl.v3]
  go_enter Try.func35, Try.ntmps35
  go_wp2
  refine bodyPost_ret (v := .agg #[.int .i64 a, .int .u32 b, .int .u16 c]) (by simp [results, Try.results35, go_sem]) rfl ⟨rfl, ?_⟩
  exact b2all w _ _
theorem number_any (x : Fl) (hx : x.can) (w : World) : Calls Try.prog 37 #[x.val] w fun e w' => e = .returned (.int .u64 x.num) ∧ Below w.heap.size w w' := by
  obtain ⟨a, b, c⟩ := x
  obtain ⟨⟨p0, p1⟩, ⟨a0, a1⟩, ⟨o0, o1⟩⟩ := hx
  simp only at p0 p1 a0 a1 o0 o1
  rw [Fl.v3, show (Fl.mk a b c).num = 281474976710656 * a + 65536 * b + c from rfl]
  go_enter Try.func37, Try.ntmps37
  go_wp2
  go_ret
  exact ⟨congrArg (fun z => Ending.returned (Value.int .u64 z)) (by omega), ball w _⟩
theorem keyCell_any (i : Nat) (hi : i ≤ 1000000) (w : World) : Calls Try.prog 65 #[.int .i64 i] w fun e w' => e = .returned (.int .i64 ((2 * i + 1 : Nat) : Int)) ∧ w = w' := by
  have e2 : ((2 * i + 1 : Nat) : Int) = (i : Int) * 2 + 1 := by omega
  rw [e2]
  clear e2
  go_enter Try.func65, Try.ntmps65
  go_wp2
  go_ret
  exact ⟨rfl, rfl⟩
def fz : Fl := ⟨0, 0, 0⟩
section
variable {w : World} {gp gc gn n : Nat} {l : List Int}
theorem pkey_out (h : PlB w gp gc gn n l) (i : Int) (hi : inC n i = false) :
    Calls Try.prog 25 #[.pointer (some ⟨gp, 0, none⟩), .int .i64 i] w fun e w' => e = .returned fz.val ∧ Below w.heap.size w w' := by
  have HI := Lib.hid hi
  have H := Lib.hid (h.alloc (.cells #[.int .i64 0, .int .u32 0, .int .u16 0] 68))
  rw [show fz.val = .agg #[.int .i64 0, .int .u32 0, .int .u16 0] from rfl]
  clear h hi
  go_enter Try.func25, Try.ntmps25
  go_wp2_with fail
  refine (phas_any H.out i).mono ?_
  rintro e w' ⟨rfl, rfl⟩
  rw [HI.out]
  go_wp2
  refine bodyPost_ret (v := .agg #[.int .i64 0, .int .u32 0, .int .u16 0]) (by simp [results, Try.results25, go_sem]) rfl ⟨rfl, ?_⟩
  exact ball w _
end
end Go.Proofs.Ytpiobdbaljkkpaa
