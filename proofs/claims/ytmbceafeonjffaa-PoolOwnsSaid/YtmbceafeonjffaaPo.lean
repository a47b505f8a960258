/-
  Package pool: what lies there; small calls. Conditions stand in each theorem.
-/
import Derived.Test.YtmbceafeonjffaaCKeep
import Derived.Test.YtmbceafeonjffaaCellsC
import Derived.Test.YtmbceafeonjffaaPoM
import Derived.Lib.Hide
namespace Go.Proofs.Ytmbceafeonjffaa
open Go.RowKit Plain
set_option linter.unusedVariables false
set_option linter.unusedSimpArgs false
set_option maxRecDepth 100000
theorem retP {k : IntKind} {a b : Int} (h : a = b) : Ending.returned (.int k a) = .returned (.int k b) := by rw [h]
/-- a Pool: its struct in block gp, its words are cells -/
structure PoS (w : World) (gp gc gn n : Nat) (size : Int) (l : List Int) : Prop where
  ps : Blk w gp 73 #[.pointer (some ⟨gc, 0, none⟩), .int .i64 size]
  cl : Cl w gc gn n l
  nn : gp ≠ gn
  nc : gp ≠ gc
section
variable {w w' : World} {gp gc gn n : Nat} {size : Int} {l : List Int}
theorem PoS.below (h : PoS w gp gc gn n size l) (hb : Below w.heap.size w w') : PoS w' gp gc gn n size l := ⟨h.ps.below hb, h.cl.below hb, h.nn, h.nc⟩
theorem PoS.keep {bs : List Nat} (h : PoS w gp gc gn n size l) (hk : Keep bs w w') (h1 : gp ∉ bs) (h2 : gc ∉ bs) (h3 : gn ∉ bs) : PoS w' gp gc gn n size l := ⟨hk.blk h.ps h1, h.cl.keep hk h2 h3, h.nn, h.nc⟩
theorem PoS.drewN (h : PoS w gp gc gn n size l) (q : Nat) : PoS (w.drewN q) gp gc gn n size l := ⟨h.ps, h.cl.drewN q, h.nn, h.nc⟩
theorem PoS.set (h : PoS w gp gc gn n size l) (i : Nat) (x : Int) (hx : U64 x) : PoS (w.setCell ⟨gn, i, none⟩ (.int .u64 x)) gp gc gn n size (l.set i x) := ⟨h.ps.ne (p := ⟨gn, i, none⟩) (Ne.symm h.nn) _, h.cl.set i x hx, h.nn, h.nc⟩
end
theorem freeF_rng (x : Int) : 0 ≤ freeF x ∧ freeF x ≤ 4294967295 := by unfold freeF; omega
theorem bits_not32 (y : Int) (h0 : 0 ≤ y) (h1 : y < 4294967296) : bits .xor .u32 IntKind.u32.max y = 4294967295 - y := by
  obtain ⟨n, rfl⟩ : ∃ n : Nat, y = n := ⟨y.toNat, by omega⟩
  have hY : (BitVec.ofInt 32 (n : Int)).toNat = n := by simp; omega
  have hM : BitVec.ofInt 32 IntKind.u32.max = BitVec.allOnes 32 := by decide
  show IntKind.u32.wrap ((BitVec.ofInt 32 IntKind.u32.max ^^^ BitVec.ofInt 32 (n : Int)).toNat : Nat) = _
  rw [hM, BitVec.allOnes_xor, BitVec.toNat_not, hY, IntKind.wrap_u32]
  omega
theorem freeOf_any (x : Int) (w : World) (h0 : 0 ≤ x) (h1 : x < 18446744073709551616) :
    Calls Try.prog 51 #[.int .u64 x] w fun e w' => e = .returned (.int .u32 (freeF x)) ∧ w = w' := by
  have e : bits .xor .u32 IntKind.u32.max (x % 4294967296) = freeF x := bits_not32 _ (by omega) (by omega)
  have HE := Lib.hid e
  clear e
  go_enter Try.func51, Try.ntmps51
  go_wp2
  go_ret
  refine ⟨retP ?_, rfl⟩
  exact HE.out
theorem phas_any {w : World} {gp gc gn n : Nat} {size : Int} {l : List Int} (h : PoS w gp gc gn n size l) (x : Int) :
    Calls Try.prog 60 #[.pointer (some ⟨gp, 0, none⟩), .int .i64 x] w fun e w' => e = .returned (.bool (decide (0 ≤ x ∧ x < size))) ∧ w = w' := by
  have c1 : w.cell? ⟨gp, 1, none⟩ = some (.int .i64 size) := h.ps.cell 1
  clear h
  by_cases h0 : 0 ≤ x
  · have e : decide (0 ≤ x ∧ x < size) = decide (x < size) := by simp [h0]
    have e0 : decide (0 ≤ x) = true := by simpa using h0
    rw [e]
    clear e
    go_enter Try.func60, Try.ntmps60
    go_wp2
    go_ret
    exact ⟨rfl, rfl⟩
  · have e : decide (0 ≤ x ∧ x < size) = false := by simp; omega
    have e0 : decide (0 ≤ x) = false := by simpa using h0
    rw [e]
    clear e
    go_enter Try.func60, Try.ntmps60
    go_wp2
    go_ret
    exact ⟨rfl, rfl⟩
theorem pcount_any8 {w : World} {gp gc gn n : Nat} {size : Int} {l : List Int} (h : PoS w gp gc gn n size l) :
    Calls Try.prog 41 #[.pointer (some ⟨gp, 0, none⟩)] w fun e w' => e = .returned (.int .i64 n) ∧ w = w' := by
  have c0 : w.cell? ⟨gp, 0, none⟩ = some (.pointer (some ⟨gc, 0, none⟩)) := h.ps.cell 0
  have HS := Lib.hid (size_any h.cl)
  clear h
  go_enter Try.func41, Try.ntmps41
  go_wp2_with (go_at_call 39; refine (HS.out).mono ?_; rintro e w1 ⟨rfl, rfl⟩)
  go_ret
  exact ⟨rfl, rfl⟩
theorem pcopy_any8 {w : World} {gp gc gn n : Nat} {size : Int} {l : List Int} (h : PoS w gp gc gn n size l) (hn : n ≤ 65536) :
    Calls Try.prog 22 #[.pointer (some ⟨gp, 0, none⟩)] w fun e w' => e = .returned (.slice (some ⟨w.heap.size, 0, none⟩) n n) ∧ Row .u64 23 w' w.heap.size l ∧ Below w.heap.size w w' := by
  have c0 : w.cell? ⟨gp, 0, none⟩ = some (.pointer (some ⟨gc, 0, none⟩)) := h.ps.cell 0
  have HS := Lib.hid (copy_any h.cl hn)
  clear h
  go_enter Try.func22, Try.ntmps22
  go_wp2_with (go_at_call 52; refine (HS.out).mono ?_; rintro e w1 ⟨rfl, hr, hb⟩)
  go_ret
  exact ⟨rfl, hr, hb⟩
end Go.Proofs.Ytmbceafeonjffaa
