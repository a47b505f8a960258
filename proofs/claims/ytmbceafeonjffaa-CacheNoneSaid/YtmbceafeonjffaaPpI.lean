/-
  Package pool: New. Conditions stand in each theorem.
-/
import Derived.Test.YtmbceafeonjffaaGL
namespace Go.Proofs.Ytmbceafeonjffaa
open Go.RowKit Go.Deep Plain
set_option linter.unusedVariables false
set_option linter.unusedSimpArgs false
set_option maxRecDepth 100000
/-- how many words n numbers have -/
def wdsN (n : Nat) : Nat := (n + 31) / 32
/-- the words of a new pool -/
def lastW (q : Nat) : Int := 4294967295 * 2 ^ q % 4294967296
def newL (n : Nat) : List Int := (List.replicate (wdsN n) (0 : Int)).set (wdsN n - 1) (lastW (n - (wdsN n - 1) * 32))
theorem lastW_nat (q : Nat) : lastW q = ((4294967295 * 2 ^ q % 4294967296 : Nat) : Int) := by unfold lastW; simp
theorem lastW_rng (q : Nat) : 0 ≤ lastW q ∧ lastW q < 4294967296 := by
  unfold lastW
  generalize (4294967295 * 2 ^ q : Int) = x
  omega
theorem lastW_u (q : Nat) : U64 (lastW q) := by have := lastW_rng q; unfold U64; omega
theorem lastW_bit (q i : Nat) (hi : i < 32) : (lastW q).toNat.testBit i = decide (q ≤ i) := by
  rw [lastW_nat, Int.toNat_natCast, show (4294967296 : Nat) = 2 ^ 32 from rfl, Nat.testBit_mod_two_pow, ← Nat.shiftLeft_eq, Nat.testBit_shiftLeft, show (4294967295 : Nat) = 2 ^ 32 - 1 from rfl, Nat.testBit_two_pow_sub_one]
  simp [hi]
  omega
set_option maxHeartbeats 4000000 in
theorem pnew_any (n : Nat) (h1 : 1 ≤ n) (h2 : n ≤ 1024) (w : World) :
    Calls Try.prog 9 #[.int .i64 n] w fun e w' => ∃ gp gc gn, e = .returned (.tuple #[.pointer (some ⟨gp, 0, none⟩), .int .i64 0]) ∧ PoS w' gp gc gn (wdsN n) n (newL n) ∧ Below w.heap.size w w' ∧ w.heap.size ≤ gp ∧ w.heap.size ≤ gc ∧ w.heap.size ≤ gn := by
  obtain ⟨m, hm⟩ : ∃ m, wdsN n = m + 1 := ⟨wdsN n - 1, by unfold wdsN; omega⟩
  have hm2 : m < 32 := by unfold wdsN at hm; omega
  obtain ⟨q, hq⟩ : ∃ q, n - m * 32 = q := ⟨_, rfl⟩
  have hq2 : 1 ≤ q ∧ q ≤ 32 ∧ n = m * 32 + q := by unfold wdsN at hm; omega
  have HNL := Lib.hid (show newL n = (List.replicate (m + 1) (0 : Int)).set m (lastW q) by unfold newL; rw [hm, Nat.add_sub_cancel, hq])
  have HM := Lib.hid hm
  have hdv : ((n : Int) + 32 - 1) / 32 = ((m + 1 : Nat) : Int) := by omega
  have HN := Lib.hid (fun W => new_any (m + 1) (by omega) (by omega) W)
  rw [← hdv] at HN
  have hsb : (n : Int) - (m : Int) * 32 = (q : Int) := by omega
  have d1 : decide ((n : Int) < 1) = false := by simp; omega
  have d2 : decide ((1024 : Int) < (n : Int)) = false := by simp; omega
  have HQ2 := Lib.hid hq2
  have hq3 : q ≤ 32 := hq2.2.1
  clear hm hq hq2 hdv
  go_enter Try.func9, Try.ntmps9
  go_upto_region 7 with (first | (go_at_call 38; refine (HN.out _).mono ?_; rintro e w2 ⟨rfl, hc, hb, hz⟩; have HC := Lib.hid hc; have HB := Lib.hid hb; have HZ := Lib.hid hz; clear hc hb hz) | (go_at_call 39; refine (size_any HC.out).mono ?_; rintro e w3 ⟨rfl, rfl⟩))
  have HST := Lib.hid (fun y => store_any HC.out m (by omega) y)
  go_upto_region 8 with (first | (go_at_call 40; refine (HST.out _).mono ?_; rintro e w3 ⟨rfl, rfl⟩))
  have e : (4294967295 * 2 ^ q % 4294967296 : Int) = lastW q := rfl
  rw [e]
  have HC2 := Lib.hid (HC.out.set m (lastW q) (lastW_u q))
  rw [← HNL.out] at HC2
  have HB2 := Lib.hid (HB.out.setCell (p := ⟨w.heap.size, m, none⟩) (Nat.le_refl _) (.int .u64 (lastW q)))
  have hz2 : (w2.setCell ⟨w.heap.size, m, none⟩ (.int .u64 (lastW q))).heap.size = w.heap.size + 2 := by simp [World.setCell]; exact HZ.out
  clear e HST HC HB
  generalize w2.setCell ⟨w.heap.size, m, none⟩ (.int .u64 (lastW q)) = w5 at *
  have hal := ball w5 (.cells #[.pointer (some ⟨w.heap.size + 1, 0, none⟩), .int .i64 n] 73)
  have HB5 := Lib.hid (bthen HB2.out hal)
  have HC5 := Lib.hid (HC2.out.below hal)
  have HP5 := Lib.hid (Blk.new w5 73 #[.pointer (some ⟨w.heap.size + 1, 0, none⟩), .int .i64 n])
  rw [hz2] at HP5
  clear hal
  go_wp2
  go_ret2
  refine ⟨w.heap.size + 2, w.heap.size + 1, w.heap.size, rfl, ⟨HP5.out, ?_, by omega, by omega⟩, HB5.out, by omega, by omega, Nat.le_refl _⟩
  rw [HM.out]
  exact HC5.out
theorem wdsN_rng (n : Nat) (h1 : 1 ≤ n) (h2 : n ≤ 1024) : 1 ≤ wdsN n ∧ wdsN n ≤ 32 ∧ n ≤ 32 * wdsN n ∧ 32 * (wdsN n - 1) < n := by unfold wdsN; omega
theorem newL_at (n : Nat) (h1 : 1 ≤ n) (j : Nat) : (newL n).getD j 0 = if j = wdsN n - 1 then lastW (n - (wdsN n - 1) * 32) else 0 := by
  unfold newL
  by_cases e : j = wdsN n - 1
  · have : wdsN n - 1 < wdsN n := by unfold wdsN; omega
    subst e; rw [if_pos rfl]; simp [List.getD, this]
  · rw [if_neg e]
    have := rep0 (wdsN n) j
    simpa [List.getD, List.getElem?_set_ne (fun q => e q.symm)] using this
theorem newL_wf (n : Nat) (h1 : 1 ≤ n) : WfP (wdsN n) (newL n) 0 := ⟨by simp [newL], fun j hj => by
  rw [newL_at n h1]
  split
  · have := lastW_rng (n - (wdsN n - 1) * 32)
    unfold hiF
    omega
  · unfold hiF; omega⟩
theorem newL_tkn (n : Nat) (h1 : 1 ≤ n) (x : Nat) (hx : x < 32 * wdsN n) : tkn (newL n) x = decide (n ≤ x) := by
  unfold tkn
  rw [newL_at n h1]
  have : 32 * (wdsN n - 1) < n := by unfold wdsN; omega
  split
  · rename_i e
    rw [lastW_bit _ _ (Nat.mod_lt _ (by decide))]
    congr 1
    apply propext
    omega
  · rename_i e
    have h : ¬ n ≤ x := by omega
    simp [h]
end Go.Proofs.Ytmbceafeonjffaa
