/-
  One of two loses (fanlightlaw06.goes tells true). No condition.
-/
import Derived.Test.YtgengboaoniogaaTurn5
namespace Go.Proofs.Ytgengboaoniogaa
open Go.RowKit Plain
set_option linter.unusedVariables false
set_option maxRecDepth 100000

/-- a program that was just made -/
def opC (os : List OpV) : List Value := os.flatMap fun o => [.int .i64 o.kind, .int .i64 o.cell, .int .u64 o.a, .int .u64 o.b, .bool o.kept]
theorem opC_at (os : List OpV) : ∀ i, i < os.length → (opC os)[i * 5]? = some (.int .i64 (os.getD i default).kind) ∧ (opC os)[i * 5 + 1]? = some (.int .i64 (os.getD i default).cell) ∧ (opC os)[i * 5 + 2]? = some (.int .u64 (os.getD i default).a) ∧ (opC os)[i * 5 + 3]? = some (.int .u64 (os.getD i default).b) ∧ (opC os)[i * 5 + 4]? = some (.bool (os.getD i default).kept) := by
  induction os with
  | nil => intro i h; simp at h
  | cons o os ih =>
    intro i hi
    cases i with
    | zero => simp [opC]
    | succ i =>
      have := ih i (by simpa using hi)
      have e : ∀ j, (opC (o :: os))[(i + 1) * 5 + j]? = (opC os)[i * 5 + j]? := by
        intro j
        have e1 : (i + 1) * 5 + j = (i * 5 + j) + 5 := by omega
        rw [e1]
        show ([Value.int .i64 o.kind, .int .i64 o.cell, .int .u64 o.a, .int .u64 o.b, .bool o.kept] ++ opC os)[i * 5 + j + 5]? = _
        rw [List.getElem?_append_right (by simp)]
        simp
      have e0 := e 0
      simp only [Nat.add_zero] at e0
      rw [e0, e 1, e 2, e 3, e 4]
      simpa using this
theorem RdP.of_blk {w : World} {g : Nat} {t : TypeId} {os : List OpV} {cs : Array Value} (h : Blk w g t cs) (hcs : cs.toList.take (os.length * 5) = opC os) (hok : ∀ o ∈ os, o.ok) : RdP w (some ⟨g, 0, none⟩) os := by
  refine ⟨hok, fun hp => ⟨g, 0, rfl, h.lt, fun i hi => ?_⟩⟩
  obtain ⟨h0, h1, h2, h3, h4⟩ := opC_at os i hi
  have e : ∀ j, j < 5 → cs[i * 5 + j]? = (opC os)[i * 5 + j]? := by
    intro j hj
    rw [← hcs, List.getElem?_take_of_lt (by omega), Array.getElem?_toList]
  have e0 := e 0 (by omega)
  simp only [Nat.add_zero] at e0
  simp only [Nat.zero_add]
  rw [h.cell, h.cell, h.cell, h.cell, h.cell, e0, e 1 (by omega), e 2 (by omega), e 3 (by omega), e 4 (by omega)]
  exact ⟨h0, h1, h2, h3, h4⟩

/-- what was told, read back -/
theorem outC_at (out : List (Nat × Nat × Int)) : ∀ i, i < out.length → (outC out)[i * 3]? = some (.int .i64 (out.getD i default).1) ∧ (outC out)[i * 3 + 1]? = some (.int .i64 (out.getD i default).2.1) ∧ (outC out)[i * 3 + 2]? = some (.int .u64 (out.getD i default).2.2) := by
  induction out with
  | nil => intro i h; simp at h
  | cons o os ih =>
    intro i hi
    cases i with
    | zero => simp [outC]
    | succ i =>
      have := ih i (by simpa using hi)
      have e : ∀ j, (outC (o :: os))[(i + 1) * 3 + j]? = (outC os)[i * 3 + j]? := by
        intro j
        have e1 : (i + 1) * 3 + j = (i * 3 + j) + 3 := by omega
        rw [e1]
        show ([Value.int .i64 o.1, .int .i64 o.2.1, .int .u64 o.2.2] ++ outC os)[i * 3 + j + 3]? = _
        rw [List.getElem?_append_right (by simp)]
        simp
      have e0 := e 0
      simp only [Nat.add_zero] at e0
      rw [e0, e 1, e 2]
      simpa using this
theorem own_done {w : World} {base n : Nat} {A : Option Addr} {c : Nat} {out : List (Nat × Nat × Int)} (h : w.ownsRow base 35 3 (.slice A n c) n (outC out)) (hn : out.length = n) (hp : 0 < n) :
    ∃ g, A = some ⟨g, 0, none⟩ ∧ base ≤ g ∧ g < w.heap.size ∧ n ≤ c ∧ ∀ i, i < n → w.cell? ⟨g, i * 3, none⟩ = some (.int .i64 (out.getD i default).1) ∧ w.cell? ⟨g, i * 3 + 1, none⟩ = some (.int .i64 (out.getD i default).2.1) ∧ w.cell? ⟨g, i * 3 + 2, none⟩ = some (.int .u64 (out.getD i default).2.2) := by
  rcases h.2 with ⟨e, h0⟩ | ⟨g, cap, cur, e, hg, hh, hnc, _, hcs, ht⟩
  · omega
  · injection e with e1 e2 e3
    subst e1 e3
    refine ⟨g, rfl, hg, (Array.getElem?_eq_some_iff.1 hh).1, hnc, fun i hi => ?_⟩
    obtain ⟨h0, h1, h2⟩ := outC_at out i (by omega)
    have e : ∀ j, j < 3 → w.cell? ⟨g, i * 3 + j, none⟩ = (outC out)[i * 3 + j]? := by
      intro j hj
      rw [cell_of_row w g _ cur _ _ hh, ← ht, List.getElem?_take_of_lt (by omega), Array.getElem?_toList]
    have e0 := e 0 (by omega)
    simp only [Nat.add_zero] at e0
    rw [e0, e 1 (by omega), e 2 (by omega)]
    exact ⟨h0, h1, h2⟩

def gOps : List OpV := [⟨0, 0, 0, 0, false⟩, ⟨2, 0, 0, 1, true⟩]
theorem gOps_ok : ∀ o ∈ gOps, o.ok := by
  intro o ho
  simp only [gOps, List.mem_cons, List.not_mem_nil, or_false] at ho
  rcases ho with rfl | rfl <;> simp [OpV.ok, U64]
theorem gRun : (many (fun _ => gOps) (ts0 [0]) ([0, 1, 0, 1].map (pk 2))).out = [(0, 0, 0), (1, 0, 0), (0, 1, 1), (1, 1, 0)] := by decide +kernel

set_option maxHeartbeats 1000000 in
theorem goes_any (w : World) : Calls Try.prog 13 #[] w fun e w' => e = .returned (.bool true) ∧ Below w.heap.size w w' := by
  go_enter Try.func13, Try.ntmps13
  go_wp2_with fail
  refine (new_any 1 (by omega) (by omega) w).mono ?_
  rintro e w1 ⟨rfl, hc, hb, hs⟩
  have Hc := Lib.hid hc
  have Hb := Lib.hid hb
  obtain ⟨s1, hs1⟩ : ∃ s, s = w1.heap.size := ⟨_, rfl⟩
  have hs' : s1 = w.heap.size + 2 := by omega
  clear hc hb hs
  go_wp2_with fail
  rw [← hs1]
  have HO := Lib.hid (((Blk.new w1 27 #[.int .i64 0, .int .i64 0, .int .u64 0, .int .u64 0, .bool false, .int .i64 2, .int .i64 0, .int .u64 0, .int .u64 1, .bool true]).alloc (.cells #[.slice (some ⟨s1, 0, none⟩) 2 2, .slice (some ⟨s1, 0, none⟩) 2 2] 25)).alloc (.cells #[.int .i64 0, .int .i64 1, .int .i64 0, .int .i64 1] 3))
  have HV := Lib.hid ((Blk.new (w1.alloc (.cells #[.int .i64 0, .int .i64 0, .int .u64 0, .int .u64 0, .bool false, .int .i64 2, .int .i64 0, .int .u64 0, .int .u64 1, .bool true] 27)) 25 #[.slice (some ⟨s1, 0, none⟩) 2 2, .slice (some ⟨s1, 0, none⟩) 2 2]).alloc (.cells #[.int .i64 0, .int .i64 1, .int .i64 0, .int .i64 1] 3))
  have HI := Lib.hid (Blk.new ((w1.alloc (.cells #[.int .i64 0, .int .i64 0, .int .u64 0, .int .u64 0, .bool false, .int .i64 2, .int .i64 0, .int .u64 0, .int .u64 1, .bool true] 27)).alloc (.cells #[.slice (some ⟨s1, 0, none⟩) 2 2, .slice (some ⟨s1, 0, none⟩) 2 2] 25)) 3 #[.int .i64 0, .int .i64 1, .int .i64 0, .int .i64 1])
  rw [← hs1] at HO
  rw [show (w1.alloc (.cells #[.int .i64 0, .int .i64 0, .int .u64 0, .int .u64 0, .bool false, .int .i64 2, .int .i64 0, .int .u64 0, .int .u64 1, .bool true] 27)).heap.size = s1 + 1 by simp [hs1]] at HV
  rw [show ((w1.alloc (.cells #[.int .i64 0, .int .i64 0, .int .u64 0, .int .u64 0, .bool false, .int .i64 2, .int .i64 0, .int .u64 0, .int .u64 1, .bool true] 27)).alloc (.cells #[.slice (some ⟨s1, 0, none⟩) 2 2, .slice (some ⟨s1, 0, none⟩) 2 2] 25)).heap.size = s1 + 1 + 1 by simp [hs1]] at HI
  have HC2 := Lib.hid (((Hc.out.alloc (.cells #[.int .i64 0, .int .i64 0, .int .u64 0, .int .u64 0, .bool false, .int .i64 2, .int .i64 0, .int .u64 0, .int .u64 1, .bool true] 27)).alloc (.cells #[.slice (some ⟨s1, 0, none⟩) 2 2, .slice (some ⟨s1, 0, none⟩) 2 2] 25)).alloc (.cells #[.int .i64 0, .int .i64 1, .int .i64 0, .int .i64 1] 3))
  have HB2 := Lib.hid (((Hb.out.alloc (by omega) (.cells #[.int .i64 0, .int .i64 0, .int .u64 0, .int .u64 0, .bool false, .int .i64 2, .int .i64 0, .int .u64 0, .int .u64 1, .bool true] 27)).alloc (by simp; omega) (.cells #[.slice (some ⟨s1, 0, none⟩) 2 2, .slice (some ⟨s1, 0, none⟩) 2 2] 25)).alloc (by simp; omega) (.cells #[.int .i64 0, .int .i64 1, .int .i64 0, .int .i64 1] 3))
  clear Hc Hb
  generalize ((w1.alloc (.cells #[.int .i64 0, .int .i64 0, .int .u64 0, .int .u64 0, .bool false, .int .i64 2, .int .i64 0, .int .u64 0, .int .u64 1, .bool true] 27)).alloc (.cells #[.slice (some ⟨s1, 0, none⟩) 2 2, .slice (some ⟨s1, 0, none⟩) 2 2] 25)).alloc (.cells #[.int .i64 0, .int .i64 1, .int .i64 0, .int .i64 1] 3) = w2 at *
  have hin : TIn w2 (w.heap.size + 1) w.heap.size 1 [0] (some ⟨s1 + 1, 0, none⟩) 2 2 2 (fun _ => (some ⟨s1, 0, none⟩, 2, 2)) (fun _ => gOps) (some ⟨s1 + 1 + 1, 0, none⟩) 4 4 [0, 1, 0, 1] := by
    refine ⟨HC2.out, fun _ => ⟨s1 + 1, 0, rfl, HV.out.lt, fun i hi => ?_⟩, fun i _ => RdP.of_blk HO.out rfl gOps_ok, fun i _ b off e => ?_, fun i _ => ⟨rfl, (by omega : 2 ≤ 1000000)⟩, rfl, by decide, by unfold maxLen; decide, by decide, rfl, ⟨by decide +kernel, fun _ => ⟨s1 + 1 + 1, 0, rfl, HI.out.lt, fun j hj => ?_⟩⟩, fun _ b off e => ?_, by decide, by unfold maxLen; decide⟩
    · rw [HV.out.cell]
      match i, hi with
      | 0, _ => rfl
      | 1, _ => rfl
    · injection e with e; injection e with e1 e2
      have := HO.out.lt
      subst e1; exact ⟨this, by omega⟩
    · rw [HI.out.cell]
      match j, hj with
      | 0, _ => rfl
      | 1, _ => rfl
      | 2, _ => rfl
      | 3, _ => rfl
    · injection e with e; injection e with e1 e2
      have := HI.out.lt
      subst e1; exact ⟨this, by omega⟩
  have HIN := Lib.hid hin
  clear hin hs1
  refine (run_any HIN.out).mono ?_
  rintro e w3 ⟨A', c', rfl, hC3, how, hk⟩
  rw [gRun] at how
  rw [gRun]
  obtain ⟨g, rfl, hg1, hg2, hg3, hcell⟩ := own_done how rfl (by decide)
  have c2 := (hcell 2 (by decide)).2.2
  have c3 := (hcell 3 (by decide)).2.2
  have c4 := (hcell 3 (by decide)).1
  simp only [List.length_cons, List.length_nil] at *
  have HB3 := Lib.hid (hk.below HB2.out (Nat.le_refl _) (by simp))
  clear hC3 how hk hcell
  go_wp2
  go_ret
  exact ⟨rfl, HB3.out⟩
end Go.Proofs.Ytgengboaoniogaa
