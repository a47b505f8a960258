/-
  Package place: Places; New, Size, Load, Cas. Conditions stand in each theorem.
-/
import Derived.Test.YtpiobdbaljkkpaaPlM
import Derived.Test.YtpiobdbaljkkpaaKeep
namespace Go.Proofs.Ytpiobdbaljkkpaa
open Go.RowKit Plain
set_option linter.unusedVariables false
set_option maxRecDepth 100000
set_option linter.unusedSimpArgs false

/-- places: the struct, the cells (of each place two), their numbers -/
structure PlB (w : World) (gp gc gn n : Nat) (l : List Int) : Prop where
  st : Blk w gp 148 #[.pointer (some ⟨gc, 0, none⟩)]
  cl : Cl w gc gn (2 * n) l
  n1 : gp ≠ gc
  n2 : gp ≠ gn
  mx : n ≤ 3072
section
variable {w w' : World} {gp gc gn n : Nat} {l : List Int}
theorem PlB.ptr (h : PlB w gp gc gn n l) : w.cell? ⟨gp, 0, none⟩ = some (.pointer (some ⟨gc, 0, none⟩)) := h.st.cell 0
theorem PlB.below (h : PlB w gp gc gn n l) (hb : Below w.heap.size w w') : PlB w' gp gc gn n l := ⟨h.st.below hb, h.cl.below hb, h.n1, h.n2, h.mx⟩
theorem PlB.alloc (h : PlB w gp gc gn n l) (o : Obj) : PlB (w.alloc o) gp gc gn n l := ⟨h.st.alloc o, h.cl.alloc o, h.n1, h.n2, h.mx⟩
theorem PlB.drewN (h : PlB w gp gc gn n l) (q : Nat) : PlB (w.drewN q) gp gc gn n l := ⟨h.st, h.cl.drewN q, h.n1, h.n2, h.mx⟩
theorem PlB.drew (h : PlB w gp gc gn n l) : PlB w.drew gp gc gn n l := ⟨h.st, h.cl.drewN 1, h.n1, h.n2, h.mx⟩
theorem PlB.set (h : PlB w gp gc gn n l) (i : Nat) (x : Int) (hx : U64 x) : PlB (w.setCell ⟨gn, i, none⟩ (.int .u64 x)) gp gc gn n (l.set i x) := ⟨h.st.ne (p := ⟨gn, i, none⟩) h.n2.symm _, h.cl.set i x hx, h.n1, h.n2, h.mx⟩
theorem PlB.lt (h : PlB w gp gc gn n l) : gp < w.heap.size ∧ gc < w.heap.size ∧ gn < w.heap.size := ⟨h.st.lt, h.cl.st.lt, h.cl.nu.lt⟩
theorem PlB.keep {bs : List Nat} (h : PlB w gp gc gn n l) (hk : Keep bs w w') (h1 : gp ∉ bs) (h2 : gc ∉ bs) (h3 : gn ∉ bs) : PlB w' gp gc gn n l :=
  ⟨hk.blk h.st h1, ⟨h.cl.len, hk.blk h.cl.st h2, hk.blk h.cl.nu h3, h.cl.ne, h.cl.rg⟩, h.n1, h.n2, h.mx⟩
end

theorem pnew_any (n : Nat) (h1 : 1 ≤ n) (h2 : n ≤ 3072) (w : World) :
    Calls Try.prog 30 #[.int .i64 n] w fun e w' => e = .returned (.tuple #[.pointer (some ⟨w.heap.size + 2, 0, none⟩), .int .i64 0]) ∧ PlB w' (w.heap.size + 2) (w.heap.size + 1) w.heap.size n (List.replicate (2 * n) 0) ∧ Below w.heap.size w w' ∧ w'.heap.size = w.heap.size + 3 := by
  have d1 : decide ((n : Int) < 1) = false := by simp; omega
  have d2 : decide ((3072 : Int) < (n : Int)) = false := by simp; omega
  have HN := Lib.hid (new_any (2 * n) (by omega) (by omega) w)
  go_enter Try.func30, Try.ntmps30
  go_wp2_with fail
  rw [show (n : Int) * 2 = ((2 * n : Nat) : Int) by omega]
  refine HN.out.mono ?_
  rintro e w1 ⟨rfl, hc, hb, hs⟩
  have Hc := Lib.hid hc
  have Hb := Lib.hid hb
  clear hc hb HN
  go_wp2
  go_ret2
  refine ⟨by simp [hs], ?_, Hb.out.alloc Hb.out.size _, by simp [hs]⟩
  have hx := Blk.new w1 148 #[.pointer (some ⟨w.heap.size + 1, 0, none⟩)]
  rw [hs] at hx
  exact ⟨hx, Hc.out.alloc _, by omega, by omega, h2⟩

section
variable {w : World} {gp gc gn n : Nat} {l : List Int}
theorem psize_any (h : PlB w gp gc gn n l) : Calls Try.prog 27 #[.pointer (some ⟨gp, 0, none⟩)] w fun e w' => e = .returned (.int .i64 n) ∧ w = w' := by
  have c0 := h.ptr
  have hm := h.mx
  have HS := Lib.hid (size_any h.cl)
  have e2 : ((2 * n : Nat) : Int) = 2 * (n : Int) := by omega
  clear h
  go_enter Try.func27, Try.ntmps27
  go_wp2_with fail
  refine HS.out.mono ?_
  rintro e w1 ⟨rfl, rfl⟩
  obtain ⟨m, hmm⟩ : ∃ m : Nat, m = 2 * n := ⟨_, rfl⟩
  rw [← hmm]
  have em : (m : Int) / 2 = (n : Int) := by omega
  have Hm := Lib.hid hmm
  clear hmm HS e2
  have hm1 : (m : Int) ≤ 6144 := by rw [Hm.out]; omega
  go_wp2
  go_ret
  exact ⟨by simp [em], rfl⟩
theorem phas_any (h : PlB w gp gc gn n l) (i : Int) : Calls Try.prog 60 #[.pointer (some ⟨gp, 0, none⟩), .int .i64 i] w fun e w' => e = .returned (.bool (inC n i)) ∧ w = w' := by
  have H := Lib.hid h
  clear h
  by_cases h0 : 0 ≤ i
  · have e : inC n i = decide (i < (n : Int)) := by unfold inC; simp [h0]
    have e0 : decide (0 ≤ i) = true := by simpa using h0
    rw [e]
    clear e
    go_enter Try.func60, Try.ntmps60
    go_wp2_with (go_at_call 27; refine (psize_any H.out).mono ?_; rintro e w' ⟨rfl, rfl⟩)
    go_ret
    exact ⟨rfl, rfl⟩
  · have e : inC n i = false := by unfold inC; simp; omega
    have e0 : decide (0 ≤ i) = false := by simpa using h0
    rw [e]
    clear e
    go_enter Try.func60, Try.ntmps60
    go_wp2
    go_ret
    exact ⟨rfl, rfl⟩
theorem wordCell_any (i : Nat) (hi : i ≤ 1000000) (w : World) : Calls Try.prog 62 #[.int .i64 i] w fun e w' => e = .returned (.int .i64 ((2 * i : Nat) : Int)) ∧ w = w' := by
  have e2 : ((2 * i : Nat) : Int) = (i : Int) * 2 := by omega
  rw [e2]
  clear e2
  go_enter Try.func62, Try.ntmps62
  go_wp2
  go_ret
  exact ⟨rfl, rfl⟩
end
end Go.Proofs.Ytpiobdbaljkkpaa
