/-
  Package ring: a ring that a call made, and all that was there before stays; waits. Conditions stand in each theorem.
-/
import Derived.Test.YtpaiicplcaeneaaRi5
namespace Go.Proofs.Ytpaiicplcaeneaa
open Go.RowKit Plain
set_option linter.unusedVariables false
set_option maxRecDepth 100000
/-- a ring that is made behind w0, between two steps -/
structure RgW (w0 wt : World) (gr gc gn N pu go : Nat) (vs : List Int) (P G : Option Nat) (p g : RSt) : Prop where
  rb : RgB wt gr gc gn N pu go (nL go pu vs) P G p g
  bel : Below w0.heap.size w0 wt
  lr : w0.heap.size ≤ gr
  ln : w0.heap.size ≤ gn
  lp : ∀ a, P = some a → w0.heap.size ≤ a
  lg : ∀ a, G = some a → w0.heap.size ≤ a
section
variable {w0 w w' : World} {gr gc gn N pu go pu' go' : Nat} {vs vs' : List Int} {P G : Option Nat} {p g p' g' : RSt} {v : Int} {a : Nat}
theorem RgW.down (h : RgW w0 w gr gc gn N pu go vs P G p g) (hb : Below w.heap.size w w') : RgW w0 w' gr gc gn N pu go vs P G p g :=
  ⟨h.rb.below hb, bthen h.bel hb, h.lr, h.ln, h.lp, h.lg⟩
theorem RgW.stepK (h : RgW w0 w gr gc gn N pu go vs P G p g) (hr : RgB w' gr gc gn N pu' go' (nL go' pu' vs') P G p' g') (ha : w0.heap.size ≤ a) (hk : Keep [gr, gn, a] w w') : RgW w0 w' gr gc gn N pu' go' vs' P G p' g' :=
  ⟨hr, hk.below h.bel (Nat.le_refl _) (by
    intro x hx
    simp only [List.mem_cons, List.not_mem_nil, or_false] at hx
    rcases hx with rfl | rfl | rfl
    · exact h.lr
    · exact h.ln
    · exact ha), h.lr, h.ln, h.lp, h.lg⟩
def PutW (w0 w : World) (gr gc gn N pu go : Nat) (vs : List Int) (G : Option Nat) (g : RSt) (v : Int) (e : Ending) (w' : World) : Prop :=
  ∃ a, e = .returned (.pointer (some ⟨a, 0, none⟩)) ∧ RgW w0 w' gr gc gn N pu go vs (some a) G ⟨1, v, 0, false⟩ g ∧ Keep [gr] w w' ∧ w.heap.size ≤ a
def GetW (w0 w : World) (gr gc gn N pu go : Nat) (vs : List Int) (P : Option Nat) (p : RSt) (e : Ending) (w' : World) : Prop :=
  ∃ a, e = .returned (.pointer (some ⟨a, 0, none⟩)) ∧ RgW w0 w' gr gc gn N pu go vs P (some a) p ⟨4, 0, 0, false⟩ ∧ Keep [gr] w w' ∧ w.heap.size ≤ a
theorem RgW.put (h : RgW w0 w gr gc gn N pu go vs P G p g) (v : Int) (hb : goB P p = false) :
    Calls Try.prog 13 #[.pointer (some ⟨gr, 0, none⟩), .int .u64 v] w (PutW w0 w gr gc gn N pu go vs G g v) := by
  refine (rPut_new h.rb v hb).mono ?_
  rintro e w' ⟨a, rfl, hr, hk, ha⟩
  have h0 := h.bel.size
  refine ⟨a, rfl, ⟨hr, hk.below h.bel (Nat.le_refl _) (by intro x hx; simp only [List.mem_cons, List.not_mem_nil, or_false] at hx; subst hx; exact h.lr), h.lr, h.ln, ?_, h.lg⟩, hk, ha⟩
  intro b hb; injection hb with hb; omega
theorem RgW.get (h : RgW w0 w gr gc gn N pu go vs P G p g) (hb : goB G g = false) :
    Calls Try.prog 14 #[.pointer (some ⟨gr, 0, none⟩)] w (GetW w0 w gr gc gn N pu go vs P p) := by
  refine (rGet_new h.rb hb).mono ?_
  rintro e w' ⟨a, rfl, hr, hk, ha⟩
  have h0 := h.bel.size
  refine ⟨a, rfl, ⟨hr, hk.below h.bel (Nat.le_refl _) (by intro x hx; simp only [List.mem_cons, List.not_mem_nil, or_false] at hx; subst hx; exact h.lr), h.lr, h.ln, h.lp, ?_⟩, hk, ha⟩
  intro b hb; injection hb with hb; omega
def RunW (w0 w : World) (gr gc gn N pu go : Nat) (vs : List Int) (P G : Option Nat) (p g : RSt) (a : Nat) (en : Int) (e : Ending) (w' : World) : Prop :=
  e = .returned (.int .i64 en) ∧ RgW w0 w' gr gc gn N pu go vs P G p g ∧ Keep [gr, gn, a] w w'
theorem RgW.runP (h : RgW w0 w gr gc gn N pu go vs (some a) G ⟨1, v, 0, false⟩ g) (hv : U64 v) (h1 : go ≤ pu) (h3 : pu ≤ 1000000) (m : Nat) (hm : m = pu + 1) (hN : pu - go < N) :
    Calls Try.prog 28 #[.pointer (some ⟨gr, 0, none⟩), .pointer (some ⟨a, 0, none⟩)] w (RunW w0 w gr gc gn N m go (vs.set (pu % N) v) (some a) G ⟨0, v, 0, false⟩ g a 0) :=
  (runP_any h.rb hv h1 h3 m hm hN).mono fun _ _ ⟨he, hr, hk⟩ => ⟨he, h.stepK hr (h.lp a rfl) hk, hk⟩
theorem RgW.runF (h : RgW w0 w gr gc gn N pu go vs (some a) G ⟨1, v, 0, false⟩ g) (h1 : go ≤ pu) (h3 : pu ≤ 1000000) (hN : N ≤ pu - go) :
    Calls Try.prog 28 #[.pointer (some ⟨gr, 0, none⟩), .pointer (some ⟨a, 0, none⟩)] w (RunW w0 w gr gc gn N pu go vs (some a) G ⟨0, v, 9, false⟩ g a 9) :=
  (runP_full h.rb h1 h3 hN).mono fun _ _ ⟨he, hr, hk⟩ => ⟨he, h.stepK hr (h.lp a rfl) hk, hk⟩
theorem RgW.runG (h : RgW w0 w gr gc gn N pu go vs P (some a) p ⟨4, 0, 0, false⟩) (h3 : go ≤ 1000000) (m : Nat) (hm : m = go + 1) (hN : pu ≠ go) :
    Calls Try.prog 28 #[.pointer (some ⟨gr, 0, none⟩), .pointer (some ⟨a, 0, none⟩)] w (RunW w0 w gr gc gn N pu m vs P (some a) p ⟨0, vs.getD (go % N) 0, 0, true⟩ a 0) :=
  (runG_any h.rb h3 m hm hN).mono fun _ _ ⟨he, hr, hk⟩ => ⟨he, h.stepK hr (h.lg a rfl) hk, hk⟩
theorem RgW.runE (h : RgW w0 w gr gc gn N pu go vs P (some a) p ⟨4, 0, 0, false⟩) (hN : pu = go) :
    Calls Try.prog 28 #[.pointer (some ⟨gr, 0, none⟩), .pointer (some ⟨a, 0, none⟩)] w (RunW w0 w gr gc gn N pu go vs P (some a) p ⟨0, 0, 7, false⟩ a 7) :=
  (runG_none h.rb hN).mono fun _ _ ⟨he, hr, hk⟩ => ⟨he, h.stepK hr (h.lg a rfl) hk, hk⟩
def LenW (w0 : World) (gr gc gn N pu go : Nat) (vs : List Int) (P G : Option Nat) (p g : RSt) (e : Ending) (w' : World) : Prop :=
  e = .returned (.int .i64 ((pu - go : Nat) : Int)) ∧ RgW w0 w' gr gc gn N pu go vs P G p g
theorem RgW.len (h : RgW w0 w gr gc gn N pu go vs P G p g) (h1 : go ≤ pu) (h2 : pu ≤ go + N) (h3 : pu ≤ 1000000) :
    Calls Try.prog 16 #[.pointer (some ⟨gr, 0, none⟩)] w (LenW w0 gr gc gn N pu go vs P G p g) :=
  (rLen_any h.rb h1 h2 h3).mono fun _ _ ⟨he, hb⟩ => ⟨he, h.down hb⟩
def MadeW (w0 : World) (n : Nat) (e : Ending) (w' : World) : Prop :=
  ∃ gr gc gn, e = .returned (.tuple #[.pointer (some ⟨gr, 0, none⟩), .int .i64 0]) ∧ RgW w0 w' gr gc gn n 0 0 (List.replicate n 0) none none ⟨0, 0, 0, false⟩ ⟨0, 0, 0, false⟩
theorem made_any (n : Nat) (h1 : 1 ≤ n) (h2 : n ≤ 256) (hb : Below w0.heap.size w0 w) :
    Calls Try.prog 21 #[.int .i64 n] w (MadeW w0 n) := by
  refine (rNew_any n h1 h2 w).mono ?_
  rintro e w' ⟨gr, gc, gn, rfl, hr, hb2, l1, l2, l3⟩
  have h0 := hb.size
  exact ⟨gr, gc, gn, rfl, by rw [show nL 0 0 (List.replicate n 0) = List.replicate (n + 2) 0 from rfl]; exact hr, bthen hb hb2, by omega, by omega, by simp, by simp⟩
set_option maxHeartbeats 4000000 in
theorem waits_any (w : World) : Calls Try.prog 12 #[] w fun e w' => e = .returned (.bool true) ∧ Below w.heap.size w w' := by
  go_enter Try.func12, Try.ntmps12
  go_wp2_with fail
  refine (made_any (w0 := w) 1 (by omega) (by omega) (Below.refl _ _)).mono ?_
  rintro e w1 ⟨gr, gc, gn, rfl, h1⟩
  have H1 := Lib.hid h1
  clear h1
  go_wp2_with fail
  refine (H1.out.put 5 rfl).mono ?_
  rintro e w2 ⟨a, rfl, h2, _, _⟩
  have H2 := Lib.hid h2
  clear h2 H1
  go_wp2_with fail
  refine (H2.out.runP (by unfold U64; omega) (by omega) (by omega) 1 rfl (by omega)).mono ?_
  rintro e w3 ⟨rfl, h3, _⟩
  have H3 := Lib.hid h3
  clear h3 H2
  go_wp2_with fail
  refine (H3.out.put 6 rfl).mono ?_
  rintro e w4 ⟨b, rfl, h4, _, _⟩
  have H4 := Lib.hid h4
  clear h4 H3
  go_wp2_with fail
  refine (H4.out.runF (by omega) (by omega) (by omega)).mono ?_
  rintro e w5 ⟨rfl, h5, _⟩
  have H5 := Lib.hid h5
  clear h5 H4
  go_wp2_with fail
  refine (H5.out.get rfl).mono ?_
  rintro e w6 ⟨c, rfl, h6, _, _⟩
  have H6 := Lib.hid h6
  clear h6 H5
  go_wp2_with fail
  refine (H6.out.runG (by omega) 1 rfl (by omega)).mono ?_
  rintro e w7 ⟨rfl, h7, _⟩
  have HC := Lib.hid (h7.rb.gs c rfl)
  have H7 := Lib.hid h7
  clear h7 H6
  go_wp2_with fail
  refine (H7.out.get rfl).mono ?_
  rintro e w8 ⟨d, rfl, h8, hk8, hd⟩
  have hcg : c ≠ gr := blk_types HC.out H7.out.rb.rs (by decide)
  have hcn : c ≠ gn := blk_types HC.out H7.out.rb.cl.nu (by decide)
  have hcd : c < d := Nat.lt_of_lt_of_le HC.out.lt hd
  have HC8 := Lib.hid (hk8.blk HC.out (by simp; omega))
  have H8 := Lib.hid h8
  clear h8 hk8 hd HC H7
  go_wp2_with fail
  refine (H8.out.runE rfl).mono ?_
  rintro e w9 ⟨rfl, h9, hk9⟩
  have HC9 := hk9.blk HC8.out (by simp; omega)
  have HV := Lib.hid (value_any HC9)
  have HB := Lib.hid h9.bel
  clear h9 hk9 HC9 HC8 H8 hcg hcn hcd
  go_wp2_with (go_at_call 20; refine (HV.out).mono ?_; rintro e w' ⟨rfl, rfl⟩)
  go_ret
  exact ⟨rfl, HB.out⟩
end
end Go.Proofs.Ytpaiicplcaeneaa
