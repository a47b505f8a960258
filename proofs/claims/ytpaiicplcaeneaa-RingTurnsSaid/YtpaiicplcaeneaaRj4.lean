/-
  The program's ring beside the document's: what they hold; New that refuses. Conditions stand in each theorem.
-/
import Derived.Test.YtpaiicplcaeneaaRj3
namespace Go.Proofs.Ytpaiicplcaeneaa
open Go.RowKit Go.Deep Plain
set_option linter.unusedVariables false
set_option maxRecDepth 100000
theorem rNew_bad (n : Int) (h : n < 1 ∨ 256 < n) (w : World) :
    Calls Try.prog 21 #[.int .i64 n] w fun e w' => e = .returned (.tuple #[.pointer none, .int .i64 1]) ∧ w = w' := by
  by_cases h1 : n < 1
  · clear h
    go_enter Try.func21, Try.ntmps21
    go_wp2
    go_ret2
    exact ⟨rfl, rfl⟩
  · have h2 : 256 < n := by omega
    clear h
    go_enter Try.func21, Try.ntmps21
    go_wp2
    go_ret2
    exact ⟨rfl, rfl⟩
section
variable {w0 w w' : World} {gr gc gn gf gl ga gd N n : Nat} {P G Pf Gf : Option Nat}
theorem row_cells {a n : Nat} {zs : List Int} (h : Row .u64 22 w a zs) (hl : zs.length = n) : 0 < n → ∃ b o, (some (⟨a, 0, none⟩ : Addr)) = some ⟨b, o, none⟩ ∧ ∀ k, k < n → w.cell? ⟨b, o + k, none⟩ = some (.int .u64 (zs.getD k 0)) :=
  fun _ => ⟨a, 0, rfl, fun k hk => by rw [Nat.zero_add]; exact h.at (by omega)⟩
theorem own_cells {base n : Nat} {A : Option Addr} {c : Nat} {zs : List Int} (h : w.ownsRow base 22 1 (.slice A n c) n (uC zs)) : 0 < n → ∃ b o, A = some ⟨b, o, none⟩ ∧ ∀ k, k < n → w.cell? ⟨b, o + k, none⟩ = some (.int .u64 (zs.getD k 0)) := fun hn => by
  obtain ⟨_, g, hA, hc⟩ := own_cell h hn
  exact ⟨g, 0, hA, fun k hk => by rw [Nat.zero_add]; exact hc k hk⟩
theorem J.bel (h : J w0 w gr gc gn gf gl ga gd N n P G Pf Gf) : Below w0.heap.size w0 w := by
  obtain ⟨pu, go, vs, p, g, f, k, h1, h2, h3, h4, h5⟩ := h
  exact h1.bel
theorem J2.arrP {a b : Nat} (h : J2 w0 w gr gc gn gf gl N n (some a) G (some b) Gf) (hA : JA w0 w ga gd P G Pf Gf) :
    J w0 ((w.setCell ⟨ga, 0, none⟩ (.pointer (some ⟨a, 0, none⟩))).setCell ⟨gd, 0, none⟩ (.pointer (some ⟨b, 0, none⟩))) gr gc gn gf gl ga gd N n (some a) G (some b) Gf := by
  have hne : ga ≠ gd := blk_types hA.sa hA.da (by decide)
  have hd1 := hA.da.ne (p := ⟨ga, 0, none⟩) hne (.pointer (some ⟨a, 0, none⟩))
  refine ((h.oth hA.sa hA.la (.inl rfl) 0 (.pointer (some ⟨a, 0, none⟩))).oth hd1 hA.ld (.inr rfl) 0 (.pointer (some ⟨b, 0, none⟩))).arr ⟨(hA.sa.set 0 _).ne (p := ⟨gd, 0, none⟩) hne.symm _, hd1.set 0 _, hA.la, hA.ld⟩
theorem J2.arrG {a b : Nat} (h : J2 w0 w gr gc gn gf gl N n P (some a) Pf (some b)) (hA : JA w0 w ga gd P G Pf Gf) :
    J w0 ((w.setCell ⟨ga, 1, none⟩ (.pointer (some ⟨a, 0, none⟩))).setCell ⟨gd, 1, none⟩ (.pointer (some ⟨b, 0, none⟩))) gr gc gn gf gl ga gd N n P (some a) Pf (some b) := by
  have hne : ga ≠ gd := blk_types hA.sa hA.da (by decide)
  have hd1 := hA.da.ne (p := ⟨ga, 1, none⟩) hne (.pointer (some ⟨a, 0, none⟩))
  refine ((h.oth hA.sa hA.la (.inl rfl) 1 (.pointer (some ⟨a, 0, none⟩))).oth hd1 hA.ld (.inr rfl) 1 (.pointer (some ⟨b, 0, none⟩))).arr ⟨(hA.sa.set 1 _).ne (p := ⟨gd, 1, none⟩) hne.symm _, hd1.set 1 _, hA.la, hA.ld⟩
theorem J.blocks (h : J w0 w gr gc gn gf gl ga gd N n P G Pf Gf) : (∃ cs, Blk w gr 100 cs) ∧ (∃ cs, Blk w gf 56 cs) := by
  obtain ⟨pu, go, vs, p, g, f, k, h1, h2, h3, h4, h5⟩ := h
  exact ⟨⟨_, h1.rb.rs⟩, ⟨_, h2.rs⟩⟩
/-- the act that is read -/
def SAct (g8 : Nat) (o0 : Int) (sb : Bool) (vv : Int) (W : World) : Prop := Blk W g8 59 #[.int .i64 o0, .bool sb, .int .u64 vv]
/-- Copy, All and Len, one after another, on both sides -/
theorem J.holds (h : J w0 w gr gc gn gf gl ga gd N n P G Pf Gf) (hn : n ≤ 100000) :
    Calls Try.prog 18 #[.pointer (some ⟨gr, 0, none⟩)] w fun e w1 => ∃ s1, e = .returned s1 ∧
    Calls Try.prog 26 #[.pointer (some ⟨gf, 0, none⟩)] w1 fun e w2 => ∃ s2, e = .returned s2 ∧
    Calls Try.prog 25 #[s1, s2] w2 fun e w3 => e = .returned (.bool true) ∧
    Calls Try.prog 17 #[.pointer (some ⟨gr, 0, none⟩)] w3 fun e w4 => ∃ s3, e = .returned s3 ∧
    Calls Try.prog 27 #[.pointer (some ⟨gf, 0, none⟩)] w4 fun e w5 => ∃ s4, e = .returned s4 ∧
    Calls Try.prog 25 #[s3, s4] w5 fun e w6 => e = .returned (.bool true) ∧ ∃ m : Nat,
    Calls Try.prog 16 #[.pointer (some ⟨gr, 0, none⟩)] w6 fun e w7 => e = .returned (.int .i64 m) ∧
    Calls Try.prog 27 #[.pointer (some ⟨gf, 0, none⟩)] w7 fun e w8 => (∃ A c, e = .returned (.slice A m c)) ∧ J w0 w8 gr gc gn gf gl ga gd N n P G Pf Gf := by
  obtain ⟨pu, go, vs, p, g, f, k, hR, hF, hA, hB, hE⟩ := h
  have h1 := hE.h1
  have h2 := hE.h2
  have h3 := hE.h3
  have n2 := hF.n2
  refine (rCopy_any hR.rb).mono ?_
  rintro e w1 ⟨a1, rfl, r1, b1⟩
  refine ⟨_, rfl, (fcopy_any (hF.below b1)).mono ?_⟩
  rintro e w2 ⟨A2, c2, rfl, o2, b2⟩
  have b12 := bthen b1 b2
  have r2 := r1.below b2
  rw [show N + 2 = 2 + N from Nat.add_comm _ _]
  refine ⟨_, rfl, (fsame_any _ A2 (2 + N) (2 + N) c2 (nL go pu vs) w2 (by unfold nL; simp only [List.length_cons]; rw [hF.len]; omega) (by omega) (row_cells r2 (by unfold nL; simp only [List.length_cons]; rw [hF.len]; omega)) (own_cells o2)).mono ?_⟩
  rintro e w3 ⟨rfl, b3⟩
  have b13 := bthen b12 b3
  refine ⟨rfl, (rAll_any (hR.down b13).rb h1 h2 (by omega) hF.u64).mono ?_⟩
  rintro e w4 ⟨a4, rfl, r4, b4⟩
  have b14 := bthen b13 b4
  refine ⟨_, rfl, (fall_any (hF.below b14) h1 (by omega)).mono ?_⟩
  rintro e w5 ⟨A5, c5, rfl, o5, b5⟩
  have b15 := bthen b14 b5
  have r5 := r4.below b5
  refine ⟨_, rfl, (fsame_any _ A5 (pu - go) (pu - go) c5 (alL N go vs (pu - go)) w5 (alL_len _ _ _ _) (by omega) (row_cells r5 (alL_len _ _ _ _)) (own_cells o5)).mono ?_⟩
  rintro e w6 ⟨rfl, b6⟩
  have b16 := bthen b15 b6
  refine ⟨rfl, pu - go, (rLen_any (hR.down b16).rb h1 h2 (by omega)).mono ?_⟩
  rintro e w7 ⟨rfl, b7⟩
  have b17 := bthen b16 b7
  refine ⟨rfl, (fall_any (hF.below b17) h1 (by omega)).mono ?_⟩
  rintro e w8 ⟨A8, c8, rfl, o8, b8⟩
  exact ⟨⟨A8, c8, rfl⟩, J.down ⟨pu, go, vs, p, g, f, k, hR, hF, hA, hB, hE⟩ (bthen b17 b8)⟩
end
end Go.Proofs.Ytpaiicplcaeneaa
