/-
  One place: what its Cas and Load tell, by its Word; Words that stay meanwhile; rows of Words that came in. Conditions stand in each theorem.
-/
import Derived.Test.YtpiobdbaljkkpaaPlV
import Derived.Test.YtpiobdbaljkkpaaPlN
import Derived.Test.YtpiobdbaljkkpaaPlO
namespace Go.Proofs.Ytpiobdbaljkkpaa
open Go.ChangeShapes Go.WideShapes Go.ChangeAt Go.RowKit Go.Deep Plain
set_option linter.unusedVariables false
set_option maxRecDepth 100000
set_option linter.unusedSimpArgs false

theorem pf_cas {w : World} {gp gc gn : Nat} {nw : Wd} (h : PlB w gp gc gn 1 [nw.num, 0]) (hc : nw.can = true) (o x : Wd) (v : Bool) (hv : v = (decide (nw = o) && o.may x)) (nw' : Wd) (hn : nw' = if v then x else nw) :
    Calls Try.prog 24 #[.pointer (some ⟨gp, 0, none⟩), .int .i64 0, o.val, x.val] w fun e w' => e = .returned (.bool v) ∧ PlB w' gp gc gn 1 [nw'.num, 0] ∧ Keep [gn] w w' := by
  by_cases hm : o.may x = true
  · have hco := (may_can hm).1
    have e : v = decide ([nw.num, (0 : Int)].getD (2 * 0) 0 = o.num) := by
      rw [hv, hm, Bool.and_true]
      show _ = decide (nw.num = o.num)
      by_cases hh : nw = o
      · subst hh; simp
      · have : ¬ nw.num = o.num := fun h' => hh (num_inj _ _ hc hco h')
        simp [hh, this]
    refine (pcas_may h 0 (by omega) o x hm v e).mono ?_
    rintro e' w' ⟨rfl, h1, h2⟩
    refine ⟨rfl, ?_, h2⟩
    rw [hn]
    cases v
    · exact h1
    · exact h1
  · have hm' : o.may x = false := by simpa using hm
    have e : v = false := by rw [hv, hm', Bool.and_false]
    subst e
    refine (pcas_no h 0 (by omega) o x hm').mono ?_
    rintro e' w' ⟨rfl, hb⟩
    exact ⟨rfl, by rw [hn]; exact h.below hb, Keep.of_below hb⟩
theorem pf_load {w : World} {gp gc gn : Nat} {nw : Wd} (h : PlB w gp gc gn 1 [nw.num, 0]) (hc : nw.can = true) :
    Calls Try.prog 23 #[.pointer (some ⟨gp, 0, none⟩), .int .i64 0] w fun e w' => e = .returned nw.val ∧ PlB w' gp gc gn 1 [nw.num, 0] ∧ Below w.heap.size w w' :=
  pload_at h 0 0 rfl (by omega) nw (wdOf_num nw hc) _ rfl

/-- three Words of the reference stay -/
structure S3 (w0 : World) (g2 g7 g9 gn : Nat) (o nw x : Wd) (W : World) : Prop where
  b2 : Blk W g2 78 #[.int .i64 o.st, .int .i64 o.gn, .int .i64 o.tr, .int .i64 o.sn]
  b7 : Blk W g7 78 #[.int .i64 nw.st, .int .i64 nw.gn, .int .i64 nw.tr, .int .i64 nw.sn]
  b9 : Blk W g9 78 #[.int .i64 x.st, .int .i64 x.gn, .int .i64 x.tr, .int .i64 x.sn]
  n2 : g2 ≠ gn
  n7 : g7 ≠ gn
  n9 : g9 ≠ gn
  ng : w0.heap.size ≤ gn
  bel : Below w0.heap.size w0 W
section
variable {w0 : World} {g2 g7 g9 gn : Nat} {o nw x : Wd} {W W' : World}
theorem S3.keep (h : S3 w0 g2 g7 g9 gn o nw x W) (hk : Keep [gn] W W') : S3 w0 g2 g7 g9 gn o nw x W' :=
  ⟨hk.blk h.b2 (by simpa using h.n2), hk.blk h.b7 (by simpa using h.n7), hk.blk h.b9 (by simpa using h.n9), h.n2, h.n7, h.n9, h.ng, hk.below h.bel (Nat.le_refl _) (by simpa using h.ng)⟩
theorem S3.below (h : S3 w0 g2 g7 g9 gn o nw x W) (hb : Below W.heap.size W W') : S3 w0 g2 g7 g9 gn o nw x W' := h.keep (Keep.of_below hb)
theorem S3.drew (h : S3 w0 g2 g7 g9 gn o nw x W) : S3 w0 g2 g7 g9 gn o nw x W.drew := h.keep ((Keep.refl _ _).drew)
end

def wdK : List FK := [.num .i64, .num .i64, .num .i64, .num .i64]
theorem open_wds {H : Type} {enc : TypeId × Value → H} {W : World} {a : Option Addr} {len cap : Nat} {d : DataW H} {p : List MemPlace} (h : DataW.Trod enc Try.prog W 0 (fun _ => true) true 76 (.slice a len cap) d p) :
    len ≤ cap ∧ cap ≤ maxLen ∧ ∃ V, RdS wdK W a len V :=
  open_structs wdK Try.underlying76 Try.underlying78 (by kernel_rfl) rfl (by kernel_rfl) (by decide) (fun j f hj => by
    match j, hj with
    | 0, hj => injection hj with hj; subst hj; exact ⟨_, rfl, Try.underlying3⟩
    | 1, hj => injection hj with hj; subst hj; exact ⟨_, rfl, Try.underlying3⟩
    | 2, hj => injection hj with hj; subst hj; exact ⟨_, rfl, Try.underlying3⟩
    | 3, hj => injection hj with hj; subst hj; exact ⟨_, rfl, Try.underlying3⟩
    | n + 4, hj => simp at hj) h
/-- one of them -/
theorem RdS.wd {w w' : World} {A : Option Addr} {n : Nat} {V : Nat → Nat → Value} (h : RdS wdK w A n V) (hb : Below w.heap.size w w') (i : Nat) (hi : i < n) :
    ∃ (b off : Nat) (x : Wd), A = some ⟨b, off, none⟩ ∧ b < w.heap.size ∧ x.ok ∧ w'.cell? ⟨b, off + i * 4, none⟩ = some (.int .i64 x.st) ∧ w'.cell? ⟨b, off + i * 4 + 1, none⟩ = some (.int .i64 x.gn) ∧ w'.cell? ⟨b, off + i * 4 + 2, none⟩ = some (.int .i64 x.tr) ∧ w'.cell? ⟨b, off + i * 4 + 3, none⟩ = some (.int .i64 x.sn) := by
  obtain ⟨b, off, e, hlt, hc⟩ := h (by omega)
  obtain ⟨q0, x0, e0, v0⟩ := hc i hi 0 (.num .i64) rfl
  obtain ⟨q1, x1, e1, v1⟩ := hc i hi 1 (.num .i64) rfl
  obtain ⟨q2, x2, e2, v2⟩ := hc i hi 2 (.num .i64) rfl
  obtain ⟨q3, x3, e3, v3⟩ := hc i hi 3 (.num .i64) rfl
  rw [e0] at q0
  rw [e1] at q1
  rw [e2] at q2
  rw [e3] at q3
  refine ⟨b, off, ⟨x0, x1, x2, x3⟩, e, hlt, ⟨bounds_i64 v0, bounds_i64 v1, bounds_i64 v2, bounds_i64 v3⟩, ?_, ?_, ?_, ?_⟩
  · exact (hb.cell (p := ⟨b, off + i * 4, none⟩) hlt).trans q0
  · exact (hb.cell (p := ⟨b, off + i * 4 + 1, none⟩) hlt).trans q1
  · exact (hb.cell (p := ⟨b, off + i * 4 + 2, none⟩) hlt).trans q2
  · exact (hb.cell (p := ⟨b, off + i * 4 + 3, none⟩) hlt).trans q3
end Go.Proofs.Ytpiobdbaljkkpaa
