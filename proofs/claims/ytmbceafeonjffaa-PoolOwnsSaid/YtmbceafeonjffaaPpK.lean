/-
  Rows of Acts (law08) that came in, opened. Conditions stand in each theorem.
-/
import Derived.Test.YtmbceafeonjffaaPpJ
import Derived.Deep.Slices
import Derived.Lib.SmallJoins
namespace Go.Proofs.Ytmbceafeonjffaa
open Go.ChangeShapes Go.WideShapes Go.ChangeAt Go.RowKit Go.Deep Plain
set_option linter.unusedVariables false
set_option linter.unusedSimpArgs false
set_option maxRecDepth 100000
theorem lst5 {α : Type} {l : List α} (h : l.length = 5) : ∃ a0 a1 a2 a3 a4, l = [a0, a1, a2, a3, a4] := by
  rcases l with _ | ⟨a0, l⟩
  · simp at h
  rcases l with _ | ⟨a1, l⟩
  · simp at h
  rcases l with _ | ⟨a2, l⟩
  · simp at h
  rcases l with _ | ⟨a3, l⟩
  · simp at h
  rcases l with _ | ⟨a4, l⟩
  · simp at h
  rcases l with _ | ⟨b, l⟩
  · exact ⟨a0, a1, a2, a3, a4, rfl⟩
  · simp at h

structure A8 where
  what : Int
  wk : Int
  fr : Int
  mo : Int
  A : Option Addr
  n : Nat
  c : Nat
  zs : List Int
def A8.cs (x : A8) : List Value := [.int .i64 x.what, .int .i64 x.wk, .int .i64 x.fr, .int .i64 x.mo, .slice x.A x.n x.c]
structure A8.ok (x : A8) (w : World) : Prop where
  w1 : (Lit.int .i64 x.what).wf = true
  w2 : (Lit.int .i64 x.wk).wf = true
  w3 : (Lit.int .i64 x.fr).wf = true
  w4 : (Lit.int .i64 x.mo).wf = true
  len : x.zs.length = x.n
  cap : x.n ≤ x.c
  max : x.c ≤ maxLen
  rd : RdN .i64 w x.A x.zs
def a80 : A8 := ⟨0, 0, 0, 0, none, 0, 0, []⟩
/-- a row of Acts reads as a list -/
def RdA8 (w : World) (A : Option Addr) (L : List A8) : Prop :=
  0 < L.length → ∃ b off, A = some ⟨b, off, none⟩ ∧ b < w.heap.size ∧ ∀ i, i < L.length → At w ⟨b, off + i * 5, none⟩ (L.getD i a80).cs
set_option maxHeartbeats 2000000 in
theorem trod_a8 {H : Type} {enc : TypeId × Value → H} {W : World} {m : Nat} {l : List Value} {y : DataW H × List MemPlace} (hl : l.length = 5) (h : DataW.trod enc Try.prog W 0 (fun _ => true) true m 34 l = some y) : ∃ x : A8, l = x.cs ∧ x.ok W := by
  have ci : Try.prog.cellsOf 3 = 1 := by kernel_rfl
  have ck : Try.prog.cellsOf 29 = 1 := by kernel_rfl
  obtain ⟨c0, c1, c2, c3, c4, rfl⟩ := lst5 hl
  obtain ⟨xs, n, _, hx, _, hlen, hg⟩ := DataW.trod_struct Try.underlying34 h
  obtain ⟨y0, y1, y2, y3, y4, rfl⟩ := lst5 hlen
  have g0 : DataW.trod enc Try.prog W 0 (fun _ => true) true n 3 [c0] = some y0 := by simpa [Value.cells, ci, ck] using hg 0 _ rfl
  have g1 : DataW.trod enc Try.prog W 0 (fun _ => true) true n 3 [c1] = some y1 := by simpa [Value.cells, ci, ck] using hg 1 _ rfl
  have g2 : DataW.trod enc Try.prog W 0 (fun _ => true) true n 3 [c2] = some y2 := by simpa [Value.cells, ci, ck] using hg 2 _ rfl
  have g3 : DataW.trod enc Try.prog W 0 (fun _ => true) true n 3 [c3] = some y3 := by simpa [Value.cells, ci, ck] using hg 3 _ rfl
  have g4 : DataW.trod enc Try.prog W 0 (fun _ => true) true n 29 [c4] = some y4 := by simpa [Value.cells, ci, ck] using hg 4 _ rfl
  obtain ⟨a0, e0, _, w0⟩ := DataW.trod_int Try.underlying3 g0
  obtain ⟨a1, e1, _, w1⟩ := DataW.trod_int Try.underlying3 g1
  obtain ⟨a2, e2, _, w2⟩ := DataW.trod_int Try.underlying3 g2
  obtain ⟨a3, e3, _, w3⟩ := DataW.trod_int Try.underlying3 g3
  have hs : ∃ (a : Option Addr) (len cap : Nat), c4 = .slice a len cap := by
    rcases open_ints Try.underlying29 Try.underlying3 (by kernel_rfl) g4 with ⟨hcs, _⟩ | ⟨x, l, c, zs, hcs, _⟩
    · injection hcs with hcs; exact ⟨_, _, _, hcs⟩
    · injection hcs with hcs; exact ⟨_, _, _, hcs⟩
  obtain ⟨a, len, cap, rfl⟩ := hs
  obtain ⟨ys, h1, h2, h3, h4⟩ := open_nums Try.underlying29 Try.underlying3 (by kernel_rfl) (d := y4.1) (p := y4.2) ⟨n, g4⟩
  simp at e0 e1 e2 e3
  subst e0 e1 e2 e3
  exact ⟨⟨a0, a1, a2, a3, a, len, cap, ys⟩, rfl, ⟨w0, w1, w2, w3, h1, h2, h3, h4⟩⟩
theorem open_acts8 {H : Type} {enc : TypeId × Value → H} {W : World} {a : Option Addr} {len cap : Nat} {d : DataW H} {p : List MemPlace} (h : DataW.Trod enc Try.prog W 0 (fun _ => true) true 22 (.slice a len cap) d p) :
    ∃ L : List A8, L.length = len ∧ len ≤ cap ∧ cap ≤ maxLen ∧ RdA8 W a L ∧ ∀ x ∈ L, x.ok W := by
  have hC : Try.prog.cellsOf 34 = 5 := by kernel_rfl
  obtain ⟨fuel, hf⟩ := h
  rcases Go.Deep.open_slice Try.underlying22 hf with ⟨hcs, _⟩ | ⟨x, l, c, m, n, D, Pl, hcs, _, hl, hm, hmm, hx, hi⟩
  · simp [Value.cells] at hcs
    obtain ⟨rfl, rfl, rfl⟩ := hcs
    exact ⟨[], rfl, Nat.le_refl _, Nat.zero_le _, fun h => absurd h (by simp), fun x hx => (by cases hx)⟩
  · simp [Value.cells] at hcs
    obtain ⟨rfl, rfl, rfl⟩ := hcs
    have hmc : m = cap := by simpa using hmm
    subst hmc
    have key : ∀ i, ∃ t : A8, i < len → (∀ j v, t.cs[j]? = some v → W.cell? ((x.add (i * 5)).add j) = some v) ∧ t.ok W := by
      intro i
      by_cases hil : i < len
      · obtain ⟨cs', hc, ht'⟩ := hi i (by omega)
        rw [hC] at hc
        obtain ⟨_, hcl, hat⟩ := World.cells?_some hc
        obtain ⟨y, rfl, hok⟩ := trod_a8 hcl ht'
        refine ⟨y, fun _ => ⟨fun j v hv => ?_, hok⟩⟩
        have hj : j < 5 := (List.getElem?_eq_some_iff.1 hv).1
        rw [hat j hj]; exact hv
      · exact ⟨a80, fun h => absurd h hil⟩
    obtain ⟨T, hT⟩ := Classical.axiomOfChoice key
    refine ⟨(List.range len).map T, by simp, hl, hm, fun hp => ?_, fun y hy => ?_⟩
    · rw [List.length_map, List.length_range] at hp
      obtain ⟨b, off, spot⟩ := x
      have h0 := (hT 0 hp).1 0 _ rfl
      have hspot : spot = none := by simpa [Addr.add] using World.cell?_spot h0
      subst hspot
      refine ⟨b, off, rfl, ?_, fun i hi j v hv => ?_⟩
      · have e : ((⟨b, off, none⟩ : Addr).add (0 * 5)).add 0 = ⟨b, off, none⟩ := by simp [Addr.add]
        rw [e] at h0
        exact block_lt_of_cell h0
      · rw [List.length_map, List.length_range] at hi
        have e : ((List.range len).map T).getD i a80 = T i := by simp [List.getD, hi]
        rw [e] at hv
        have := (hT i hi).1 j v hv
        rw [addr_add] at this
        exact this
    · obtain ⟨i, hi, rfl⟩ := List.mem_map.1 hy
      exact (hT i (by simpa using hi)).2
theorem RdA8.below {w w' : World} {A : Option Addr} {L : List A8} (h : RdA8 w A L) (hb : Below w.heap.size w w') : RdA8 w' A L := fun hp => by
  obtain ⟨b, off, e, hl, hc⟩ := h hp
  exact ⟨b, off, e, Nat.lt_of_lt_of_le hl hb.size, fun i hi => (hc i hi).below hb hl⟩
end Go.Proofs.Ytmbceafeonjffaa
