/-
  Rows of events that came in, opened. Conditions stand in each theorem.
-/
import Derived.Test.YtbnlpidhbilenaaHt
import Derived.Test.YtbnlpidhbilenaaOpen
import Derived.Test.YtbnlpidhbilenaaStructs
import Derived.Deep.Slices
import Derived.SizedLaws
import Derived.Lib.SmallJoins
namespace Go.Proofs.Ytbnlpidhbilenaa
open Go.ChangeShapes Go.WideShapes Go.ChangeAt Go.RowKit Go.Deep Plain
set_option linter.unusedVariables false
set_option linter.unusedSimpArgs false
set_option maxRecDepth 100000
theorem list4 {α : Type} {l : List α} (h : l.length = 4) : ∃ a0 a1 a2 a3, l = [a0, a1, a2, a3] := by
  rcases l with _ | ⟨a0, l⟩
  · simp at h
  rcases l with _ | ⟨a1, l⟩
  · simp at h
  rcases l with _ | ⟨a2, l⟩
  · simp at h
  rcases l with _ | ⟨a3, l⟩
  · simp at h
  rcases l with _ | ⟨b, l⟩
  · exact ⟨a0, a1, a2, a3, rfl⟩
  · simp at h
theorem list8 {α : Type} {l : List α} (h : l.length = 8) : ∃ a0 a1 a2 a3 a4 a5 a6 a7, l = [a0, a1, a2, a3, a4, a5, a6, a7] := by
  rcases l with _ | ⟨a0, l⟩
  · simp at h
  rcases l with _ | ⟨a1, l⟩
  · simp at h
  rcases l with _ | ⟨a2, l⟩
  · simp at h
  rcases l with _ | ⟨a3, l⟩
  · simp at h
  rcases l with _ | ⟨a4, l⟩
  · simp at h
  rcases l with _ | ⟨a5, l⟩
  · simp at h
  rcases l with _ | ⟨a6, l⟩
  · simp at h
  rcases l with _ | ⟨a7, l⟩
  · simp at h
  rcases l with _ | ⟨b, l⟩
  · exact ⟨a0, a1, a2, a3, a4, a5, a6, a7, rfl⟩
  · simp at h
theorem list11 {α : Type} {l : List α} (h : l.length = 11) : ∃ a0 a1 a2 a3 a4 a5 a6 a7 a8 a9 a10, l = [a0, a1, a2, a3, a4, a5, a6, a7, a8, a9, a10] := by
  rcases l with _ | ⟨a0, l⟩
  · simp at h
  rcases l with _ | ⟨a1, l⟩
  · simp at h
  rcases l with _ | ⟨a2, l⟩
  · simp at h
  rcases l with _ | ⟨a3, l⟩
  · simp at h
  rcases l with _ | ⟨a4, l⟩
  · simp at h
  rcases l with _ | ⟨a5, l⟩
  · simp at h
  rcases l with _ | ⟨a6, l⟩
  · simp at h
  rcases l with _ | ⟨a7, l⟩
  · simp at h
  rcases l with _ | ⟨a8, l⟩
  · simp at h
  rcases l with _ | ⟨a9, l⟩
  · simp at h
  rcases l with _ | ⟨a10, l⟩
  · simp at h
  rcases l with _ | ⟨b, l⟩
  · exact ⟨a0, a1, a2, a3, a4, a5, a6, a7, a8, a9, a10, rfl⟩
  · simp at h

theorem wAll_mem {H : Type} {P : Program} {e : TypeId} {d : DataW H} {q : Nat} (hq : q ∈ d.weights P e) : ∀ {l : List (DataW H)}, d ∈ l → q ∈ DataW.weightsAll P e l
  | x :: r, h => by
    simp only [DataW.weightsAll, List.mem_append]
    rcases List.mem_cons.1 h with rfl | h
    · exact Or.inl hq
    · exact Or.inr (wAll_mem hq h)
theorem trod_fr {H : Type} {enc : TypeId × Value → H} {W : World} {m : Nat} {c : Value} {y : DataW H × List MemPlace} (h : DataW.trod enc Try.prog W 0 (fun _ => true) true m 27 [c] = some y)
    (hw : ∀ q ∈ y.1.weights Try.prog 27, q ≤ reachBytes) : ∃ (a : Option Addr) (len cap : Nat) (zs : List Int), c = .slice a len cap ∧ Rd W a zs ∧ zs.length = len ∧ len ≤ 140737488355328 := by
  have hb : Try.prog.bytesOf 5 = 1 := by kernel_rfl
  rcases open_ints Try.underlying27 Try.underlying5 (by kernel_rfl) h with ⟨hcs, _⟩ | ⟨x, l, cap, zs, hcs, _, hl, hm, hzl, hx, _⟩
  · injection hcs with hcs
    subst hcs
    obtain ⟨zs, h1, h2, h3, h4⟩ := open_rd (d := y.1) (p := y.2) ⟨m, h⟩
    exact ⟨none, 0, 0, zs, rfl, h4, h1, by omega⟩
  · injection hcs with hcs
    subst hcs
    obtain ⟨ys, h1, h2, h3, h4⟩ := open_rd (d := y.1) (p := y.2) ⟨m, h⟩
    have hmem : ((lits .u8 (zs.take l) : List (DataW H)).length + (lits .u8 (zs.drop l) : List (DataW H)).length) * Try.prog.bytesOf 5 ∈ y.1.weights Try.prog 27 := by
      rw [hx]; simp [DataW.weights, Try.underlying27]
    have h5 := hw _ hmem
    rw [hb] at h5
    have h6 : (lits .u8 (zs.take l) : List (DataW H)).length = l := by
      have : l ≤ zs.length := by rw [hzl]; simpa using hl
      simp [lits]; omega
    rw [h6] at h5
    have h7 := reachBytes_lt
    exact ⟨some x, l, cap, ys, rfl, h4, h1, by omega⟩
set_option maxHeartbeats 2000000 in
theorem trod_ev {H : Type} {enc : TypeId × Value → H} {W : World} {m : Nat} {l : List Value} {y : DataW H × List MemPlace} (hl : l.length = 11) (h : DataW.trod enc Try.prog W 0 (fun _ => true) true m 47 l = some y)
    (hw : ∀ q ∈ y.1.weights Try.prog 47, q ≤ reachBytes) : ∃ (x : En) (f a : List Int), l = x.cs ∧ x.wf ∧ FrT W x f a := by
  have ci : Try.prog.cellsOf 3 = 1 := by kernel_rfl
  have cb : Try.prog.cellsOf 4 = 1 := by kernel_rfl
  have cs : Try.prog.cellsOf 27 = 1 := by kernel_rfl
  have ck : Try.prog.cellsOf 45 = 4 := by kernel_rfl
  obtain ⟨c0, c1, c2, c3, c4, c5, c6, c7, c8, c9, c10, rfl⟩ := list11 hl
  obtain ⟨xs, n, _, hx, _, hlen, hg⟩ := DataW.trod_struct Try.underlying47 h
  obtain ⟨y0, y1, y2, y3, y4, y5, y6, y7, rfl⟩ := list8 hlen
  have g0 : DataW.trod enc Try.prog W 0 (fun _ => true) true n 3 [c0] = some y0 := by simpa [Value.cells, ci, cb, cs, ck] using hg 0 _ rfl
  have g1 : DataW.trod enc Try.prog W 0 (fun _ => true) true n 3 [c1] = some y1 := by simpa [Value.cells, ci, cb, cs, ck] using hg 1 _ rfl
  have g2 : DataW.trod enc Try.prog W 0 (fun _ => true) true n 4 [c2] = some y2 := by simpa [Value.cells, ci, cb, cs, ck] using hg 2 _ rfl
  have g3 : DataW.trod enc Try.prog W 0 (fun _ => true) true n 45 [c3, c4, c5, c6] = some y3 := by simpa [Value.cells, ci, cb, cs, ck] using hg 3 _ rfl
  have g4 : DataW.trod enc Try.prog W 0 (fun _ => true) true n 27 [c7] = some y4 := by simpa [Value.cells, ci, cb, cs, ck] using hg 4 _ rfl
  have g5 : DataW.trod enc Try.prog W 0 (fun _ => true) true n 3 [c8] = some y5 := by simpa [Value.cells, ci, cb, cs, ck] using hg 5 _ rfl
  have g6 : DataW.trod enc Try.prog W 0 (fun _ => true) true n 3 [c9] = some y6 := by simpa [Value.cells, ci, cb, cs, ck] using hg 6 _ rfl
  have g7 : DataW.trod enc Try.prog W 0 (fun _ => true) true n 3 [c10] = some y7 := by simpa [Value.cells, ci, cb, cs, ck] using hg 7 _ rfl
  have hw4 : ∀ q ∈ y4.1.weights Try.prog 27, q ≤ reachBytes := fun q hq => hw q (by
    rw [hx]; simp [DataW.weights, Try.underlying47, DataW.weightsEach, hq])
  have hw3 : ∀ q ∈ y3.1.weights Try.prog 45, q ≤ reachBytes := fun q hq => hw q (by
    rw [hx]; simp [DataW.weights, Try.underlying47, DataW.weightsEach, hq])
  obtain ⟨xs3, n3, _, hx3, _, hlen3, hg3⟩ := DataW.trod_struct Try.underlying45 g3
  obtain ⟨z0, z1, z2, z3, rfl⟩ := list4 hlen3
  have k0 : DataW.trod enc Try.prog W 0 (fun _ => true) true n3 4 [c3] = some z0 := by simpa [Value.cells, ci, cb, cs, ck] using hg3 0 _ rfl
  have k1 : DataW.trod enc Try.prog W 0 (fun _ => true) true n3 27 [c4] = some z1 := by simpa [Value.cells, ci, cb, cs, ck] using hg3 1 _ rfl
  have k2 : DataW.trod enc Try.prog W 0 (fun _ => true) true n3 3 [c5] = some z2 := by simpa [Value.cells, ci, cb, cs, ck] using hg3 2 _ rfl
  have k3 : DataW.trod enc Try.prog W 0 (fun _ => true) true n3 3 [c6] = some z3 := by simpa [Value.cells, ci, cb, cs, ck] using hg3 3 _ rfl
  have hwz : ∀ q ∈ z1.1.weights Try.prog 27, q ≤ reachBytes := fun q hq => hw3 q (by
    rw [hx3]; simp [DataW.weights, Try.underlying45, DataW.weightsEach, hq])
  obtain ⟨a0, e0, _, w0⟩ := DataW.trod_int Try.underlying3 g0
  obtain ⟨a1, e1, _, w1⟩ := DataW.trod_int Try.underlying3 g1
  obtain ⟨a2, e2, _⟩ := DataW.trod_bool Try.underlying4 g2
  obtain ⟨a3, e3, _⟩ := DataW.trod_bool Try.underlying4 k0
  obtain ⟨a5, e5, _, _⟩ := DataW.trod_int Try.underlying3 k2
  obtain ⟨a6, e6, _, _⟩ := DataW.trod_int Try.underlying3 k3
  obtain ⟨a8, e8, _, _⟩ := DataW.trod_int Try.underlying3 g5
  obtain ⟨a9, e9, _, _⟩ := DataW.trod_int Try.underlying3 g6
  obtain ⟨a10, e10, _, _⟩ := DataW.trod_int Try.underlying3 g7
  obtain ⟨fa, fn, fc, f, e4, f1, f2, f3⟩ := trod_fr k1 hwz
  obtain ⟨aa, an, ac, a, e7, h1, h2, h3⟩ := trod_fr g4 hw4
  simp at e0 e1 e2 e3 e5 e6 e8 e9 e10
  subst e0 e1 e2 e3 e4 e5 e6 e7 e8 e9 e10
  exact ⟨⟨a0, a1, a2, a3, fa, fn, fc, a5, a6, aa, an, ac, a8, a9, a10⟩, f, a, rfl, ⟨w0, w1⟩, ⟨f1, f2, f3, h1, h2, h3⟩⟩
theorem open_evs {H : Type} {enc : TypeId × Value → H} {W : World} {a : Option Addr} {len cap : Nat} {d : DataW H} {p : List MemPlace} (h : DataW.Trod enc Try.prog W 0 (fun _ => true) true 38 (.slice a len cap) d p)
    (hw : ∀ q ∈ d.weights Try.prog 38, q ≤ reachBytes) :
    ∃ (L : List En) (F G : Nat → List Int), L.length = len ∧ len ≤ cap ∧ cap ≤ maxLen ∧ RdE W a L ∧ (∀ x ∈ L, x.wf) ∧ ∀ i, i < len → FrT W (L.getD i en0) (F i) (G i) := by
  have hC : Try.prog.cellsOf 47 = 11 := by kernel_rfl
  obtain ⟨fuel, hf⟩ := h
  rcases Go.Deep.open_slice Try.underlying38 hf with ⟨hcs, _⟩ | ⟨x, l, c, m, n, D, Pl, hcs, _, hl, hm, hmm, hx, hi⟩
  · simp [Value.cells] at hcs
    obtain ⟨rfl, rfl, rfl⟩ := hcs
    exact ⟨[], fun _ => [], fun _ => [], rfl, Nat.le_refl _, Nat.zero_le _, fun h => absurd h (by simp), fun x hx => (by cases hx), fun i hi => absurd hi (by omega)⟩
  · simp [Value.cells] at hcs
    obtain ⟨rfl, rfl, rfl⟩ := hcs
    have hmc : m = cap := by simpa using hmm
    subst hmc
    have hd : d = .slice ((List.range len).map D) ((List.range (m - len)).map fun j => D (len + j)) := congrArg Prod.fst hx
    have hwD : ∀ i, i < len → ∀ q ∈ (D i).weights Try.prog 47, q ≤ reachBytes := fun i hi q hq => hw q (by
      rw [hd]
      have := wAll_mem hq (l := (List.range len).map D) (List.mem_map.2 ⟨i, by simpa using hi, rfl⟩)
      simp [DataW.weights, Try.underlying38, this])
    have key : ∀ i, ∃ t : En × List Int × List Int, i < len → (∀ j v, t.1.cs[j]? = some v → W.cell? ((x.add (i * 11)).add j) = some v) ∧ t.1.wf ∧ FrT W t.1 t.2.1 t.2.2 := by
      intro i
      by_cases hil : i < len
      · obtain ⟨cs', hc, ht'⟩ := hi i (by omega)
        rw [hC] at hc
        obtain ⟨_, hcl, hat⟩ := World.cells?_some hc
        obtain ⟨y, f, a, rfl, hwf, hfr⟩ := trod_ev hcl ht' (hwD i hil)
        refine ⟨⟨y, f, a⟩, fun _ => ⟨fun j v hv => ?_, hwf, hfr⟩⟩
        have hj : j < 11 := (List.getElem?_eq_some_iff.1 hv).1
        rw [hat j hj]; exact hv
      · exact ⟨⟨en0, [], []⟩, fun h => absurd h hil⟩
    obtain ⟨T, hT⟩ := Classical.axiomOfChoice key
    refine ⟨(List.range len).map fun i => (T i).1, fun i => (T i).2.1, fun i => (T i).2.2, by simp, hl, hm, fun hp => ?_, fun y hy => ?_, fun i hi => ?_⟩
    · rw [List.length_map, List.length_range] at hp
      obtain ⟨b, off, spot⟩ := x
      have h0 := (hT 0 hp).1 0 _ rfl
      have hspot : spot = none := by simpa [Addr.add] using World.cell?_spot h0
      subst hspot
      refine ⟨b, off, rfl, ?_, fun i hi j v hv => ?_⟩
      · have e : ((⟨b, off, none⟩ : Addr).add (0 * 11)).add 0 = ⟨b, off, none⟩ := by simp [Addr.add]
        rw [e] at h0
        exact block_lt_of_cell h0
      · rw [List.length_map, List.length_range] at hi
        have e : ((List.range len).map fun i => (T i).1).getD i en0 = (T i).1 := by simp [List.getD, hi]
        rw [e] at hv
        have := (hT i hi).1 j v hv
        rw [addr_add] at this
        exact this
    · obtain ⟨i, hi, rfl⟩ := List.mem_map.1 hy
      exact (hT i (by simpa using hi)).2.1
    · have e : ((List.range len).map fun i => (T i).1).getD i en0 = (T i).1 := by simp [List.getD, hi]
      rw [e]; exact (hT i hi).2.2
end Go.Proofs.Ytbnlpidhbilenaa
