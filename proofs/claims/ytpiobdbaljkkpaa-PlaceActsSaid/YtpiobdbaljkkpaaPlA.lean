/-
  Rows of calls (fanlightlaw10.Act) that came in: each field of each element. Conditions stand in each theorem.
-/
import Derived.Test.YtpiobdbaljkkpaaPlF
namespace Go.Proofs.Ytpiobdbaljkkpaa
open Go.ChangeShapes Go.WideShapes Go.ChangeAt Go.RowKit Go.Deep Plain
set_option linter.unusedVariables false
set_option maxRecDepth 100000
set_option linter.unusedSimpArgs false

/-- a call -/
structure Av where
  wh : Int
  ii : Int
  old : Wd
  now : Wd
  kp : Int
  ka : Int
  ko : Int
def Av.ok (x : Av) : Prop := i64 x.wh ∧ i64 x.ii ∧ x.old.ok ∧ x.now.ok ∧ i64 x.kp ∧ (0 ≤ x.ka ∧ x.ka ≤ 4294967295) ∧ (0 ≤ x.ko ∧ x.ko ≤ 65535)
def Av.cs (x : Av) : List Value := [.int .i64 x.wh, .int .i64 x.ii, .int .i64 x.old.st, .int .i64 x.old.gn, .int .i64 x.old.tr, .int .i64 x.old.sn, .int .i64 x.now.st, .int .i64 x.now.gn, .int .i64 x.now.tr, .int .i64 x.now.sn, .int .i64 x.kp, .int .u32 x.ka, .int .u16 x.ko]

theorem trod_wd {H : Type} {enc : TypeId × Value → H} {W : World} {m : Nat} {c0 c1 c2 c3 : Value} {y : DataW H × List MemPlace} 
    (h : DataW.trod enc Try.prog W 0 (fun _ => true) true m 78 [c0, c1, c2, c3] = some y) : ∃ x : Wd, x.ok ∧ c0 = .int .i64 x.st ∧ c1 = .int .i64 x.gn ∧ c2 = .int .i64 x.tr ∧ c3 = .int .i64 x.sn := by
  have ci : Try.prog.cellsOf 3 = 1 := by kernel_rfl
  obtain ⟨xs, n, _, hx, _, hlen, hg⟩ := DataW.trod_struct Try.underlying78 h
  match xs, hlen with
  | [y0, y1, y2, y3], _ =>
    have g0 : DataW.trod enc Try.prog W 0 (fun _ => true) true n 3 [c0] = some y0 := by simpa [Value.cells, ci] using hg 0 _ rfl
    have g1 : DataW.trod enc Try.prog W 0 (fun _ => true) true n 3 [c1] = some y1 := by simpa [Value.cells, ci] using hg 1 _ rfl
    have g2 : DataW.trod enc Try.prog W 0 (fun _ => true) true n 3 [c2] = some y2 := by simpa [Value.cells, ci] using hg 2 _ rfl
    have g3 : DataW.trod enc Try.prog W 0 (fun _ => true) true n 3 [c3] = some y3 := by simpa [Value.cells, ci] using hg 3 _ rfl
    obtain ⟨a0, e0, _, w0⟩ := DataW.trod_int Try.underlying3 g0
    obtain ⟨a1, e1, _, w1⟩ := DataW.trod_int Try.underlying3 g1
    obtain ⟨a2, e2, _, w2⟩ := DataW.trod_int Try.underlying3 g2
    obtain ⟨a3, e3, _, w3⟩ := DataW.trod_int Try.underlying3 g3
    simp at e0 e1 e2 e3
    exact ⟨⟨a0, a1, a2, a3⟩, ⟨bounds_i64 w0, bounds_i64 w1, bounds_i64 w2, bounds_i64 w3⟩, e0, e1, e2, e3⟩

theorem trod_fl {H : Type} {enc : TypeId × Value → H} {W : World} {m : Nat} {c0 c1 c2 : Value} {y : DataW H × List MemPlace}
    (h : DataW.trod enc Try.prog W 0 (fun _ => true) true m 79 [c0, c1, c2] = some y) : ∃ p a o : Int, i64 p ∧ (0 ≤ a ∧ a ≤ 4294967295) ∧ (0 ≤ o ∧ o ≤ 65535) ∧ c0 = .int .i64 p ∧ c1 = .int .u32 a ∧ c2 = .int .u16 o := by
  have ci : Try.prog.cellsOf 3 = 1 := by kernel_rfl
  have cu : Try.prog.cellsOf 22 = 1 := by kernel_rfl
  have cv : Try.prog.cellsOf 23 = 1 := by kernel_rfl
  obtain ⟨xs, n, _, hx, _, hlen, hg⟩ := DataW.trod_struct Try.underlying79 h
  match xs, hlen with
  | [y0, y1, y2], _ =>
    have g0 : DataW.trod enc Try.prog W 0 (fun _ => true) true n 3 [c0] = some y0 := by simpa [Value.cells, ci] using hg 0 _ rfl
    have g1 : DataW.trod enc Try.prog W 0 (fun _ => true) true n 22 [c1] = some y1 := by simpa [Value.cells, cu] using hg 1 _ rfl
    have g2 : DataW.trod enc Try.prog W 0 (fun _ => true) true n 23 [c2] = some y2 := by simpa [Value.cells, cv] using hg 2 _ rfl
    obtain ⟨a0, e0, _, w0⟩ := DataW.trod_int Try.underlying3 g0
    obtain ⟨a1, e1, _, w1⟩ := DataW.trod_int Try.underlying22 g1
    obtain ⟨a2, e2, _, w2⟩ := DataW.trod_int Try.underlying23 g2
    simp at e0 e1 e2
    have b1 := bounds_u32 w1
    have b2 := bounds_u16 w2
    exact ⟨a0, a1, a2, bounds_i64 w0, ⟨b1.1, by omega⟩, ⟨b2.1, by omega⟩, e0, e1, e2⟩

theorem trod_act {H : Type} {enc : TypeId × Value → H} {W : World} {m : Nat} {cs : List Value} {y : DataW H × List MemPlace} (hl : cs.length = 13)
    (h : DataW.trod enc Try.prog W 0 (fun _ => true) true m 81 cs = some y) : ∃ x : Av, x.ok ∧ cs = x.cs := by
  have ci : Try.prog.cellsOf 3 = 1 := by kernel_rfl
  have cw : Try.prog.cellsOf 78 = 4 := by kernel_rfl
  have cf : Try.prog.cellsOf 79 = 3 := by kernel_rfl
  match cs, hl with
  | [c0, c1, c2, c3, c4, c5, c6, c7, c8, c9, c10, c11, c12], _ =>
    obtain ⟨xs, n, _, hx, _, hlen, hg⟩ := DataW.trod_struct Try.underlying81 h
    match xs, hlen with
    | [y0, y1, y2, y3, y4], _ =>
      have g0 : DataW.trod enc Try.prog W 0 (fun _ => true) true n 3 [c0] = some y0 := by simpa [Value.cells, ci] using hg 0 _ rfl
      have g1 : DataW.trod enc Try.prog W 0 (fun _ => true) true n 3 [c1] = some y1 := by simpa [Value.cells, ci] using hg 1 _ rfl
      have g2 : DataW.trod enc Try.prog W 0 (fun _ => true) true n 78 [c2, c3, c4, c5] = some y2 := by simpa [Value.cells, cw] using hg 2 _ rfl
      have g3 : DataW.trod enc Try.prog W 0 (fun _ => true) true n 78 [c6, c7, c8, c9] = some y3 := by simpa [Value.cells, cw] using hg 3 _ rfl
      have g4 : DataW.trod enc Try.prog W 0 (fun _ => true) true n 79 [c10, c11, c12] = some y4 := by simpa [Value.cells, cf] using hg 4 _ rfl
      obtain ⟨a0, e0, _, w0⟩ := DataW.trod_int Try.underlying3 g0
      obtain ⟨a1, e1, _, w1⟩ := DataW.trod_int Try.underlying3 g1
      simp at e0 e1
      obtain ⟨u, hu, rfl, rfl, rfl, rfl⟩ := trod_wd g2
      obtain ⟨v, hv, rfl, rfl, rfl, rfl⟩ := trod_wd g3
      obtain ⟨p, a, o, hp, ha, ho, rfl, rfl, rfl⟩ := trod_fl g4
      subst e0 e1
      exact ⟨⟨a0, a1, u, v, p, a, o⟩, ⟨bounds_i64 w0, bounds_i64 w1, hu, hv, hp, ha, ho⟩, rfl⟩

/-- calls that lie one behind the other -/
def RdA (w : World) (A : Option Addr) (n : Nat) (V : Nat → Av) : Prop :=
  0 < n → ∃ b off, A = some ⟨b, off, none⟩ ∧ b < w.heap.size ∧ ∀ i, i < n → (V i).ok ∧ ∀ j v, (V i).cs[j]? = some v → w.cell? ⟨b, off + (i * 13 + j), none⟩ = some v

theorem open_acts10 {H : Type} {enc : TypeId × Value → H} {W : World} {a : Option Addr} {len cap : Nat} {d : DataW H} {p : List MemPlace} (h : DataW.Trod enc Try.prog W 0 (fun _ => true) true 60 (.slice a len cap) d p) :
    len ≤ cap ∧ cap ≤ maxLen ∧ ∃ V, RdA W a len V := by
  have hC : Try.prog.cellsOf 81 = 13 := by kernel_rfl
  obtain ⟨fuel, hf⟩ := h
  rcases Go.Deep.open_slice Try.underlying60 hf with ⟨hcs, _⟩ | ⟨x, l, c, m, n, D, Pl, hcs, _, hl, hm, hmm, _, hi⟩
  · simp [Value.cells] at hcs
    obtain ⟨rfl, rfl, rfl⟩ := hcs
    exact ⟨Nat.le_refl _, Nat.zero_le _, fun _ => ⟨0, 0, wz, wz, 0, 0, 0⟩, fun h => absurd h (by simp)⟩
  · simp [Value.cells] at hcs
    obtain ⟨rfl, rfl, rfl⟩ := hcs
    have hmc : m = cap := by simpa using hmm
    subst hmc
    have key : ∀ i, ∃ v : Av, i < m → v.ok ∧ ∀ j z, v.cs[j]? = some z → W.cell? (x.add (i * 13 + j)) = some z := by
      intro i
      by_cases him : i < m
      · obtain ⟨cs', hc, ht'⟩ := hi i him
        rw [hC] at hc
        obtain ⟨_, hcl, hat⟩ := World.cells?_some hc
        obtain ⟨v, hv, he⟩ := trod_act hcl ht'
        refine ⟨v, fun _ => ⟨hv, fun j z hj => ?_⟩⟩
        rw [← he] at hj
        have hjl : j < 13 := by rw [← hcl]; exact (List.getElem?_eq_some_iff.1 hj).1
        have hcell := hat j hjl
        rw [Go.Deep.add_add] at hcell
        rw [hcell, hj]
      · exact ⟨⟨0, 0, wz, wz, 0, 0, 0⟩, fun h => absurd h him⟩
    obtain ⟨V, key'⟩ : ∃ V : Nat → Av, ∀ i, i < m → (V i).ok ∧ ∀ j z, (V i).cs[j]? = some z → W.cell? (x.add (i * 13 + j)) = some z := ⟨fun i => Classical.choose (key i), fun i => Classical.choose_spec (key i)⟩
    refine ⟨hl, hm, V, fun hpos => ?_⟩
    obtain ⟨b, off, spot⟩ := x
    have h00 := (key' 0 (by omega)).2 0 _ rfl
    have hspot : spot = none := by simpa [Addr.add] using World.cell?_spot h00
    subst hspot
    refine ⟨b, off, rfl, ?_, fun i hi => ⟨(key' i (by omega)).1, fun j z hj => ?_⟩⟩
    · have e : (⟨b, off, none⟩ : Addr).add (0 * 13 + 0) = ⟨b, off, none⟩ := by simp [Addr.add]
      rw [e] at h00
      exact block_lt_of_cell h00
    · have := (key' i (by omega)).2 j z hj
      rw [addr_add] at this
      exact this
end Go.Proofs.Ytpiobdbaljkkpaa
