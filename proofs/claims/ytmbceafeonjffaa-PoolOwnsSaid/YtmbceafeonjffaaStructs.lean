/-
  Slices of structs of numbers and bools that came in: each field of each element. Conditions stand in each theorem.
-/
import Derived.Test.YtmbceafeonjffaaNums
import Derived.Deep.Slices
import Derived.Deep.Fields
namespace Go.Proofs.Ytmbceafeonjffaa
open Go.ChangeShapes Go.WideShapes Go.ChangeAt Go.RowKit Go.Deep Plain
set_option linter.unusedVariables false
set_option maxRecDepth 100000

/-- what a field holds: a number of a kind, or a bool -/
inductive FK where
  | num (k : IntKind)
  | bol
def FK.ok : FK → Value → Prop
  | .num k, v => ∃ x, v = .int k x ∧ (Lit.int k x).wf = true
  | .bol, v => ∃ b, v = .bool b
def FK.ty : FK → TypeId → Prop
  | .num k, t => Try.prog.underlying t = some (.int k)
  | .bol, t => Try.prog.underlying t = some .bool

/-- n structs that lie one behind the other, each of so many fields -/
def RdS (K : List FK) (w : World) (A : Option Addr) (n : Nat) (V : Nat → Nat → Value) : Prop :=
  0 < n → ∃ b off, A = some ⟨b, off, none⟩ ∧ b < w.heap.size ∧ ∀ i, i < n → ∀ j k, K[j]? = some k → w.cell? ⟨b, off + (i * K.length + j), none⟩ = some (V i j) ∧ k.ok (V i j)

theorem RdS.below {K : List FK} {B n : Nat} {w w' : World} {A : Option Addr} {V : Nat → Nat → Value} (h : RdS K w A n V) (hb : Below B w w') (hB : w.heap.size ≤ B) : RdS K w' A n V := fun hp => by
  obtain ⟨b, off, e, hl, hc⟩ := h hp
  exact ⟨b, off, e, Nat.lt_of_lt_of_le hl hb.size, fun i hi j k hk => ⟨(hb.cell (p := ⟨b, off + (i * K.length + j), none⟩) (show b < B by omega)).trans (hc i hi j k hk).1, (hc i hi j k hk).2⟩⟩
theorem RdS.less {K : List FK} {n m : Nat} {w : World} {A : Option Addr} {V : Nat → Nat → Value} (h : RdS K w A n V) (hm : m ≤ n) : RdS K w A m V := fun hp => by
  obtain ⟨b, off, e, hl, hc⟩ := h (by omega)
  exact ⟨b, off, e, hl, fun i hi => hc i (by omega)⟩

theorem addr_add (b off k : Nat) : (⟨b, off, none⟩ : Addr).add k = ⟨b, off + k, none⟩ := by
  rcases Nat.eq_zero_or_pos k with rfl | hk
  · simp [Addr.add]
  · simp [Addr.add, Nat.pos_iff_ne_zero.1 hk]

theorem open_structs {H : Type} {enc : TypeId × Value → H} {W : World} {t e : TypeId} {fs : Array Field} (K : List FK) (ht : Try.prog.underlying t = some (.slice e)) (he : Try.prog.underlying e = some (.struct fs)) (hone : oneCellFields Try.prog fs = true)
    (hsz : fs.size = K.length) (hC : Try.prog.cellsOf e = K.length) (h0 : 0 < K.length) (hK : ∀ (j : Nat) (f : Field), fs[j]? = some f → ∃ k, K[j]? = some k ∧ k.ty f.type)
    {a : Option Addr} {len cap : Nat} {d : DataW H} {p : List MemPlace} (h : DataW.Trod enc Try.prog W 0 (fun _ => true) true t (.slice a len cap) d p) :
    len ≤ cap ∧ cap ≤ maxLen ∧ ∃ V, RdS K W a len V := by
  obtain ⟨fuel, hf⟩ := h
  rcases Go.Deep.open_slice ht hf with ⟨hcs, _⟩ | ⟨x, l, c, m, n, D, Pl, hcs, _, hl, hm, hmm, _, hi⟩
  · simp [Value.cells] at hcs
    obtain ⟨rfl, rfl, rfl⟩ := hcs
    exact ⟨Nat.le_refl _, Nat.zero_le _, fun _ _ => undef, fun h => absurd h (by simp)⟩
  · simp [Value.cells] at hcs
    obtain ⟨rfl, rfl, rfl⟩ := hcs
    have hmc : m = cap := by simpa using hmm
    subst hmc
    refine ⟨hl, hm, fun i j => (W.cell? (x.add (i * K.length + j))).getD undef, fun hpos => ?_⟩
    have key : ∀ i, i < m → ∀ j k, K[j]? = some k → ∃ v, W.cell? (x.add (i * K.length + j)) = some v ∧ k.ok v := by
      intro i him j k hk
      obtain ⟨cs', hc, ht'⟩ := hi i him
      rw [hC] at hc
      obtain ⟨ys, n', _, _, _, hyl, hg⟩ := DataW.trod_struct he ht'
      obtain ⟨_, hcl, hat⟩ := World.cells?_some hc
      have hjl : j < K.length := (List.getElem?_eq_some_iff.1 hk).1
      have hjs : j < fs.size := by omega
      have hfj : fs[j]? = some fs[j] := Array.getElem?_eq_getElem hjs
      obtain ⟨k', hk', hty⟩ := hK j _ hfj
      rw [hk] at hk'
      injection hk' with hk'
      subst hk'
      obtain ⟨ho, hc1⟩ := hone_of hone j _ hfj
      have h1 := hg j _ hfj
      rw [ho, hc1, List.drop_eq_getElem_cons (by omega), List.take_succ_cons, List.take_zero, List.getElem?_eq_getElem (by omega)] at h1
      have hcell := hat j hjl
      rw [Go.Deep.add_add, List.getElem?_eq_getElem (by omega)] at hcell
      refine ⟨_, hcell, ?_⟩
      cases k with
      | num k =>
        obtain ⟨y, hy, _, hw⟩ := DataW.trod_int hty h1
        injection hy with hy
        exact ⟨y, hy, hw⟩
      | bol =>
        obtain ⟨y, hy, _⟩ := DataW.trod_bool hty h1
        injection hy with hy
        exact ⟨y, hy⟩
    obtain ⟨b, off, spot⟩ := x
    obtain ⟨k0, hk0⟩ : ∃ k0, K[0]? = some k0 := ⟨_, List.getElem?_eq_getElem h0⟩
    obtain ⟨v0, hv0, _⟩ := key 0 (by omega) 0 k0 hk0
    have hspot : spot = none := by simpa [Addr.add] using World.cell?_spot hv0
    subst hspot
    refine ⟨b, off, rfl, ?_, fun i hi j k hk => ?_⟩
    · have e : (⟨b, off, none⟩ : Addr).add (0 * K.length + 0) = ⟨b, off, none⟩ := by simp [Addr.add]
      rw [e] at hv0
      exact block_lt_of_cell hv0
    · obtain ⟨v, hv, hok⟩ := key i (by omega) j k hk
      rw [addr_add] at hv
      simp only [addr_add, hv, Option.getD_some]
      exact ⟨trivial, hok⟩
end Go.Proofs.Ytmbceafeonjffaa
