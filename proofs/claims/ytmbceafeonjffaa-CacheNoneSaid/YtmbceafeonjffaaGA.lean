/-
  Several small texts in one: Plain, Mem, Base, Wrap, Nums, Structs, Keep. Conditions stand in each theorem.
-/
import Derived.WalkKit
import Derived.Below
import Derived.Laws.OwnMore
import Derived.Laws.Rows
import Derived.Deep.Draws
import Derived.Deep.AppendLies
import Derived.Test.YtmbceafeonjffaaRows
import Derived.Lib.Hide
import Derived.Laws.Tables
import Derived.Laws.CopyRow
import Derived.Laws.ResultCell
import Derived.OwnWalk
import Derived.ProofKit
import Derived.OpenShut
import Derived.ShutString
import Derived.ChangeOld
import Derived.SizedLaws
import Derived.Laws.MakeOwn
import Derived.Deep.Slices
import Derived.Deep.Fields
namespace Go.Proofs.Ytmbceafeonjffaa.Plain
set_option linter.unusedVariables false
set_option maxRecDepth 100000

theorem getD_lt (l : List Int) (k : Nat) (h : k < l.length) : l.getD k 0 = l[k] := by simp [List.getD, h]
theorem getD_ge (l : List Int) (k : Nat) (h : l.length ≤ k) : l.getD k 0 = 0 := by simp [List.getD, h]

/-- folding carries: nought stays nought, all else comes to 1 .. 65535 -/
def F (n : Int) : Int := if n = 0 then 0 else (n - 1) % 65535 + 1

theorem F_range (n : Int) (h : 0 ≤ n) : 0 ≤ F n ∧ F n ≤ 65535 := by unfold F; split <;> omega
theorem F_small (n : Int) (h : 0 ≤ n) (h' : n ≤ 65535) : F n = n := by unfold F; split <;> omega
theorem F_step (n : Int) (h : 65535 < n) : F (n / 65536 + n % 65536) = F n := by unfold F; split <;> split <;> omega
theorem F_add (a b : Int) (ha : 0 ≤ a) (hb : 0 ≤ b) : F (F a + b) = F (a + b) := by unfold F; split <;> split <;> split <;> omega
theorem F_add' (a b : Int) (ha : 0 ≤ a) (hb : 0 ≤ b) : F (a + F b) = F (a + b) := by rw [Int.add_comm, F_add b a hb ha, Int.add_comm]
theorem F_mod (n : Int) (h : 0 ≤ n) : F n % 65535 = n % 65535 := by unfold F; split <;> omega
theorem F_zero (n : Int) (h : 0 ≤ n) (hz : F n = 0) : n = 0 := by unfold F at hz; split at hz <;> omega
theorem F_idem (n : Int) (h : 0 ≤ n) : F (F n) = F n := F_small _ (F_range n h).1 (F_range n h).2

/-- all are bytes -/
def By (l : List Int) : Prop := ∀ x ∈ l, 0 ≤ x ∧ x ≤ 255

theorem By.nil : By [] := by intro x h; cases h
theorem By.cons {a : Int} {l : List Int} (h : By (a :: l)) : 0 ≤ a ∧ a ≤ 255 := h a (by simp)
theorem By.tail {a : Int} {l : List Int} (h : By (a :: l)) : By l := fun x hx => h x (by simp [hx])
theorem By.mk {a : Int} {l : List Int} (h0 : 0 ≤ a) (h1 : a ≤ 255) (h : By l) : By (a :: l) := by
  intro x hx
  rcases List.mem_cons.1 hx with rfl | hx
  · exact ⟨h0, h1⟩
  · exact h x hx
theorem By.take {l : List Int} (h : By l) (k : Nat) : By (l.take k) := fun x hx => h x (List.mem_of_mem_take hx)
theorem By.drop {l : List Int} (h : By l) (k : Nat) : By (l.drop k) := fun x hx => h x (List.mem_of_mem_drop hx)
theorem By.app {l r : List Int} (h : By l) (h' : By r) : By (l ++ r) := by
  intro x hx
  rcases List.mem_append.1 hx with hx | hx
  · exact h x hx
  · exact h' x hx
theorem By.getD {l : List Int} (h : By l) (k : Nat) : 0 ≤ l.getD k 0 ∧ l.getD k 0 ≤ 255 := by
  rcases Nat.lt_or_ge k l.length with hk | hk
  · rw [getD_lt _ _ hk]; exact h _ (List.getElem_mem hk)
  · rw [getD_ge _ _ hk]; omega
theorem By.set {l : List Int} (h : By l) (k : Nat) (x : Int) (h0 : 0 ≤ x) (h1 : x ≤ 255) : By (l.set k x) := by
  intro y hy
  rcases List.mem_or_eq_of_mem_set hy with hy | rfl
  · exact h y hy
  · exact ⟨h0, h1⟩

/-- the sum of the words of two bytes; a last single byte is a word's high one -/
def tot : List Int → Int
  | a :: b :: r => a * 256 + b + tot r
  | [a] => a * 256
  | [] => 0

theorem tot_nonneg : ∀ (l : List Int), By l → 0 ≤ tot l
  | a :: b :: r, h => by have := tot_nonneg r h.tail.tail; have := h.cons; have := h.tail.cons; simp only [tot]; omega
  | [a], h => by have := h.cons; simp only [tot]; omega
  | [], _ => by simp [tot]

theorem tot_le : ∀ (l : List Int), By l → tot l ≤ 65535 * (l.length : Int)
  | a :: b :: r, h => by have := tot_le r h.tail.tail; have := h.cons; have := h.tail.cons; simp only [tot, List.length_cons]; omega
  | [a], h => by have := h.cons; simp only [tot, List.length_cons, List.length_nil]; omega
  | [], _ => by simp [tot]

theorem tot_append : ∀ (l r : List Int), l.length % 2 = 0 → tot (l ++ r) = tot l + tot r
  | a :: b :: l, r, h => by
      have := tot_append l r (by simp only [List.length_cons] at h; omega)
      simp only [List.cons_append, tot, this]; omega
  | [a], _, h => by simp at h
  | [], _, _ => by simp [tot]

theorem take_two (l : List Int) (k : Nat) (h : k + 1 < l.length) : l.take (k + 2) = l.take k ++ [l.getD k 0, l.getD (k + 1) 0] := by
  rw [getD_lt _ _ (by omega), getD_lt _ _ h]
  have e1 := List.take_succ_eq_append_getElem (i := k + 1) h
  have e2 := List.take_succ_eq_append_getElem (i := k) (l := l) (by omega)
  rw [e2, List.append_assoc] at e1
  exact e1

theorem take_one (l : List Int) (k : Nat) (h : k < l.length) : l.take (k + 1) = l.take k ++ [l.getD k 0] := by
  rw [getD_lt _ _ h, List.take_succ_eq_append_getElem h]

theorem tot_two (l : List Int) (k : Nat) (he : k % 2 = 0) (h : k + 1 < l.length) : tot (l.take (k + 2)) = tot (l.take k) + (l.getD k 0 * 256 + l.getD (k + 1) 0) := by
  rw [take_two l k h, tot_append _ _ (by rw [List.length_take, Nat.min_eq_left (by omega)]; exact he)]
  simp [tot]

theorem tot_last (l : List Int) (k : Nat) (he : k % 2 = 0) (h : k + 1 = l.length) : tot l = tot (l.take k) + l.getD k 0 * 256 := by
  have e : l = l.take k ++ [l.getD k 0] := by
    rw [← take_one l k (by omega), h, List.take_length]
  have e2 := tot_append (l.take k) [l.getD k 0] (by rw [List.length_take, Nat.min_eq_left (by omega)]; exact he)
  rw [← e] at e2
  rw [e2]
  simp [tot]

theorem tot_set : ∀ (l : List Int) (k : Nat) (x : Int), k < l.length → tot (l.set k x) = tot l + (x - l.getD k 0) * (if k % 2 = 0 then 256 else 1)
  | a :: b :: r, 0, x, _ => by simp [tot, List.getD]; omega
  | a :: b :: r, 1, x, _ => by simp [tot, List.getD]; omega
  | a :: b :: r, k + 2, x, h => by
      have := tot_set r k x (by simp only [List.length_cons] at h; omega)
      simp only [List.set_cons_succ, tot, this]
      have e1 : (a :: b :: r).getD (k + 2) 0 = r.getD k 0 := by simp [List.getD]
      have e2 : (k + 2) % 2 = k % 2 := by omega
      rw [e1, e2]; omega
  | [a], 0, x, _ => by simp [tot, List.getD]; omega
  | [a], k + 1, x, h => by simp at h
  | [], k, x, h => by simp at h

/-- one bit of a byte turned -/
def Turned (x y : Int) : Prop := 0 ≤ y ∧ y ≤ 255 ∧ y ≠ x ∧ y - x ≤ 128 ∧ x - y ≤ 128
theorem turned_nat : ∀ x, x < 256 → ∀ j, j < 8 → (x ^^^ 2 ^ j) < 256 ∧ (x ^^^ 2 ^ j) ≠ x ∧ (x ^^^ 2 ^ j) ≤ x + 128 ∧ x ≤ (x ^^^ 2 ^ j) + 128 := by decide +kernel
theorem turned (x j : Nat) (hx : x < 256) (hj : j < 8) : Turned (x : Int) ((x ^^^ 2 ^ j : Nat) : Int) := by
  have := turned_nat x hx j hj
  unfold Turned; omega

/-- one byte of bytes whose sum is nought has one bit turned: the sum isn't nought -/
theorem turned_sum (l : List Int) (k : Nat) (y : Int) (hk : k < l.length) (hl : By l) (h0 : tot l % 65535 = 0) (ht : Turned (l.getD k 0) y) : F (tot (l.set k y)) ≠ 65535 := by
  have hy := tot_nonneg (l.set k y) (hl.set k y ht.1 ht.2.1)
  have e := tot_set l k y hk
  unfold Turned at ht
  generalize l.getD k 0 = x at *
  have hF := F_mod _ hy
  intro hc
  rw [hc] at hF
  split at e <;> omega

/-- bytes with their sum behind them -/
theorem whole_sum (l : List Int) (hl : By l) (he : l.length % 2 = 0) (s : Int) (hs : s = 65535 - F (tot l)) : F (tot (l ++ [s / 256, s % 256])) = 65535 := by
  have t0 := tot_nonneg l hl
  have fr := F_range _ t0
  rw [tot_append l _ he]
  simp only [tot]
  have e : s / 256 * 256 + s % 256 + 0 = s := by omega
  rw [e, ← F_add _ _ t0 (by omega)]
  rw [show F (tot l) + s = 65535 from by omega]
  rfl

end Go.Proofs.Ytmbceafeonjffaa.Plain

namespace Go.Proofs.Ytmbceafeonjffaa
open Go.RowKit Plain
set_option linter.unusedVariables false
set_option maxRecDepth 100000

/-- a slice of bytes that reads as a list -/
def Rd (w : World) (A : Option Addr) (zs : List Int) : Prop :=
  By zs ∧ (0 < zs.length → ∃ b off, A = some ⟨b, off, none⟩ ∧ ∀ k, k < zs.length → w.cell? ⟨b, off + k, none⟩ = some (.int .u8 (zs.getD k 0)))

section
variable {w w' : World} {A : Option Addr} {zs : List Int}

theorem Rd.nil (w : World) (A : Option Addr) : Rd w A [] := ⟨By.nil, fun h => absurd h (by simp)⟩
theorem Rd.keep (h : Rd w A zs) (hk : ∀ b o, b < w.heap.size → w'.cell? ⟨b, o, none⟩ = w.cell? ⟨b, o, none⟩) : Rd w' A zs :=
  ⟨h.1, fun hp => by
    obtain ⟨b, off, e, hc⟩ := h.2 hp
    have hlt : b < w.heap.size := block_lt_of_cell (hc 0 hp)
    exact ⟨b, off, e, fun k hk' => (hk b _ hlt).trans (hc k hk')⟩⟩
theorem Rd.below (h : Rd w A zs) (hb : Below w.heap.size w w') : Rd w' A zs := h.keep fun b o hl => hb.cell (p := ⟨b, o, none⟩) hl
theorem Rd.drewN (h : Rd w A zs) (n : Nat) : Rd (w.drewN n) A zs := h
theorem Rd.drew (h : Rd w A zs) : Rd w.drew A zs := h
theorem Rd.alloc (h : Rd w A zs) (o : Obj) : Rd (w.alloc o) A zs := h.keep fun b i hl => World.cell?_alloc_lt w o ⟨b, i, none⟩ hl
theorem getD_take (l : List Int) (n k : Nat) (h : k < n) : (l.take n).getD k 0 = l.getD k 0 := by simp [List.getD, h]
theorem getD_drop (l : List Int) (n k : Nat) : (l.drop n).getD k 0 = l.getD (n + k) 0 := by simp [List.getD]
theorem Rd.take (h : Rd w A zs) (n : Nat) : Rd w A (zs.take n) :=
  ⟨h.1.take n, fun hp => by
    rw [List.length_take] at hp
    obtain ⟨b, off, e, hc⟩ := h.2 (by omega)
    refine ⟨b, off, e, fun k hk => ?_⟩
    rw [List.length_take] at hk
    rw [getD_take _ _ _ (by omega)]
    exact hc k (by omega)⟩
/-- a block that is known whole -/
def Blk (w : World) (g : Nat) (t : TypeId) (cs : Array Value) : Prop := w.heap[g]? = some (.cells cs t (0, 0))
theorem Blk.cell {g : Nat} {t : TypeId} {cs : Array Value} (h : Blk w g t cs) (i : Nat) : w.cell? ⟨g, i, none⟩ = cs[i]? := cell_of_row w g i cs t (0, 0) h
theorem Blk.frozen {g : Nat} {t : TypeId} {cs : Array Value} (h : Blk w g t cs) (i : Nat) : w.frozen? ⟨g, i, none⟩ = false := by
  unfold Blk at h
  simp [World.frozen?, h]
theorem Blk.lt {g : Nat} {t : TypeId} {cs : Array Value} (h : Blk w g t cs) : g < w.heap.size := by
  rcases Nat.lt_or_ge g w.heap.size with hlt | hge
  · exact hlt
  · unfold Blk at h; rw [Array.getElem?_eq_none hge] at h; cases h
theorem Blk.new (w : World) (t : TypeId) (cs : Array Value) : Blk (w.alloc (.cells cs t)) w.heap.size t cs := heap_alloc_new w _
theorem Blk.below {g : Nat} {t : TypeId} {cs : Array Value} (h : Blk w g t cs) (hb : Below w.heap.size w w') : Blk w' g t cs := (hb.block g h.lt).trans h
theorem Blk.alloc {g : Nat} {t : TypeId} {cs : Array Value} (h : Blk w g t cs) (o : Obj) : Blk (w.alloc o) g t cs := (Below.heap_alloc w o g h.lt).trans h
theorem Rd.of_blk {g : Nat} {t : TypeId} {cs : Array Value} (h : Blk w g t cs) (hby : By zs) (hc : ∀ k, k < zs.length → cs[k]? = some (.int .u8 (zs.getD k 0))) : Rd w (some ⟨g, 0, none⟩) zs :=
  ⟨hby, fun _ => ⟨g, 0, rfl, fun k hk => by rw [Nat.zero_add, h.cell]; exact hc k hk⟩⟩
/-- a block just made of these bytes -/
theorem Rd.new (w : World) (t : TypeId) (zs : List Int) (hby : By zs) : Rd (w.alloc (.cells (zs.map (Value.int .u8)).toArray t)) (some ⟨w.heap.size, 0, none⟩) zs :=
  Rd.of_blk (Blk.new w t _) hby fun k hk => by simp [hk, List.getD]

theorem bcell {W w1 : World} (hb : Below W.heap.size W w1) : (∀ b o, b < W.heap.size → w1.cell? ⟨b, o, none⟩ = W.cell? ⟨b, o, none⟩) ∧ (∀ b o, b < W.heap.size → w1.frozen? ⟨b, o, none⟩ = W.frozen? ⟨b, o, none⟩) :=
  ⟨fun b o h => hb.cell (p := ⟨b, o, none⟩) h, fun b o h => hb.frozen (p := ⟨b, o, none⟩) h⟩
theorem below_drewN {B : Nat} {a w : World} (h : Below B a w) (n : Nat) : Below B a (w.drewN n) := ⟨h.os, h.tape, h.output, h.size, h.block⟩
end
end Go.Proofs.Ytmbceafeonjffaa

namespace Go.Proofs.Ytmbceafeonjffaa
open Go.RowKit Plain
set_option linter.unusedVariables false
set_option linter.unusedSimpArgs false
set_option maxRecDepth 100000

theorem bthen {w w1 w2 : World} (h1 : Below w.heap.size w w1) (h2 : Below w1.heap.size w1 w2) : Below w.heap.size w w2 := h1.trans (h2.mono h1.size)
theorem ball (w : World) (o : Obj) : Below w.heap.size w (w.alloc o) := (Below.refl _ _).alloc (Nat.le_refl _) _
theorem bdrewN (w : World) (n : Nat) : Below w.heap.size w (w.drewN n) := below_drewN (Below.refl _ _) n
theorem bdrew (w : World) : Below w.heap.size w w.drew := below_drewN (Below.refl _ _) 1

theorem heap_setCell {w : World} {g : Nat} {t : TypeId} {cs : Array Value} {z : Nat × Nat} (h : w.heap[g]? = some (.cells cs t z)) (i : Nat) (v : Value) :
    (w.setCell ⟨g, i, none⟩ v).heap[g]? = some (.cells (cs.setIfInBounds i v) t z) := by
  show (w.heap.modify g _)[g]? = _
  rw [Array.getElem?_modify, if_pos rfl, h]
  simp
theorem Blk.set {w : World} {g : Nat} {t : TypeId} {cs : Array Value} (h : Blk w g t cs) (i : Nat) (v : Value) : Blk (w.setCell ⟨g, i, none⟩ v) g t (cs.setIfInBounds i v) := heap_setCell h i v
theorem Blk.ne {w : World} {g : Nat} {t : TypeId} {cs : Array Value} (h : Blk w g t cs) {p : Addr} (hp : p.block ≠ g) (v : Value) : Blk (w.setCell p v) g t cs := by
  unfold Blk at *
  rw [← h]
  show (w.heap.modify p.block _)[g]? = _
  rw [Array.getElem?_modify, if_neg hp]
theorem Blk.drew {w : World} {g : Nat} {t : TypeId} {cs : Array Value} (h : Blk w g t cs) : Blk w.drew g t cs := h
theorem Blk.drewN {w : World} {g : Nat} {t : TypeId} {cs : Array Value} (h : Blk w g t cs) (n : Nat) : Blk (w.drewN n) g t cs := h
/-- six cells stored, one behind the other -/
theorem Blk.set6 {w : World} {g : Nat} {t : TypeId} {x0 x1 x2 x3 x4 x5 : Value} (h : Blk w g t #[x0, x1, x2, x3, x4, x5]) (v0 v1 v2 v3 v4 v5 : Value) :
    Blk ((((((w.setCell ⟨g, 0, none⟩ v0).setCell ⟨g, 1, none⟩ v1).setCell ⟨g, 2, none⟩ v2).setCell ⟨g, 3, none⟩ v3).setCell ⟨g, 4, none⟩ v4).setCell ⟨g, 5, none⟩ v5) g t #[v0, v1, v2, v3, v4, v5] :=
  (((((h.set 0 v0).set 1 v1).set 2 v2).set 3 v3).set 4 v4).set 5 v5
theorem Blk.ne6 {w : World} {g m : Nat} {t : TypeId} {cs : Array Value} (h : Blk w g t cs) (hp : m ≠ g) (v0 v1 v2 v3 v4 v5 : Value) :
    Blk ((((((w.setCell ⟨m, 0, none⟩ v0).setCell ⟨m, 1, none⟩ v1).setCell ⟨m, 2, none⟩ v2).setCell ⟨m, 3, none⟩ v3).setCell ⟨m, 4, none⟩ v4).setCell ⟨m, 5, none⟩ v5) g t cs :=
  (((((h.ne hp v0).ne hp v1).ne hp v2).ne hp v3).ne hp v4).ne hp v5

/-- a type of so many cells; a struct of so many -/
def Siz (ty : TypeId) (n : Nat) : Prop := (Try.prog.info? ty).map (·.size) = some n
def Sty (ty : TypeId) (n : Nat) : Prop := (∃ d, Try.prog.underlying ty = some d ∧ (match d with | .struct _ | .array _ _ => true | _ => false) = true) ∧ Siz ty n

section
variable {w w' w0 : World} {g r : Nat} {t : TypeId} {cs vs : Array Value} {A : Option Addr} {zs : List Int}
theorem Blk.grown (h : Blk w g t cs) (hg : w.grownBy w' (some r)) (hne : g ≠ r) : Blk w' g t cs := (hg.block g h.lt (by simpa using hne)).trans h
theorem Rd.grown (h : Rd w A zs) (hg : w.grownBy w' (some r)) (hne : ∀ b off, 0 < zs.length → A = some ⟨b, off, none⟩ → b ≠ r) : Rd w' A zs :=
  ⟨h.1, fun hp => by
    obtain ⟨b, off, e, hc⟩ := h.2 hp
    have hlt : b < w.heap.size := block_lt_of_cell (hc 0 hp)
    exact ⟨b, off, e, fun k hk => (World.cell?_of_block (a := ⟨b, off + k, none⟩) (hg.block b hlt (by simpa using hne b off hp e))).trans (hc k hk)⟩⟩
theorem bgrown (h : Below w0.heap.size w0 w) (hg : w.grownBy w' (some r)) (hr : w0.heap.size ≤ r) : Below w0.heap.size w0 w' :=
  h.grown hg h.size fun k hk => by injection hk with hk; omega
theorem grown_setRow (w : World) (g : Nat) (cs : Array Value) : w.grownBy (w.setRow g cs) (some g) :=
  ⟨rfl, rfl, rfl, by simp [World.setRow], fun k hk hne => by
    show (w.heap.modify g _)[k]? = _
    rw [Array.getElem?_modify, if_neg (by rintro rfl; exact hne rfl)]⟩
theorem grown_setCell (w : World) (g i : Nat) (v : Value) : w.grownBy (w.setCell ⟨g, i, none⟩ v) (some g) :=
  ⟨rfl, rfl, rfl, by simp [World.setCell], fun k hk hne => by
    show (w.heap.modify g _)[k]? = _
    rw [Array.getElem?_modify, if_neg (by rintro rfl; exact hne rfl)]⟩
theorem grown_drew {w w' : World} {r : Option Nat} (h : w.grownBy w' r) : w.grownBy w'.drew r := ⟨h.os, h.tape, h.output, h.size, h.block⟩
theorem Blk.setRow (h : Blk w g t cs) (vs : Array Value) : Blk (w.setRow g vs) g t vs := by
  unfold Blk at *
  show (w.heap.modify g _)[g]? = _
  rw [Array.getElem?_modify, if_pos rfl, h]
  rfl

/-- they say nothing: they fit only where such a load, or store, stands next -/
theorem gd_ld {ops : Array Oper} {rest : List Oper} {a : Act} {Q : Exit → Act → World → Prop} {dst : Option Tmp} {type : TypeId} {pos : String} {after : Array Edge} (ty : TypeId) (k : Nat)
    (h : wpList Try.prog ops Q (⟨dst, .load ty (.tmp k), type, pos, after, none⟩ :: rest) a w) : wpList Try.prog ops Q (⟨dst, .load ty (.tmp k), type, pos, after, none⟩ :: rest) a w := h
theorem gd_st {ops : Array Oper} {rest : List Oper} {a : Act} {Q : Exit → Act → World → Prop} {dst : Option Tmp} {type : TypeId} {pos : String} {after : Array Edge} (ty : TypeId) (k : Nat) {y : Operand}
    (h : wpList Try.prog ops Q (⟨dst, .store ty (.tmp k) y, type, pos, after, none⟩ :: rest) a w) : wpList Try.prog ops Q (⟨dst, .store ty (.tmp k) y, type, pos, after, none⟩ :: rest) a w := h

/-- a load of a whole struct -/
theorem wpList_ld {ops : Array Oper} {rest : List Oper} {o : Oper} {a : Act} {Q : Exit → Act → World → Prop} (hgd : o.guard = none) (ty : TypeId) (x : Operand) (ho : o.op = .load ty x)
    (g : Nat) (hx : a.eval x = .pointer (some ⟨g, 0, none⟩)) (hb : Blk w g t cs) (hs : Sty ty cs.size)
    (h : wpList Try.prog ops Q rest (a.put o.dst (.agg cs)) w) : wpList Try.prog ops Q (o :: rest) a w := by
  obtain ⟨⟨d, hu, hd⟩, hi⟩ := hs
  exact wpList_load_row hgd ty x ho g hx t cs (0, 0) d hb hu (by cases d <;> first | rfl | (simp at hd)) hi h

/-- a store into a block: the whole, a field, or a struct in it -/
theorem wpList_st {ops : Array Oper} {rest : List Oper} {o : Oper} {a : Act} {Q : Exit → Act → World → Prop} (hgd : o.guard = none) (ty : TypeId) (x y : Operand) (ho : o.op = .store ty x y)
    (g i : Nat) (hx : a.eval x = .pointer (some ⟨g, i, none⟩)) (v : Value) (hy : a.eval y = v) (hb : Blk w g t cs) (hs : Siz ty v.cells.size)
    (cs' : Array Value) (hcs : cs' = (cs.toList.take i ++ v.cells.toList ++ cs.toList.drop (i + v.cells.size)).toArray) (hl : i + v.cells.size ≤ cs.size) (h1 : v.cells.toList.all (·.oneCell') = true)
    (h : ∀ w', Blk w' g t cs' → w.grownBy w' (some g) → w'.heap.size = w.heap.size → wpList Try.prog ops Q rest (a.put o.dst undef) w') : wpList Try.prog ops Q (o :: rest) a w := by
  refine wpList_plain hgd fun K hK => ?_
  have hr := run_storeCells_at (P := Try.prog) g i t v.cells.toList 0 cs w hb (by simpa using hl) (fun c hc => List.all_eq_true.1 h1 c hc)
  have hv : (storeVar ty ⟨g, i, none⟩ v).run Try.prog w = .ok () (w.setRow g cs') := by
    unfold Siz at hs
    cases hq : Try.prog.info? ty with
    | none => simp [hq] at hs
    | some inf =>
      have hsz : v.cells.size = inf.size := by simp [hq] at hs; omega
      rw [Nat.add_zero] at hr
      rw [hcs]
      simp [storeVar, sizeOf, typeInfo, hq, hsz, hr]
  unfold Oper.wp execOp
  simp only [ho, hx, hy, Instr.storeAt, Instr.sureAddr, Sem.run_bind, Sem.run_pure, Result.andThen_ok, hv]
  exact hK _ _ (h _ (hb.setRow cs') (grown_setRow w g cs') (by simp [World.setRow]))

theorem gds_ld {ops : Array Oper} {a : Act} {K : Act → World → Prop} {Q : Exit → Act → World → Prop} {E : Prop} {dst : Option Tmp} {type : TypeId} {pos : String} {after : Array Edge} (ty : TypeId) (k : Nat)
    (h : if Region.wanted ⟨dst, .load ty (.tmp k), type, pos, after, none⟩ (yielded ops a.tmps) = true then Oper.wp Try.prog ⟨dst, .load ty (.tmp k), type, pos, after, none⟩ a w K Q else E) :
    if Region.wanted ⟨dst, .load ty (.tmp k), type, pos, after, none⟩ (yielded ops a.tmps) = true then Oper.wp Try.prog ⟨dst, .load ty (.tmp k), type, pos, after, none⟩ a w K Q else E := h
theorem gds_st {ops : Array Oper} {a : Act} {K : Act → World → Prop} {Q : Exit → Act → World → Prop} {E : Prop} {dst : Option Tmp} {type : TypeId} {pos : String} {after : Array Edge} (ty : TypeId) (k : Nat) {y : Operand}
    (h : if Region.wanted ⟨dst, .store ty (.tmp k) y, type, pos, after, none⟩ (yielded ops a.tmps) = true then Oper.wp Try.prog ⟨dst, .store ty (.tmp k) y, type, pos, after, none⟩ a w K Q else E) :
    if Region.wanted ⟨dst, .store ty (.tmp k) y, type, pos, after, none⟩ (yielded ops a.tmps) = true then Oper.wp Try.prog ⟨dst, .store ty (.tmp k) y, type, pos, after, none⟩ a w K Q else E := h
/-- the same two as one step of a region that draws its order -/
theorem step_ld {ops : Array Oper} {o : Oper} {a : Act} {K : Act → World → Prop} {Q : Exit → Act → World → Prop} {E : Prop} (hgd : o.guard = none) (ty : TypeId) (x : Operand) (ho : o.op = .load ty x)
    (g : Nat) (hx : a.eval x = .pointer (some ⟨g, 0, none⟩)) (hb : Blk w g t cs) (hs : Sty ty cs.size)
    (h : K (a.put o.dst (.agg cs)) w) : if Region.wanted o (yielded ops a.tmps) = true then Oper.wp Try.prog o a w K Q else E := by
  have hw : Region.wanted o (yielded ops a.tmps) = true := by simp [Region.wanted, hgd]
  rw [if_pos hw]
  obtain ⟨⟨d, hu, hd⟩, hi⟩ := hs
  exact wp_load_row ty x ho g hx t cs (0, 0) d hb hu (by cases d <;> first | rfl | (simp at hd)) hi h
theorem step_st {ops : Array Oper} {o : Oper} {a : Act} {K : Act → World → Prop} {Q : Exit → Act → World → Prop} {E : Prop} (hgd : o.guard = none) (ty : TypeId) (x y : Operand) (ho : o.op = .store ty x y)
    (g i : Nat) (hx : a.eval x = .pointer (some ⟨g, i, none⟩)) (v : Value) (hy : a.eval y = v) (hb : Blk w g t cs) (hs : Siz ty v.cells.size)
    (cs' : Array Value) (hcs : cs' = (cs.toList.take i ++ v.cells.toList ++ cs.toList.drop (i + v.cells.size)).toArray) (hl : i + v.cells.size ≤ cs.size) (h1 : v.cells.toList.all (·.oneCell') = true)
    (h : ∀ w', Blk w' g t cs' → w.grownBy w' (some g) → w'.heap.size = w.heap.size → K (a.put o.dst undef) w') : if Region.wanted o (yielded ops a.tmps) = true then Oper.wp Try.prog o a w K Q else E := by
  have hw : Region.wanted o (yielded ops a.tmps) = true := by simp [Region.wanted, hgd]
  rw [if_pos hw]
  have hr := run_storeCells_at (P := Try.prog) g i t v.cells.toList 0 cs w hb (by simpa using hl) (fun c hc => List.all_eq_true.1 h1 c hc)
  have hv : (storeVar ty ⟨g, i, none⟩ v).run Try.prog w = .ok () (w.setRow g cs') := by
    unfold Siz at hs
    cases hq : Try.prog.info? ty with
    | none => simp [hq] at hs
    | some inf =>
      have hsz : v.cells.size = inf.size := by simp [hq] at hs; omega
      rw [Nat.add_zero] at hr
      rw [hcs]
      simp [storeVar, sizeOf, typeInfo, hq, hsz, hr]
  unfold Oper.wp execOp
  simp only [ho, hx, hy, Instr.storeAt, Instr.sureAddr, Sem.run_bind, Sem.run_pure, Result.andThen_ok, hv]
  exact h _ (hb.setRow cs') (grown_setRow w g cs') (by simp [World.setRow])

/-- results of which the first one lies in a block -/
theorem res_cell2 {fn : Func} {p u : Tmp} {ty : TypeId} (h : fn.results = #[.cell p ty, .tmp u]) (tmps : Array Value) (g : Nat) (v : Value) (hp : tmps.getD p undef = .pointer (some ⟨g, 0, none⟩)) (hu2 : tmps.getD u undef = v)
    (hb : Blk w g t cs) (hs : Sty ty cs.size) : (results fn tmps).run Try.prog w = .ok (.tuple #[.agg cs, v]) w := by
  obtain ⟨⟨d, hu, hd⟩, hi⟩ := hs
  rw [results_cell_tmp h, hp, hu2]
  simp only [asAddr, Sem.run_pure, Result.andThen_ok, run_loadVar_row w g t ty cs (0, 0) d hb hu (by cases d <;> first | rfl | (simp at hd)) hi]
theorem res_cell1 {fn : Func} {p : Tmp} {ty : TypeId} (h : fn.results = #[.cell p ty]) (tmps : Array Value) (g : Nat) (hp : tmps.getD p undef = .pointer (some ⟨g, 0, none⟩))
    (hb : Blk w g t cs) (hs : Sty ty cs.size) : (results fn tmps).run Try.prog w = .ok (.agg cs) w := by
  obtain ⟨⟨d, hu, hd⟩, hi⟩ := hs
  exact results_cell_row h tmps w g t cs (0, 0) d hp hb hu (by cases d <;> first | rfl | (simp at hd)) hi
end

end Go.Proofs.Ytmbceafeonjffaa

namespace Go.Proofs.Ytmbceafeonjffaa
open Go.ChangeShapes Go.WideShapes Go.ChangeAt Go.RowKit
set_option linter.unusedVariables false
set_option maxRecDepth 100000

theorem own : ownKnob Try.prog.godebug = none := by kernel_rfl
theorem laidOut : laidOutB Try.prog = true := by kernel_rfl

theorem trodAll_below {H : Type} {enc : TypeId × Value → H} {W W' : World} (hb : Below W.heap.size W W') :
    ∀ (tys : List TypeId), (∀ t ∈ tys, Try.prog.readableRec t = true ∧ t < Try.prog.types.size) → ∀ (vs : List Value) (ds : List (DataW H)) (p : List MemPlace),
      DataW.TrodAll enc Try.prog W 0 (fun _ => true) true tys vs ds p → DataW.TrodAll enc Try.prog W' 0 (fun b => decide (b < W.heap.size)) true tys vs ds p
  | [], _, vs, ds, p, h => by
      obtain ⟨rfl, rfl, rfl⟩ := trodAll_nil h
      exact trodAll_mk0
  | t :: ts, hr, vs, ds, p, h => by
      obtain ⟨v, vs', d, ds', p', q', rfl, rfl, rfl, h0, r⟩ := trodAll_cons h
      have lt0 : ∀ x ∈ p', x.block < W.heap.size := by obtain ⟨m, hm⟩ := h0; exact DataW.trod_lt m _ _ _ hm
      exact trodAll_cons_mk (Below.trod laidOut (hr t (by simp)).1 (hr t (by simp)).2 h0 hb lt0) (trodAll_below hb ts (fun x hx => hr x (by simp [hx])) vs' ds' q' r)

/-- a law's post: it told true, and nothing that was there is written -/
theorem law_post {H : Type} {enc : TypeId × Value → H} {f : Func} {s : ChangeSpec} {W W' : World} {args : Array Value} {ds gs : List (DataW H)} {before : List MemPlace}
    (hv : s.vars = []) (ht : f.resultTypes = #[4]) (hr : ∀ t ∈ f.params.toList, Try.prog.readableRec t = true ∧ t < Try.prog.types.size)
    (hW : DataW.Whole enc Try.prog f.params.toList s.vars false W args.toList ds gs before)
    (h1 : (s.fn H (ds ++ gs)).results = [.lit (.bool true)]) (h2 : (s.fn H (ds ++ gs)).args = ds) (h3 : (s.fn H (ds ++ gs)).vars = []) (hb : Below W.heap.size W W') :
    s.post enc Try.prog f false true false false W args (.bool true) W' := by
  have hW' := hW
  obtain ⟨p, q, hA, hV, rfl, hfz, hnd⟩ := hW
  refine ⟨ds, gs, p ++ q, [], p, [], hW', ?_, ?_, ?_, hb.frame _, fun h => by cases h⟩
  · rw [h1, ht]; exact trodAll_mk1 (shut_bool Try.underlying4 _)
  · rw [h2]; exact trodAll_below hb _ hr _ _ _ hA
  · rw [h3, hv]; rfl


theorem okWide_array {P : Program} {w : World} {r : Reach} {base : Nat} {t : TypeId} {v : Value} {n : Nat} {e : TypeId} (ht : P.underlying t = some (.array n e)) (h : Value.okWide P w r base t v) : ∃ cs, v = .agg cs ∧ cs.size = P.cellsOf t := by
  simp only [Value.okWide, ht] at h
  obtain ⟨cs, h1, h2, _⟩ := h
  exact ⟨cs, h1, h2⟩

/-- an array of integers that came in by value -/
theorem open_arr {H : Type} {enc : TypeId × Value → H} {W : World} {r : Reach} {b0 : Nat} {t e : TypeId} {n : Nat} {k : IntKind} {v : Value} {d : DataW H} {p : List MemPlace}
    (ht : Try.prog.underlying t = some (.array n e)) (he : Try.prog.underlying e = some (.int k)) (hce : Try.prog.cellsOf e = 1) (hC : Try.prog.cellsOf t = n)
    (hv : Value.okWide Try.prog W r b0 t v) (h : DataW.Trod enc Try.prog W 0 (fun _ => true) true t v d p) :
    ∃ xs : List Int, xs.length = n ∧ v = .agg (xs.map (Value.int k)).toArray ∧ ∀ x ∈ xs, (Lit.int k x).wf = true := by
  obtain ⟨cs, rfl, hsz⟩ := okWide_array ht hv
  obtain ⟨l⟩ := cs
  obtain ⟨fuel, hf⟩ := h
  obtain ⟨ys, m, _, hx, hlen, hyl, hg⟩ := DataW.trod_array ht hf
  rw [hC] at hsz
  have hl : l.length = n := by simpa using hsz
  have key : ∀ i (hi : i < l.length), ∃ x, l[i] = .int k x ∧ (Lit.int k x).wf = true := by
    intro i hi
    have h1 := hg i (by omega)
    rw [hce, Nat.mul_one, List.getElem?_eq_getElem (by omega)] at h1
    obtain ⟨x, hc, _, hw⟩ := DataW.trod_int he h1
    refine ⟨x, ?_, hw⟩
    have h2 : (Value.agg l.toArray).cells.toList = l := by simp [Value.cells]
    rw [h2, List.drop_eq_getElem_cons hi, List.take_succ_cons, List.take_zero] at hc
    injection hc
  refine ⟨l.map intOf, by simpa using hl, ?_, ?_⟩
  · congr 1
    congr 1
    rw [List.map_map]
    refine (List.ext_getElem (by simp) fun i h1 h2 => ?_)
    obtain ⟨x, hx, _⟩ := key i h1
    simp only [List.getElem_map, Function.comp, hx, intOf]
  · intro x hx
    obtain ⟨y, hy, rfl⟩ := List.mem_map.1 hx
    obtain ⟨i, hi, rfl⟩ := List.mem_iff_getElem.1 hy
    obtain ⟨x, hx, hw⟩ := key i hi
    rw [hx]
    exact hw

theorem open_arr3 {H : Type} {enc : TypeId × Value → H} {W : World} {r : Reach} {b0 : Nat} {t e : TypeId} {k : IntKind} {v : Value} {d : DataW H} {p : List MemPlace}
    (ht : Try.prog.underlying t = some (.array 3 e)) (he : Try.prog.underlying e = some (.int k)) (hce : Try.prog.cellsOf e = 1) (hC : Try.prog.cellsOf t = 3)
    (hv : Value.okWide Try.prog W r b0 t v) (h : DataW.Trod enc Try.prog W 0 (fun _ => true) true t v d p) :
    ∃ a b c : Int, v = .agg #[.int k a, .int k b, .int k c] ∧ (Lit.int k a).wf = true ∧ (Lit.int k b).wf = true ∧ (Lit.int k c).wf = true := by
  obtain ⟨xs, hl, rfl, hwf⟩ := open_arr ht he hce hC hv h
  match xs, hl with
  | [a, b, c], _ => exact ⟨a, b, c, rfl, hwf a (by simp), hwf b (by simp), hwf c (by simp)⟩
theorem open_arr2 {H : Type} {enc : TypeId × Value → H} {W : World} {r : Reach} {b0 : Nat} {t e : TypeId} {k : IntKind} {v : Value} {d : DataW H} {p : List MemPlace}
    (ht : Try.prog.underlying t = some (.array 2 e)) (he : Try.prog.underlying e = some (.int k)) (hce : Try.prog.cellsOf e = 1) (hC : Try.prog.cellsOf t = 2)
    (hv : Value.okWide Try.prog W r b0 t v) (h : DataW.Trod enc Try.prog W 0 (fun _ => true) true t v d p) :
    ∃ a b : Int, v = .agg #[.int k a, .int k b] ∧ (Lit.int k a).wf = true ∧ (Lit.int k b).wf = true := by
  obtain ⟨xs, hl, rfl, hwf⟩ := open_arr ht he hce hC hv h
  match xs, hl with
  | [a, b], _ => exact ⟨a, b, rfl, hwf a (by simp), hwf b (by simp)⟩
end Go.Proofs.Ytmbceafeonjffaa

namespace Go.Proofs.Ytmbceafeonjffaa
open Go.ChangeShapes Go.WideShapes Go.ChangeAt Go.RowKit Plain
set_option linter.unusedVariables false
set_option maxRecDepth 100000

/-- a slice of numbers of one kind that reads as a list -/
def RdN (k : IntKind) (w : World) (A : Option Addr) (zs : List Int) : Prop :=
  (∀ x ∈ zs, (Lit.int k x).wf = true) ∧ (0 < zs.length → ∃ b off, A = some ⟨b, off, none⟩ ∧ b < w.heap.size ∧ ∀ j, j < zs.length → w.cell? ⟨b, off + j, none⟩ = some (.int k (zs.getD j 0)))
theorem RdN.below {k : IntKind} {B : Nat} {w w' : World} {A : Option Addr} {zs : List Int} (h : RdN k w A zs) (hb : Below B w w') (hB : w.heap.size ≤ B) : RdN k w' A zs :=
  ⟨h.1, fun hp => by
    obtain ⟨b, off, e, hl, hc⟩ := h.2 hp
    exact ⟨b, off, e, Nat.lt_of_lt_of_le hl hb.size, fun j hj => (hb.cell (p := ⟨b, off + j, none⟩) (show b < B by omega)).trans (hc j hj)⟩⟩
theorem RdN.take {k : IntKind} {w : World} {A : Option Addr} {zs : List Int} (h : RdN k w A zs) (n : Nat) : RdN k w A (zs.take n) :=
  ⟨fun x hx => h.1 x (List.mem_of_mem_take hx), fun hp => by
    rw [List.length_take] at hp
    obtain ⟨b, off, e, hl, hc⟩ := h.2 (by omega)
    refine ⟨b, off, e, hl, fun j hj => ?_⟩
    rw [List.length_take] at hj
    rw [getD_take _ _ _ (by omega)]
    exact hc j (by omega)⟩
theorem RdN.wf {k : IntKind} {w : World} {A : Option Addr} {zs : List Int} (h : RdN k w A zs) (j : Nat) (hj : j < zs.length) : (Lit.int k (zs.getD j 0)).wf = true := by
  have : zs.getD j 0 = zs[j] := by simp [List.getD, hj]
  rw [this]; exact h.1 _ (List.getElem_mem hj)
theorem bounds_u64 {n : Int} (h : (Lit.int .u64 n).wf = true) : 0 ≤ n ∧ n < 18446744073709551616 := by
  simp [Lit.wf, IntKind.min, IntKind.max, IntKind.signed, IntKind.bits] at h
  omega

theorem open_nums {H : Type} {enc : TypeId × Value → H} {W : World} {t e : TypeId} {k : IntKind} (ht : Try.prog.underlying t = some (.slice e)) (he : Try.prog.underlying e = some (.int k)) (hce : Try.prog.cellsOf e = 1)
    {a : Option Addr} {len cap : Nat} {d : DataW H} {p : List MemPlace} (h : DataW.Trod enc Try.prog W 0 (fun _ => true) true t (.slice a len cap) d p) :
    ∃ zs : List Int, zs.length = len ∧ len ≤ cap ∧ cap ≤ maxLen ∧ RdN k W a zs := by
  obtain ⟨fuel, hf⟩ := h
  rcases open_ints ht he hce hf with ⟨hcs, _⟩ | ⟨x, l, c, zs, hcs, _, hl, hm, hz, _, hcell, hwz⟩
  · simp [Value.cells] at hcs
    obtain ⟨rfl, rfl, rfl⟩ := hcs
    exact ⟨[], rfl, Nat.le_refl _, Nat.zero_le _, by simp, fun h => absurd h (by simp)⟩
  · simp [Value.cells] at hcs
    obtain ⟨rfl, rfl, rfl⟩ := hcs
    have hz' : zs.length = cap := by simpa using hz
    have hlen : (zs.take len).length = len := by rw [List.length_take]; omega
    refine ⟨zs.take len, hlen, hl, hm, ?_, ?_⟩
    · intro y hy
      exact hwz y (List.mem_of_mem_take hy)
    · intro hpos
      rw [hlen] at hpos
      obtain ⟨b, off, spot⟩ := x
      have hc := hcell 0 (by omega)
      have hspot : spot = none := by simpa [Addr.add] using World.cell?_spot hc
      subst hspot
      refine ⟨b, off, rfl, ?_, ?_⟩
      · have hc0 : W.cell? ⟨b, off, none⟩ = some (.int k (zs.getD 0 0)) := by simpa [Addr.add] using hc
        exact block_lt_of_cell hc0
      · intro j hj
        rw [hlen] at hj
        have h1 := hcell j (by omega)
        rw [getD_take _ _ _ hj, ← h1]
        rcases Nat.eq_zero_or_pos j with rfl | hk0
        · simp [Addr.add]
        · simp [Addr.add, Nat.pos_iff_ne_zero.1 hk0]

/-- a number that any int picks below m -/
theorem pickN (bit m : Int) (h0 : 0 < m) (h1 : m < 4611686018427387904) : ∃ K : Nat, wrap64 ((IntKind.u64.wrap bit).tmod m) = (K : Int) ∧ (K : Int) < m := by
  have e : IntKind.u64.wrap bit = bit % 18446744073709551616 := IntKind.wrap_u64 bit
  have n0 : 0 ≤ bit % 18446744073709551616 := by omega
  have e2 : (bit % 18446744073709551616).tmod m = bit % 18446744073709551616 % m := Int.tmod_eq_emod_of_nonneg n0
  have l0 := Int.emod_nonneg (bit % 18446744073709551616) (show m ≠ 0 by omega)
  have l1 := Int.emod_lt_of_pos (bit % 18446744073709551616) h0
  rw [e, e2]
  generalize bit % 18446744073709551616 % m = x at *
  refine ⟨x.toNat, ?_, by omega⟩
  unfold wrap64; omega

/-- a block of numbers of one kind that is known whole -/
def Row (k : IntKind) (t : TypeId) (w : World) (g : Nat) (zs : List Int) : Prop := Blk w g t (zs.map (Value.int k)).toArray
section
variable {k : IntKind} {t : TypeId} {w w' : World} {g : Nat} {zs : List Int}
theorem Row.at (h : Row k t w g zs) {i : Nat} (hi : i < zs.length) : w.cell? ⟨g, i, none⟩ = some (.int k (zs.getD i 0)) := by
  unfold Row at h
  rw [h.cell]
  simp [hi, List.getD]
theorem Row.free (h : Row k t w g zs) (i : Nat) : w.frozen? ⟨g, i, none⟩ = false := Blk.frozen h i
theorem Row.lt (h : Row k t w g zs) : g < w.heap.size := Blk.lt h
theorem Row.set (h : Row k t w g zs) (i : Nat) (x : Int) : Row k t (w.setCell ⟨g, i, none⟩ (.int k x)) g (zs.set i x) := by
  unfold Row at *
  have := h.set i (.int k x)
  rw [List.map_set]
  simpa using this
theorem Row.ne (h : Row k t w g zs) {p : Addr} (hp : p.block ≠ g) (v : Value) : Row k t (w.setCell p v) g zs := Blk.ne h hp v
theorem Row.below (h : Row k t w g zs) (hb : Below w.heap.size w w') : Row k t w' g zs := Blk.below h hb
theorem Row.alloc (h : Row k t w g zs) (o : Obj) : Row k t (w.alloc o) g zs := Blk.alloc h o
theorem Row.grown (h : Row k t w g zs) {r : Nat} (hg : w.grownBy w' (some r)) (h1 : g ≠ r) : Row k t w' g zs := Blk.grown h hg h1
theorem Row.rd (h : Row k t w g zs) (hz : ∀ x ∈ zs, (Lit.int k x).wf = true) : RdN k w (some ⟨g, 0, none⟩) zs :=
  ⟨hz, fun _ => ⟨g, 0, rfl, h.lt, fun j hj => by rw [Nat.zero_add]; exact h.at hj⟩⟩
end
theorem run_mkN (t e : TypeId) (k : IntKind) (bytes : Nat) (hu : Try.prog.underlying t = some (.slice e)) (hi : (Try.prog.info? e).map (fun i => (i.zero, i.size, i.bytes)) = some (some (.int k 0), 1, bytes)) (h8 : bytes ≤ 8) (n : Nat) (hn : n ≤ 1000000) (w : World) :
    (Instr.makeSlice t (.int .i64 n) (.int .i64 n)).run Try.prog w = .ok (.slice (some ⟨w.heap.size, 0, none⟩) n n) (w.alloc (.cells ((List.replicate n (0 : Int)).map (Value.int k)).toArray e)) := by
  obtain ⟨i, hi, hz, hs, hb⟩ := info_parts hi
  have hbn : (i.bytes : Int) * (n : Int) ≤ 281474976710656 := by
    have : i.bytes * n ≤ 8 * 1000000 := Nat.mul_le_mul (by omega) hn
    have h2 : ((i.bytes * n : Nat) : Int) ≤ 8 * 1000000 := by omega
    rw [Int.natCast_mul] at h2; omega
  have h := run_make (P := Try.prog) w t e i _ hu hi hz .i64 .i64 n n (by omega) (by omega) hbn (by omega)
  have e1 : madeCells (Value.int k 0).cells (n * 1) = ((List.replicate n (0 : Int)).map (Value.int k)).toArray := by
    apply Array.ext'
    rw [show (Value.int k 0).cells = #[Value.int k 0] from rfl, toList_madeCells_one, Nat.mul_one, List.map_replicate]
  rw [hs, Int.toNat_natCast, e1] at h
  exact h
theorem Row.made (k : IntKind) (t : TypeId) (w : World) (n : Nat) : Row k t (w.alloc (.cells ((List.replicate n (0 : Int)).map (Value.int k)).toArray t)) w.heap.size (List.replicate n 0) := Blk.new w t _
theorem agree_set {zs l : List Int} {k : Nat} (h : ∀ j, j < k → zs.getD j 0 = l.getD j 0) (hk : k < zs.length) : ∀ j, j < k + 1 → (zs.set k (l.getD k 0)).getD j 0 = l.getD j 0 := by
  intro j hj
  rcases Nat.lt_or_ge j k with h1 | h1
  · rw [← h j h1]; simp [List.getD, Nat.ne_of_gt h1]
  · obtain rfl : j = k := by omega
    simp [List.getD, hk]
theorem agree_all {zs l : List Int} (hl : zs.length = l.length) (h : ∀ j, j < l.length → zs.getD j 0 = l.getD j 0) : zs = l := by
  refine List.ext_getElem hl fun i h1 h2 => ?_
  have := h i h2
  simpa [List.getD, h1, h2] using this
end Go.Proofs.Ytmbceafeonjffaa

namespace Go.Proofs.Ytmbceafeonjffaa
open Go.ChangeShapes Go.WideShapes Go.ChangeAt Go.RowKit Go.Deep Plain
set_option linter.unusedVariables false
set_option maxRecDepth 100000

/-- what a field holds: a number of a kind, or a bool -/
inductive FK where
  | num (k : IntKind)
  | bol
def FK.ok : FK → Value → Prop
  | .num k, v => ∃ x, v = .int k x ∧ (Lit.int k x).wf = true
  | .bol, v => ∃ b, v = .bool b
def FK.ty : FK → TypeId → Prop
  | .num k, t => Try.prog.underlying t = some (.int k)
  | .bol, t => Try.prog.underlying t = some .bool

/-- n structs that lie one behind the other, each of so many fields -/
def RdS (K : List FK) (w : World) (A : Option Addr) (n : Nat) (V : Nat → Nat → Value) : Prop :=
  0 < n → ∃ b off, A = some ⟨b, off, none⟩ ∧ b < w.heap.size ∧ ∀ i, i < n → ∀ j k, K[j]? = some k → w.cell? ⟨b, off + (i * K.length + j), none⟩ = some (V i j) ∧ k.ok (V i j)

theorem RdS.below {K : List FK} {B n : Nat} {w w' : World} {A : Option Addr} {V : Nat → Nat → Value} (h : RdS K w A n V) (hb : Below B w w') (hB : w.heap.size ≤ B) : RdS K w' A n V := fun hp => by
  obtain ⟨b, off, e, hl, hc⟩ := h hp
  exact ⟨b, off, e, Nat.lt_of_lt_of_le hl hb.size, fun i hi j k hk => ⟨(hb.cell (p := ⟨b, off + (i * K.length + j), none⟩) (show b < B by omega)).trans (hc i hi j k hk).1, (hc i hi j k hk).2⟩⟩
theorem RdS.less {K : List FK} {n m : Nat} {w : World} {A : Option Addr} {V : Nat → Nat → Value} (h : RdS K w A n V) (hm : m ≤ n) : RdS K w A m V := fun hp => by
  obtain ⟨b, off, e, hl, hc⟩ := h (by omega)
  exact ⟨b, off, e, hl, fun i hi => hc i (by omega)⟩

theorem addr_add (b off k : Nat) : (⟨b, off, none⟩ : Addr).add k = ⟨b, off + k, none⟩ := by
  rcases Nat.eq_zero_or_pos k with rfl | hk
  · simp [Addr.add]
  · simp [Addr.add, Nat.pos_iff_ne_zero.1 hk]

theorem open_structs {H : Type} {enc : TypeId × Value → H} {W : World} {t e : TypeId} {fs : Array Field} (K : List FK) (ht : Try.prog.underlying t = some (.slice e)) (he : Try.prog.underlying e = some (.struct fs)) (hone : oneCellFields Try.prog fs = true)
    (hsz : fs.size = K.length) (hC : Try.prog.cellsOf e = K.length) (h0 : 0 < K.length) (hK : ∀ (j : Nat) (f : Field), fs[j]? = some f → ∃ k, K[j]? = some k ∧ k.ty f.type)
    {a : Option Addr} {len cap : Nat} {d : DataW H} {p : List MemPlace} (h : DataW.Trod enc Try.prog W 0 (fun _ => true) true t (.slice a len cap) d p) :
    len ≤ cap ∧ cap ≤ maxLen ∧ ∃ V, RdS K W a len V := by
  obtain ⟨fuel, hf⟩ := h
  rcases Go.Deep.open_slice ht hf with ⟨hcs, _⟩ | ⟨x, l, c, m, n, D, Pl, hcs, _, hl, hm, hmm, _, hi⟩
  · simp [Value.cells] at hcs
    obtain ⟨rfl, rfl, rfl⟩ := hcs
    exact ⟨Nat.le_refl _, Nat.zero_le _, fun _ _ => undef, fun h => absurd h (by simp)⟩
  · simp [Value.cells] at hcs
    obtain ⟨rfl, rfl, rfl⟩ := hcs
    have hmc : m = cap := by simpa using hmm
    subst hmc
    refine ⟨hl, hm, fun i j => (W.cell? (x.add (i * K.length + j))).getD undef, fun hpos => ?_⟩
    have key : ∀ i, i < m → ∀ j k, K[j]? = some k → ∃ v, W.cell? (x.add (i * K.length + j)) = some v ∧ k.ok v := by
      intro i him j k hk
      obtain ⟨cs', hc, ht'⟩ := hi i him
      rw [hC] at hc
      obtain ⟨ys, n', _, _, _, hyl, hg⟩ := DataW.trod_struct he ht'
      obtain ⟨_, hcl, hat⟩ := World.cells?_some hc
      have hjl : j < K.length := (List.getElem?_eq_some_iff.1 hk).1
      have hjs : j < fs.size := by omega
      have hfj : fs[j]? = some fs[j] := Array.getElem?_eq_getElem hjs
      obtain ⟨k', hk', hty⟩ := hK j _ hfj
      rw [hk] at hk'
      injection hk' with hk'
      subst hk'
      obtain ⟨ho, hc1⟩ := hone_of hone j _ hfj
      have h1 := hg j _ hfj
      rw [ho, hc1, List.drop_eq_getElem_cons (by omega), List.take_succ_cons, List.take_zero, List.getElem?_eq_getElem (by omega)] at h1
      have hcell := hat j hjl
      rw [Go.Deep.add_add, List.getElem?_eq_getElem (by omega)] at hcell
      refine ⟨_, hcell, ?_⟩
      cases k with
      | num k =>
        obtain ⟨y, hy, _, hw⟩ := DataW.trod_int hty h1
        injection hy with hy
        exact ⟨y, hy, hw⟩
      | bol =>
        obtain ⟨y, hy, _⟩ := DataW.trod_bool hty h1
        injection hy with hy
        exact ⟨y, hy⟩
    obtain ⟨b, off, spot⟩ := x
    obtain ⟨k0, hk0⟩ : ∃ k0, K[0]? = some k0 := ⟨_, List.getElem?_eq_getElem h0⟩
    obtain ⟨v0, hv0, _⟩ := key 0 (by omega) 0 k0 hk0
    have hspot : spot = none := by simpa [Addr.add] using World.cell?_spot hv0
    subst hspot
    refine ⟨b, off, rfl, ?_, fun i hi j k hk => ?_⟩
    · have e : (⟨b, off, none⟩ : Addr).add (0 * K.length + 0) = ⟨b, off, none⟩ := by simp [Addr.add]
      rw [e] at hv0
      exact block_lt_of_cell hv0
    · obtain ⟨v, hv, hok⟩ := key i (by omega) j k hk
      rw [addr_add] at hv
      simp only [addr_add, hv, Option.getD_some]
      exact ⟨trivial, hok⟩
end Go.Proofs.Ytmbceafeonjffaa

namespace Go.Proofs.Ytmbceafeonjffaa
open Go.RowKit Plain
set_option linter.unusedVariables false
set_option maxRecDepth 100000

/-- all blocks that were there, but these, are as they were -/
structure Keep (bs : List Nat) (w w' : World) : Prop where
  os : w'.os = w.os
  tape : w'.tape = w.tape
  output : w'.output = w.output
  size : w.heap.size ≤ w'.heap.size
  block : ∀ k, k < w.heap.size → k ∉ bs → w'.heap[k]? = w.heap[k]?

section
variable {bs cs : List Nat} {w w' w'' : World}
theorem Keep.refl (bs : List Nat) (w : World) : Keep bs w w := ⟨rfl, rfl, rfl, Nat.le_refl _, fun _ _ _ => rfl⟩
theorem Keep.trans (h : Keep bs w w') (k : Keep bs w' w'') : Keep bs w w'' :=
  ⟨k.os.trans h.os, k.tape.trans h.tape, k.output.trans h.output, Nat.le_trans h.size k.size, fun i hi hn => (k.block i (Nat.lt_of_lt_of_le hi h.size) hn).trans (h.block i hi hn)⟩
theorem Keep.mono (h : Keep bs w w') (hs : ∀ x ∈ bs, x ∈ cs) : Keep cs w w' := ⟨h.os, h.tape, h.output, h.size, fun k hk hn => h.block k hk fun hx => hn (hs k hx)⟩
/-- blocks that are new need not be named -/
theorem Keep.new {g : Nat} (h : Keep bs w w') (k : Keep (g :: bs) w' w'') (hg : w.heap.size ≤ g) : Keep bs w w'' :=
  ⟨k.os.trans h.os, k.tape.trans h.tape, k.output.trans h.output, Nat.le_trans h.size k.size, fun i hi hn => (k.block i (Nat.lt_of_lt_of_le hi h.size) (by
    intro hx
    rcases List.mem_cons.1 hx with rfl | hx
    · omega
    · exact hn hx)).trans (h.block i hi hn)⟩
theorem Keep.of_below (h : Below w.heap.size w w') : Keep bs w w' := ⟨h.os, h.tape, h.output, h.size, fun k hk _ => h.block k hk⟩
theorem Keep.of_grown {g : Nat} (h : w.grownBy w' (some g)) (hg : g ∈ bs) : Keep bs w w' := ⟨h.os, h.tape, h.output, h.size, fun k hk hn => h.block k hk (by rintro e; injection e with e; subst e; exact hn hg)⟩
theorem Keep.of_grownO {o : Option Nat} (h : w.grownBy w' o) (hg : ∀ g, o = some g → g ∈ bs) : Keep bs w w' := ⟨h.os, h.tape, h.output, h.size, fun k hk hn => h.block k hk (by rintro e; exact hn (hg k e.symm))⟩
theorem Keep.drew (h : Keep bs w w') : Keep bs w w'.drew := ⟨h.os, h.tape, h.output, h.size, h.block⟩
theorem Keep.drewN (h : Keep bs w w') (n : Nat) : Keep bs w (w'.drewN n) := ⟨h.os, h.tape, h.output, h.size, h.block⟩
theorem Keep.alloc (h : Keep bs w w') (o : Obj) : Keep bs w (w'.alloc o) :=
  ⟨h.os, h.tape, h.output, Nat.le_trans h.size (by simp), fun i hi hn => (Below.heap_alloc w' o i (Nat.lt_of_lt_of_le hi h.size)).trans (h.block i hi hn)⟩
theorem Keep.setCell (h : Keep bs w w') {p : Addr} (hp : p.block ∈ bs ∨ w.heap.size ≤ p.block) (v : Value) : Keep bs w (w'.setCell p v) :=
  ⟨h.os, h.tape, h.output, by simpa [World.setCell] using h.size, fun i hi hn => (Below.heap_setCell w' p v i (by
    rintro rfl
    rcases hp with hp | hp
    · exact hn hp
    · omega)).trans (h.block i hi hn)⟩
theorem Keep.below {B : Nat} {w0 : World} (h : Keep bs w w') (hb : Below B w0 w) (hB : B ≤ w0.heap.size) (hs : ∀ x ∈ bs, B ≤ x) : Below B w0 w' :=
  ⟨h.os.trans hb.os, h.tape.trans hb.tape, h.output.trans hb.output, Nat.le_trans hb.size h.size, fun k hk => (h.block k (Nat.lt_of_lt_of_le hk (Nat.le_trans hB hb.size)) fun hx => by have := hs k hx; omega).trans (hb.block k hk)⟩
theorem Keep.blk {g : Nat} {t : TypeId} {vs : Array Value} (h : Keep bs w w') (hb : Blk w g t vs) (hg : g ∉ bs) : Blk w' g t vs := (h.block g hb.lt hg).trans hb
theorem Keep.cell (h : Keep bs w w') {p : Addr} (hp : p.block < w.heap.size) (hn : p.block ∉ bs) : w'.cell? p = w.cell? p := World.cell?_of_block (h.block p.block hp hn)
theorem Keep.row {k : IntKind} {t : TypeId} {g : Nat} {zs : List Int} (h : Keep bs w w') (hr : Row k t w g zs) (hg : g ∉ bs) : Row k t w' g zs := h.blk hr hg
end
end Go.Proofs.Ytmbceafeonjffaa
