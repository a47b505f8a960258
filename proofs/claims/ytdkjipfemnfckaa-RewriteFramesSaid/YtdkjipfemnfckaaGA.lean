/-
  Several small texts in one: Plain, Mem, Own, Wire. Conditions stand in each theorem.
-/
import Derived.WalkKit
import Derived.Below
import Derived.Laws.OwnMore
import Derived.Laws.Rows
import Derived.Deep.Draws
import Derived.Deep.AppendLies
import Derived.Test.YtdkjipfemnfckaaRows
import Derived.Maps.AppendAt
import Derived.OwnWalk
import Derived.Lib.Hide
import Derived.Laws.BitsAll
import Derived.Deep.QuietTactic
import Derived.BigQuiet
import Derived.RegionTactic
namespace Go.Proofs.Ytdkjipfemnfckaa.Plain
set_option linter.unusedVariables false
set_option maxRecDepth 100000

theorem getD_lt (l : List Int) (k : Nat) (h : k < l.length) : l.getD k 0 = l[k] := by simp [List.getD, h]
theorem getD_ge (l : List Int) (k : Nat) (h : l.length ≤ k) : l.getD k 0 = 0 := by simp [List.getD, h]

/-- folding carries: nought stays nought, all else comes to 1 .. 65535 -/
def F (n : Int) : Int := if n = 0 then 0 else (n - 1) % 65535 + 1

theorem F_range (n : Int) (h : 0 ≤ n) : 0 ≤ F n ∧ F n ≤ 65535 := by unfold F; split <;> omega
theorem F_small (n : Int) (h : 0 ≤ n) (h' : n ≤ 65535) : F n = n := by unfold F; split <;> omega
theorem F_step (n : Int) (h : 65535 < n) : F (n / 65536 + n % 65536) = F n := by unfold F; split <;> split <;> omega
theorem F_add (a b : Int) (ha : 0 ≤ a) (hb : 0 ≤ b) : F (F a + b) = F (a + b) := by unfold F; split <;> split <;> split <;> omega
theorem F_add' (a b : Int) (ha : 0 ≤ a) (hb : 0 ≤ b) : F (a + F b) = F (a + b) := by rw [Int.add_comm, F_add b a hb ha, Int.add_comm]
theorem F_mod (n : Int) (h : 0 ≤ n) : F n % 65535 = n % 65535 := by unfold F; split <;> omega
theorem F_zero (n : Int) (h : 0 ≤ n) (hz : F n = 0) : n = 0 := by unfold F at hz; split at hz <;> omega
theorem F_idem (n : Int) (h : 0 ≤ n) : F (F n) = F n := F_small _ (F_range n h).1 (F_range n h).2

/-- all are bytes -/
def By (l : List Int) : Prop := ∀ x ∈ l, 0 ≤ x ∧ x ≤ 255

theorem By.nil : By [] := by intro x h; cases h
theorem By.cons {a : Int} {l : List Int} (h : By (a :: l)) : 0 ≤ a ∧ a ≤ 255 := h a (by simp)
theorem By.tail {a : Int} {l : List Int} (h : By (a :: l)) : By l := fun x hx => h x (by simp [hx])
theorem By.mk {a : Int} {l : List Int} (h0 : 0 ≤ a) (h1 : a ≤ 255) (h : By l) : By (a :: l) := by
  intro x hx
  rcases List.mem_cons.1 hx with rfl | hx
  · exact ⟨h0, h1⟩
  · exact h x hx
theorem By.take {l : List Int} (h : By l) (k : Nat) : By (l.take k) := fun x hx => h x (List.mem_of_mem_take hx)
theorem By.drop {l : List Int} (h : By l) (k : Nat) : By (l.drop k) := fun x hx => h x (List.mem_of_mem_drop hx)
theorem By.app {l r : List Int} (h : By l) (h' : By r) : By (l ++ r) := by
  intro x hx
  rcases List.mem_append.1 hx with hx | hx
  · exact h x hx
  · exact h' x hx
theorem By.getD {l : List Int} (h : By l) (k : Nat) : 0 ≤ l.getD k 0 ∧ l.getD k 0 ≤ 255 := by
  rcases Nat.lt_or_ge k l.length with hk | hk
  · rw [getD_lt _ _ hk]; exact h _ (List.getElem_mem hk)
  · rw [getD_ge _ _ hk]; omega
theorem By.set {l : List Int} (h : By l) (k : Nat) (x : Int) (h0 : 0 ≤ x) (h1 : x ≤ 255) : By (l.set k x) := by
  intro y hy
  rcases List.mem_or_eq_of_mem_set hy with hy | rfl
  · exact h y hy
  · exact ⟨h0, h1⟩

/-- the sum of the words of two bytes; a last single byte is a word's high one -/
def tot : List Int → Int
  | a :: b :: r => a * 256 + b + tot r
  | [a] => a * 256
  | [] => 0

theorem tot_nonneg : ∀ (l : List Int), By l → 0 ≤ tot l
  | a :: b :: r, h => by have := tot_nonneg r h.tail.tail; have := h.cons; have := h.tail.cons; simp only [tot]; omega
  | [a], h => by have := h.cons; simp only [tot]; omega
  | [], _ => by simp [tot]

theorem tot_le : ∀ (l : List Int), By l → tot l ≤ 65535 * (l.length : Int)
  | a :: b :: r, h => by have := tot_le r h.tail.tail; have := h.cons; have := h.tail.cons; simp only [tot, List.length_cons]; omega
  | [a], h => by have := h.cons; simp only [tot, List.length_cons, List.length_nil]; omega
  | [], _ => by simp [tot]

theorem tot_append : ∀ (l r : List Int), l.length % 2 = 0 → tot (l ++ r) = tot l + tot r
  | a :: b :: l, r, h => by
      have := tot_append l r (by simp only [List.length_cons] at h; omega)
      simp only [List.cons_append, tot, this]; omega
  | [a], _, h => by simp at h
  | [], _, _ => by simp [tot]

theorem take_two (l : List Int) (k : Nat) (h : k + 1 < l.length) : l.take (k + 2) = l.take k ++ [l.getD k 0, l.getD (k + 1) 0] := by
  rw [getD_lt _ _ (by omega), getD_lt _ _ h]
  have e1 := List.take_succ_eq_append_getElem (i := k + 1) h
  have e2 := List.take_succ_eq_append_getElem (i := k) (l := l) (by omega)
  rw [e2, List.append_assoc] at e1
  exact e1

theorem take_one (l : List Int) (k : Nat) (h : k < l.length) : l.take (k + 1) = l.take k ++ [l.getD k 0] := by
  rw [getD_lt _ _ h, List.take_succ_eq_append_getElem h]

theorem tot_two (l : List Int) (k : Nat) (he : k % 2 = 0) (h : k + 1 < l.length) : tot (l.take (k + 2)) = tot (l.take k) + (l.getD k 0 * 256 + l.getD (k + 1) 0) := by
  rw [take_two l k h, tot_append _ _ (by rw [List.length_take, Nat.min_eq_left (by omega)]; exact he)]
  simp [tot]

theorem tot_last (l : List Int) (k : Nat) (he : k % 2 = 0) (h : k + 1 = l.length) : tot l = tot (l.take k) + l.getD k 0 * 256 := by
  have e : l = l.take k ++ [l.getD k 0] := by
    rw [← take_one l k (by omega), h, List.take_length]
  have e2 := tot_append (l.take k) [l.getD k 0] (by rw [List.length_take, Nat.min_eq_left (by omega)]; exact he)
  rw [← e] at e2
  rw [e2]
  simp [tot]

theorem tot_set : ∀ (l : List Int) (k : Nat) (x : Int), k < l.length → tot (l.set k x) = tot l + (x - l.getD k 0) * (if k % 2 = 0 then 256 else 1)
  | a :: b :: r, 0, x, _ => by simp [tot, List.getD]; omega
  | a :: b :: r, 1, x, _ => by simp [tot, List.getD]; omega
  | a :: b :: r, k + 2, x, h => by
      have := tot_set r k x (by simp only [List.length_cons] at h; omega)
      simp only [List.set_cons_succ, tot, this]
      have e1 : (a :: b :: r).getD (k + 2) 0 = r.getD k 0 := by simp [List.getD]
      have e2 : (k + 2) % 2 = k % 2 := by omega
      rw [e1, e2]; omega
  | [a], 0, x, _ => by simp [tot, List.getD]; omega
  | [a], k + 1, x, h => by simp at h
  | [], k, x, h => by simp at h

/-- one bit of a byte turned -/
def Turned (x y : Int) : Prop := 0 ≤ y ∧ y ≤ 255 ∧ y ≠ x ∧ y - x ≤ 128 ∧ x - y ≤ 128
theorem turned_nat : ∀ x, x < 256 → ∀ j, j < 8 → (x ^^^ 2 ^ j) < 256 ∧ (x ^^^ 2 ^ j) ≠ x ∧ (x ^^^ 2 ^ j) ≤ x + 128 ∧ x ≤ (x ^^^ 2 ^ j) + 128 := by decide +kernel
theorem turned (x j : Nat) (hx : x < 256) (hj : j < 8) : Turned (x : Int) ((x ^^^ 2 ^ j : Nat) : Int) := by
  have := turned_nat x hx j hj
  unfold Turned; omega

/-- one byte of bytes whose sum is nought has one bit turned: the sum isn't nought -/
theorem turned_sum (l : List Int) (k : Nat) (y : Int) (hk : k < l.length) (hl : By l) (h0 : tot l % 65535 = 0) (ht : Turned (l.getD k 0) y) : F (tot (l.set k y)) ≠ 65535 := by
  have hy := tot_nonneg (l.set k y) (hl.set k y ht.1 ht.2.1)
  have e := tot_set l k y hk
  unfold Turned at ht
  generalize l.getD k 0 = x at *
  have hF := F_mod _ hy
  intro hc
  rw [hc] at hF
  split at e <;> omega

/-- bytes with their sum behind them -/
theorem whole_sum (l : List Int) (hl : By l) (he : l.length % 2 = 0) (s : Int) (hs : s = 65535 - F (tot l)) : F (tot (l ++ [s / 256, s % 256])) = 65535 := by
  have t0 := tot_nonneg l hl
  have fr := F_range _ t0
  rw [tot_append l _ he]
  simp only [tot]
  have e : s / 256 * 256 + s % 256 + 0 = s := by omega
  rw [e, ← F_add _ _ t0 (by omega)]
  rw [show F (tot l) + s = 65535 from by omega]
  rfl

end Go.Proofs.Ytdkjipfemnfckaa.Plain

namespace Go.Proofs.Ytdkjipfemnfckaa
open Go.RowKit Plain
set_option linter.unusedVariables false
set_option maxRecDepth 100000

/-- a slice of bytes that reads as a list -/
def Rd (w : World) (A : Option Addr) (zs : List Int) : Prop :=
  By zs ∧ (0 < zs.length → ∃ b off, A = some ⟨b, off, none⟩ ∧ ∀ k, k < zs.length → w.cell? ⟨b, off + k, none⟩ = some (.int .u8 (zs.getD k 0)))

section
variable {w w' : World} {A : Option Addr} {zs : List Int}

theorem Rd.nil (w : World) (A : Option Addr) : Rd w A [] := ⟨By.nil, fun h => absurd h (by simp)⟩
theorem Rd.keep (h : Rd w A zs) (hk : ∀ b o, b < w.heap.size → w'.cell? ⟨b, o, none⟩ = w.cell? ⟨b, o, none⟩) : Rd w' A zs :=
  ⟨h.1, fun hp => by
    obtain ⟨b, off, e, hc⟩ := h.2 hp
    have hlt : b < w.heap.size := block_lt_of_cell (hc 0 hp)
    exact ⟨b, off, e, fun k hk' => (hk b _ hlt).trans (hc k hk')⟩⟩
theorem Rd.below (h : Rd w A zs) (hb : Below w.heap.size w w') : Rd w' A zs := h.keep fun b o hl => hb.cell (p := ⟨b, o, none⟩) hl
theorem Rd.drewN (h : Rd w A zs) (n : Nat) : Rd (w.drewN n) A zs := h
theorem Rd.drew (h : Rd w A zs) : Rd w.drew A zs := h
theorem Rd.alloc (h : Rd w A zs) (o : Obj) : Rd (w.alloc o) A zs := h.keep fun b i hl => World.cell?_alloc_lt w o ⟨b, i, none⟩ hl
theorem getD_take (l : List Int) (n k : Nat) (h : k < n) : (l.take n).getD k 0 = l.getD k 0 := by simp [List.getD, h]
theorem getD_drop (l : List Int) (n k : Nat) : (l.drop n).getD k 0 = l.getD (n + k) 0 := by simp [List.getD]
theorem Rd.take (h : Rd w A zs) (n : Nat) : Rd w A (zs.take n) :=
  ⟨h.1.take n, fun hp => by
    rw [List.length_take] at hp
    obtain ⟨b, off, e, hc⟩ := h.2 (by omega)
    refine ⟨b, off, e, fun k hk => ?_⟩
    rw [List.length_take] at hk
    rw [getD_take _ _ _ (by omega)]
    exact hc k (by omega)⟩
/-- a block that is known whole -/
def Blk (w : World) (g : Nat) (t : TypeId) (cs : Array Value) : Prop := w.heap[g]? = some (.cells cs t (0, 0))
theorem Blk.cell {g : Nat} {t : TypeId} {cs : Array Value} (h : Blk w g t cs) (i : Nat) : w.cell? ⟨g, i, none⟩ = cs[i]? := cell_of_row w g i cs t (0, 0) h
theorem Blk.frozen {g : Nat} {t : TypeId} {cs : Array Value} (h : Blk w g t cs) (i : Nat) : w.frozen? ⟨g, i, none⟩ = false := by
  unfold Blk at h
  simp [World.frozen?, h]
theorem Blk.lt {g : Nat} {t : TypeId} {cs : Array Value} (h : Blk w g t cs) : g < w.heap.size := by
  rcases Nat.lt_or_ge g w.heap.size with hlt | hge
  · exact hlt
  · unfold Blk at h; rw [Array.getElem?_eq_none hge] at h; cases h
theorem Blk.new (w : World) (t : TypeId) (cs : Array Value) : Blk (w.alloc (.cells cs t)) w.heap.size t cs := heap_alloc_new w _
theorem Blk.below {g : Nat} {t : TypeId} {cs : Array Value} (h : Blk w g t cs) (hb : Below w.heap.size w w') : Blk w' g t cs := (hb.block g h.lt).trans h
theorem Blk.alloc {g : Nat} {t : TypeId} {cs : Array Value} (h : Blk w g t cs) (o : Obj) : Blk (w.alloc o) g t cs := (Below.heap_alloc w o g h.lt).trans h
theorem Rd.of_blk {g : Nat} {t : TypeId} {cs : Array Value} (h : Blk w g t cs) (hby : By zs) (hc : ∀ k, k < zs.length → cs[k]? = some (.int .u8 (zs.getD k 0))) : Rd w (some ⟨g, 0, none⟩) zs :=
  ⟨hby, fun _ => ⟨g, 0, rfl, fun k hk => by rw [Nat.zero_add, h.cell]; exact hc k hk⟩⟩
/-- a block just made of these bytes -/
theorem Rd.new (w : World) (t : TypeId) (zs : List Int) (hby : By zs) : Rd (w.alloc (.cells (zs.map (Value.int .u8)).toArray t)) (some ⟨w.heap.size, 0, none⟩) zs :=
  Rd.of_blk (Blk.new w t _) hby fun k hk => by simp [hk, List.getD]

theorem bcell {W w1 : World} (hb : Below W.heap.size W w1) : (∀ b o, b < W.heap.size → w1.cell? ⟨b, o, none⟩ = W.cell? ⟨b, o, none⟩) ∧ (∀ b o, b < W.heap.size → w1.frozen? ⟨b, o, none⟩ = W.frozen? ⟨b, o, none⟩) :=
  ⟨fun b o h => hb.cell (p := ⟨b, o, none⟩) h, fun b o h => hb.frozen (p := ⟨b, o, none⟩) h⟩
theorem below_drewN {B : Nat} {a w : World} (h : Below B a w) (n : Nat) : Below B a (w.drewN n) := ⟨h.os, h.tape, h.output, h.size, h.block⟩
end
end Go.Proofs.Ytdkjipfemnfckaa

namespace Go.Proofs.Ytdkjipfemnfckaa
open Go.RowKit Plain
set_option linter.unusedVariables false
set_option maxRecDepth 100000

structure Own (w : World) (base : Nat) (A : Option Addr) (n c : Nat) (zs : List Int) : Prop where
  len : zs.length = n
  byt : By zs
  row : w.ownsRow base 5 1 (.slice A n c) n (zs.map (Value.int .u8))

theorem info8 : (Try.prog.info? 5).map (fun i => (i.zero, i.size, i.bytes)) = some (some (.int .u8 0), 1, 1) := by kernel_rfl

section
variable {w w' : World} {base n c : Nat} {A : Option Addr} {zs : List Int}

theorem Own.form (h : Own w base A n c zs) : A = none ∧ n = 0 ∧ c = 0 ∨ ∃ g, A = some ⟨g, 0, none⟩ ∧ base ≤ g ∧ g < w.heap.size := by
  rcases h.row.2 with ⟨e, _⟩ | ⟨g, cap, cur, e, hb, hg, _⟩
  · injection e with e1 e2 e3
    exact .inl ⟨e1, e2, e3⟩
  · injection e with e1 e2 e3
    exact .inr ⟨g, e1, hb, (Array.getElem?_eq_some_iff.1 hg).1⟩
theorem Own.cap (h : Own w base A n c zs) : n ≤ c := by
  rcases h.row.2 with ⟨e, _⟩ | ⟨g, cap, cur, e, _, _, hc, _⟩
  · injection e with e1 e2 e3
    omega
  · injection e with e1 e2 e3
    omega
theorem Own.rd (h : Own w base A n c zs) : Rd w A zs := by
  refine ⟨h.byt, fun hp => ?_⟩
  have hl := h.len
  rcases h.form with ⟨_, h0, _⟩ | ⟨g, rfl, _, _⟩
  · omega
  · refine ⟨g, 0, rfl, fun k hk => ?_⟩
    rw [Nat.zero_add, h.row.cellAt k (by omega)]
    simp [hk, List.getD]
theorem Own.at {g : Nat} (h : Own w base (some ⟨g, 0, none⟩) n c zs) {k : Nat} (hk : k < n) : w.cell? ⟨g, k, none⟩ = some (.int .u8 (zs.getD k 0)) := by
  have hl := h.len
  rw [h.row.cellAt k (by omega)]
  have hk' : k < zs.length := by omega
  simp [hk', List.getD]
theorem Own.free {g : Nat} (h : Own w base (some ⟨g, 0, none⟩) n c zs) (k : Nat) : w.frozen? ⟨g, k, none⟩ = false := h.row.frozenAt k
theorem Own.drewN (h : Own w base A n c zs) (q : Nat) : Own (w.drewN q) base A n c zs := ⟨h.len, h.byt, h.row⟩
theorem Own.alloc (h : Own w base A n c zs) (o : Obj) : Own (w.alloc o) base A n c zs := ⟨h.len, h.byt, h.row.alloc o⟩
theorem Own.below (h : Own w base A n c zs) (hb : Below w.heap.size w w') : Own w' base A n c zs :=
  ⟨h.len, h.byt, h.row.kept (row := none) ⟨hb.os, hb.tape, hb.output, hb.size, fun k hk _ => hb.block k hk⟩ (by cases hv : (Value.slice A n c).ownBlock <;> simp)⟩
theorem Own.mono {base' : Nat} (h : Own w base A n c zs) (hb : base' ≤ base) : Own w base' A n c zs := by
  refine ⟨h.len, h.byt, h.row.1, ?_⟩
  rcases h.row.2 with e | ⟨g, cap, cur, e, hg, r⟩
  · exact .inl e
  · exact .inr ⟨g, cap, cur, e, by omega, r⟩
theorem Own.set {g : Nat} (h : Own w base (some ⟨g, 0, none⟩) n c zs) (k : Nat) (x : Int) (h0 : 0 ≤ x) (h1 : x ≤ 255) :
    Own (w.setCell ⟨g, k, none⟩ (.int .u8 x)) base (some ⟨g, 0, none⟩) n c (zs.set k x) := by
  have := (h.row.stored k (.int .u8 x)).1
  refine ⟨by rw [List.length_set]; exact h.len, h.byt.set k x h0 h1, ?_⟩
  rw [List.map_set]
  exact this
/-- an empty slice that isn't nil -/
theorem Own.empty (w : World) (hb : base ≤ w.heap.size) : Own (w.alloc (.cells #[] 5)) base (some ⟨w.heap.size, 0, none⟩) 0 0 [] :=
  ⟨rfl, By.nil, World.ownsRow_lit w #[] 0 hb (Nat.zero_le _) rfl⟩
theorem Own.nil (w : World) (base : Nat) : Own w base none 0 0 [] := ⟨rfl, By.nil, World.ownsRow_nil w base _ 1⟩
/-- a literal -/
theorem Own.lit (w : World) (hb : base ≤ w.heap.size) (zs : List Int) (hz : By zs) (n : Nat) (hn : zs.length = n) (hl : n ≤ 1000000000) (cs : Array Value) (hcs : cs = (zs.map (Value.int .u8)).toArray) :
    Own (w.alloc (.cells cs 5)) base (some ⟨w.heap.size, 0, none⟩) n n zs := by
  subst hcs
  exact ⟨hn, hz, World.ownsRow_lit w _ n hb (by unfold maxLen; omega) (by simpa using hn)⟩

theorem run_app (hown : Own w base A n c zs) {B : Option Addr} {m d : Nat} {ys : List Int} (hR : Rd w B ys) (hm : ys.length = m) (hl : n + m ≤ 1000000000) (hbase : base ≤ w.heap.size) (ty : TypeId) :
    ∃ A' c' w', (Builtin.append_ #[24, 24] ty #[.slice A n c, .slice B m d]).run Try.prog w = .ok (.slice A' (n + m) c') w' ∧ Own w' base A' (n + m) c' (zs ++ ys) ∧ w.grownBy w' (Value.slice A n c).ownBlock ∧
      (A' = A ∨ A' = some ⟨w.heap.size, 0, none⟩) := by
  obtain ⟨i, hi, hz, hs, hb⟩ := info_parts info8
  rcases B with _ | ad
  · have hm0 : m = 0 := by
      rcases Nat.eq_zero_or_pos m with h0 | h0
      · exact h0
      · obtain ⟨_, _, h, _⟩ := hR.2 (by omega)
        cases h
    subst hm0
    have hys : ys = [] := List.eq_nil_of_length_eq_zero hm
    subst hys
    refine ⟨A, c, w, ?_, by simpa using hown, World.grownBy.refl w _, .inl rfl⟩
    have hcap := hown.cap
    rcases hown.form with ⟨rfl, rfl, rfl⟩ | ⟨g, rfl, _, _⟩
    · simp [Builtin.append_, run_underlying Try.underlying24, sizeOf, typeInfo, hi, Builtin.lenOf, Builtin.firstCells]
    · simp [Builtin.append_, run_underlying Try.underlying24, sizeOf, typeInfo, hi, Builtin.lenOf, Builtin.firstCells, hcap, storeCells]
  · have hcells : ∀ j u, (ys.map (Value.int .u8))[j]? = some u → w.cell? (ad.add j) = some u := by
      intro j u hu
      rcases Nat.eq_zero_or_pos ys.length with h0 | h0
      · have hys : ys = [] := List.eq_nil_of_length_eq_zero h0
        subst hys
        simp at hu
      · obtain ⟨b, off, e, hc⟩ := hR.2 h0
        injection e with e
        subst e
        have hj : j < ys.length := by
          rcases Nat.lt_or_ge j ys.length with h | h
          · exact h
          · rw [List.getElem?_eq_none (by simpa using h)] at hu; cases hu
        have h1 := hc j hj
        have hadd : (⟨b, off, none⟩ : Addr).add j = ⟨b, off + j, none⟩ := by unfold Addr.add; split <;> simp_all
        rw [hadd, h1, ← hu]
        simp [hj, List.getD]
    obtain ⟨v', w1, hrun, h2, h3, _, h5⟩ := run_append_own_at (P := Try.prog) w base 24 ty 5 i (.int .u8 0) 1 1 Try.underlying24 hi hz hs hb rfl (by decide) (.slice A n c) n _ hown.row ad m d (ys.map (Value.int .u8))
      (by simpa using hm) hcells (by intro u hu; obtain ⟨x, _, rfl⟩ := List.mem_map.1 hu; rfl) (by unfold maxLen; omega) (by omega) hbase
    have hcat : (zs ++ ys).length = n + m := by rw [List.length_append, hown.len, hm]
    have hBy : By (zs ++ ys) := hown.byt.app hR.1
    rw [← List.map_append] at h2
    rcases h2.2 with ⟨e, hn0⟩ | ⟨g, cap, cur, e, r⟩
    · subst e
      have hn : n + m = 0 := hn0
      refine ⟨none, 0, w1, by rw [hn]; exact hrun, ⟨hcat, hBy, by rw [hn] at h2 ⊢; exact h2⟩, h3, ?_⟩
      rcases h5 with h5 | h5
      · rcases hown.form with ⟨rfl, _⟩ | ⟨g, rfl, _⟩
        · exact .inl rfl
        · simp [Value.ownBlock] at h5
      · simp [Value.ownBlock] at h5
    · subst e
      refine ⟨some ⟨g, 0, none⟩, cap, w1, hrun, ⟨hcat, hBy, h2⟩, h3, ?_⟩
      rcases h5 with h5 | h5
      · rcases hown.form with ⟨rfl, _⟩ | ⟨g', rfl, _⟩
        · simp [Value.ownBlock] at h5
        · have : g = g' := by simpa [Value.ownBlock] using h5
          exact .inl (by rw [this])
      · have : g = w.heap.size := by simpa [Value.ownBlock] using h5
        exact .inr (by rw [this])

/-- append at a builtin: what is told, and what is left -/
theorem wpList_app {ops : Array Oper} {rest : List Oper} {o : Oper} {a : Act} {Q : Exit → Act → World → Prop} (hgd : o.guard = none) (s x : Operand)
    (ho : o.op = .call { callee := .builtin .append, args := #[s, x], argTypes := #[24, 24] })
    (hs : a.eval s = .slice A n c) (hown : Own w base A n c zs) {B : Option Addr} {m d : Nat} (ys : List Int) (hx : a.eval x = .slice B m d) (hR : Rd w B ys) (hm : ys.length = m) (hl : n + m ≤ 1000000000) (hbase : base ≤ w.heap.size)
    (h : ∀ A' c' w', Own w' base A' (n + m) c' (zs ++ ys) → w.grownBy w' (Value.slice A n c).ownBlock → (A' = A ∨ A' = some ⟨w.heap.size, 0, none⟩) → wpList Try.prog ops Q rest (a.put o.dst (.slice A' (n + m) c')) w') :
    wpList Try.prog ops Q (o :: rest) a w := by
  refine wpList_plain hgd fun _ hK => ?_
  obtain ⟨A', c', w', hrun, h2, h3, h4⟩ := run_app hown hR hm hl hbase o.type (d := d)
  unfold Oper.wp execOp
  simp only [ho, resolve, invoke, builtin, Sem.run_bind, Sem.run_pure, Result.andThen_ok, List.map_toArray, List.map_cons, List.map_nil, hs, hx, hrun]
  exact hK _ _ (h A' c' w' h2 h3 h4)
end

/-- what is kept when a row of one's own grew -/
theorem below_app {w0 w w' : World} {A : Option Addr} {n c B base : Nat} {zs : List Int} (h : Below B w0 w) (hg : w.grownBy w' (Value.slice A n c).ownBlock) (hown : Own w base A n c zs) (hB : B ≤ base) (hs : B ≤ w.heap.size) : Below B w0 w' :=
  h.grown hg hs fun k hk => by have := hown.row.lt k hk; omega
end Go.Proofs.Ytdkjipfemnfckaa

namespace Go.Proofs.Ytdkjipfemnfckaa
open Go.RowKit Plain
set_option linter.unusedVariables false
set_option maxRecDepth 100000

/-- the number of 16 bits at i; of 32 bits -/
def G16 (zs : List Int) (i : Nat) : Int := zs.getD i 0 * 256 + zs.getD (i + 1) 0
def G32 (zs : List Int) (i : Nat) : Int := G16 zs i * 65536 + G16 zs (i + 2)
theorem G16_range (zs : List Int) (h : By zs) (i : Nat) : 0 ≤ G16 zs i ∧ G16 zs i ≤ 65535 := by
  have := h.getD i; have := h.getD (i + 1); unfold G16; omega
theorem G32_range (zs : List Int) (h : By zs) (i : Nat) : 0 ≤ G32 zs i ∧ G32 zs i ≤ 4294967295 := by
  have := G16_range zs h i; have := G16_range zs h (i + 2); unfold G32; omega
theorem ret_int' {k : IntKind} {a b : Int} (h : a = b) : Ending.returned (.int k a) = .returned (.int k b) := by rw [h]
theorem or_w16 (x y : Int) (h0 : 0 ≤ x) (h1 : x ≤ 255) (h2 : 0 ≤ y) (h3 : y ≤ 255) : bits .or .u16 (x * 256) y = x * 256 + y := by go_bits2
theorem or_w32 (x y : Int) (h0 : 0 ≤ x) (h1 : x ≤ 65535) (h2 : 0 ≤ y) (h3 : y ≤ 65535) : bits .or .u32 (x * 65536) y = x * 65536 + y := by go_bits2

theorem get16_any (A : Option Addr) (n c : Nat) (zs : List Int) (a : Int) (i : Nat) (w : World) (hn : zs.length = n) (ha : a = (i : Int)) (hi : i + 1 < n) (hl : n ≤ 1000000) (hR : Rd w A zs) :
    Calls Try.prog 70 #[.slice A n c, .int .i64 a] w fun e w' => e = .returned (.int .u16 (G16 zs i)) ∧ ∃ q, w' = w.drewN q := by
  subst ha
  obtain ⟨b, off, rfl, hc⟩ := hR.2 (by omega)
  have c0 := hc i (by omega)
  have c1 := hc (i + 1) (by omega)
  have b0 := hR.1.getD i
  have b1 := hR.1.getD (i + 1)
  have HG := Lib.hid (show G16 zs i = zs.getD i 0 * 256 + zs.getD (i + 1) 0 from rfl)
  generalize zs.getD i 0 = x at *
  generalize zs.getD (i + 1) 0 = y at *
  have i0 : (i : Int) < (n : Int) := by omega
  have i1 : (i : Int) + 1 < (n : Int) := by omega
  have or1 := or_w16 x y b0.1 b0.2 b1.1 b1.2
  clear hc hR hn
  go_enter Try.func70, Try.ntmps70
  go_wp2
  go_quiet (fail)
  go_wp2
  go_ret
  exact ⟨ret_int' (by rw [HG.out]), nq, rfl⟩

theorem get32_any (A : Option Addr) (n c : Nat) (zs : List Int) (a : Int) (i : Nat) (w : World) (hn : zs.length = n) (ha : a = (i : Int)) (hi : i + 3 < n) (hl : n ≤ 1000000) (hR : Rd w A zs) :
    Calls Try.prog 81 #[.slice A n c, .int .i64 a] w fun e w' => e = .returned (.int .u32 (G32 zs i)) ∧ ∃ q, w' = w.drewN q := by
  have r0 := G16_range zs hR.1 i
  have r1 := G16_range zs hR.1 (i + 2)
  have or1 := or_w32 _ _ r0.1 r0.2 r1.1 r1.2
  have HR := Lib.hid hR
  have Hn := Lib.hid hn
  have Ha := Lib.hid ha
  have hab : 0 ≤ a ∧ a ≤ 1000000 := by omega
  clear hR hn ha
  go_enter Try.func81, Try.ntmps81
  go_wp2_with fail
  refine (get16_any A n c zs a i _ Hn.out Ha.out (by omega) hl HR.out).mono ?_
  rintro e w' ⟨rfl, q, rfl⟩
  go_wp2_with fail
  refine (get16_any A n c zs (a + 2) (i + 2) _ Hn.out (by rw [Ha.out]; omega) (by omega) hl (HR.out.drewN q)).mono ?_
  rintro e w' ⟨rfl, q2, rfl⟩
  go_wp2
  go_ret
  exact ⟨ret_int' rfl, _, rfl⟩

/-- two bytes laid -/
def P16 (zs : List Int) (i : Nat) (v : Int) : List Int := (zs.set i (v / 256)).set (i + 1) (v % 256)
def P32 (zs : List Int) (i : Nat) (v : Int) : List Int := P16 (P16 zs i (v / 65536)) (i + 2) (v % 65536)

/-- what is behind a call that writes one's own row alone -/
structure Laid (w w' : World) (base g n c : Nat) (zs : List Int) : Prop where
  own : Own w' base (some ⟨g, 0, none⟩) n c zs
  grow : w.grownBy w' (some g)
theorem Laid.below {w0 w w' : World} {B base g n c : Nat} {zs : List Int} (h : Laid w w' base g n c zs) (hb : Below B w0 w) (hg : B ≤ g) (hs : B ≤ w.heap.size) : Below B w0 w' :=
  hb.grown h.grow hs fun k hk => by injection hk with hk; omega

theorem put16_any (g n c base : Nat) (zs : List Int) (a v : Int) (i : Nat) (w : World) (ha : a = (i : Int)) (hi : i + 1 < n) (hl : n ≤ 1000000) (hv0 : 0 ≤ v) (hv1 : v ≤ 65535) (hO : Own w base (some ⟨g, 0, none⟩) n c zs) :
    Calls Try.prog 62 #[.slice (some ⟨g, 0, none⟩) n c, .int .i64 a, .int .u16 v] w fun e w' => e = .returned (.tuple #[]) ∧ Laid w w' base g n c (P16 zs i v) := by
  subst ha
  have c0 := hO.at (k := i) (by omega)
  have c1 := hO.at (k := i + 1) (by omega)
  have f0 := hO.free i
  have f1 := hO.free (i + 1)
  have i0 : (i : Int) < (n : Int) := by omega
  have i1 : (i : Int) + 1 < (n : Int) := by omega
  have h1 := hO.set i (v / 256) (by omega) (by omega)
  have h2 := h1.set (i + 1) (v % 256) (by omega) (by omega)
  have g1 := (hO.row.stored i (.int .u8 (v / 256))).2
  have g2 := (h1.row.stored (i + 1) (.int .u8 (v % 256))).2
  have HL := Lib.hid (show Laid w ((w.setCell ⟨g, i, none⟩ (.int .u8 (v / 256))).setCell ⟨g, i + 1, none⟩ (.int .u8 (v % 256))) base g n c (P16 zs i v) from ⟨h2, g1.trans g2⟩)
  clear h1 h2 g1 g2 hO
  go_enter Try.func62, Try.ntmps62
  go_wp2
  go_end0
  exact ⟨rfl, HL.out⟩

theorem put32_any (g n c base : Nat) (zs : List Int) (a v : Int) (i : Nat) (w : World) (ha : a = (i : Int)) (hi : i + 3 < n) (hl : n ≤ 1000000) (hv0 : 0 ≤ v) (hv1 : v ≤ 4294967295) (hO : Own w base (some ⟨g, 0, none⟩) n c zs) :
    Calls Try.prog 63 #[.slice (some ⟨g, 0, none⟩) n c, .int .i64 a, .int .u32 v] w fun e w' => e = .returned (.tuple #[]) ∧ Laid w w' base g n c (P32 zs i v) := by
  have HO := Lib.hid hO
  have Ha := Lib.hid ha
  have hab : 0 ≤ a ∧ a ≤ 1000000 := by omega
  clear hO ha
  go_enter Try.func63, Try.ntmps63
  go_wp2_with fail
  refine (put16_any g n c base zs a (v / 65536) i _ Ha.out (by omega) hl (by omega) (by omega) HO.out).mono ?_
  rintro e w1 ⟨rfl, hL⟩
  have HL := Lib.hid hL
  clear hL
  go_wp2_with fail
  refine (put16_any g n c base _ (a + 2) (v % 65536) (i + 2) _ (by rw [Ha.out]; omega) (by omega) hl (by omega) (by omega) HL.out.own).mono ?_
  rintro e w2 ⟨rfl, hL2⟩
  have HL2 := Lib.hid (show Laid w w2 base g n c (P32 zs i v) from ⟨hL2.own, HL.out.grow.trans hL2.grow⟩)
  clear hL2
  go_wp2
  go_end0
  exact ⟨rfl, HL2.out⟩
end Go.Proofs.Ytdkjipfemnfckaa
