/-
  Rows of one's own of 64 bit numbers: one more, one less, and that they stay. Conditions stand in each theorem.
-/
import Derived.Test.YtpaiicplcaeneaaRi6
import Derived.Test.YtpaiicplcaeneaaOwns
import Derived.Test.YtpaiicplcaeneaaCellsC
import Derived.Deep.AppendLies
namespace Go.Proofs.Ytpaiicplcaeneaa
open Go.RowKit Go.Deep Plain
set_option linter.unusedVariables false
set_option maxRecDepth 100000

/-- the block of a row of one's own -/
def ownL (v : Value) : List Nat := match v.ownBlock with
  | some g => [g]
  | none => []
theorem Keep.own {w w' : World} {v : Value} (h : w.grownBy w' v.ownBlock) : Keep (ownL v) w w' := by
  refine Keep.of_grownO h fun g hg => ?_
  unfold ownL
  rw [hg]
  simp
theorem own_not {w : World} {base : Nat} {e : TypeId} {size : Nat} {v : Value} {n : Nat} {xs : List Value} {b : Nat} {t : TypeId} {cs : Array Value} (h : w.ownsRow base e size v n xs) (hb : Blk w b t cs) (hne : t ≠ e) : v.ownBlock ≠ some b := by
  intro hg
  obtain ⟨_, _, cur, hq⟩ := own_blk h hg
  exact blk_types hb (show Blk w b e cur from hq) hne rfl
theorem ownL_not {w : World} {base : Nat} {e : TypeId} {size : Nat} {v : Value} {n : Nat} {xs : List Value} {b : Nat} {t : TypeId} {cs : Array Value} (h : w.ownsRow base e size v n xs) (hb : Blk w b t cs) (hne : t ≠ e) : b ∉ ownL v := by
  intro hx
  unfold ownL at hx
  split at hx
  · rename_i g hg
    obtain rfl : b = g := by simpa using hx
    exact own_not h hb hne hg
  · simp at hx
def uC (zs : List Int) : List Value := zs.map (Value.int .u64)
/-- one number more in a row of one's own -/
theorem wpList_addU {w w0 : World} {base n : Nat} {A : Option Addr} {c : Nat} {zs : List Int} {ops : Array Oper} {rest : List Oper} {o : Oper} {a : Act} {Q : Exit → Act → World → Prop} (hgd : o.guard = none) (sx xx : Operand)
    (ho : o.op = .call { callee := .builtin .append, args := #[sx, xx], argTypes := #[34, 34] })
    (hs : a.eval sx = .slice A n c) (hI : w.ownsRow base 22 1 (.slice A n c) n (uC zs)) (B : Below base w0 w) (hbase : base ≤ w.heap.size) (v : Int) (hn : n ≤ 100000)
    (H : Nat) (hx : a.eval xx = .slice (some ⟨H, 0, none⟩) 1 1) (hH : w.heap.size = H)
    (h : ∀ A' c' w', w'.ownsRow base 22 1 (.slice A' ((n + 1 : Nat) : Nat) c') (n + 1) (uC (zs ++ [v])) → Below base w0 w' → Keep (ownL (.slice A n c)) w w' → wpList Try.prog ops Q rest (a.put o.dst (.slice A' (n + 1) c')) w') :
    wpList Try.prog ops Q (o :: rest) a (w.alloc (.cells #[.int .u64 v] 22)) := by
  obtain ⟨i, hi, hz, hsz, hb⟩ := info_parts info64
  have hal := ball w (.cells #[.int .u64 v] 22)
  have ra1 := own_below hI hal
  have hbk := Blk.new w 22 #[.int .u64 v]
  rw [hH] at hbk
  refine wpList_append_lies (P := Try.prog) (w := w.alloc (.cells #[.int .u64 v] 22)) hgd sx xx 34 ho base 22 i _ 1 8 Try.underlying34 hi hz hsz hb rfl (by omega) _ n (uC zs) hs ra1 ⟨H, 0, none⟩ 1 1 [.int .u64 v] hx rfl ?_ ?_ (by omega) (by unfold maxLen; omega) (by omega) (by simp; omega) _ rfl ?_
  · intro j u hu
    rw [addr_add, Nat.zero_add, hbk.cell]
    simpa using hu
  · intro u hu
    simp at hu
    subst hu; rfl
  · intro g cap w' how hg hgo hlt
    refine h (some ⟨g, 0, none⟩) cap w' ?_ ?_ ?_
    · rw [show uC (zs ++ [v]) = uC zs ++ [.int .u64 v] by simp [uC]]; exact how
    · exact (B.alloc hbase _).grown hg (by simp; omega) (fun k hk => (own_blk ra1 hk).1)
    · exact (Keep.of_below (bs := ownL (.slice A n c)) hal).trans (Keep.own hg)
/-- the last one is left out -/
theorem own_less {w : World} {base n m : Nat} {A : Option Addr} {c : Nat} {zs : List Int} (h : w.ownsRow base 22 1 (.slice A n c) n (uC zs)) (hm : m ≤ n) (h0 : 0 < n) : w.ownsRow base 22 1 (.slice A m c) m (uC (zs.take m)) := by
  obtain ⟨h1, h2⟩ := h
  have hl : zs.length = n := by simpa [uC] using h1
  refine ⟨by simp [uC]; omega, ?_⟩
  rcases h2 with ⟨q, _⟩ | ⟨g, cap, cur, q, hb, hh, hc, hcm, hs, ht⟩
  · exfalso
    injection q with _ q _
    omega
  · injection q with q1 q2 q3
    subst q1 q3
    refine .inr ⟨g, _, cur, rfl, hb, hh, by omega, hcm, hs, ?_⟩
    rw [Nat.mul_one] at ht ⊢
    rw [show uC (zs.take m) = (uC zs).take m by simp [uC], ← ht, List.take_take, Nat.min_eq_left hm]
/-- reading such a row -/
theorem own_cell {w : World} {base n : Nat} {A : Option Addr} {c : Nat} {zs : List Int} (h : w.ownsRow base 22 1 (.slice A n c) n (uC zs)) (h0 : 0 < n) : n ≤ c ∧ ∃ g, A = some ⟨g, 0, none⟩ ∧ ∀ k, k < n → w.cell? ⟨g, k, none⟩ = some (.int .u64 (zs.getD k 0)) := by
  obtain ⟨h1, h2⟩ := h
  have hl : zs.length = n := by simpa [uC] using h1
  rcases h2 with ⟨q, _⟩ | ⟨g, cap, cur, q, hb, hh, hc, hcm, hs, ht⟩
  · exfalso
    injection q with _ q _
    omega
  · injection q with q1 q2 q3
    subst q1 q3
    refine ⟨hc, g, rfl, fun k hk => ?_⟩
    have hblk : Blk w g 22 cur := hh
    rw [hblk.cell k]
    rw [Nat.mul_one] at ht
    have h3 : (cur.toList.take n)[k]? = (uC zs)[k]? := by rw [ht]
    rw [List.getElem?_take_of_lt hk] at h3
    have hkz : k < zs.length := by omega
    have h4 : (uC zs)[k]? = some (.int .u64 (zs.getD k 0)) := by simp [uC, hkz, List.getD]
    rw [h4] at h3
    simpa using h3
section
variable {w0 w w' : World} {gr gc gn N pu go pu' go' : Nat} {vs vs' : List Int} {P G : Option Nat} {p g p' g' : RSt} {v : Int} {a : Nat}
theorem RgW.own (h : RgW w0 w gr gc gn N pu go vs P G p g) {base n : Nat} {v : Value} {xs : List Value} (ho : w.ownsRow base 22 1 v n xs) (hk : Keep (ownL v) w w') (hb : Below w0.heap.size w0 w') : RgW w0 w' gr gc gn N pu go vs P G p g :=
  ⟨⟨hk.blk h.rb.rs (ownL_not ho h.rb.rs (by decide)), h.rb.cl.keep hk (ownL_not ho h.rb.cl.st (by decide)) (ownL_not ho h.rb.cl.nu (by decide)),
    fun a ha => hk.blk (h.rb.ps a ha) (ownL_not ho (h.rb.ps a ha) (by decide)), fun a ha => hk.blk (h.rb.gs a ha) (ownL_not ho (h.rb.gs a ha) (by decide)), h.rb.n1, h.rb.n2, h.rb.ne⟩, hb, h.lr, h.ln, h.lp, h.lg⟩
/-- such a row stays when the ring does a step -/
theorem own_ring {base n : Nat} {v : Value} {xs : List Value} (ho : w.ownsRow base 22 1 v n xs) (h : RgW w0 w gr gc gn N pu go vs P G p g) (hk : Keep [gr, gn, a] w w') (ha : P = some a ∨ G = some a) : w'.ownsRow base 22 1 v n xs := by
  refine own_keep ho hk fun b hb hx => ?_
  simp only [List.mem_cons, List.not_mem_nil, or_false] at hx
  rcases hx with rfl | rfl | rfl
  · exact own_not ho h.rb.rs (by decide) hb
  · exact own_not ho h.rb.cl.nu (by decide) hb
  · rcases ha with ha | ha
    · exact own_not ho (h.rb.ps _ ha) (by decide) hb
    · exact own_not ho (h.rb.gs _ ha) (by decide) hb
theorem own_ring1 {base n : Nat} {v : Value} {xs : List Value} (ho : w.ownsRow base 22 1 v n xs) (h : RgW w0 w gr gc gn N pu go vs P G p g) (hk : Keep [gr] w w') : w'.ownsRow base 22 1 v n xs := by
  refine own_keep ho hk fun b hb hx => ?_
  simp only [List.mem_cons, List.not_mem_nil, or_false] at hx
  subst hx
  exact own_not ho h.rb.rs (by decide) hb
def DoW (w0 w : World) (gr gc gn N pu go : Nat) (vs : List Int) (P G : Option Nat) (p g : RSt) (a : Nat) (b : Bool) (e : Ending) (w' : World) : Prop :=
  e = .returned (.bool b) ∧ RgW w0 w' gr gc gn N pu go vs P G p g ∧ Keep [gr, gn, a] w w'
theorem RgW.doP1 {en : Int} {td : Bool} (h : RgW w0 w gr gc gn N pu go vs P G ⟨1, v, en, td⟩ g) (ha : P = some a) (h1 : go ≤ pu) (h3 : pu ≤ 1000000) (s : RSt) (b : Bool) (hs : s = if N ≤ pu - go then ⟨0, v, 9, td⟩ else ⟨2, v, en, td⟩) (hb : (s.nx == 0) = b) :
    Calls Try.prog 15 #[.pointer (some ⟨gr, 0, none⟩), .pointer (some ⟨a, 0, none⟩)] w (DoW w0 w gr gc gn N pu go vs P G s g a b) :=
  (Go.Proofs.Ytpaiicplcaeneaa.doP1 h.rb ha h1 h3 s b hs hb).mono fun _ _ ⟨he, hr, hk⟩ => ⟨he, h.stepK hr (h.lp a ha) hk, hk⟩
theorem RgW.doP2 {en : Int} {td : Bool} (h : RgW w0 w gr gc gn N pu go vs P G ⟨2, v, en, td⟩ g) (ha : P = some a) (hv : U64 v) (h3 : pu ≤ 1000000) :
    Calls Try.prog 15 #[.pointer (some ⟨gr, 0, none⟩), .pointer (some ⟨a, 0, none⟩)] w (DoW w0 w gr gc gn N pu go (vs.set (pu % N) v) P G ⟨3, v, en, td⟩ g a false) :=
  (Go.Proofs.Ytpaiicplcaeneaa.doP2 h.rb ha hv h3).mono fun _ _ ⟨he, hr, hk⟩ => ⟨he, h.stepK hr (h.lp a ha) hk, hk⟩
theorem RgW.doP3 {en : Int} {td : Bool} (h : RgW w0 w gr gc gn N pu go vs P G ⟨3, v, en, td⟩ g) (ha : P = some a) (h3 : pu ≤ 1000000) (m : Nat) (hm : m = pu + 1) :
    Calls Try.prog 15 #[.pointer (some ⟨gr, 0, none⟩), .pointer (some ⟨a, 0, none⟩)] w (DoW w0 w gr gc gn N m go vs P G ⟨0, v, 0, td⟩ g a true) :=
  (Go.Proofs.Ytpaiicplcaeneaa.doP3 h.rb ha h3 m hm).mono fun _ _ ⟨he, hr, hk⟩ => ⟨he, h.stepK hr (h.lp a ha) hk, hk⟩
theorem RgW.doG4 {en : Int} {td : Bool} (h : RgW w0 w gr gc gn N pu go vs P G p ⟨4, v, en, td⟩) (ha : G = some a) (s : RSt) (b : Bool) (hs : s = if pu = go then ⟨0, v, 7, td⟩ else ⟨5, v, en, td⟩) (hb : (s.nx == 0) = b) :
    Calls Try.prog 15 #[.pointer (some ⟨gr, 0, none⟩), .pointer (some ⟨a, 0, none⟩)] w (DoW w0 w gr gc gn N pu go vs P G p s a b) :=
  (Go.Proofs.Ytpaiicplcaeneaa.doG4 h.rb ha s b hs hb).mono fun _ _ ⟨he, hr, hk⟩ => ⟨he, h.stepK hr (h.lg a ha) hk, hk⟩
theorem RgW.doG5 {en : Int} {td : Bool} (h : RgW w0 w gr gc gn N pu go vs P G p ⟨5, v, en, td⟩) (ha : G = some a) (h3 : go ≤ 1000000) (x : Int) (hx : vs.getD (go % N) 0 = x) :
    Calls Try.prog 15 #[.pointer (some ⟨gr, 0, none⟩), .pointer (some ⟨a, 0, none⟩)] w (DoW w0 w gr gc gn N pu go vs P G p ⟨6, x, en, td⟩ a false) :=
  (Go.Proofs.Ytpaiicplcaeneaa.doG5 h.rb ha h3 x hx).mono fun _ _ ⟨he, hr, hk⟩ => ⟨he, h.stepK hr (h.lg a ha) hk, hk⟩
theorem RgW.doG6 {en : Int} {td : Bool} (h : RgW w0 w gr gc gn N pu go vs P G p ⟨6, v, en, td⟩) (ha : G = some a) (h3 : go ≤ 1000000) (m : Nat) (hm : m = go + 1) :
    Calls Try.prog 15 #[.pointer (some ⟨gr, 0, none⟩), .pointer (some ⟨a, 0, none⟩)] w (DoW w0 w gr gc gn N pu m vs P G p ⟨0, v, 0, true⟩ a true) :=
  (Go.Proofs.Ytpaiicplcaeneaa.doG6 h.rb ha h3 m hm).mono fun _ _ ⟨he, hr, hk⟩ => ⟨he, h.stepK hr (h.lg a ha) hk, hk⟩
end
end Go.Proofs.Ytpaiicplcaeneaa
