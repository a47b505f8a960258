/-
  Several small texts in one: Owns, I2, PpA, PpB. Conditions stand in each theorem.
-/
import Derived.Test.YtmbceafeonjffaaGA
import Derived.Deep.AppendLies
import Derived.Test.YtmbceafeonjffaaGH
import Derived.Laws.AppendOwnNone
namespace Go.Proofs.Ytmbceafeonjffaa
open Go.RowKit Plain
set_option linter.unusedVariables false
set_option maxRecDepth 100000

section
variable {w w' : World} {base base' size size' n m : Nat} {e e' : TypeId} {v v' : Value} {xs ys : List Value} {o : Option Nat}
theorem own_base (h : w.ownsRow base e size v n xs) (hb : base' ≤ base) : w.ownsRow base' e size v n xs := by
  refine ⟨h.1, ?_⟩
  rcases h.2 with q | ⟨g, cap, cur, q, hg, r⟩
  · exact .inl q
  · exact .inr ⟨g, cap, cur, q, Nat.le_trans hb hg, r⟩
theorem own_blk (h : w.ownsRow base e size v n xs) {g : Nat} (hg : v.ownBlock = some g) : base ≤ g ∧ g < w.heap.size ∧ ∃ cur, w.heap[g]? = some (.cells cur e (0, 0)) := by
  rcases h.2 with ⟨q, _⟩ | ⟨g', cap, cur, q, hb, hh, _⟩
  · rw [q] at hg; cases hg
  · rw [q] at hg
    simp [Value.ownBlock] at hg
    subst hg
    exact ⟨hb, (Array.getElem?_eq_some_iff.1 hh).1, cur, hh⟩
theorem own_grown (h : w.ownsRow base e size v n xs) (hg : w.grownBy w' o) (hne : ∀ g, v.ownBlock = some g → o ≠ some g) : w'.ownsRow base e size v n xs := by
  refine ⟨h.1, ?_⟩
  rcases h.2 with q | ⟨g, cap, cur, q, hb, hh, r⟩
  · exact .inl q
  · refine .inr ⟨g, cap, cur, q, hb, ?_, r⟩
    have hlt : g < w.heap.size := (Array.getElem?_eq_some_iff.1 hh).1
    rw [hg.block g hlt (fun x => hne g (by rw [q]; rfl) x.symm)]; exact hh
theorem own_keep {bs : List Nat} (h : w.ownsRow base e size v n xs) (hk : Keep bs w w') (hne : ∀ g, v.ownBlock = some g → g ∉ bs) : w'.ownsRow base e size v n xs := by
  refine ⟨h.1, ?_⟩
  rcases h.2 with q | ⟨g, cap, cur, q, hb, hh, r⟩
  · exact .inl q
  · refine .inr ⟨g, cap, cur, q, hb, ?_, r⟩
    have hlt : g < w.heap.size := (Array.getElem?_eq_some_iff.1 hh).1
    rw [hk.block g hlt (hne g (by rw [q]; rfl))]; exact hh
theorem own_below (h : w.ownsRow base e size v n xs) (hb : Below w.heap.size w w') : w'.ownsRow base e size v n xs := own_keep h (Keep.of_below (bs := []) hb) (fun _ _ => by simp)
/-- rows of unlike elements are apart -/
theorem own_types (h : w.ownsRow base e size v n xs) (h' : w.ownsRow base' e' size' v' m ys) (hne : e ≠ e') {g : Nat} (hg : v.ownBlock = some g) : v'.ownBlock ≠ some g := by
  intro hg'
  obtain ⟨_, _, c1, q1⟩ := own_blk h hg
  obtain ⟨_, _, c2, q2⟩ := own_blk h' hg'
  rw [q1] at q2
  injection q2 with q2
  injection q2 with _ q2
  exact hne q2
end

end Go.Proofs.Ytmbceafeonjffaa

namespace Go.Proofs.Ytmbceafeonjffaa
open Go.RowKit Plain
set_option linter.unusedVariables false
set_option maxRecDepth 100000
theorem infoInt : (Try.prog.info? 3).map (fun i => (i.zero, i.size, i.bytes)) = some (some (.int .i64 0), 1, 8) := by kernel_rfl
def iv (l : List Int) : List Value := l.map (Value.int .i64)
theorem iv_app (a b : List Int) : iv (a ++ b) = iv a ++ iv b := by unfold iv; simp
structure I2 (w : World) (base na nb : Nat) (va vb : Value) (xa xb : List Int) : Prop where
  ra : w.ownsRow base 3 1 va na (iv xa)
  rb : w.ownsRow base 3 1 vb nb (iv xb)
  ap : ∀ g, va.ownBlock = some g → vb.ownBlock ≠ some g
theorem I2.swap {w : World} {base na nb : Nat} {va vb : Value} {xa xb : List Int} (h : I2 w base na nb va vb xa xb) : I2 w base nb na vb va xb xa := ⟨h.rb, h.ra, fun g h1 h2 => h.ap g h2 h1⟩
theorem I2.nil (w : World) (base : Nat) : I2 w base 0 0 (.slice none 0 0) (.slice none 0 0) [] [] := ⟨World.ownsRow_nil _ _ _ _, World.ownsRow_nil _ _ _ _, fun g h => by cases h⟩
theorem I2.below {w w' : World} {base na nb : Nat} {va vb : Value} {xa xb : List Int} (h : I2 w base na nb va vb xa xb) (hb : Below w.heap.size w w') : I2 w' base na nb va vb xa xb := ⟨own_below h.ra hb, own_below h.rb hb, h.ap⟩
theorem wpList_i2 {w w0 : World} {base na nb : Nat} {A : Option Addr} {c : Nat} {vb : Value} {xa xb : List Int} {ops : Array Oper} {rest : List Oper} {o : Oper} {a : Act} {Q : Exit → Act → World → Prop} (hgd : o.guard = none) (sx xx : Operand)
    (ho : o.op = .call { callee := .builtin .append, args := #[sx, xx], argTypes := #[29, 29] })
    (hs : a.eval sx = .slice A na c) (hI : I2 w base na nb (.slice A na c) vb xa xb) (B : Below base w0 w) (hbase : base ≤ w.heap.size) (x : Int) (hn : na ≤ 1000000)
    (H : Nat) (hx : a.eval xx = .slice (some ⟨H, 0, none⟩) 1 1) (hH : w.heap.size = H)
    (h : ∀ A' c' w', I2 w' base (na + 1) nb (.slice A' (na + 1) c') vb (xa ++ [x]) xb → Below base w0 w' → Keep ((Value.slice A na c).ownBlock.toList) w w' → wpList Try.prog ops Q rest (a.put o.dst (.slice A' (na + 1) c')) w') :
    wpList Try.prog ops Q (o :: rest) a (w.alloc (.cells #[.int .i64 x] 3)) := by
  obtain ⟨i, hi, hz, hsz, hb⟩ := info_parts infoInt
  have hal := ball w (.cells #[.int .i64 x] 3)
  have ra1 := own_below hI.ra hal
  have rb1 := own_below hI.rb hal
  have hbk := Blk.new w 3 #[.int .i64 x]
  rw [hH] at hbk
  refine wpList_append_lies (P := Try.prog) (w := w.alloc (.cells #[.int .i64 x] 3)) hgd sx xx 29 ho base 3 i _ 1 8 Try.underlying29 hi hz hsz hb rfl (by omega) _ na (iv xa) hs ra1 ⟨H, 0, none⟩ 1 1 [.int .i64 x] hx rfl ?_ ?_ (by omega) (by unfold maxLen; omega) (by omega) (by simp; omega) _ rfl ?_
  · intro j u hu
    rw [addr_add, Nat.zero_add, hbk.cell]
    simpa using hu
  · intro u hu
    simp at hu
    subst hu; rfl
  · intro g cap w' how hg hgo hlt
    refine h (some ⟨g, 0, none⟩) cap w' ⟨?_, own_grown rb1 hg (fun g1 h1 h2 => hI.ap g1 h2 h1), ?_⟩ ?_ ?_
    · rw [iv_app]; exact how
    · intro g1 h1 h2
      simp [Value.ownBlock] at h1
      subst h1
      rcases hgo with hgo | hgo
      · exact hI.ap g hgo h2
      · have := (own_blk hI.rb h2).2.1
        rw [World.size_alloc] at hgo
        omega
    · exact (B.alloc hbase _).grown hg (by simp; omega) (fun k hk => (own_blk ra1 hk).1)
    · exact ((Keep.refl _ w).alloc _).trans (Keep.of_grownO hg (fun g1 h1 => by rw [h1]; simp))
theorem own_notin {w : World} {base n : Nat} {v : Value} {xs : List Value} (h : w.ownsRow base 3 1 v n xs) {g : Nat} {t : TypeId} {cs : Array Value} (hb : Blk w g t cs) (hne : t ≠ 3) : g ∉ v.ownBlock.toList := by
  intro hm
  rw [Option.mem_toList] at hm
  obtain ⟨_, _, cur, q⟩ := own_blk h hm
  unfold Blk at hb
  rw [hb] at q
  injection q with q
  injection q with _ q
  exact hne q
/-- a row of ints, as it is read -/
theorem own_rdn {w : World} {base n : Nat} {A : Option Addr} {m c : Nat} {xs : List Int} (h : w.ownsRow base 3 1 (.slice A m c) n (iv xs)) (hw : ∀ x ∈ xs, (Lit.int .i64 x).wf = true) : RdN .i64 w A xs ∧ xs.length = n ∧ m = n ∧ n ≤ c := by
  have hlen : xs.length = n := by have := h.1; simpa [iv] using this
  rcases h.2 with ⟨hv, rfl⟩ | ⟨g, cap, cur, hv, hg, hh, hnc, hcm, hcs, htk⟩
  · injection hv with e1 e2 e3
    subst e1 e2 e3
    obtain rfl : xs = [] := List.length_eq_zero_iff.1 hlen
    exact ⟨⟨by simp, fun h => absurd h (by simp)⟩, rfl, rfl, Nat.le_refl _⟩
  · injection hv with e1 e2 e3
    subst e1 e2 e3
    refine ⟨⟨hw, fun hp => ⟨g, 0, rfl, (Array.getElem?_eq_some_iff.1 hh).1, fun j hj => ?_⟩⟩, hlen, rfl, hnc⟩
    have e1 : cur.toList[j]? = (iv xs)[j]? := by
      rw [← htk, List.getElem?_take_of_lt (by omega)]
    unfold iv at e1
    rw [List.getElem?_map] at e1
    simp only [Array.getElem?_toList] at e1
    simp only [World.cell?, hh, Nat.zero_add, e1]
    simp [List.getD, hj]
end Go.Proofs.Ytmbceafeonjffaa

namespace Go.Proofs.Ytmbceafeonjffaa
open Go.RowKit Go.Deep Plain
set_option linter.unusedVariables false
set_option linter.unusedSimpArgs false
set_option maxRecDepth 100000
/-- the blocks of a row of one's own -/
def ownLs (v : Value) : List Nat := match v.ownBlock with
  | some g => [g]
  | none => []
theorem Keep.owns {w w' : World} {v : Value} (h : w.grownBy w' v.ownBlock) : Keep (ownLs v) w w' := by
  refine Keep.of_grownO h fun g hg => ?_
  unfold ownLs
  rw [hg]
  simp
/-- a row of ints that the call itself made; where it is empty it is nil -/
structure OwI (base : Nat) (w : World) (A : Option Addr) (n c : Nat) (zs : List Int) : Prop where
  row : w.ownsRow base 3 1 (.slice A n c) n (iv zs)
  emp : n = 0 → A = none ∧ c = 0
section
variable {w w' w0 : World} {base base' n c : Nat} {A : Option Addr} {zs : List Int}
theorem OwI.len (h : OwI base w A n c zs) : zs.length = n := by have := h.row.1; simpa [iv] using this
theorem OwI.nil (base : Nat) (w : World) : OwI base w none 0 0 [] := ⟨World.ownsRow_nil _ _ _ _, fun _ => ⟨rfl, rfl⟩⟩
theorem OwI.below (h : OwI base w A n c zs) (hb : Below w.heap.size w w') : OwI base w' A n c zs := ⟨own_below h.row hb, h.emp⟩
theorem OwI.keep {bs : List Nat} (h : OwI base w A n c zs) (hk : Keep bs w w') (hne : ∀ g ∈ bs, ∀ cs, ¬ Blk w g 3 cs) : OwI base w' A n c zs :=
  ⟨own_keep h.row hk (fun g hg hm => by obtain ⟨_, _, cur, q⟩ := own_blk h.row hg; exact hne g hm cur q), h.emp⟩
theorem OwI.lower (h : OwI base w A n c zs) (hb : base' ≤ base) : OwI base' w A n c zs := ⟨own_base h.row hb, h.emp⟩
/-- reading such a row -/
theorem OwI.rd (h : OwI base w A n c zs) (h0 : 0 < n) : n ≤ c ∧ ∃ g, A = some ⟨g, 0, none⟩ ∧ g < w.heap.size ∧ base ≤ g ∧ ∀ k, k < n → w.cell? ⟨g, k, none⟩ = some (.int .i64 (zs.getD k 0)) := by
  have hl := h.len
  obtain ⟨h1, h2⟩ := h.row
  rcases h2 with ⟨q, _⟩ | ⟨g, cap, cur, q, hb, hh, hc, hcm, hs, ht⟩
  · exfalso
    injection q with _ q _
    omega
  · injection q with q1 q2 q3
    subst q1 q3
    have hblk : Blk w g 3 cur := hh
    refine ⟨hc, g, rfl, hblk.lt, hb, fun k hk => ?_⟩
    rw [hblk.cell k]
    rw [Nat.mul_one] at ht
    have h3 : (cur.toList.take n)[k]? = (iv zs)[k]? := by rw [ht]
    rw [List.getElem?_take_of_lt hk] at h3
    have hkz : k < zs.length := by omega
    have h4 : (iv zs)[k]? = some (.int .i64 (zs.getD k 0)) := by simp [iv, hkz, List.getD]
    rw [h4] at h3
    simpa using h3
end
/-- one more -/
theorem wpList_addI {w w0 : World} {base n : Nat} {A : Option Addr} {c : Nat} {zs : List Int} {ops : Array Oper} {rest : List Oper} {o : Oper} {a : Act} {Q : Exit → Act → World → Prop} (hgd : o.guard = none) (sx xx : Operand)
    (ho : o.op = .call { callee := .builtin .append, args := #[sx, xx], argTypes := #[29, 29] })
    (hs : a.eval sx = .slice A n c) (hI : OwI base w A n c zs) (B : Below base w0 w) (hbase : base ≤ w.heap.size) (v : Int) (hn : n ≤ 1000000)
    (H : Nat) (hx : a.eval xx = .slice (some ⟨H, 0, none⟩) 1 1) (hH : w.heap.size = H)
    (h : ∀ A' c' w', OwI base w' A' (n + 1) c' (zs ++ [v]) → Below base w0 w' → Keep (ownLs (.slice A n c)) w w' → wpList Try.prog ops Q rest (a.put o.dst (.slice A' (n + 1) c')) w') :
    wpList Try.prog ops Q (o :: rest) a (w.alloc (.cells #[.int .i64 v] 3)) := by
  obtain ⟨i, hi, hz, hsz, hb⟩ := info_parts infoInt
  have hal := ball w (.cells #[.int .i64 v] 3)
  have ra1 := own_below hI.row hal
  have hbk := Blk.new w 3 #[.int .i64 v]
  rw [hH] at hbk
  refine wpList_append_lies (P := Try.prog) (w := w.alloc (.cells #[.int .i64 v] 3)) hgd sx xx 29 ho base 3 i _ 1 8 Try.underlying29 hi hz hsz hb rfl (by omega) _ n (iv zs) hs ra1 ⟨H, 0, none⟩ 1 1 [.int .i64 v] hx rfl ?_ ?_ (by omega) (by unfold maxLen; omega) (by omega) (by simp; omega) _ rfl ?_
  · intro j u hu
    rw [addr_add, Nat.zero_add, hbk.cell]
    simpa using hu
  · intro u hu
    simp at hu
    subst hu; rfl
  · intro g cap w' how hg hgo hlt
    refine h (some ⟨g, 0, none⟩) cap w' ⟨?_, fun q => absurd q (by omega)⟩ ?_ ?_
    · rw [show iv (zs ++ [v]) = iv zs ++ [.int .i64 v] by simp [iv]]; exact how
    · exact (B.alloc hbase _).grown hg (by simp; omega) (fun k hk => (own_blk ra1 hk).1)
    · exact (Keep.of_below (bs := ownLs (.slice A n c)) hal).trans (Keep.owns hg)
/-- many more -/
theorem wpList_joinI {w w0 : World} {base n base2 m c2 : Nat} {A A2 : Option Addr} {c : Nat} {zs ys : List Int} {ops : Array Oper} {rest : List Oper} {o : Oper} {a : Act} {Q : Exit → Act → World → Prop} (hgd : o.guard = none) (sx xx : Operand)
    (ho : o.op = .call { callee := .builtin .append, args := #[sx, xx], argTypes := #[29, 29] })
    (hs : a.eval sx = .slice A n c) (hI : OwI base w A n c zs) (hx : a.eval xx = .slice A2 m c2) (hJ : OwI base2 w A2 m c2 ys) (B : Below base w0 w) (hbase : base ≤ w.heap.size) (hn : n + m ≤ 1000000)
    (h : ∀ A' c' w', OwI base w' A' (n + m) c' (zs ++ ys) → Below base w0 w' → Keep (ownLs (.slice A n c)) w w' → wpList Try.prog ops Q rest (a.put o.dst (.slice A' (n + m : Nat) c')) w') :
    wpList Try.prog ops Q (o :: rest) a w := by
  obtain ⟨i, hi, hz, hsz, hb⟩ := info_parts infoInt
  by_cases hm : m = 0
  · subst hm
    obtain ⟨rfl, rfl⟩ := hJ.emp rfl
    have hy : ys = [] := List.length_eq_zero_iff.1 hJ.len
    subst hy
    refine wpList_append_own_none hgd sx xx 29 ho base 3 i 1 Try.underlying29 hi _ n (iv zs) hs hI.row hx ?_
    exact h A c w (by simpa using hI) B (Keep.refl _ _)
  · obtain ⟨h1, g, rfl, hg, _, hc⟩ := hJ.rd (by omega)
    refine wpList_append_lies (P := Try.prog) (w := w) hgd sx xx 29 ho base 3 i _ 1 8 Try.underlying29 hi hz hsz hb rfl (by omega) _ n (iv zs) hs hI.row ⟨g, 0, none⟩ m c2 (iv ys) hx (by simp [iv, hJ.len]) ?_ ?_ (by omega) (by unfold maxLen; omega) (by omega) hbase _ rfl ?_
    · intro j u hu
      have hj : j < ys.length := by
        have := (List.getElem?_eq_some_iff.1 hu).1
        simpa [iv] using this
      rw [addr_add, Nat.zero_add, hc j (by rw [← hJ.len]; exact hj)]
      rw [← hu]
      simp [iv, hj, List.getD]
    · intro u hu
      unfold iv at hu
      obtain ⟨x, _, rfl⟩ := List.mem_map.1 hu
      rfl
    · intro g' cap w' how hgw hgo hlt
      refine h (some ⟨g', 0, none⟩) cap w' ⟨?_, fun q => absurd q (by omega)⟩ ?_ ?_
      · rw [iv_app]; exact how
      · exact B.grown hgw hbase (fun k hk => (own_blk hI.row hk).1)
      · exact Keep.owns hgw
/-- the numbers below i that the bits of s are in word k, rising -/
def numsI (k : Nat) (s : Int) (i : Nat) : List Int := ((List.range i).filter fun j => s.toNat.testBit j).map fun j => ((k * 32 + j : Nat) : Int)
def numsF (k : Nat) (s : Int) : List Int := numsI k s 32
theorem numsI_succ (k : Nat) (s : Int) (i : Nat) : numsI k s (i + 1) = numsI k s i ++ if s.toNat.testBit i then [((k * 32 + i : Nat) : Int)] else [] := by
  unfold numsI
  rw [List.range_succ, List.filter_append, List.map_append]
  congr 1
  by_cases h : s.toNat.testBit i = true <;> simp [h]
theorem numsI_len (k : Nat) (s : Int) (i : Nat) : (numsI k s i).length ≤ i := by
  unfold numsI
  rw [List.length_map]
  exact Nat.le_trans (List.length_filter_le _ _) (by simp)
theorem bits_shr1 (s i : Nat) (hs : s < 4294967296) (hi : i < 32) : bits .and .u32 ((s >>> i : Nat) : Int) 1 = if s.testBit i then 1 else 0 := by
  have hX : (BitVec.ofInt 32 ((s >>> i : Nat) : Int)).toNat = s >>> i := by
    have h : s >>> i ≤ s := Nat.shiftRight_le _ _
    generalize s >>> i = q at *
    simp; omega
  show IntKind.u32.wrap ((BitVec.ofInt 32 ((s >>> i : Nat) : Int) &&& BitVec.ofInt 32 1).toNat : Nat) = _
  rw [BitVec.toNat_and, hX, show (BitVec.ofInt 32 1).toNat = 1 from rfl, IntKind.wrap_u32]
  rw [Nat.testBit, Nat.and_comm]
  by_cases h : 1 &&& s >>> i = 0
  · rw [h]; rfl
  · have h2 : 1 &&& s >>> i ≤ 1 := Nat.and_le_left
    have h3 : 1 &&& s >>> i = 1 := by omega
    rw [h3]; rfl
set_option maxHeartbeats 4000000 in
theorem numbers_any (k s : Nat) (w : World) (hk : k ≤ 1000) (hs : s < 4294967296) :
    Calls Try.prog 44 #[.int .i64 k, .int .u32 s] w fun e w' => ∃ A n c, e = .returned (.slice A n c) ∧ OwI w.heap.size w' A n c (numsF k s) ∧ Below w.heap.size w w' := by
  go_enter Try.func44, Try.ntmps44
  go_wp2
  go_loopw [5, 7] (fun s5 s7 wr => ∃ i : Nat, ∃ A n c, i ≤ 32 ∧ s7 = .int .i64 i ∧ s5 = .slice A n c ∧ OwI w.heap.size wr A n c (numsI k s i) ∧ Below w.heap.size w wr) (fun _ s7 _ => 32 - (intOf s7).toNat)
  case atStart => exact ⟨0, none, 0, 0, Nat.zero_le _, rfl, rfl, OwI.nil _ _, Below.refl _ _⟩
  case round =>
    obtain ⟨i, A, n, c, hi, rfl, rfl, hI, hB⟩ := hrel
    have hn : n ≤ 32 := by have := hI.len; have := numsI_len k s i; omega
    have HSu := Lib.hid (numsI_succ k s i)
    have HI := Lib.hid hI
    have HB := Lib.hid hB
    clear hI hB
    by_cases hlt : i < 32
    · have d : decide ((i : Int) < 32) = true := decide_eq_true (by omega)
      have hbit := bits_shr1 s i hs hlt
      rw [show ((s >>> i : Nat) : Int) = (s : Int) / 2 ^ i by rw [Nat.shiftRight_eq_div_pow]; simp] at hbit
      by_cases hb : s.testBit i = true
      · rw [if_pos hb] at hbit
        have HS1 := Lib.hid (show numsI k s (i + 1) = numsI k s i ++ [((k * 32 + i : Nat) : Int)] by have := HSu.out; rw [Int.toNat_natCast, if_pos hb] at this; exact this)
        clear hb HSu
        have HW := Lib.hid (show ((k * 32 + i : Nat) : Int) = (k : Int) * 32 + (i : Int) by simp)
        have HZ := Lib.hid HB.out.size
        go_wp2_with (at_builtin; refine wpList_addI rfl (.tmp 15) (.tmp 20) rfl rfl (HI.out) (HB.out) (HZ.out) ((k : Int) * 32 + (i : Int)) (by omega) _ rfl rfl ?_; intro A' c' w' hI' hB' hK'; have HI1 := Lib.hid hI'; have HB1 := Lib.hid hB'; clear hI' hB' hK')
        go_roundw
        case rel => exact ⟨i + 1, A', n + 1, c', by omega, by go_num, by first | rfl | (simp; done), by rw [HS1.out, HW.out]; exact HI1.out, HB1.out⟩
        case measure => simp [intOf]; omega
      · rw [if_neg hb] at hbit
        have HS1 := Lib.hid (show numsI k s (i + 1) = numsI k s i by have := HSu.out; rw [Int.toNat_natCast, if_neg hb] at this; simpa using this)
        clear hb HSu
        go_wp2
        go_roundw
        case rel => exact ⟨i + 1, A, n, c, by omega, by go_num, rfl, by rw [HS1.out]; exact HI.out, HB.out⟩
        case measure => simp [intOf]; omega
    · have d : decide ((i : Int) < 32) = false := decide_eq_false (by omega)
      obtain rfl : i = 32 := by omega
      go_wp2
      go_ret
      exact ⟨A, n, c, rfl, HI.out, HB.out⟩
end Go.Proofs.Ytmbceafeonjffaa

namespace Go.Proofs.Ytmbceafeonjffaa
open Go.RowKit Go.Deep Plain
set_option linter.unusedVariables false
set_option linter.unusedSimpArgs false
set_option maxRecDepth 100000
theorem below2 {w0 w w' : World} (h : Below w.heap.size w w') (h0 : Below w0.heap.size w0 w) : Below w0.heap.size w0 w' := h0.trans (h.mono h0.size)
/-- a row of ints that a call made -/
def RowOk (zs : List Int) (w : World) (e : Ending) (w' : World) : Prop := ∃ A n c, e = .returned (.slice A n c) ∧ OwI w.heap.size w' A n c zs ∧ Below w.heap.size w w'
set_option maxHeartbeats 4000000 in
theorem got_any {w : World} {gs gc n : Nat} {s : Ps} (hs : StW w gs gc n s) (hn : n ≤ 32) :
    Calls Try.prog 15 #[.pointer (some ⟨gs, 0, none⟩)] w (RowOk (numsF s.wd s.tk) w) := by
  obtain ⟨tn, htn⟩ : ∃ tn : Nat, s.tk = tn := ⟨s.tk.toNat, by have := hs.ok.tr.1; omega⟩
  have htr := hs.ok.tr.2
  have hwd := hs.ok.wd
  obtain ⟨⟨gv, hsp, hg⟩, _⟩ := hs
  have c2 := hsp.c2
  have c37 := hsp.c37
  rw [htn] at c37 ⊢
  rw [htn] at htr
  have HN := Lib.hid (fun W => numbers_any s.wd tn W (by omega) (by omega))
  have hgl : gs < w.heap.size := hsp.blk.lt
  clear hsp hg htn
  go_enter Try.func15, Try.ntmps15
  go_upto_region 3 with fail
  go_region_held3 (fun W => W.cell? ⟨gs, 2, none⟩ = some (.int .i64 s.wd) ∧ W.cell? ⟨gs, 37, none⟩ = some (.int .u32 tn))
    (first | assumption | (exact ⟨c2, c37⟩) | (exact ⟨k2, k37⟩) | go_keep)
    (first | (go_at_call 44; refine (HN.out _).mono ?_; rintro e w' ⟨A, m, c, rfl, ho, hb⟩; have k2 := (hb.cell (p := ⟨gs, 2, none⟩) hgl).trans c2; have k37 := (hb.cell (p := ⟨gs, 37, none⟩) hgl).trans c37; have HO := Lib.hid ho; have HB := Lib.hid hb; clear ho hb))
  go_wp2
  go_ret
  exact ⟨A, m, c, rfl, HO.out, bthen (bdrew w) HB.out⟩
/-- the numbers that are free in the words below i -/
def freeI (l : List Int) (i : Nat) : List Int := (List.range i).flatMap fun k => numsF k (freeF (l.getD k 0))
def freeL (n : Nat) (l : List Int) : List Int := freeI l n
theorem freeI_succ (l : List Int) (i : Nat) : freeI l (i + 1) = freeI l i ++ numsF i (freeF (l.getD i 0)) := by
  unfold freeI
  rw [List.range_succ, List.flatMap_append]
  simp
theorem freeI_len (l : List Int) (i : Nat) : (freeI l i).length ≤ 32 * i := by
  induction i with
  | zero => simp [freeI]
  | succ i ih =>
    rw [freeI_succ, List.length_append]
    have := numsI_len i (freeF (l.getD i 0)) 32
    unfold numsF
    omega
set_option maxHeartbeats 4000000 in
theorem free_any {w : World} {gp gc gn n : Nat} {size : Int} {l : List Int} (h : PoS w gp gc gn n size l) (hn : n ≤ 32) :
    Calls Try.prog 16 #[.pointer (some ⟨gp, 0, none⟩)] w (RowOk (freeL n l) w) := by
  have HCP := Lib.hid (pcopy_any8 h (by omega))
  have HU := Lib.hid h.cl.u64
  have HL := Lib.hid h.cl.len
  clear h
  go_enter Try.func16, Try.ntmps16
  go_upto_region 3 with (go_at_call 22; refine (HCP.out).mono ?_; rintro e w1 ⟨rfl, hr, hb⟩)
  have HR := Lib.hid hr
  have HB1 := Lib.hid hb
  have hwl : w.heap.size < w1.heap.size := hr.lt
  clear hr hb HCP
  go_loopw [3, 9] (fun s3 s9 wr => ∃ i : Nat, ∃ A m c, i ≤ n ∧ s9 = .int .i64 i ∧ s3 = .slice A m c ∧ OwI w1.heap.size wr A m c (freeI l i) ∧ Below w1.heap.size w1 wr) (fun _ s9 _ => n - (intOf s9).toNat)
  case atStart => exact ⟨0, none, 0, 0, Nat.zero_le _, rfl, rfl, OwI.nil _ _, Below.refl _ _⟩
  case round =>
    obtain ⟨i, A, m, c, hi, rfl, rfl, hI, hB⟩ := hrel
    have hm : m ≤ 1024 := by have := hI.len; have := freeI_len l i; omega
    have HSu := Lib.hid (freeI_succ l i)
    have HI := Lib.hid hI
    have HB := Lib.hid hB
    have HRr := Lib.hid (HR.out.below hB)
    clear hI hB
    by_cases hlt : i < n
    · have d : decide ((i : Int) < (n : Int)) = true := decide_eq_true (by omega)
      obtain ⟨x, hx⟩ : ∃ x, l.getD i 0 = x := ⟨_, rfl⟩
      have hu := HU.out i
      unfold U64 at hu
      rw [hx] at hu
      have k0 : wr.cell? ⟨w.heap.size, i, none⟩ = some (.int .u64 x) := by rw [HRr.out.at (by rw [HL.out]; exact hlt), hx]
      have HFO := Lib.hid (freeOf_any x wr hu.1 hu.2)
      have hfr := freeF_rng x
      obtain ⟨fn, hfn⟩ : ∃ fn : Nat, freeF x = fn := ⟨(freeF x).toNat, by omega⟩
      have HNU := Lib.hid (numbers_any i fn wr (by omega) (by omega))
      rw [hfn] at HFO
      rw [hx, hfn] at HSu
      have hil : (i : Int) < (n : Int) := by omega
      clear hfn hfr hx
      have hni : m + 32 ≤ 2000 := by omega
      go_wp2_with (first | (go_at_call 51; refine (HFO.out).mono ?_; rintro e w2 ⟨rfl, rfl⟩) | (go_at_call 44; refine (HNU.out).mono ?_; rintro e w3 ⟨A2, m2, c2, rfl, ho, hb⟩; have HO := Lib.hid ho; have HI3 := Lib.hid (HI.out.below hb); have HB3 := Lib.hid (below2 hb HB.out); have hm2 : m2 ≤ 32 := (by have h1 := ho.len; have h2 := numsI_len i fn 32; unfold numsF at h1; omega); clear ho hb) | (at_builtin; refine wpList_joinI rfl (.tmp 14) (.tmp 18) rfl rfl (HI3.out) rfl (HO.out) (HB3.out) (HB3.out.size) (by omega) ?_; intro A' c' w' hI' hB' hK'; have HI1 := Lib.hid hI'; have HB1 := Lib.hid hB'; clear hI' hB' hK'))
      go_roundw
      case rel => exact ⟨i + 1, A', m + m2, c', by omega, by go_num, by first | rfl | (simp; done), by rw [HSu.out]; exact HI1.out, HB1.out⟩
      case measure => simp [intOf]; omega
    · have d : decide ((i : Int) < (n : Int)) = false := decide_eq_false (by omega)
      obtain rfl : i = n := by omega
      go_wp2
      go_ret
      exact ⟨A, m, c, rfl, HI.out.lower (by omega), bthen HB1.out HB.out⟩
end Go.Proofs.Ytmbceafeonjffaa
