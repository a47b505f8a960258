/-
  Rows of ints of one's own: one more, many more, what they read as; and the numbers that bits are (pool.numbers). Conditions stand in each theorem.
-/
import Derived.Test.YtmbceafeonjffaaPoP
import Derived.Test.YtmbceafeonjffaaI2
import Derived.Laws.AppendOwnNone
namespace Go.Proofs.Ytmbceafeonjffaa
open Go.RowKit Go.Deep Plain
set_option linter.unusedVariables false
set_option linter.unusedSimpArgs false
set_option maxRecDepth 100000
/-- the blocks of a row of one's own -/
def ownLs (v : Value) : List Nat := match v.ownBlock with
  | some g => [g]
  | none => []
theorem Keep.owns {w w' : World} {v : Value} (h : w.grownBy w' v.ownBlock) : Keep (ownLs v) w w' := by
  refine Keep.of_grownO h fun g hg => ?_
  unfold ownLs
  rw [hg]
  simp
/-- a row of ints that the call itself made; where it is empty it is nil -/
structure OwI (base : Nat) (w : World) (A : Option Addr) (n c : Nat) (zs : List Int) : Prop where
  row : w.ownsRow base 3 1 (.slice A n c) n (iv zs)
  emp : n = 0 → A = none ∧ c = 0
section
variable {w w' w0 : World} {base base' n c : Nat} {A : Option Addr} {zs : List Int}
theorem OwI.len (h : OwI base w A n c zs) : zs.length = n := by have := h.row.1; simpa [iv] using this
theorem OwI.nil (base : Nat) (w : World) : OwI base w none 0 0 [] := ⟨World.ownsRow_nil _ _ _ _, fun _ => ⟨rfl, rfl⟩⟩
theorem OwI.below (h : OwI base w A n c zs) (hb : Below w.heap.size w w') : OwI base w' A n c zs := ⟨own_below h.row hb, h.emp⟩
theorem OwI.keep {bs : List Nat} (h : OwI base w A n c zs) (hk : Keep bs w w') (hne : ∀ g ∈ bs, ∀ cs, ¬ Blk w g 3 cs) : OwI base w' A n c zs :=
  ⟨own_keep h.row hk (fun g hg hm => by obtain ⟨_, _, cur, q⟩ := own_blk h.row hg; exact hne g hm cur q), h.emp⟩
theorem OwI.lower (h : OwI base w A n c zs) (hb : base' ≤ base) : OwI base' w A n c zs := ⟨own_base h.row hb, h.emp⟩
/-- reading such a row -/
theorem OwI.rd (h : OwI base w A n c zs) (h0 : 0 < n) : n ≤ c ∧ ∃ g, A = some ⟨g, 0, none⟩ ∧ g < w.heap.size ∧ base ≤ g ∧ ∀ k, k < n → w.cell? ⟨g, k, none⟩ = some (.int .i64 (zs.getD k 0)) := by
  have hl := h.len
  obtain ⟨h1, h2⟩ := h.row
  rcases h2 with ⟨q, _⟩ | ⟨g, cap, cur, q, hb, hh, hc, hcm, hs, ht⟩
  · exfalso
    injection q with _ q _
    omega
  · injection q with q1 q2 q3
    subst q1 q3
    have hblk : Blk w g 3 cur := hh
    refine ⟨hc, g, rfl, hblk.lt, hb, fun k hk => ?_⟩
    rw [hblk.cell k]
    rw [Nat.mul_one] at ht
    have h3 : (cur.toList.take n)[k]? = (iv zs)[k]? := by rw [ht]
    rw [List.getElem?_take_of_lt hk] at h3
    have hkz : k < zs.length := by omega
    have h4 : (iv zs)[k]? = some (.int .i64 (zs.getD k 0)) := by simp [iv, hkz, List.getD]
    rw [h4] at h3
    simpa using h3
end
/-- one more -/
theorem wpList_addI {w w0 : World} {base n : Nat} {A : Option Addr} {c : Nat} {zs : List Int} {ops : Array Oper} {rest : List Oper} {o : Oper} {a : Act} {Q : Exit → Act → World → Prop} (hgd : o.guard = none) (sx xx : Operand)
    (ho : o.op = .call { callee := .builtin .append, args := #[sx, xx], argTypes := #[29, 29] })
    (hs : a.eval sx = .slice A n c) (hI : OwI base w A n c zs) (B : Below base w0 w) (hbase : base ≤ w.heap.size) (v : Int) (hn : n ≤ 1000000)
    (H : Nat) (hx : a.eval xx = .slice (some ⟨H, 0, none⟩) 1 1) (hH : w.heap.size = H)
    (h : ∀ A' c' w', OwI base w' A' (n + 1) c' (zs ++ [v]) → Below base w0 w' → Keep (ownLs (.slice A n c)) w w' → wpList Try.prog ops Q rest (a.put o.dst (.slice A' (n + 1) c')) w') :
    wpList Try.prog ops Q (o :: rest) a (w.alloc (.cells #[.int .i64 v] 3)) := by
  obtain ⟨i, hi, hz, hsz, hb⟩ := info_parts infoInt
  have hal := ball w (.cells #[.int .i64 v] 3)
  have ra1 := own_below hI.row hal
  have hbk := Blk.new w 3 #[.int .i64 v]
  rw [hH] at hbk
  refine wpList_append_lies (P := Try.prog) (w := w.alloc (.cells #[.int .i64 v] 3)) hgd sx xx 29 ho base 3 i _ 1 8 Try.underlying29 hi hz hsz hb rfl (by omega) _ n (iv zs) hs ra1 ⟨H, 0, none⟩ 1 1 [.int .i64 v] hx rfl ?_ ?_ (by omega) (by unfold maxLen; omega) (by omega) (by simp; omega) _ rfl ?_
  · intro j u hu
    rw [addr_add, Nat.zero_add, hbk.cell]
    simpa using hu
  · intro u hu
    simp at hu
    subst hu; rfl
  · intro g cap w' how hg hgo hlt
    refine h (some ⟨g, 0, none⟩) cap w' ⟨?_, fun q => absurd q (by omega)⟩ ?_ ?_
    · rw [show iv (zs ++ [v]) = iv zs ++ [.int .i64 v] by simp [iv]]; exact how
    · exact (B.alloc hbase _).grown hg (by simp; omega) (fun k hk => (own_blk ra1 hk).1)
    · exact (Keep.of_below (bs := ownLs (.slice A n c)) hal).trans (Keep.owns hg)
/-- many more -/
theorem wpList_joinI {w w0 : World} {base n base2 m c2 : Nat} {A A2 : Option Addr} {c : Nat} {zs ys : List Int} {ops : Array Oper} {rest : List Oper} {o : Oper} {a : Act} {Q : Exit → Act → World → Prop} (hgd : o.guard = none) (sx xx : Operand)
    (ho : o.op = .call { callee := .builtin .append, args := #[sx, xx], argTypes := #[29, 29] })
    (hs : a.eval sx = .slice A n c) (hI : OwI base w A n c zs) (hx : a.eval xx = .slice A2 m c2) (hJ : OwI base2 w A2 m c2 ys) (B : Below base w0 w) (hbase : base ≤ w.heap.size) (hn : n + m ≤ 1000000)
    (h : ∀ A' c' w', OwI base w' A' (n + m) c' (zs ++ ys) → Below base w0 w' → Keep (ownLs (.slice A n c)) w w' → wpList Try.prog ops Q rest (a.put o.dst (.slice A' (n + m : Nat) c')) w') :
    wpList Try.prog ops Q (o :: rest) a w := by
  obtain ⟨i, hi, hz, hsz, hb⟩ := info_parts infoInt
  by_cases hm : m = 0
  · subst hm
    obtain ⟨rfl, rfl⟩ := hJ.emp rfl
    have hy : ys = [] := List.length_eq_zero_iff.1 hJ.len
    subst hy
    refine wpList_append_own_none hgd sx xx 29 ho base 3 i 1 Try.underlying29 hi _ n (iv zs) hs hI.row hx ?_
    exact h A c w (by simpa using hI) B (Keep.refl _ _)
  · obtain ⟨h1, g, rfl, hg, _, hc⟩ := hJ.rd (by omega)
    refine wpList_append_lies (P := Try.prog) (w := w) hgd sx xx 29 ho base 3 i _ 1 8 Try.underlying29 hi hz hsz hb rfl (by omega) _ n (iv zs) hs hI.row ⟨g, 0, none⟩ m c2 (iv ys) hx (by simp [iv, hJ.len]) ?_ ?_ (by omega) (by unfold maxLen; omega) (by omega) hbase _ rfl ?_
    · intro j u hu
      have hj : j < ys.length := by
        have := (List.getElem?_eq_some_iff.1 hu).1
        simpa [iv] using this
      rw [addr_add, Nat.zero_add, hc j (by rw [← hJ.len]; exact hj)]
      rw [← hu]
      simp [iv, hj, List.getD]
    · intro u hu
      unfold iv at hu
      obtain ⟨x, _, rfl⟩ := List.mem_map.1 hu
      rfl
    · intro g' cap w' how hgw hgo hlt
      refine h (some ⟨g', 0, none⟩) cap w' ⟨?_, fun q => absurd q (by omega)⟩ ?_ ?_
      · rw [iv_app]; exact how
      · exact B.grown hgw hbase (fun k hk => (own_blk hI.row hk).1)
      · exact Keep.owns hgw
/-- the numbers below i that the bits of s are in word k, rising -/
def numsI (k : Nat) (s : Int) (i : Nat) : List Int := ((List.range i).filter fun j => s.toNat.testBit j).map fun j => ((k * 32 + j : Nat) : Int)
def numsF (k : Nat) (s : Int) : List Int := numsI k s 32
theorem numsI_succ (k : Nat) (s : Int) (i : Nat) : numsI k s (i + 1) = numsI k s i ++ if s.toNat.testBit i then [((k * 32 + i : Nat) : Int)] else [] := by
  unfold numsI
  rw [List.range_succ, List.filter_append, List.map_append]
  congr 1
  by_cases h : s.toNat.testBit i = true <;> simp [h]
theorem numsI_len (k : Nat) (s : Int) (i : Nat) : (numsI k s i).length ≤ i := by
  unfold numsI
  rw [List.length_map]
  exact Nat.le_trans (List.length_filter_le _ _) (by simp)
theorem bits_shr1 (s i : Nat) (hs : s < 4294967296) (hi : i < 32) : bits .and .u32 ((s >>> i : Nat) : Int) 1 = if s.testBit i then 1 else 0 := by
  have hX : (BitVec.ofInt 32 ((s >>> i : Nat) : Int)).toNat = s >>> i := by
    have h : s >>> i ≤ s := Nat.shiftRight_le _ _
    generalize s >>> i = q at *
    simp; omega
  show IntKind.u32.wrap ((BitVec.ofInt 32 ((s >>> i : Nat) : Int) &&& BitVec.ofInt 32 1).toNat : Nat) = _
  rw [BitVec.toNat_and, hX, show (BitVec.ofInt 32 1).toNat = 1 from rfl, IntKind.wrap_u32]
  rw [Nat.testBit, Nat.and_comm]
  by_cases h : 1 &&& s >>> i = 0
  · rw [h]; rfl
  · have h2 : 1 &&& s >>> i ≤ 1 := Nat.and_le_left
    have h3 : 1 &&& s >>> i = 1 := by omega
    rw [h3]; rfl
set_option maxHeartbeats 4000000 in
theorem numbers_any (k s : Nat) (w : World) (hk : k ≤ 1000) (hs : s < 4294967296) :
    Calls Try.prog 44 #[.int .i64 k, .int .u32 s] w fun e w' => ∃ A n c, e = .returned (.slice A n c) ∧ OwI w.heap.size w' A n c (numsF k s) ∧ Below w.heap.size w w' := by
  go_enter Try.func44, Try.ntmps44
  go_wp2
  go_loopw [5, 7] (fun s5 s7 wr => ∃ i : Nat, ∃ A n c, i ≤ 32 ∧ s7 = .int .i64 i ∧ s5 = .slice A n c ∧ OwI w.heap.size wr A n c (numsI k s i) ∧ Below w.heap.size w wr) (fun _ s7 _ => 32 - (intOf s7).toNat)
  case atStart => exact ⟨0, none, 0, 0, Nat.zero_le _, rfl, rfl, OwI.nil _ _, Below.refl _ _⟩
  case round =>
    obtain ⟨i, A, n, c, hi, rfl, rfl, hI, hB⟩ := hrel
    have hn : n ≤ 32 := by have := hI.len; have := numsI_len k s i; omega
    have HSu := Lib.hid (numsI_succ k s i)
    have HI := Lib.hid hI
    have HB := Lib.hid hB
    clear hI hB
    by_cases hlt : i < 32
    · have d : decide ((i : Int) < 32) = true := decide_eq_true (by omega)
      have hbit := bits_shr1 s i hs hlt
      rw [show ((s >>> i : Nat) : Int) = (s : Int) / 2 ^ i by rw [Nat.shiftRight_eq_div_pow]; simp] at hbit
      by_cases hb : s.testBit i = true
      · rw [if_pos hb] at hbit
        have HS1 := Lib.hid (show numsI k s (i + 1) = numsI k s i ++ [((k * 32 + i : Nat) : Int)] by have := HSu.out; rw [Int.toNat_natCast, if_pos hb] at this; exact this)
        clear hb HSu
        have HW := Lib.hid (show ((k * 32 + i : Nat) : Int) = (k : Int) * 32 + (i : Int) by simp)
        have HZ := Lib.hid HB.out.size
        go_wp2_with (at_builtin; refine wpList_addI rfl (.tmp 15) (.tmp 20) rfl rfl (HI.out) (HB.out) (HZ.out) ((k : Int) * 32 + (i : Int)) (by omega) _ rfl rfl ?_; intro A' c' w' hI' hB' hK'; have HI1 := Lib.hid hI'; have HB1 := Lib.hid hB'; clear hI' hB' hK')
        go_roundw
        case rel => exact ⟨i + 1, A', n + 1, c', by omega, by go_num, by first | rfl | (simp; done), by rw [HS1.out, HW.out]; exact HI1.out, HB1.out⟩
        case measure => simp [intOf]; omega
      · rw [if_neg hb] at hbit
        have HS1 := Lib.hid (show numsI k s (i + 1) = numsI k s i by have := HSu.out; rw [Int.toNat_natCast, if_neg hb] at this; simpa using this)
        clear hb HSu
        go_wp2
        go_roundw
        case rel => exact ⟨i + 1, A, n, c, by omega, by go_num, rfl, by rw [HS1.out]; exact HI.out, HB.out⟩
        case measure => simp [intOf]; omega
    · have d : decide ((i : Int) < 32) = false := decide_eq_false (by omega)
      obtain rfl : i = 32 := by omega
      go_wp2
      go_ret
      exact ⟨A, n, c, rfl, HI.out, HB.out⟩
end Go.Proofs.Ytmbceafeonjffaa
