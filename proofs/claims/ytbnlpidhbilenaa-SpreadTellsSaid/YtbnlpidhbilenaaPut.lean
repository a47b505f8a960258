/-
  Contract of head.Put: a plain head and bytes behind it. Conditions: at most 1000000 bytes are handed in.
-/
import Derived.Test.YtbnlpidhbilenaaHead
import Derived.Laws.CopyOwn
namespace Go.Proofs.Ytbnlpidhbilenaa
open Go.RowKit Plain
set_option linter.unusedVariables false
set_option maxRecDepth 100000

theorem zeros_list (n : Nat) : (madeCells #[Value.int .u8 0] (n * 1)).toList = (List.replicate n (0 : Int)).map (Value.int .u8) := by
  rw [toList_madeCells_one, Nat.mul_one, List.map_replicate]
theorem By.zeros (n : Nat) : By (List.replicate n 0) := by intro x hx; rw [List.eq_of_mem_replicate hx]; omega

/-- make of so many bytes -/
theorem wpList_mk {w : World} {ops : Array Oper} {rest : List Oper} {o : Oper} {a : Act} {Q : Exit → Act → World → Prop} (hg : o.guard = none) (l c : Operand) (hop : o.op = Op.makeSlice 27 l c)
    (base : Nat) (L C : Int) (n : Nat) (hl : a.eval l = .int .i64 L) (hc : a.eval c = .int .i64 C) (hL : L = (n : Int)) (hC : C = (n : Int)) (b3 : n ≤ 1000000000) (b4 : base ≤ w.heap.size)
    (hK : ∀ w', Own w' base (some ⟨w.heap.size, 0, none⟩) n n (List.replicate n 0) → w.grownBy w' none → wpList Try.prog ops Q rest (a.put o.dst (.slice (some ⟨w.heap.size, 0, none⟩) n n)) w') :
    wpList Try.prog ops Q (o :: rest) a w := by
  obtain ⟨i, hi, hz, hs, hb⟩ := info_parts info8
  refine wpList_make_full w hg l c 27 hop base 5 i (.int .u8 0) 1 Try.underlying27 hi hz hs .i64 .i64 L C n hl hc hL hC (by rw [hb]; omega) (by unfold maxLen; omega) b4 ?_
  intro w' h1 h2
  refine hK w' ⟨List.length_replicate, By.zeros n, ?_⟩ h2
  have := h1
  rw [show (Value.int IntKind.u8 0).cells = #[Value.int .u8 0] from rfl, zeros_list] at this
  exact this

/-- copy into the tail of a row of one's own that is full -/
theorem wpList_cpy {w : World} {ops : Array Oper} {rest : List Oper} {o : Oper} {a : Act} {Q : Exit → Act → World → Prop} (hgd : o.guard = none) (d s : Operand)
    (ho : o.op = .call { callee := .builtin .copy, args := #[d, s], argTypes := #[27, 27] })
    (base g n k : Nat) (zs ys : List Int) (hown : Own w base (some ⟨g, 0, none⟩) n n zs) (dp sp : Option Addr) (dCap m sCap : Nat) (hd : a.eval d = .slice dp m dCap) (hs : a.eval s = .slice sp m sCap)
    (hk : k + m = n) (hdp : 0 < m → dp = some ⟨g, k, none⟩) (hR : Rd w sp ys) (hm : ys.length = m) (B : Nat) (w0 : World) (hb : Below B w0 w) (hBg : B ≤ g)
    (h : ∀ w', Own w' base (some ⟨g, 0, none⟩) n n (zs.take k ++ ys) → Below B w0 w' → wpList Try.prog ops Q rest (a.put o.dst (goInt m)) w') :
    wpList Try.prog ops Q (o :: rest) a w := by
  rcases hown.row.2 with ⟨e, _⟩ | ⟨g', cap, cur, e, hbg, hg, hnc, hcm, hcs, ht⟩
  · cases e
  injection e with e1 e2 e3
  injection e1 with e1
  injection e1 with e1
  subst e1 e3
  have hcur : cur = (zs.map (Value.int .u8)).toArray := by
    rw [← ht, List.take_of_length_le (by rw [Array.length_toList, hcs]; omega)]
  have hzl : (zs.map (Value.int .u8)).length = n := by rw [List.length_map]; exact hown.len
  have hyl : (ys.map (Value.int .u8)).length = m := by rw [List.length_map]; exact hm
  refine wpList_copy_splice hgd d s 27 27 ho 5 Try.underlying27 (by kernel_rfl) dp sp m dCap m sCap hd hs g k (zs.map (Value.int .u8)) 5 (by rw [hg, hcur]) (ys.map (Value.int .u8))
    (by rw [hyl]; exact (Nat.min_self m).symm) ?_ (by rw [hyl, hzl]; omega) (by intro v hv; obtain ⟨x, _, rfl⟩ := List.mem_map.1 hv; rfl) B w0 hb hBg ?_
  · intro hpos
    rw [hyl] at hpos
    obtain ⟨b, off, rfl, hc⟩ := hR.2 (by omega)
    refine ⟨hdp hpos, ⟨b, off, none⟩, rfl, fun j v hv => ?_⟩
    have hj : j < ys.length := by
      rcases Nat.lt_or_ge j ys.length with h | h
      · exact h
      · rw [List.getElem?_eq_none (by simpa using h)] at hv; cases hv
    have hadd : (⟨b, off, none⟩ : Addr).add j = ⟨b, off + j, none⟩ := by unfold Addr.add; split <;> simp_all
    rw [hadd, hc j hj, ← hv]
    simp [hj, List.getD]
  · intro w' hw' hb'
    rw [hyl]
    have hsp : splice (zs.map (Value.int .u8)) k (ys.map (Value.int .u8)) = (zs.take k ++ ys).map (Value.int .u8) := by
      unfold splice
      rw [hyl, List.drop_of_length_le (by omega), List.map_append, List.map_take]
      simp
    have hl : (zs.take k ++ ys).length = n := by rw [List.length_append, List.length_take, hown.len, hm]; omega
    have hw'' : w'.heap[g]? = some (.cells (splice (zs.map (Value.int .u8)) k (ys.map (Value.int .u8))).toArray 5 (0, 0)) := hw'
    rw [hsp] at hw''
    refine h w' ⟨hl, (hown.byt.take k).app hR.1, by rw [List.length_map, hl]; omega, .inr ⟨g, n, _, rfl, hbg, hw'', hnc, hcm, by rw [List.size_toArray, List.length_map, hl, Nat.mul_one], ?_⟩⟩ hb'
    show List.take (n * 1) (List.map (Value.int .u8) (zs.take k ++ ys)) = _
    rw [List.take_of_length_le (by rw [List.length_map, hl]; omega)]

/-- a plain head's twenty bytes, its sum left nought; with its sum; a frame -/
def hb0 (t p s d n : Int) : List Int := [69, 0, n / 256, n % 256, 0, 0, 64, 0, t, p, 0, 0, s / 65536 / 256, s / 65536 % 256, s % 65536 / 256, s % 65536 % 256, d / 65536 / 256, d / 65536 % 256, d % 65536 / 256, d % 65536 % 256]
def hb1 (t p s d n : Int) : List Int := P16 (hb0 t p s d n) 10 (Cs (hb0 t p s d n))
def frm (t p s d : Int) (ys : List Int) : List Int := hb1 t p s d (20 + (ys.length : Int)) ++ ys
theorem hb0_len (t p s d n : Int) : (hb0 t p s d n).length = 20 := rfl
theorem hb1_len (t p s d n : Int) : (hb1 t p s d n).length = 20 := by unfold hb1 P16; simp [hb0_len]
theorem hb0_by (t p s d n : Int) (t0 : 0 ≤ t) (t1 : t ≤ 255) (p0 : 0 ≤ p) (p1 : p ≤ 255) (s0 : 0 ≤ s) (s1 : s ≤ 4294967295) (d0 : 0 ≤ d) (d1 : d ≤ 4294967295) (n0 : 0 ≤ n) (n1 : n ≤ 65535) : By (hb0 t p s d n) := by
  unfold hb0
  repeat (first | exact By.nil | refine By.mk (by omega) (by omega) ?_)
theorem P16_app (l r : List Int) (i : Nat) (v : Int) (h : i + 1 < l.length) : P16 (l ++ r) i v = P16 l i v ++ r := by
  unfold P16
  rw [List.set_append_left _ _ (by omega), List.set_append_left _ _ (by rw [List.length_set]; omega)]
theorem P32_app (l r : List Int) (i : Nat) (v : Int) (h : i + 3 < l.length) : P32 (l ++ r) i v = P32 l i v ++ r := by
  unfold P32
  rw [P16_app _ _ _ _ (by omega), P16_app _ _ _ _ (by unfold P16; simp; omega)]

end Go.Proofs.Ytbnlpidhbilenaa
