/-
  Several small texts in one: Put, PutY, Heads, RwF. Conditions stand in each theorem.
-/
import Derived.Test.YtdkjipfemnfckaaGC
import Derived.Laws.CopyOwn
import Derived.Test.YtdkjipfemnfckaaPGet
namespace Go.Proofs.Ytdkjipfemnfckaa
open Go.RowKit Plain
set_option linter.unusedVariables false
set_option maxRecDepth 100000

theorem zeros_list (n : Nat) : (madeCells #[Value.int .u8 0] (n * 1)).toList = (List.replicate n (0 : Int)).map (Value.int .u8) := by
  rw [toList_madeCells_one, Nat.mul_one, List.map_replicate]
theorem By.zeros (n : Nat) : By (List.replicate n 0) := by intro x hx; rw [List.eq_of_mem_replicate hx]; omega

/-- make of so many bytes -/
theorem wpList_mk {w : World} {ops : Array Oper} {rest : List Oper} {o : Oper} {a : Act} {Q : Exit → Act → World → Prop} (hg : o.guard = none) (l c : Operand) (hop : o.op = Op.makeSlice 24 l c)
    (base : Nat) (L C : Int) (n : Nat) (hl : a.eval l = .int .i64 L) (hc : a.eval c = .int .i64 C) (hL : L = (n : Int)) (hC : C = (n : Int)) (b3 : n ≤ 1000000000) (b4 : base ≤ w.heap.size)
    (hK : ∀ w', Own w' base (some ⟨w.heap.size, 0, none⟩) n n (List.replicate n 0) → w.grownBy w' none → wpList Try.prog ops Q rest (a.put o.dst (.slice (some ⟨w.heap.size, 0, none⟩) n n)) w') :
    wpList Try.prog ops Q (o :: rest) a w := by
  obtain ⟨i, hi, hz, hs, hb⟩ := info_parts info8
  refine wpList_make_full w hg l c 24 hop base 5 i (.int .u8 0) 1 Try.underlying24 hi hz hs .i64 .i64 L C n hl hc hL hC (by rw [hb]; omega) (by unfold maxLen; omega) b4 ?_
  intro w' h1 h2
  refine hK w' ⟨List.length_replicate, By.zeros n, ?_⟩ h2
  have := h1
  rw [show (Value.int IntKind.u8 0).cells = #[Value.int .u8 0] from rfl, zeros_list] at this
  exact this

/-- copy into the tail of a row of one's own that is full -/
theorem wpList_cpy {w : World} {ops : Array Oper} {rest : List Oper} {o : Oper} {a : Act} {Q : Exit → Act → World → Prop} (hgd : o.guard = none) (d s : Operand)
    (ho : o.op = .call { callee := .builtin .copy, args := #[d, s], argTypes := #[24, 24] })
    (base g n k : Nat) (zs ys : List Int) (hown : Own w base (some ⟨g, 0, none⟩) n n zs) (dp sp : Option Addr) (dCap m sCap : Nat) (hd : a.eval d = .slice dp m dCap) (hs : a.eval s = .slice sp m sCap)
    (hk : k + m = n) (hdp : 0 < m → dp = some ⟨g, k, none⟩) (hR : Rd w sp ys) (hm : ys.length = m) (B : Nat) (w0 : World) (hb : Below B w0 w) (hBg : B ≤ g)
    (h : ∀ w', Own w' base (some ⟨g, 0, none⟩) n n (zs.take k ++ ys) → Below B w0 w' → wpList Try.prog ops Q rest (a.put o.dst (goInt m)) w') :
    wpList Try.prog ops Q (o :: rest) a w := by
  rcases hown.row.2 with ⟨e, _⟩ | ⟨g', cap, cur, e, hbg, hg, hnc, hcm, hcs, ht⟩
  · cases e
  injection e with e1 e2 e3
  injection e1 with e1
  injection e1 with e1
  subst e1 e3
  have hcur : cur = (zs.map (Value.int .u8)).toArray := by
    rw [← ht, List.take_of_length_le (by rw [Array.length_toList, hcs]; omega)]
  have hzl : (zs.map (Value.int .u8)).length = n := by rw [List.length_map]; exact hown.len
  have hyl : (ys.map (Value.int .u8)).length = m := by rw [List.length_map]; exact hm
  refine wpList_copy_splice hgd d s 24 24 ho 5 Try.underlying24 (by kernel_rfl) dp sp m dCap m sCap hd hs g k (zs.map (Value.int .u8)) 5 (by rw [hg, hcur]) (ys.map (Value.int .u8))
    (by rw [hyl]; exact (Nat.min_self m).symm) ?_ (by rw [hyl, hzl]; omega) (by intro v hv; obtain ⟨x, _, rfl⟩ := List.mem_map.1 hv; rfl) B w0 hb hBg ?_
  · intro hpos
    rw [hyl] at hpos
    obtain ⟨b, off, rfl, hc⟩ := hR.2 (by omega)
    refine ⟨hdp hpos, ⟨b, off, none⟩, rfl, fun j v hv => ?_⟩
    have hj : j < ys.length := by
      rcases Nat.lt_or_ge j ys.length with h | h
      · exact h
      · rw [List.getElem?_eq_none (by simpa using h)] at hv; cases hv
    have hadd : (⟨b, off, none⟩ : Addr).add j = ⟨b, off + j, none⟩ := by unfold Addr.add; split <;> simp_all
    rw [hadd, hc j hj, ← hv]
    simp [hj, List.getD]
  · intro w' hw' hb'
    rw [hyl]
    have hsp : splice (zs.map (Value.int .u8)) k (ys.map (Value.int .u8)) = (zs.take k ++ ys).map (Value.int .u8) := by
      unfold splice
      rw [hyl, List.drop_of_length_le (by omega), List.map_append, List.map_take]
      simp
    have hl : (zs.take k ++ ys).length = n := by rw [List.length_append, List.length_take, hown.len, hm]; omega
    have hw'' : w'.heap[g]? = some (.cells (splice (zs.map (Value.int .u8)) k (ys.map (Value.int .u8))).toArray 5 (0, 0)) := hw'
    rw [hsp] at hw''
    refine h w' ⟨hl, (hown.byt.take k).app hR.1, by rw [List.length_map, hl]; omega, .inr ⟨g, n, _, rfl, hbg, hw'', hnc, hcm, by rw [List.size_toArray, List.length_map, hl, Nat.mul_one], ?_⟩⟩ hb'
    show List.take (n * 1) (List.map (Value.int .u8) (zs.take k ++ ys)) = _
    rw [List.take_of_length_le (by rw [List.length_map, hl]; omega)]

/-- a plain head's twenty bytes, its sum left nought; with its sum; a frame -/
def hb0 (t p s d n : Int) : List Int := [69, 0, n / 256, n % 256, 0, 0, 64, 0, t, p, 0, 0, s / 65536 / 256, s / 65536 % 256, s % 65536 / 256, s % 65536 % 256, d / 65536 / 256, d / 65536 % 256, d % 65536 / 256, d % 65536 % 256]
def hb1 (t p s d n : Int) : List Int := P16 (hb0 t p s d n) 10 (Cs (hb0 t p s d n))
def frm (t p s d : Int) (ys : List Int) : List Int := hb1 t p s d (20 + (ys.length : Int)) ++ ys
theorem hb0_len (t p s d n : Int) : (hb0 t p s d n).length = 20 := rfl
theorem hb1_len (t p s d n : Int) : (hb1 t p s d n).length = 20 := by unfold hb1 P16; simp [hb0_len]
theorem hb0_by (t p s d n : Int) (t0 : 0 ≤ t) (t1 : t ≤ 255) (p0 : 0 ≤ p) (p1 : p ≤ 255) (s0 : 0 ≤ s) (s1 : s ≤ 4294967295) (d0 : 0 ≤ d) (d1 : d ≤ 4294967295) (n0 : 0 ≤ n) (n1 : n ≤ 65535) : By (hb0 t p s d n) := by
  unfold hb0
  repeat (first | exact By.nil | refine By.mk (by omega) (by omega) ?_)
theorem P16_app (l r : List Int) (i : Nat) (v : Int) (h : i + 1 < l.length) : P16 (l ++ r) i v = P16 l i v ++ r := by
  unfold P16
  rw [List.set_append_left _ _ (by omega), List.set_append_left _ _ (by rw [List.length_set]; omega)]
theorem P32_app (l r : List Int) (i : Nat) (v : Int) (h : i + 3 < l.length) : P32 (l ++ r) i v = P32 l i v ++ r := by
  unfold P32
  rw [P16_app _ _ _ _ (by omega), P16_app _ _ _ _ (by unfold P16; simp; omega)]

set_option maxHeartbeats 2000000 in
/-- what can't be -/
theorem put_no (hs hln t p s d : Int) (B : Option Addr) (m bc : Nat) (w : World) (hm : m ≤ 1000000) (hno : ¬ (0 ≤ t ∧ t ≤ 255) ∨ ¬ (0 ≤ p ∧ p ≤ 255) ∨ 1480 < m) :
    Calls Try.prog 45 #[(Hd.mk hs hln t p s d).val, .slice B m bc] w fun e w' => e = .returned (.tuple #[.slice none 0 0, .int .i64 1]) ∧ Below w.heap.size w w' := by
  rw [show (Hd.mk hs hln t p s d).val = .agg #[.int .i64 hs, .int .i64 hln, .int .i64 t, .int .i64 p, .int .u32 s, .int .u32 d] from rfl]
  by_cases ht : 0 ≤ t ∧ t ≤ 255
  · have e1 : decide (0 ≤ t ∧ t ≤ 255) = true := by simp only [decide_eq_true_eq]; exact ht
    have H1 := Lib.hid e1
    by_cases hp : 0 ≤ p ∧ p ≤ 255
    · have e2 : decide (0 ≤ p ∧ p ≤ 255) = true := by simp only [decide_eq_true_eq]; exact hp
      have H2 := Lib.hid e2
      have i1 : (1480 : Int) < (m : Int) := by omega
      clear e1 e2 hno
      go_enter Try.func45, Try.ntmps45
      go_wp2_with fail
      refine (isByte_any t _).mono ?_
      rintro e w' ⟨rfl, rfl⟩
      rw [H1.out]
      go_wp2_with fail
      refine (isByte_any p _).mono ?_
      rintro e w' ⟨rfl, rfl⟩
      rw [H2.out]
      go_wp2
      go_ret2
      exact ⟨rfl, (Below.refl _ _).alloc (Nat.le_refl _) _⟩
    · have e2 : decide (0 ≤ p ∧ p ≤ 255) = false := by simp only [decide_eq_false_iff_not]; exact hp
      have H2 := Lib.hid e2
      clear e1 e2 hno
      go_enter Try.func45, Try.ntmps45
      go_wp2_with fail
      refine (isByte_any t _).mono ?_
      rintro e w' ⟨rfl, rfl⟩
      rw [H1.out]
      go_wp2_with fail
      refine (isByte_any p _).mono ?_
      rintro e w' ⟨rfl, rfl⟩
      rw [H2.out]
      go_wp2
      go_ret2
      exact ⟨rfl, (Below.refl _ _).alloc (Nat.le_refl _) _⟩
  · have e1 : decide (0 ≤ t ∧ t ≤ 255) = false := by simp only [decide_eq_false_iff_not]; exact ht
    have H1 := Lib.hid e1
    clear e1 hno
    go_enter Try.func45, Try.ntmps45
    go_wp2_with fail
    refine (isByte_any t _).mono ?_
    rintro e w' ⟨rfl, rfl⟩
    rw [H1.out]
    go_wp2
    go_ret2
    exact ⟨rfl, (Below.refl _ _).alloc (Nat.le_refl _) _⟩
end Go.Proofs.Ytdkjipfemnfckaa

namespace Go.Proofs.Ytdkjipfemnfckaa
open Go.RowKit Plain
set_option linter.unusedVariables false
set_option maxRecDepth 100000

theorem put_list (t p s d : Int) (m : Nat) :
    P32 (P32 (((P16 (P16 ((List.replicate (20 + m) (0 : Int)).set 0 69) 2 (20 + (m : Int))) 6 16384).set 8 t).set 9 p) 12 s) 16 d = hb0 t p s d (20 + (m : Int)) ++ List.replicate m 0 := by
  have e : List.replicate (20 + m) (0 : Int) = [0, 0, 0, 0, 0, 0, 0, 0, 0, 0, 0, 0, 0, 0, 0, 0, 0, 0, 0, 0] ++ List.replicate m 0 := by
    rw [← List.replicate_append_replicate]; rfl
  rw [e, List.set_append_left _ _ (by decide), P16_app _ _ _ _ (by simp), P16_app _ _ _ _ (by simp [P16]), List.set_append_left _ _ (by simp [P16]), List.set_append_left _ _ (by simp [P16]), P32_app _ _ _ _ (by simp [P16]), P32_app _ _ _ _ (by simp [P16, P32])]
  rfl

theorem frm_len (t p s d : Int) (ys : List Int) : (frm t p s d ys).length = 20 + ys.length := by unfold frm; rw [List.length_append, hb1_len]

set_option maxHeartbeats 4000000 in
theorem put_yes (hs hln t p s d : Int) (B : Option Addr) (m bc : Nat) (ys : List Int) (w : World) (hm : m ≤ 1480) (hy : ys.length = m) (hR : Rd w B ys) (t0 : 0 ≤ t) (t1 : t ≤ 255) (p0 : 0 ≤ p) (p1 : p ≤ 255) (s0 : 0 ≤ s) (s1 : s ≤ 4294967295) (d0 : 0 ≤ d) (d1 : d ≤ 4294967295) :
    Calls Try.prog 45 #[(Hd.mk hs hln t p s d).val, .slice B m bc] w fun e w' => ∃ g, e = .returned (.tuple #[.slice (some ⟨g, 0, none⟩) (20 + m) (20 + m), .int .i64 0]) ∧ Own w' w.heap.size (some ⟨g, 0, none⟩) (20 + m) (20 + m) (frm t p s d ys) ∧ Below w.heap.size w w' := by
  rw [show (Hd.mk hs hln t p s d).val = .agg #[.int .i64 hs, .int .i64 hln, .int .i64 t, .int .i64 p, .int .u32 s, .int .u32 d] from rfl]
  have e1 : decide (0 ≤ t ∧ t ≤ 255) = true := by simp only [decide_eq_true_eq]; exact ⟨t0, t1⟩
  have e2 : decide (0 ≤ p ∧ p ≤ 255) = true := by simp only [decide_eq_true_eq]; exact ⟨p0, p1⟩
  have H1 := Lib.hid e1
  have H2 := Lib.hid e2
  have i1 : ¬ (1480 : Int) < (m : Int) := by omega
  have HR := Lib.hid hR
  have Hy := Lib.hid hy
  clear e1 e2 hR hy
  go_enter Try.func45, Try.ntmps45
  go_wp2_with fail
  refine (isByte_any t _).mono ?_
  rintro e w' ⟨rfl, rfl⟩
  rw [H1.out]
  go_wp2_with fail
  refine (isByte_any p _).mono ?_
  rintro e w' ⟨rfl, rfl⟩
  rw [H2.out]
  go_upto_region 3 with fail
  obtain ⟨w1, hw1⟩ : ∃ w1, w1 = w.alloc (.cells #[.int .i64 hs, .int .i64 hln, .int .i64 t, .int .i64 p, .int .u32 s, .int .u32 d] 67) := ⟨_, rfl⟩
  rw [← hw1]
  have hs1 : w1.heap.size = w.heap.size + 1 := by rw [hw1]; simp
  have bk1 : Blk w1 w.heap.size 67 #[.int .i64 hs, .int .i64 hln, .int .i64 t, .int .i64 p, .int .u32 s, .int .u32 d] := by rw [hw1]; exact Blk.new w _ _
  have Hbw := Lib.hid (show Below w.heap.size w w1 by rw [hw1]; exact (Below.refl _ _).alloc (Nat.le_refl _) _)
  have cells : ∀ W, Below w1.heap.size w1 W → (W.cell? ⟨w.heap.size, 2, none⟩ = some (.int .i64 t) ∧ W.cell? ⟨w.heap.size, 3, none⟩ = some (.int .i64 p)) ∧ (W.cell? ⟨w.heap.size, 4, none⟩ = some (.int .u32 s) ∧ W.cell? ⟨w.heap.size, 5, none⟩ = some (.int .u32 d)) := fun W hW => by
    have bW := bk1.below hW
    exact ⟨⟨bW.cell 2, bW.cell 3⟩, ⟨bW.cell 4, bW.cell 5⟩⟩
  have Hc := Lib.hid cells
  have Hs1 := Lib.hid hs1
  clear hw1 hs1 bk1 cells
  go_wp2_with (refine wpList_mk rfl (.tmp 24) (.tmp 24) rfl w1.heap.size (20 + (m : Int)) (20 + (m : Int)) (20 + m) rfl rfl (by omega) (by omega) (by omega) (Nat.le_refl _) ?_)
  intro w2 ho2 hg2
  have hb2 : Below w1.heap.size w1 w2 := ⟨hg2.os, hg2.tape, hg2.output, hg2.size, fun k hk => hg2.block k hk (by simp)⟩
  clear hg2
  generalize hgg : w1.heap.size = g at *
  have Hgg := Lib.hid hgg
  clear hgg
  have Ho2 := Lib.hid ho2
  have Hb2 := Lib.hid hb2
  have c0 := ho2.at (k := 0) (by omega)
  have f0 := ho2.free 0
  have i0 : 0 < 20 + m := by omega
  have im : (20 : Int) + (m : Int) ≤ 1500 := by omega
  clear ho2 hb2
  go_wp2_with fail
  obtain ⟨w3, hw3⟩ : ∃ w3, w3 = w2.setCell ⟨g, 0, none⟩ (.int .u8 69) := ⟨_, rfl⟩
  have Ho3 := Lib.hid (show Own w3 g (some ⟨g, 0, none⟩) (20 + m) (20 + m) ((List.replicate (20 + m) 0).set 0 69) by rw [hw3]; exact Ho2.out.set 0 69 (by decide) (by decide))
  have Hb3 := Lib.hid (show Below g w1 w3 by rw [hw3]; exact Hb2.out.setCell (p := ⟨g, 0, none⟩) (Nat.le_refl _) _)
  rw [← hw3]
  clear hw3 c0 f0 Ho2 Hb2
  refine (put16_any g _ _ g _ 2 (20 + (m : Int)) 2 _ rfl (by omega) (by omega) (by omega) (by omega) Ho3.out).mono ?_
  rintro e w4 ⟨rfl, hL⟩
  have Ho4 := Lib.hid hL.own
  have Hb4 := Lib.hid (hL.below Hb3.out (Nat.le_refl _) (by have := Hb3.out.size; rw [Hgg.out] at this; exact this))
  clear hL Ho3 Hb3
  go_wp2_with fail
  refine (put16_any g _ _ g _ 6 16384 6 _ rfl (by omega) (by omega) (by omega) (by omega) Ho4.out).mono ?_
  rintro e w5 ⟨rfl, hL⟩
  have Ho5 := Lib.hid hL.own
  have Hb5 := Lib.hid (hL.below Hb4.out (Nat.le_refl _) (by have := Hb4.out.size; rw [Hgg.out] at this; exact this))
  clear hL Ho4 Hb4
  obtain ⟨⟨q2, q3⟩, _, _⟩ := Hc.out _ Hb5.out
  have c8 := Ho5.out.at (k := 8) (by omega)
  have c9 := Ho5.out.at (k := 9) (by omega)
  have f8 := Ho5.out.free 8
  have f9 := Ho5.out.free 9
  have i8 : (8 : Int) < 20 + (m : Int) := by omega
  have i9 : (9 : Int) < 20 + (m : Int) := by omega
  have ngw : ¬ w.heap.size = g := by have := Hs1.out; omega
  have ngw2 : ¬ g = w.heap.size := fun h => ngw h.symm
  have q3' : (w5.setCell ⟨g, 8, none⟩ (.int .u8 t)).cell? ⟨w.heap.size, 3, none⟩ = some (.int .i64 p) := (World.cell?_setCell_other w5 ⟨g, 8, none⟩ ⟨w.heap.size, 3, none⟩ _ (fun e => ngw2 (by injection e))).trans q3
  go_upto_region 9 with fail
  obtain ⟨w6, hw6⟩ : ∃ w6, w6 = (w5.setCell ⟨g, 8, none⟩ (.int .u8 t)).setCell ⟨g, 9, none⟩ (.int .u8 p) := ⟨_, rfl⟩
  have Ho6 := Lib.hid (show Own w6 g (some ⟨g, 0, none⟩) (20 + m) (20 + m) (((P16 (P16 ((List.replicate (20 + m) 0).set 0 69) 2 (20 + (m : Int))) 6 16384).set 8 t).set 9 p) by rw [hw6]; exact (Ho5.out.set 8 t t0 t1).set 9 p p0 p1)
  have Hb6 := Lib.hid (show Below g w1 w6 by rw [hw6]; exact (Hb5.out.setCell (p := ⟨g, 8, none⟩) (Nat.le_refl _) _).setCell (p := ⟨g, 9, none⟩) (Nat.le_refl _) _)
  obtain ⟨_, q4, q5⟩ := Hc.out _ Hb6.out
  rw [← hw6]
  clear hw6 c8 c9 f8 f9 q2 q3 q3' Ho5 Hb5
  go_wp2_with fail
  refine (put32_any g _ _ g _ 12 s 12 _ rfl (by omega) (by omega) s0 s1 Ho6.out).mono ?_
  rintro e w7 ⟨rfl, hL⟩
  have Ho7 := Lib.hid hL.own
  have Hb7 := Lib.hid (hL.below Hb6.out (Nat.le_refl _) (by have := Hb6.out.size; rw [Hgg.out] at this; exact this))
  clear hL Ho6 Hb6 q4 q5
  obtain ⟨_, _, q5⟩ := Hc.out _ Hb7.out
  go_wp2_with fail
  refine (put32_any g _ _ g _ 16 d 16 _ rfl (by omega) (by omega) d0 d1 Ho7.out).mono ?_
  rintro e w8 ⟨rfl, hL⟩
  have ho8 := hL.own
  rw [put_list] at ho8
  have Ho8 := Lib.hid ho8
  have Hb8 := Lib.hid (hL.below Hb7.out (Nat.le_refl _) (by have := Hb7.out.size; rw [Hgg.out] at this; exact this))
  clear hL ho8 Ho7 Hb7 q5
  have hby0 : By (hb0 t p s d (20 + (m : Int))) := hb0_by t p s d _ t0 t1 p0 p1 s0 s1 d0 d1 (by omega) (by omega)
  have htk : (hb0 t p s d (20 + (m : Int)) ++ List.replicate m 0).take 20 = hb0 t p s d (20 + (m : Int)) := by
    rw [List.take_append_of_le_length (by rw [hb0_len]; omega), List.take_of_length_le (by rw [hb0_len]; omega)]
  have hcs := Cs_range _ hby0
  have ic : (20 : Int) ≤ 20 + (m : Int) := by omega
  go_wp2_with fail
  refine (of_n _ 20 _ (hb0 t p s d (20 + (m : Int))) _ (hb0_len _ _ _ _ _) (by omega) (by rw [← htk]; exact Ho8.out.rd.take 20)).mono ?_
  rintro e w' ⟨rfl, q, rfl⟩
  go_wp2_with fail
  refine (put16_any g _ _ g _ 10 (Cs (hb0 t p s d (20 + (m : Int)))) 10 _ rfl (by omega) (by omega) hcs.1 hcs.2 (Ho8.out.drewN q)).mono ?_
  rintro e w9 ⟨rfl, hL⟩
  have ho9 := hL.own
  rw [P16_app _ _ _ _ (by rw [hb0_len]; omega)] at ho9
  have Ho9 := Lib.hid (show Own w9 g (some ⟨g, 0, none⟩) (20 + m) (20 + m) (hb1 t p s d (20 + (m : Int)) ++ List.replicate m 0) from ho9)
  have Hb9 := Lib.hid (hL.below (below_drewN Hb8.out q) (Nat.le_refl _) (by have := Hb8.out.size; rw [Hgg.out] at this; simpa using this))
  clear hL ho9 Ho8 Hb8 htk
  have hwg : w.heap.size ≤ g := by have := Hs1.out; omega
  have Hbf := fun (W : World) (h : Below g w1 W) => (show Below w.heap.size w W from Hbw.out.trans (h.mono hwg))
  have HR9 := Lib.hid (HR.out.below (Hbf _ Hb9.out))
  have HBf := Lib.hid Hbf
  clear Hbf
  have HF := Lib.hid (show (hb1 t p s d (20 + (m : Int)) ++ List.replicate m 0).take 20 ++ ys = frm t p s d ys by
    unfold frm; rw [Hy.out, List.take_append_of_le_length (by rw [hb1_len]; omega), List.take_of_length_le (by rw [hb1_len]; omega)])
  by_cases hm0 : m = 0
  · have hfin : ∀ W, Own W g (some ⟨g, 0, none⟩) (20 + m) (20 + m) (frm t p s d ys) → Own W w.heap.size (some ⟨g, 0, none⟩) (20 + m) (20 + m) (frm t p s d ys) := fun W h => h.mono hwg
    have Hfin := Lib.hid hfin
    clear hfin
    subst hm0
    go_wp2_with (with_reducible refine wpList_cpy rfl (.tmp 59) (.tmp 60) rfl g g 20 20 _ ys Ho9.out (some ⟨g, 0, none⟩) B _ 0 bc rfl rfl (by omega) (fun h => absurd h (by omega)) HR9.out Hy.out g w1 Hb9.out (Nat.le_refl _) ?_)
    intro w10 ho10 hb10
    have ho11 := Hfin.out w10 (by rw [← HF.out]; exact ho10)
    have HO := Lib.hid ho11
    have HB := Lib.hid (HBf.out _ hb10)
    clear ho10 ho11 hb10
    go_wp2
    go_ret2
    exact ⟨g, rfl, HO.out, HB.out⟩
  · have cm : ¬ 20 + m = 20 := by omega
    go_wp2_with (with_reducible refine wpList_cpy rfl (.tmp 59) (.tmp 60) rfl g g (20 + m) 20 _ ys Ho9.out (some ⟨g, 20, none⟩) B _ m bc rfl rfl (by omega) (fun _ => rfl) HR9.out Hy.out g w1 Hb9.out (Nat.le_refl _) ?_)
    intro w10 ho10 hb10
    rw [HF.out] at ho10
    have HO := Lib.hid (ho10.mono hwg)
    have HB := Lib.hid (HBf.out _ hb10)
    clear ho10 hb10
    go_wp2
    go_ret2
    exact ⟨g, rfl, HO.out, HB.out⟩
end Go.Proofs.Ytdkjipfemnfckaa

namespace Go.Proofs.Ytdkjipfemnfckaa
open Go.RowKit Plain
set_option linter.unusedVariables false
set_option maxRecDepth 100000


def hL : List Int := frm 64 17 167772161 167772162 []
theorem hL_e : gtE hL = 0 := by decide
theorem hL_h : gtH hL = ⟨20, 20, 64, 17, 167772161, 167772162⟩ := by unfold gtH; rw [hL_e, if_pos rfl]; rfl

end Go.Proofs.Ytdkjipfemnfckaa

namespace Go.Proofs.Ytdkjipfemnfckaa
open Go.RowKit Plain
set_option linter.unusedVariables false
set_option maxRecDepth 100000

/-- a frame's head was got -/
structure Got (zs : List Int) : Prop where
  sz : 20 ≤ (fld zs).size ∧ (fld zs).size ≤ 60
  ln : (fld zs).size ≤ (fld zs).len ∧ (fld zs).len ≤ 1500 ∧ (fld zs).len ≤ zs.length
  hd : gtH zs = fld zs
  v4 : zs.getD 0 0 / 16 = 4
  sm : Cs (zs.take (fld zs).size.toNat) = 0
  fr : G16 zs 6 % 16384 = 0
theorem got_of (zs : List Int) (hby : By zs) (h : gtE zs = 0) : Got zs := by
  have h' := h
  unfold gtE at h
  split at h
  · rename_i hh; exact absurd h hh
  rename_i a
  split at h
  · omega
  rename_i b
  split at h
  · omega
  rename_i c
  split at h
  · omega
  rename_i d
  have a' : rdE zs 1500 = 0 := by omega
  obtain ⟨r1, r2, r3, r4, r5, r6⟩ := rdE_zero zs 1500 a'
  have hb0 := hby.getD 0
  refine ⟨⟨r3, ?_⟩, ⟨r5, r6, by omega⟩, by unfold gtH; rw [if_pos h'], r2, by omega, by omega⟩
  unfold fld
  simp only
  omega
theorem got_to (zs : List Int) (h : Got zs) : gtE zs = 0 := by
  obtain ⟨⟨s0, s1⟩, ⟨l0, l1, l2⟩, _, v4, sm, fr⟩ := h
  have h1 : rdE zs 1500 = 0 := by
    unfold rdE
    rw [if_neg (by omega), if_neg (by omega), if_neg (by omega), if_neg (by omega), if_neg (by omega), if_neg (by omega)]
  unfold gtE
  rw [if_neg (by omega), if_neg (by omega), if_neg (by omega), if_neg (by omega)]
theorem fld_range {zs : List Int} (h : By zs) : (0 ≤ (fld zs).ttl ∧ (fld zs).ttl ≤ 255) ∧ (0 ≤ (fld zs).proto ∧ (fld zs).proto ≤ 255) ∧ (0 ≤ (fld zs).src ∧ (fld zs).src ≤ 4294967295) ∧ (0 ≤ (fld zs).dst ∧ (fld zs).dst ≤ 4294967295) ∧ (0 ≤ (fld zs).len ∧ (fld zs).len ≤ 65535) := by
  have h1 := h.getD 8
  have h2 := h.getD 9
  have h3 := G32_range zs h 12
  have h4 := G32_range zs h 16
  have h5 := G16_range zs h 2
  unfold fld
  exact ⟨h1, h2, h3, h4, h5⟩
/-- what a got frame carries: the bytes behind its head -/
def bod (zs : List Int) : List Int := bodyOf (fld zs) zs
theorem bod_len (zs : List Int) (h : Got zs) : ((bod zs).length : Int) = (fld zs).len - (fld zs).size := by
  obtain ⟨⟨s0, s1⟩, ⟨l0, l1, l2⟩, _⟩ := h
  unfold bod bodyOf
  rw [List.length_take, List.length_drop]
  omega
theorem bod_by {zs : List Int} (h : By zs) : By (bod zs) := (h.drop _).take _
/-- an error that is got: its inner packet -/
structure GotI (zi : List Int) : Prop where
  sz : 20 ≤ (fld zi).size ∧ (fld zi).size ≤ 60
  ln : (fld zi).size + 8 ≤ (fld zi).len ∧ (fld zi).size + 8 ≤ zi.length
  hd : ptH zi = fld zi
  v4 : zi.getD 0 0 / 16 = 4
  fr : G16 zi 6 % 16384 = 0
  pr : (fld zi).proto = 17 ∨ (fld zi).proto = 6 ∨ ((fld zi).proto = 1 ∧ ((erC zi).getD 0 0 = 0 ∨ (erC zi).getD 0 0 = 8))
theorem gotI_of (zi : List Int) (hby : By zi) (h : erE zi = 0) : GotI zi := by
  unfold erE at h
  split at h
  · rename_i hh; exact absurd h hh
  rename_i a
  have a' : ptE zi = 0 := by omega
  obtain ⟨hr, hp⟩ := ptE_zero zi a'
  obtain ⟨r1, r2, r3, r4, r5, r6⟩ := rdE_zero zi 65535 hr
  have hb0 := hby.getD 0
  have hfr : G16 zi 6 % 16384 = 0 := by
    unfold ptE at a'
    rw [if_neg (by omega)] at a'
    split at a'
    · omega
    · omega
  rw [hp] at h
  split at h
  · omega
  rename_i b
  have hs : (fld zi).size ≤ 60 := by unfold fld; simp only; omega
  refine ⟨⟨r3, hs⟩, ⟨by omega, by omega⟩, hp, r2, hfr, ?_⟩
  split at h
  · rename_i c; omega
  · split at h
    · rename_i c d; exact Or.inr (Or.inr d)
    · omega
theorem gotI_to (zi : List Int) (hby : By zi) (h : GotI zi) : erE zi = 0 := by
  obtain ⟨⟨s0, s1⟩, ⟨l0, l1⟩, hp, v4, fr, pr⟩ := h
  have hl := (fld_range hby).2.2.2.2
  have h1 : rdE zi 65535 = 0 := by
    unfold rdE
    rw [if_neg (by omega), if_neg (by omega), if_neg (by omega), if_neg (by omega), if_neg (by omega), if_neg (by omega)]
  have h2 : ptE zi = 0 := by
    unfold ptE
    rw [if_neg (by omega), if_neg (by omega)]
  unfold erE
  rw [if_neg (by omega), hp, if_neg (by omega)]
  split
  · rfl
  · rename_i c
    rw [if_pos (by
      rcases pr with h | h | h
      · exact absurd (Or.inl h) c
      · exact absurd (Or.inr h) c
      · exact h)]
theorem gotI_hd (zi : List Int) (hby : By zi) (h : GotI zi) : ptH zi = fld zi := h.hd
end Go.Proofs.Ytdkjipfemnfckaa
