/-
  The document's epochs (fanlightref07): Given and Take. Conditions stand in each theorem.
-/
import Derived.Test.YthkmpcfjeclejaaRv
namespace Go.Proofs.Ythkmpcfjeclejaa
open Go.RowKit Go.Deep Plain
set_option linter.unusedVariables false
set_option maxRecDepth 100000

def uC (zs : List Int) : List Value := zs.map (Value.int .u64)
/-- one number more in a row of one's own -/
theorem wpList_addU {w w0 : World} {base n : Nat} {A : Option Addr} {c : Nat} {zs : List Int} {ops : Array Oper} {rest : List Oper} {o : Oper} {a : Act} {Q : Exit → Act → World → Prop} (hgd : o.guard = none) (sx xx : Operand)
    (ho : o.op = .call { callee := .builtin .append, args := #[sx, xx], argTypes := #[34, 34] })
    (hs : a.eval sx = .slice A n c) (hI : w.ownsRow base 33 1 (.slice A n c) n (uC zs)) (B : Below base w0 w) (hbase : base ≤ w.heap.size) (v : Int) (hn : n ≤ 100000)
    (H : Nat) (hx : a.eval xx = .slice (some ⟨H, 0, none⟩) 1 1) (hH : w.heap.size = H)
    (h : ∀ A' c' w', w'.ownsRow base 33 1 (.slice A' ((n + 1 : Nat) : Nat) c') (n + 1) (uC (zs ++ [v])) → Below base w0 w' → Keep (ownL (.slice A n c)) w w' → wpList Try.prog ops Q rest (a.put o.dst (.slice A' (n + 1) c')) w') :
    wpList Try.prog ops Q (o :: rest) a (w.alloc (.cells #[.int .u64 v] 33)) := by
  obtain ⟨i, hi, hz, hsz, hb⟩ := info_parts info64
  have hal := ball w (.cells #[.int .u64 v] 33)
  have ra1 := own_below hI hal
  have hbk := Blk.new w 33 #[.int .u64 v]
  rw [hH] at hbk
  refine wpList_append_lies (P := Try.prog) (w := w.alloc (.cells #[.int .u64 v] 33)) hgd sx xx 34 ho base 33 i _ 1 8 Try.underlying34 hi hz hsz hb rfl (by omega) _ n (uC zs) hs ra1 ⟨H, 0, none⟩ 1 1 [.int .u64 v] hx rfl ?_ ?_ (by omega) (by unfold maxLen; omega) (by omega) (by simp; omega) _ rfl ?_
  · intro j u hu
    rw [addr_add, Nat.zero_add, hbk.cell]
    simpa using hu
  · intro u hu
    simp at hu
    subst hu; rfl
  · intro g cap w' how hg hgo hlt
    refine h (some ⟨g, 0, none⟩) cap w' ?_ ?_ ?_
    · rw [show uC (zs ++ [v]) = uC zs ++ [.int .u64 v] by simp [uC]]; exact how
    · exact (B.alloc hbase _).grown hg (by simp; omega) (fun k hk => (own_blk ra1 hk).1)
    · exact (Keep.of_below (bs := ownL (.slice A n c)) hal).trans (Keep.own hg)
/-- one thing more in a row of one's own -/
theorem wpList_addT {w w0 : World} {base n : Nat} {A : Option Addr} {c : Nat} {gl : List (Int × Int)} {ops : Array Oper} {rest : List Oper} {o : Oper} {a : Act} {Q : Exit → Act → World → Prop} (hgd : o.guard = none) (sx xx : Operand)
    (ho : o.op = .call { callee := .builtin .append, args := #[sx, xx], argTypes := #[116, 116] })
    (hs : a.eval sx = .slice A n c) (hI : w.ownsRow base 118 2 (.slice A n c) n (thC gl)) (B : Below base w0 w) (hbase : base ≤ w.heap.size) (x y : Int) (hn : n ≤ 100000)
    (H : Nat) (hx : a.eval xx = .slice (some ⟨H, 0, none⟩) 1 1) (hH : w.heap.size = H)
    (h : ∀ A' c' w', w'.ownsRow base 118 2 (.slice A' ((n + 1 : Nat) : Nat) c') (n + 1) (thC (gl ++ [(x, y)])) → Below base w0 w' → Keep (ownL (.slice A n c)) w w' → wpList Try.prog ops Q rest (a.put o.dst (.slice A' (n + 1) c')) w') :
    wpList Try.prog ops Q (o :: rest) a (w.alloc (.cells #[.int .u64 x, .int .i64 y] 118)) := by
  obtain ⟨i, hi, hz, hsz, hb⟩ := info_parts infoTh
  have hal := ball w (.cells #[.int .u64 x, .int .i64 y] 118)
  have ra1 := own_below hI hal
  have hbk := Blk.new w 118 #[.int .u64 x, .int .i64 y]
  rw [hH] at hbk
  refine wpList_append_lies (P := Try.prog) (w := w.alloc (.cells #[.int .u64 x, .int .i64 y] 118)) hgd sx xx 116 ho base 118 i _ 2 16 Try.underlying116 hi hz hsz hb rfl (by omega) _ n (thC gl) hs ra1 ⟨H, 0, none⟩ 1 1 [.int .u64 x, .int .i64 y] hx rfl ?_ ?_ (by omega) (by unfold maxLen; omega) (by omega) (by simp; omega) _ rfl ?_
  · intro j u hu
    rw [addr_add, Nat.zero_add, hbk.cell]
    simpa using hu
  · intro u hu
    simp at hu
    rcases hu with rfl | rfl <;> rfl
  · intro g cap w' how hg hgo hlt
    refine h (some ⟨g, 0, none⟩) cap w' ?_ ?_ ?_
    · rw [thC_snoc]; exact how
    · exact (B.alloc hbase _).grown hg (by simp; omega) (fun k hk => (own_blk ra1 hk).1)
    · exact (Keep.of_below (bs := ownL (.slice A n c)) hal).trans (Keep.own hg)
/-- things that lie one behind the other -/
def RdT (w : World) (A : Option Addr) (gs : List (Int × Int)) : Prop :=
  0 < gs.length → ∃ b off, A = some ⟨b, off, none⟩ ∧ b < w.heap.size ∧ ∀ i, i < gs.length → w.cell? ⟨b, off + i * 2, none⟩ = some (.int .u64 (gs.getD i default).1) ∧ w.cell? ⟨b, off + i * 2 + 1, none⟩ = some (.int .i64 (gs.getD i default).2)
theorem RdT.own {w : World} {base : Nat} {A : Option Addr} {k c : Nat} {gs : List (Int × Int)} (h : w.ownsRow base 118 2 (.slice A k c) k (thC gs)) (hk : gs.length = k) : RdT w A gs := by
  intro hp
  rcases h.2 with ⟨_, e⟩ | ⟨g, cap, cur, e, hb, hg, hcap, hmx, hsz, htk⟩
  · omega
  injection e with e1 e2 e3
  subst e1
  have hB : Blk w g 118 cur := hg
  refine ⟨g, 0, rfl, hB.lt, fun i hi => ?_⟩
  obtain ⟨h0, h1⟩ := thC_at gs i hi
  rw [← htk, List.getElem?_take, if_pos (by omega), Array.getElem?_toList] at h0 h1
  rw [hB.cell, hB.cell, Nat.zero_add]
  exact ⟨h0, h1⟩
theorem RdT.below {w w' : World} {A : Option Addr} {gs : List (Int × Int)} (h : RdT w A gs) (hb : Below w.heap.size w w') : RdT w' A gs := fun hp => by
  obtain ⟨b, off, e, hl, hc⟩ := h hp
  refine ⟨b, off, e, Nat.lt_of_lt_of_le hl hb.size, fun i hi => ?_⟩
  obtain ⟨h0, h1⟩ := hc i hi
  exact ⟨(hb.cell (p := ⟨b, off + i * 2, none⟩) hl).trans h0, (hb.cell (p := ⟨b, off + i * 2 + 1, none⟩) hl).trans h1⟩
theorem take_one (gl : List (Int × Int)) (k : Nat) (h : k < gl.length) : gl.take (k + 1) = gl.take k ++ [gl.getD k default] := by
  rw [List.take_succ_eq_append_getElem h]; simp [List.getD, h]

set_option maxHeartbeats 4000000 in
theorem rGiven_any {w : World} {gr gp gs gv n base : Nat} {now : Int} {pins : List Int} {T : Nat → Tv} (h : ReB w gr gp gs gv n now pins T) (i : Nat) (hi : i < n) (A : Option Addr) (k c : Nat) (gl : List (Int × Int)) (hk : gl.length = k) (hkm : k ≤ 100000) (hgv : gv < w.heap.size) (ci : w.cell? ⟨gv, i, none⟩ = some (.slice A k c)) (how : w.ownsRow base 118 2 (.slice A k c) k (thC gl)) :
    Calls Try.prog 32 #[.pointer (some ⟨gr, 0, none⟩), .int .i64 i] w fun e w' => ∃ A' c', e = .returned (.slice A' k c') ∧ w'.ownsRow w.heap.size 33 1 (.slice A' k c') k (uC (gl.map (·.1))) ∧ Below w.heap.size w w' := by
  have c3 : w.cell? ⟨gr, 3, none⟩ = some (.slice (some ⟨gv, 0, none⟩) n n) := h.st.cell 3
  have lr := h.st.lt
  have hn2 := h.n2
  have i0 : (i : Int) < (n : Int) := by omega
  have HR := Lib.hid (RdT.own how hk)
  have HK := Lib.hid hk
  clear h how hk
  go_enter Try.func32, Try.ntmps32
  go_wp2
  go_loopw [5, 6] (fun s5 s6 wr => ∃ (j c' : Nat) (A' : Option Addr), s5 = .slice A' j c' ∧ s6 = .int .i64 j ∧ j ≤ k ∧ wr.ownsRow w.heap.size 33 1 (.slice A' j c') j (uC ((gl.take j).map (·.1))) ∧ Below w.heap.size w wr) (fun _ j _ => k - (intOf j).toNat)
  case atStart => exact ⟨0, 0, none, rfl, rfl, by omega, World.ownsRow_nil _ _ _ _, Below.refl _ _⟩
  case round =>
    obtain ⟨j, c', A', rfl, rfl, hj, ho, hB⟩ := hrel
    have HO := Lib.hid ho
    have HB := Lib.hid hB
    have hsz := hB.size
    have d3 := (hB.cell (p := ⟨gr, 3, none⟩) lr).trans c3
    have di := (hB.cell (p := ⟨gv, i, none⟩) hgv).trans ci
    clear ho hB
    by_cases hlt : j < k
    · have j0 : (j : Int) < (k : Int) := by omega
      obtain ⟨b, off, rfl, hbl, hcell⟩ := HR.out (by rw [HK.out]; omega)
      obtain ⟨q0, q1⟩ := hcell j (by rw [HK.out]; exact hlt)
      have p0 := (HB.out.cell (p := ⟨b, off + j * 2, none⟩) hbl).trans q0
      have HT := Lib.hid (take_one gl j (by rw [HK.out]; exact hlt))
      clear hcell q0 q1
      generalize gl.getD j default = x at *
      obtain ⟨x0, x1⟩ := x
      simp only at p0
      go_wp2_with (first | (refine wpList_addU rfl (.tmp 19) (.tmp 31) rfl (by rfl) HO.out HB.out hsz x0 (by omega) wr.heap.size (by rfl) rfl ?_; intro A2 c2 w2 ho2 hb2 hk2) | fail)
      have HO2 := Lib.hid (show w2.ownsRow w.heap.size 33 1 (.slice A2 (j + 1) c2) (j + 1) (uC ((gl.take (j + 1)).map (·.1))) by rw [HT.out, List.map_append]; exact ho2)
      have HB2 := Lib.hid hb2
      clear ho2 hb2 hk2
      go_roundw
      case rel => exact ⟨j + 1, c2, A2, rfl, by go_num, by omega, HO2.out, HB2.out⟩
      case measure => simp [intOf]; omega
    · obtain rfl : j = k := by omega
      have HO2 := Lib.hid (show wr.ownsRow w.heap.size 33 1 (.slice A' j c') j (uC (gl.map (·.1))) by
        have := HO.out
        rw [List.take_of_length_le (by rw [HK.out]; omega)] at this
        exact this)
      clear HO
      go_wp2
      go_ret
      exact ⟨A', c', rfl, HO2.out, HB.out⟩

def outT (now : Int) (gl : List (Int × Int)) : List (Int × Int) := gl.filter fun x => decide (x.2 + 2 ≤ now)
def leftT (now : Int) (gl : List (Int × Int)) : List (Int × Int) := gl.filter fun x => !decide (x.2 + 2 ≤ now)
theorem outT_snoc (now : Int) (gl : List (Int × Int)) (x : Int × Int) : outT now (gl ++ [x]) = outT now gl ++ (if x.2 + 2 ≤ now then [x] else []) := by
  unfold outT
  rw [List.filter_append]
  by_cases h : x.2 + 2 ≤ now <;> simp [h]
theorem leftT_snoc (now : Int) (gl : List (Int × Int)) (x : Int × Int) : leftT now (gl ++ [x]) = leftT now gl ++ (if x.2 + 2 ≤ now then [] else [x]) := by
  unfold leftT
  rw [List.filter_append]
  by_cases h : x.2 + 2 ≤ now
  · simp only [List.filter_cons, List.filter_nil, if_pos h]; rw [decide_eq_true h]; simp
  · simp only [List.filter_cons, List.filter_nil, if_neg h]; rw [decide_eq_false h]; simp
theorem outT_le (now : Int) (gl : List (Int × Int)) : (outT now gl).length ≤ gl.length := List.length_filter_le _ _
theorem leftT_le (now : Int) (gl : List (Int × Int)) : (leftT now gl).length ≤ gl.length := List.length_filter_le _ _
/-- what Take's loop has -/
def TkR (w : World) (k : Nat) (now : Int) (gl : List (Int × Int)) (A1 A2 : Option Addr) (n1 c1 n2 c2 j : Nat) (wr : World) : Prop :=
  j ≤ k ∧ n1 = (outT now (gl.take j)).length ∧ n2 = (leftT now (gl.take j)).length ∧ wr.ownsRow w.heap.size 33 1 (.slice A1 n1 c1) n1 (uC ((outT now (gl.take j)).map (·.1))) ∧ wr.ownsRow w.heap.size 118 2 (.slice A2 n2 c2) n2 (thC (leftT now (gl.take j))) ∧ Below w.heap.size w wr

/-- what Take tells and leaves -/
def TkP (w : World) (gv i : Nat) (now : Int) (gl : List (Int × Int)) (cs : Array Value) (e : Ending) (w' : World) : Prop :=
  ∃ (A1 A2 : Option Addr) (n1 c1 n2 c2 : Nat), e = .returned (.slice A1 n1 c1) ∧ n1 = (outT now gl).length ∧ n2 = (leftT now gl).length ∧ w'.ownsRow w.heap.size 33 1 (.slice A1 n1 c1) n1 (uC ((outT now gl).map (·.1))) ∧ w'.ownsRow w.heap.size 118 2 (.slice A2 n2 c2) n2 (thC (leftT now gl)) ∧ Blk w' gv 116 (cs.setIfInBounds i (.slice A2 n2 c2)) ∧ Keep [gv] w w'
set_option maxHeartbeats 8000000 in
theorem rTake_any {w : World} {gr gp gs gv n base : Nat} {now : Int} {pins : List Int} {T : Nat → Tv} (h : ReB w gr gp gs gv n now pins T) (i : Nat) (hi : i < n) (A : Option Addr) (k c : Nat) (gl : List (Int × Int)) (hk : gl.length = k) (hkm : k ≤ 100000) (cs : Array Value) (hbg : Blk w gv 116 cs) (ci : w.cell? ⟨gv, i, none⟩ = some (.slice A k c)) (how : w.ownsRow base 118 2 (.slice A k c) k (thC gl)) (hG : GOk gl) :
    Calls Try.prog 30 #[.pointer (some ⟨gr, 0, none⟩), .int .i64 i] w (TkP w gv i now gl cs) := by
  have c0 : w.cell? ⟨gr, 0, none⟩ = some (.int .i64 now) := h.st.cell 0
  have c3 : w.cell? ⟨gr, 3, none⟩ = some (.slice (some ⟨gv, 0, none⟩) n n) := h.st.cell 3
  have lr := h.st.lt
  have lv := hbg.lt
  have hn2 := h.n2
  have i0 : (i : Int) < (n : Int) := by omega
  have HR := Lib.hid (RdT.own how hk)
  have HK := Lib.hid hk
  have HBG := Lib.hid hbg
  have HGK := Lib.hid hG
  clear h how hk hbg hG
  go_enter Try.func30, Try.ntmps30
  go_wp2
  go_loopw [5, 6, 7, 8] (fun s5 s6 s7 s8 wr => ∃ (j c1 c2 n1 n2 : Nat) (A1 A2 : Option Addr), s5 = .slice A1 n1 c1 ∧ s6 = .slice A2 n2 c2 ∧ s7 = .int .i64 j ∧ TkR w k now gl A1 A2 n1 c1 n2 c2 j wr) (fun _ _ j _ _ => k - (intOf j).toNat)
  case atStart => exact ⟨0, 0, 0, 0, 0, none, none, rfl, rfl, rfl, by omega, rfl, rfl, World.ownsRow_nil _ _ _ _, World.ownsRow_nil _ _ _ _, Below.refl _ _⟩
  case round =>
    obtain ⟨j, c1, c2, n1, n2, A1, A2, rfl, rfl, rfl, hj, e1, e2, ho1, ho2, hB⟩ := hrel
    have HO1 := Lib.hid ho1
    have HO2 := Lib.hid ho2
    have HB := Lib.hid hB
    have hsz := hB.size
    have d0 := (hB.cell (p := ⟨gr, 0, none⟩) lr).trans c0
    have d3 := (hB.cell (p := ⟨gr, 3, none⟩) lr).trans c3
    have di := (hB.cell (p := ⟨gv, i, none⟩) lv).trans ci
    have n1k : n1 ≤ 100000 := by have := outT_le now (gl.take j); rw [List.length_take] at this; omega
    have n2k : n2 ≤ 100000 := by have := leftT_le now (gl.take j); rw [List.length_take] at this; omega
    have E1 := Lib.hid e1
    have E2 := Lib.hid e2
    clear ho1 ho2 hB e1 e2
    by_cases hlt : j < k
    · have j0 : (j : Int) < (k : Int) := by omega
      obtain ⟨b, off, rfl, hbl, hcell⟩ := HR.out (by rw [HK.out]; omega)
      obtain ⟨q0, q1⟩ := hcell j (by rw [HK.out]; exact hlt)
      obtain ⟨g0, g1⟩ := HGK.out j (by rw [HK.out]; exact hlt)
      have p0 := (HB.out.cell (p := ⟨b, off + j * 2, none⟩) hbl).trans q0
      have p1 := (HB.out.cell (p := ⟨b, off + j * 2 + 1, none⟩) hbl).trans q1
      have HT := Lib.hid (take_one gl j (by rw [HK.out]; exact hlt))
      have S1 := Lib.hid (outT_snoc now (gl.take j) (gl.getD j default))
      have S2 := Lib.hid (leftT_snoc now (gl.take j) (gl.getD j default))
      clear hcell q0 q1
      generalize gl.getD j default = x at *
      obtain ⟨x0, x1⟩ := x
      simp only at p0 p1 g0 g1
      have lr2 : gr < wr.heap.size := Nat.lt_of_lt_of_le lr hsz
      go_upto_region 7 with fail
      have B8 := Lib.hid (Blk.new wr 118 #[.int .u64 x0, .int .i64 x1])
      have hal := ball wr (.cells #[.int .u64 x0, .int .i64 x1] 118)
      have HO1' := Lib.hid (own_below HO1.out hal)
      have HO2' := Lib.hid (own_below HO2.out hal)
      have HB' := Lib.hid (HB.out.trans (hal.mono hsz))
      have hsz' := HB'.out.size
      have d0' := (hal.cell (p := ⟨gr, 0, none⟩) lr2).trans d0
      clear hal d0 d3 di p0 p1 HO1 HO2 HB
      generalize wr.alloc (.cells #[.int .u64 x0, .int .i64 x1] 118) = w2 at *
      generalize wr.heap.size = g8 at *
      have t0 : w2.cell? ⟨g8, 0, none⟩ = some (.int .u64 x0) := B8.out.cell 0
      have t1 : w2.cell? ⟨g8, 1, none⟩ = some (.int .i64 x1) := B8.out.cell 1
      by_cases hle : x1 + 2 ≤ now
      · have b1 : decide (x1 + 2 ≤ now) = true := decide_eq_true hle
        go_quiet (fail)
        have HO1q := Lib.hid (own_below HO1'.out (bdrewN w2 nq))
        have HO2q := Lib.hid (own_below HO2'.out (bdrewN w2 nq))
        have HBq := Lib.hid (below_drewN HB'.out nq)
        have t0q : (w2.drewN nq).cell? ⟨g8, 0, none⟩ = some (.int .u64 x0) := t0
        have hszq : w.heap.size ≤ (w2.drewN nq).heap.size := hsz'
        clear HO1' HO2' HB' t0 t1 b1 d0' B8
        generalize w2.drewN nq = w3 at *
        go_wp2_with (first | (refine wpList_addU rfl (.tmp 39) (.tmp 42) rfl (by rfl) HO1q.out HBq.out hszq x0 (by omega) w3.heap.size (by rfl) rfl ?_; intro A3 c3' w4 ho3 hb3 hk3) | fail)
        have HN1 := Lib.hid ho3
        have HN2 := Lib.hid (own_keep HO2q.out hk3 (fun g hg hx => by
          rw [ownL_mem] at hx
          exact own_types HO1q.out HO2q.out (by decide) hx hg))
        have HNB := Lib.hid hb3
        clear ho3 hb3 hk3 HO1q HO2q HBq
        go_roundw
        case rel =>
          have f1 : outT now (gl.take (j + 1)) = outT now (gl.take j) ++ [(x0, x1)] := by rw [HT.out, S1.out, if_pos hle]
          have f2 : leftT now (gl.take (j + 1)) = leftT now (gl.take j) := by rw [HT.out, S2.out, if_pos hle, List.append_nil]
          refine ⟨j + 1, c3', c2, n1 + 1, n2, A3, A2, rfl, rfl, by go_num, by omega, ?_, ?_, ?_, ?_, HNB.out⟩
          · rw [f1, List.length_append, ← E1.out]; rfl
          · rw [f2]; exact E2.out
          · rw [f1, List.map_append]; exact HN1.out
          · rw [f2]; exact HN2.out
        case measure => simp [intOf]; omega
      · have b1 : decide (x1 + 2 ≤ now) = false := decide_eq_false hle
        go_quiet (fail)
        have HO1q := Lib.hid (own_below HO1'.out (bdrewN w2 nq))
        have HO2q := Lib.hid (own_below HO2'.out (bdrewN w2 nq))
        have HBq := Lib.hid (below_drewN HB'.out nq)
        have t0q : (w2.drewN nq).cell? ⟨g8, 0, none⟩ = some (.int .u64 x0) := t0
        have t1q : (w2.drewN nq).cell? ⟨g8, 1, none⟩ = some (.int .i64 x1) := t1
        have hszq : w.heap.size ≤ (w2.drewN nq).heap.size := hsz'
        clear HO1' HO2' HB' t0 t1 b1 d0' B8
        generalize w2.drewN nq = w3 at *
        go_wp2_with (first | (refine wpList_addT rfl (.tmp 44) (.tmp 46) rfl (by rfl) HO2q.out HBq.out hszq x0 x1 (by omega) w3.heap.size (by rfl) rfl ?_; intro A3 c3' w4 ho3 hb3 hk3) | fail)
        have HN2 := Lib.hid ho3
        have HN1 := Lib.hid (own_keep HO1q.out hk3 (fun g hg hx => by
          rw [ownL_mem] at hx
          exact own_types HO2q.out HO1q.out (by decide) hx hg))
        have HNB := Lib.hid hb3
        clear ho3 hb3 hk3 HO1q HO2q HBq
        go_roundw
        case rel =>
          have f1 : outT now (gl.take (j + 1)) = outT now (gl.take j) := by rw [HT.out, S1.out, if_neg hle, List.append_nil]
          have f2 : leftT now (gl.take (j + 1)) = leftT now (gl.take j) ++ [(x0, x1)] := by rw [HT.out, S2.out, if_neg hle]
          refine ⟨j + 1, c1, c3', n1, n2 + 1, A1, A3, rfl, rfl, by go_num, by omega, ?_, ?_, ?_, ?_, HNB.out⟩
          · rw [f1]; exact E1.out
          · rw [f2, List.length_append, ← E2.out]; rfl
          · rw [f1]; exact HN1.out
          · rw [f2]; exact HN2.out
        case measure => simp [intOf]; omega
    · have ej : gl.take j = gl := List.take_of_length_le (by rw [HK.out]; omega)
      have HF1 := Lib.hid (show n1 = (outT now gl).length ∧ n2 = (leftT now gl).length by rw [← ej]; exact ⟨E1.out, E2.out⟩)
      have HF2 := Lib.hid (show wr.ownsRow w.heap.size 33 1 (.slice A1 n1 c1) n1 (uC ((outT now gl).map (·.1))) by rw [← ej]; exact HO1.out)
      have HF3 := Lib.hid (show wr.ownsRow w.heap.size 118 2 (.slice A2 n2 c2) n2 (thC (leftT now gl)) by rw [← ej]; exact HO2.out)
      have bg := HBG.out.below HB.out
      have fg := bg.frozen i
      have HBGr := Lib.hid bg
      have ejj : ¬ (j : Int) < (k : Int) := by omega
      clear ej E1 E2 HO1 HO2 d0 bg
      go_upto_region 11 with fail
      have HB9 := Lib.hid (HBGr.out.set i (.slice A2 n2 c2))
      have HK9 := Lib.hid ((Keep.of_below (bs := [gv]) HB.out).setCell (p := ⟨gv, i, none⟩) (.inl (by simp)) (.slice A2 n2 c2))
      have lvr : gv < w.heap.size := lv
      have H1 := Lib.hid (own_grown HF2.out (grown_setCell wr gv i (.slice A2 n2 c2)) (fun g h1 h2 => by
        have := (HF2.out.lt g h1).1
        injection h2 with h2
        omega))
      have H2 := Lib.hid (own_grown HF3.out (grown_setCell wr gv i (.slice A2 n2 c2)) (fun g h1 h2 => by
        have := (HF3.out.lt g h1).1
        injection h2 with h2
        omega))
      clear d3 di fg HB HF2 HF3 HBGr
      generalize wr.setCell ⟨gv, i, none⟩ (.slice A2 n2 c2) = w9 at *
      go_wp2
      go_ret
      exact ⟨A1, A2, n1, c1, n2, c2, rfl, HF1.out.1, HF1.out.2, H1.out, H2.out, HB9.out, HK9.out⟩
end Go.Proofs.Ythkmpcfjeclejaa
