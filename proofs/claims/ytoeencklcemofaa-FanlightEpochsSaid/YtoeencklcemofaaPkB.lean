/-
  Several small texts in one: Own, Wire, Sum, SumN, Head, Read, Get, Steps, Blk. Conditions stand in each theorem.
-/
import Derived.Test.YtoeencklcemofaaEpA
import Derived.Test.YtoeencklcemofaaRows
import Derived.Maps.AppendAt
import Derived.OwnWalk
import Derived.Lib.Hide
import Derived.Laws.BitsAll
import Derived.Deep.QuietTactic
import Derived.BigQuiet
import Derived.RegionTactic
import Derived.WalkKit
import Derived.ProofKit
import Derived.OpenShut
import Derived.Below
import Derived.Outline
import Derived.Deep.RegionHeld3
import Derived.Deep.DeepCutAuto
import Derived.Lib.SlBytesConst
namespace Go.Proofs.Ytoeencklcemofaa
open Go.RowKit Plain
set_option linter.unusedVariables false
set_option maxRecDepth 100000

structure Own (w : World) (base : Nat) (A : Option Addr) (n c : Nat) (zs : List Int) : Prop where
  len : zs.length = n
  byt : By zs
  row : w.ownsRow base 5 1 (.slice A n c) n (zs.map (Value.int .u8))

theorem info8 : (Try.prog.info? 5).map (fun i => (i.zero, i.size, i.bytes)) = some (some (.int .u8 0), 1, 1) := by kernel_rfl

section
variable {w w' : World} {base n c : Nat} {A : Option Addr} {zs : List Int}

theorem Own.form (h : Own w base A n c zs) : A = none ∧ n = 0 ∧ c = 0 ∨ ∃ g, A = some ⟨g, 0, none⟩ ∧ base ≤ g ∧ g < w.heap.size := by
  rcases h.row.2 with ⟨e, _⟩ | ⟨g, cap, cur, e, hb, hg, _⟩
  · injection e with e1 e2 e3
    exact .inl ⟨e1, e2, e3⟩
  · injection e with e1 e2 e3
    exact .inr ⟨g, e1, hb, (Array.getElem?_eq_some_iff.1 hg).1⟩
theorem Own.cap (h : Own w base A n c zs) : n ≤ c := by
  rcases h.row.2 with ⟨e, _⟩ | ⟨g, cap, cur, e, _, _, hc, _⟩
  · injection e with e1 e2 e3
    omega
  · injection e with e1 e2 e3
    omega
theorem Own.rd (h : Own w base A n c zs) : Rd w A zs := by
  refine ⟨h.byt, fun hp => ?_⟩
  have hl := h.len
  rcases h.form with ⟨_, h0, _⟩ | ⟨g, rfl, _, _⟩
  · omega
  · refine ⟨g, 0, rfl, fun k hk => ?_⟩
    rw [Nat.zero_add, h.row.cellAt k (by omega)]
    simp [hk, List.getD]
theorem Own.at {g : Nat} (h : Own w base (some ⟨g, 0, none⟩) n c zs) {k : Nat} (hk : k < n) : w.cell? ⟨g, k, none⟩ = some (.int .u8 (zs.getD k 0)) := by
  have hl := h.len
  rw [h.row.cellAt k (by omega)]
  have hk' : k < zs.length := by omega
  simp [hk', List.getD]
theorem Own.free {g : Nat} (h : Own w base (some ⟨g, 0, none⟩) n c zs) (k : Nat) : w.frozen? ⟨g, k, none⟩ = false := h.row.frozenAt k
theorem Own.drewN (h : Own w base A n c zs) (q : Nat) : Own (w.drewN q) base A n c zs := ⟨h.len, h.byt, h.row⟩
theorem Own.alloc (h : Own w base A n c zs) (o : Obj) : Own (w.alloc o) base A n c zs := ⟨h.len, h.byt, h.row.alloc o⟩
theorem Own.below (h : Own w base A n c zs) (hb : Below w.heap.size w w') : Own w' base A n c zs :=
  ⟨h.len, h.byt, h.row.kept (row := none) ⟨hb.os, hb.tape, hb.output, hb.size, fun k hk _ => hb.block k hk⟩ (by cases hv : (Value.slice A n c).ownBlock <;> simp)⟩
theorem Own.mono {base' : Nat} (h : Own w base A n c zs) (hb : base' ≤ base) : Own w base' A n c zs := by
  refine ⟨h.len, h.byt, h.row.1, ?_⟩
  rcases h.row.2 with e | ⟨g, cap, cur, e, hg, r⟩
  · exact .inl e
  · exact .inr ⟨g, cap, cur, e, by omega, r⟩
theorem Own.set {g : Nat} (h : Own w base (some ⟨g, 0, none⟩) n c zs) (k : Nat) (x : Int) (h0 : 0 ≤ x) (h1 : x ≤ 255) :
    Own (w.setCell ⟨g, k, none⟩ (.int .u8 x)) base (some ⟨g, 0, none⟩) n c (zs.set k x) := by
  have := (h.row.stored k (.int .u8 x)).1
  refine ⟨by rw [List.length_set]; exact h.len, h.byt.set k x h0 h1, ?_⟩
  rw [List.map_set]
  exact this
/-- an empty slice that isn't nil -/
theorem Own.empty (w : World) (hb : base ≤ w.heap.size) : Own (w.alloc (.cells #[] 5)) base (some ⟨w.heap.size, 0, none⟩) 0 0 [] :=
  ⟨rfl, By.nil, World.ownsRow_lit w #[] 0 hb (Nat.zero_le _) rfl⟩
theorem Own.nil (w : World) (base : Nat) : Own w base none 0 0 [] := ⟨rfl, By.nil, World.ownsRow_nil w base _ 1⟩
/-- a literal -/
theorem Own.lit (w : World) (hb : base ≤ w.heap.size) (zs : List Int) (hz : By zs) (n : Nat) (hn : zs.length = n) (hl : n ≤ 1000000000) (cs : Array Value) (hcs : cs = (zs.map (Value.int .u8)).toArray) :
    Own (w.alloc (.cells cs 5)) base (some ⟨w.heap.size, 0, none⟩) n n zs := by
  subst hcs
  exact ⟨hn, hz, World.ownsRow_lit w _ n hb (by unfold maxLen; omega) (by simpa using hn)⟩

theorem run_app (hown : Own w base A n c zs) {B : Option Addr} {m d : Nat} {ys : List Int} (hR : Rd w B ys) (hm : ys.length = m) (hl : n + m ≤ 1000000000) (hbase : base ≤ w.heap.size) (ty : TypeId) :
    ∃ A' c' w', (Builtin.append_ #[22, 22] ty #[.slice A n c, .slice B m d]).run Try.prog w = .ok (.slice A' (n + m) c') w' ∧ Own w' base A' (n + m) c' (zs ++ ys) ∧ w.grownBy w' (Value.slice A n c).ownBlock ∧
      (A' = A ∨ A' = some ⟨w.heap.size, 0, none⟩) := by
  obtain ⟨i, hi, hz, hs, hb⟩ := info_parts info8
  rcases B with _ | ad
  · have hm0 : m = 0 := by
      rcases Nat.eq_zero_or_pos m with h0 | h0
      · exact h0
      · obtain ⟨_, _, h, _⟩ := hR.2 (by omega)
        cases h
    subst hm0
    have hys : ys = [] := List.eq_nil_of_length_eq_zero hm
    subst hys
    refine ⟨A, c, w, ?_, by simpa using hown, World.grownBy.refl w _, .inl rfl⟩
    have hcap := hown.cap
    rcases hown.form with ⟨rfl, rfl, rfl⟩ | ⟨g, rfl, _, _⟩
    · simp [Builtin.append_, run_underlying Try.underlying22, sizeOf, typeInfo, hi, Builtin.lenOf, Builtin.firstCells]
    · simp [Builtin.append_, run_underlying Try.underlying22, sizeOf, typeInfo, hi, Builtin.lenOf, Builtin.firstCells, hcap, storeCells]
  · have hcells : ∀ j u, (ys.map (Value.int .u8))[j]? = some u → w.cell? (ad.add j) = some u := by
      intro j u hu
      rcases Nat.eq_zero_or_pos ys.length with h0 | h0
      · have hys : ys = [] := List.eq_nil_of_length_eq_zero h0
        subst hys
        simp at hu
      · obtain ⟨b, off, e, hc⟩ := hR.2 h0
        injection e with e
        subst e
        have hj : j < ys.length := by
          rcases Nat.lt_or_ge j ys.length with h | h
          · exact h
          · rw [List.getElem?_eq_none (by simpa using h)] at hu; cases hu
        have h1 := hc j hj
        have hadd : (⟨b, off, none⟩ : Addr).add j = ⟨b, off + j, none⟩ := by unfold Addr.add; split <;> simp_all
        rw [hadd, h1, ← hu]
        simp [hj, List.getD]
    obtain ⟨v', w1, hrun, h2, h3, _, h5⟩ := run_append_own_at (P := Try.prog) w base 22 ty 5 i (.int .u8 0) 1 1 Try.underlying22 hi hz hs hb rfl (by decide) (.slice A n c) n _ hown.row ad m d (ys.map (Value.int .u8))
      (by simpa using hm) hcells (by intro u hu; obtain ⟨x, _, rfl⟩ := List.mem_map.1 hu; rfl) (by unfold maxLen; omega) (by omega) hbase
    have hcat : (zs ++ ys).length = n + m := by rw [List.length_append, hown.len, hm]
    have hBy : By (zs ++ ys) := hown.byt.app hR.1
    rw [← List.map_append] at h2
    rcases h2.2 with ⟨e, hn0⟩ | ⟨g, cap, cur, e, r⟩
    · subst e
      have hn : n + m = 0 := hn0
      refine ⟨none, 0, w1, by rw [hn]; exact hrun, ⟨hcat, hBy, by rw [hn] at h2 ⊢; exact h2⟩, h3, ?_⟩
      rcases h5 with h5 | h5
      · rcases hown.form with ⟨rfl, _⟩ | ⟨g, rfl, _⟩
        · exact .inl rfl
        · simp [Value.ownBlock] at h5
      · simp [Value.ownBlock] at h5
    · subst e
      refine ⟨some ⟨g, 0, none⟩, cap, w1, hrun, ⟨hcat, hBy, h2⟩, h3, ?_⟩
      rcases h5 with h5 | h5
      · rcases hown.form with ⟨rfl, _⟩ | ⟨g', rfl, _⟩
        · simp [Value.ownBlock] at h5
        · have : g = g' := by simpa [Value.ownBlock] using h5
          exact .inl (by rw [this])
      · have : g = w.heap.size := by simpa [Value.ownBlock] using h5
        exact .inr (by rw [this])

/-- append at a builtin: what is told, and what is left -/
theorem wpList_app {ops : Array Oper} {rest : List Oper} {o : Oper} {a : Act} {Q : Exit → Act → World → Prop} (hgd : o.guard = none) (s x : Operand)
    (ho : o.op = .call { callee := .builtin .append, args := #[s, x], argTypes := #[22, 22] })
    (hs : a.eval s = .slice A n c) (hown : Own w base A n c zs) {B : Option Addr} {m d : Nat} (ys : List Int) (hx : a.eval x = .slice B m d) (hR : Rd w B ys) (hm : ys.length = m) (hl : n + m ≤ 1000000000) (hbase : base ≤ w.heap.size)
    (h : ∀ A' c' w', Own w' base A' (n + m) c' (zs ++ ys) → w.grownBy w' (Value.slice A n c).ownBlock → (A' = A ∨ A' = some ⟨w.heap.size, 0, none⟩) → wpList Try.prog ops Q rest (a.put o.dst (.slice A' (n + m) c')) w') :
    wpList Try.prog ops Q (o :: rest) a w := by
  refine wpList_plain hgd fun _ hK => ?_
  obtain ⟨A', c', w', hrun, h2, h3, h4⟩ := run_app hown hR hm hl hbase o.type (d := d)
  unfold Oper.wp execOp
  simp only [ho, resolve, invoke, builtin, Sem.run_bind, Sem.run_pure, Result.andThen_ok, List.map_toArray, List.map_cons, List.map_nil, hs, hx, hrun]
  exact hK _ _ (h A' c' w' h2 h3 h4)
end

/-- what is kept when a row of one's own grew -/
theorem below_app {w0 w w' : World} {A : Option Addr} {n c B base : Nat} {zs : List Int} (h : Below B w0 w) (hg : w.grownBy w' (Value.slice A n c).ownBlock) (hown : Own w base A n c zs) (hB : B ≤ base) (hs : B ≤ w.heap.size) : Below B w0 w' :=
  h.grown hg hs fun k hk => by have := hown.row.lt k hk; omega
end Go.Proofs.Ytoeencklcemofaa

namespace Go.Proofs.Ytoeencklcemofaa
open Go.RowKit Plain
set_option linter.unusedVariables false
set_option maxRecDepth 100000

/-- the number of 16 bits at i; of 32 bits -/
def G16 (zs : List Int) (i : Nat) : Int := zs.getD i 0 * 256 + zs.getD (i + 1) 0
def G32 (zs : List Int) (i : Nat) : Int := G16 zs i * 65536 + G16 zs (i + 2)
theorem G16_range (zs : List Int) (h : By zs) (i : Nat) : 0 ≤ G16 zs i ∧ G16 zs i ≤ 65535 := by
  have := h.getD i; have := h.getD (i + 1); unfold G16; omega
theorem G32_range (zs : List Int) (h : By zs) (i : Nat) : 0 ≤ G32 zs i ∧ G32 zs i ≤ 4294967295 := by
  have := G16_range zs h i; have := G16_range zs h (i + 2); unfold G32; omega
theorem ret_int' {k : IntKind} {a b : Int} (h : a = b) : Ending.returned (.int k a) = .returned (.int k b) := by rw [h]
theorem or_w16 (x y : Int) (h0 : 0 ≤ x) (h1 : x ≤ 255) (h2 : 0 ≤ y) (h3 : y ≤ 255) : bits .or .u16 (x * 256) y = x * 256 + y := by go_bits2
theorem or_w32 (x y : Int) (h0 : 0 ≤ x) (h1 : x ≤ 65535) (h2 : 0 ≤ y) (h3 : y ≤ 65535) : bits .or .u32 (x * 65536) y = x * 65536 + y := by go_bits2

theorem get16_any (A : Option Addr) (n c : Nat) (zs : List Int) (a : Int) (i : Nat) (w : World) (hn : zs.length = n) (ha : a = (i : Int)) (hi : i + 1 < n) (hl : n ≤ 1000000) (hR : Rd w A zs) :
    Calls Try.prog 95 #[.slice A n c, .int .i64 a] w fun e w' => e = .returned (.int .u16 (G16 zs i)) ∧ ∃ q, w' = w.drewN q := by
  subst ha
  obtain ⟨b, off, rfl, hc⟩ := hR.2 (by omega)
  have c0 := hc i (by omega)
  have c1 := hc (i + 1) (by omega)
  have b0 := hR.1.getD i
  have b1 := hR.1.getD (i + 1)
  have HG := Lib.hid (show G16 zs i = zs.getD i 0 * 256 + zs.getD (i + 1) 0 from rfl)
  generalize zs.getD i 0 = x at *
  generalize zs.getD (i + 1) 0 = y at *
  have i0 : (i : Int) < (n : Int) := by omega
  have i1 : (i : Int) + 1 < (n : Int) := by omega
  have or1 := or_w16 x y b0.1 b0.2 b1.1 b1.2
  clear hc hR hn
  go_enter Try.func95, Try.ntmps95
  go_wp2
  go_quiet (fail)
  go_wp2
  go_ret
  exact ⟨ret_int' (by rw [HG.out]), nq, rfl⟩

theorem get32_any (A : Option Addr) (n c : Nat) (zs : List Int) (a : Int) (i : Nat) (w : World) (hn : zs.length = n) (ha : a = (i : Int)) (hi : i + 3 < n) (hl : n ≤ 1000000) (hR : Rd w A zs) :
    Calls Try.prog 105 #[.slice A n c, .int .i64 a] w fun e w' => e = .returned (.int .u32 (G32 zs i)) ∧ ∃ q, w' = w.drewN q := by
  have r0 := G16_range zs hR.1 i
  have r1 := G16_range zs hR.1 (i + 2)
  have or1 := or_w32 _ _ r0.1 r0.2 r1.1 r1.2
  have HR := Lib.hid hR
  have Hn := Lib.hid hn
  have Ha := Lib.hid ha
  have hab : 0 ≤ a ∧ a ≤ 1000000 := by omega
  clear hR hn ha
  go_enter Try.func105, Try.ntmps105
  go_wp2_with fail
  refine (get16_any A n c zs a i _ Hn.out Ha.out (by omega) hl HR.out).mono ?_
  rintro e w' ⟨rfl, q, rfl⟩
  go_wp2_with fail
  refine (get16_any A n c zs (a + 2) (i + 2) _ Hn.out (by rw [Ha.out]; omega) (by omega) hl (HR.out.drewN q)).mono ?_
  rintro e w' ⟨rfl, q2, rfl⟩
  go_wp2
  go_ret
  exact ⟨ret_int' rfl, _, rfl⟩

/-- two bytes laid -/
def P16 (zs : List Int) (i : Nat) (v : Int) : List Int := (zs.set i (v / 256)).set (i + 1) (v % 256)
def P32 (zs : List Int) (i : Nat) (v : Int) : List Int := P16 (P16 zs i (v / 65536)) (i + 2) (v % 65536)

/-- what is behind a call that writes one's own row alone -/
structure Laid (w w' : World) (base g n c : Nat) (zs : List Int) : Prop where
  own : Own w' base (some ⟨g, 0, none⟩) n c zs
  grow : w.grownBy w' (some g)
theorem Laid.below {w0 w w' : World} {B base g n c : Nat} {zs : List Int} (h : Laid w w' base g n c zs) (hb : Below B w0 w) (hg : B ≤ g) (hs : B ≤ w.heap.size) : Below B w0 w' :=
  hb.grown h.grow hs fun k hk => by injection hk with hk; omega

theorem put16_any (g n c base : Nat) (zs : List Int) (a v : Int) (i : Nat) (w : World) (ha : a = (i : Int)) (hi : i + 1 < n) (hl : n ≤ 1000000) (hv0 : 0 ≤ v) (hv1 : v ≤ 65535) (hO : Own w base (some ⟨g, 0, none⟩) n c zs) :
    Calls Try.prog 64 #[.slice (some ⟨g, 0, none⟩) n c, .int .i64 a, .int .u16 v] w fun e w' => e = .returned (.tuple #[]) ∧ Laid w w' base g n c (P16 zs i v) := by
  subst ha
  have c0 := hO.at (k := i) (by omega)
  have c1 := hO.at (k := i + 1) (by omega)
  have f0 := hO.free i
  have f1 := hO.free (i + 1)
  have i0 : (i : Int) < (n : Int) := by omega
  have i1 : (i : Int) + 1 < (n : Int) := by omega
  have h1 := hO.set i (v / 256) (by omega) (by omega)
  have h2 := h1.set (i + 1) (v % 256) (by omega) (by omega)
  have g1 := (hO.row.stored i (.int .u8 (v / 256))).2
  have g2 := (h1.row.stored (i + 1) (.int .u8 (v % 256))).2
  have HL := Lib.hid (show Laid w ((w.setCell ⟨g, i, none⟩ (.int .u8 (v / 256))).setCell ⟨g, i + 1, none⟩ (.int .u8 (v % 256))) base g n c (P16 zs i v) from ⟨h2, g1.trans g2⟩)
  clear h1 h2 g1 g2 hO
  go_enter Try.func64, Try.ntmps64
  go_wp2
  go_end0
  exact ⟨rfl, HL.out⟩

theorem put32_any (g n c base : Nat) (zs : List Int) (a v : Int) (i : Nat) (w : World) (ha : a = (i : Int)) (hi : i + 3 < n) (hl : n ≤ 1000000) (hv0 : 0 ≤ v) (hv1 : v ≤ 4294967295) (hO : Own w base (some ⟨g, 0, none⟩) n c zs) :
    Calls Try.prog 65 #[.slice (some ⟨g, 0, none⟩) n c, .int .i64 a, .int .u32 v] w fun e w' => e = .returned (.tuple #[]) ∧ Laid w w' base g n c (P32 zs i v) := by
  have HO := Lib.hid hO
  have Ha := Lib.hid ha
  have hab : 0 ≤ a ∧ a ≤ 1000000 := by omega
  clear hO ha
  go_enter Try.func65, Try.ntmps65
  go_wp2_with fail
  refine (put16_any g n c base zs a (v / 65536) i _ Ha.out (by omega) hl (by omega) (by omega) HO.out).mono ?_
  rintro e w1 ⟨rfl, hL⟩
  have HL := Lib.hid hL
  clear hL
  go_wp2_with fail
  refine (put16_any g n c base _ (a + 2) (v % 65536) (i + 2) _ (by rw [Ha.out]; omega) (by omega) hl (by omega) (by omega) HL.out.own).mono ?_
  rintro e w2 ⟨rfl, hL2⟩
  have HL2 := Lib.hid (show Laid w w2 base g n c (P32 zs i v) from ⟨hL2.own, HL.out.grow.trans hL2.grow⟩)
  clear hL2
  go_wp2
  go_end0
  exact ⟨rfl, HL2.out⟩
end Go.Proofs.Ytoeencklcemofaa

namespace Go.Proofs.Ytoeencklcemofaa
open Go.RowKit Plain
set_option linter.unusedVariables false
set_option maxRecDepth 100000

theorem and_ffff (m : Int) (h0 : 0 ≤ m) (h1 : m < 18446744073709551616) : bits .and .u64 m 65535 = m % 65536 := by
  go_bits2

theorem ret_int {k : IntKind} {a b : Int} (h : a = b) : Ending.returned (.int k a) = .returned (.int k b) := by rw [h]

theorem fold_any (n : Int) (w : World) (h0 : 0 ≤ n) (h1 : n < 18446744073709551616) :
    Calls Try.prog 62 #[.int .u64 n] w fun e w' => e = .returned (.int .u32 (F n)) ∧ w = w' := by
  go_enter Try.func62, Try.ntmps62
  go_wp2
  go_loop [0] (fun t => ∃ m : Int, t = .int .u64 m ∧ 0 ≤ m ∧ m < 18446744073709551616 ∧ F m = F n) (fun t => (intOf t).toNat)
  case atStart => exact ⟨n, rfl, h0, h1, rfl⟩
  case round =>
    obtain ⟨m, rfl, hm0, hm1, hf⟩ := hrel
    have Hf := Lib.hid hf
    clear hf
    by_cases hlt : 65535 < m
    · have e1 : IntKind.u64.wrap (m / 65536 + bits .and .u64 m 65535) = m / 65536 + m % 65536 := by
        rw [and_ffff m hm0 hm1, IntKind.wrap_u64]; omega
      have E1 := Lib.hid e1
      clear e1
      go_wp2
      go_round
      case rel => exact ⟨_, rfl, by rw [E1.out]; omega, by rw [E1.out]; omega, by rw [E1.out, F_step m hlt]; exact Hf.out⟩
      case measure => rw [E1.out]; simp only [intOf]; omega
    · go_wp2
      go_ret
      refine ⟨ret_int ?_, rfl⟩
      rw [← Hf.out, F_small m hm0 (by omega)]

theorem or_bytes (x y : Int) (h0 : 0 ≤ x) (h1 : x ≤ 255) (h2 : 0 ≤ y) (h3 : y ≤ 255) : bits .or .u64 (x * 256) y = x * 256 + y := by
  go_bits2

set_option maxHeartbeats 1000000 in
theorem more_any (n : Int) (A : Option Addr) (c : Nat) (zs : List Int) (w : World) (h0 : 0 ≤ n) (h1 : n < 4294967296) (hl : zs.length ≤ 1000000) (hR : Rd w A zs) :
    Calls Try.prog 18 #[.int .u32 n, .slice A zs.length c] w fun e w' => e = .returned (.int .u32 (F (n + tot zs))) ∧ ∃ q, w' = w.drewN q := by
  obtain ⟨hby, hcells⟩ := hR
  go_enter Try.func18, Try.ntmps18
  go_wp2
  go_loopw [5, 6] (fun t i wr => ∃ k q : Nat, k % 2 = 0 ∧ k ≤ zs.length ∧ i = .int .i64 k ∧ t = .int .u64 (n + tot (zs.take k)) ∧ wr = w.drewN q) (fun _ i _ => zs.length - (intOf i).toNat)
  case atStart => 
    exact ⟨0, 0, rfl, Nat.zero_le _, rfl, by simp [tot], rfl⟩
  case round =>
    obtain ⟨k, q, hk2, hk, rfl, rfl, rfl⟩ := hrel
    have t0 := tot_nonneg (zs.take k) (hby.take k)
    have t1 : tot (zs.take k) ≤ 65535000000 := by
      have := tot_le (zs.take k) (hby.take k)
      rw [List.length_take] at this
      omega
    by_cases hlt : k + 1 < zs.length
    · obtain ⟨b, off, rfl, hc⟩ := hcells (by omega)
      have c0 := hc k (by omega)
      have c1 := hc (k + 1) (by omega)
      have bx := hby.getD k
      have byy := hby.getD (k + 1)
      have ht := Lib.hid (tot_two zs k hk2 hlt)
      generalize zs.getD k 0 = x at *
      generalize zs.getD (k + 1) 0 = y at *
      have i0 : (k : Int) < (zs.length : Int) := by omega
      have i1 : (k : Int) + 1 < (zs.length : Int) := by omega
      clear hc hcells
      go_wp2
      go_quiet (fail)
      go_wp2
      go_roundw
      case rel =>
        refine ⟨k + 2, q + nq, by omega, by omega, by go_num, ?_, rfl⟩
        rw [ht.out, or_bytes x y bx.1 bx.2 byy.1 byy.2, IntKind.wrap_u64]
        congr 1
        omega
      case measure => simp [intOf]; omega
    · by_cases hodd : k + 1 = zs.length
      · obtain ⟨b, off, rfl, hc⟩ := hcells (by omega)
        have c0 := hc k (by omega)
        have bx := hby.getD k
        have ht := Lib.hid (tot_last zs k hk2 hodd)
        generalize zs.getD k 0 = x at *
        clear hc hcells
        have i1 : ((zs.length : Int) % 2 == 1) = true := by simp; omega
        have i2 : (zs.length : Int) - 1 = (k : Int) := by omega
        have i3 : ((zs.length : Int) - 1).toNat = k := by omega
        have i0 : (k : Int) < (zs.length : Int) := by omega
        go_wp2_with (go_at_call 62; refine (fold_any _ _ (by omega) (by omega)).mono ?_; rintro e w' ⟨rfl, rfl⟩)
        go_ret
        exact ⟨ret_int (by rw [ht.out, Int.add_assoc]), q, rfl⟩
      · have hkk : k = zs.length := by omega
        have ht := Lib.hid (show tot (zs.take k) = tot zs by rw [hkk, List.take_length])
        clear hkk
        have i1 : ((zs.length : Int) % 2 == 1) = false := by simp; omega
        go_wp2_with (go_at_call 62; refine (fold_any _ _ (by omega) (by omega)).mono ?_; rintro e w' ⟨rfl, rfl⟩)
        go_ret
        exact ⟨ret_int (by rw [ht.out]), q, rfl⟩

theorem xor_u16 (x : Int) (h0 : 0 ≤ x) (h1 : x ≤ 65535) : bits .xor .u16 IntKind.u16.max x = 65535 - x := by
  obtain ⟨a, rfl⟩ := Int.eq_ofNat_of_zero_le h0
  have ha : a < 65536 := by omega
  have e : IntKind.u16.max = ((65535 : Nat) : Int) := rfl
  rw [e, u16_xor_nat 65535 a (by omega) ha]
  have h : 65535 ^^^ a = 65535 - a := by
    have e1 : (65535 ^^^ a) = (BitVec.ofNat 16 a ^^^ BitVec.allOnes 16).toNat := by
      rw [BitVec.toNat_xor, BitVec.toNat_ofNat, Nat.mod_eq_of_lt ha, Nat.xor_comm]; rfl
    rw [e1, BitVec.xor_allOnes, BitVec.toNat_not, BitVec.toNat_ofNat, Nat.mod_eq_of_lt ha]
  rw [h]; omega

theorem done_any (n : Int) (w : World) (h0 : 0 ≤ n) (h1 : n < 4294967296) :
    Calls Try.prog 20 #[.int .u32 n] w fun e w' => e = .returned (.int .u16 (65535 - F n)) ∧ w = w' := by
  have fr := F_range n h0
  go_enter Try.func20, Try.ntmps20
  go_wp2_with (go_at_call 62; refine (fold_any _ _ (by omega) (by omega)).mono ?_; rintro e w' ⟨rfl, rfl⟩)
  go_ret
  exact ⟨ret_int (xor_u16 _ fr.1 fr.2), rfl⟩

theorem of_any (A : Option Addr) (c : Nat) (zs : List Int) (w : World) (hl : zs.length ≤ 1000000) (hR : Rd w A zs) :
    Calls Try.prog 16 #[.slice A zs.length c] w fun e w' => e = .returned (.int .u16 (65535 - F (tot zs))) ∧ ∃ q, w' = w.drewN q := by
  have t0 := tot_nonneg zs hR.1
  have fr := F_range _ t0
  have Hi := Lib.hid (F_idem _ t0)
  have HR := Lib.hid hR
  clear hR
  go_enter Try.func16, Try.ntmps16
  go_wp2_with fail
  refine (more_any 0 A c zs _ (by omega) (by omega) hl HR.out).mono ?_
  rintro e w' ⟨rfl, q, rfl⟩
  rw [Int.zero_add]
  go_wp2_with fail
  refine (done_any _ _ (by omega) (by omega)).mono ?_
  rintro e w' ⟨rfl, rfl⟩
  go_wp2
  go_ret
  exact ⟨ret_int (by rw [Hi.out]), q, rfl⟩

theorem fix_any (s o n : Int) (w : World) (s0 : 0 ≤ s) (s1 : s ≤ 65535) (o0 : 0 ≤ o) (o1 : o ≤ 65535) (n0 : 0 ≤ n) (n1 : n ≤ 65535) :
    Calls Try.prog 22 #[.int .u16 s, .int .u16 o, .int .u16 n] w fun e w' => e = .returned (.int .u16 (65535 - F (65535 - s + (65535 - o) + n))) ∧ w = w' := by
  have e1 := xor_u16 s s0 s1
  have e2 := xor_u16 o o0 o1
  go_enter Try.func22, Try.ntmps22
  go_wp2_with fail
  refine (done_any _ _ (by omega) (by omega)).mono ?_
  rintro e w' ⟨rfl, rfl⟩
  go_wp2
  go_ret
  exact ⟨ret_int (by rw [Int.emod_eq_of_lt (by omega) (by omega)]), rfl⟩

/-- what Fix tells -/
def Fx (s o n : Int) : Int := 65535 - F (65535 - s + (65535 - o) + n)
theorem Fx_range (s o n : Int) (s0 : 0 ≤ s) (s1 : s ≤ 65535) (o0 : 0 ≤ o) (o1 : o ≤ 65535) (n0 : 0 ≤ n) (n1 : n ≤ 65535) : 0 ≤ Fx s o n ∧ Fx s o n ≤ 65535 := by
  have := F_range (65535 - s + (65535 - o) + n) (by omega)
  unfold Fx; omega
theorem fix_fx (s o n : Int) (w : World) (s0 : 0 ≤ s) (s1 : s ≤ 65535) (o0 : 0 ≤ o) (o1 : o ≤ 65535) (n0 : 0 ≤ n) (n1 : n ≤ 65535) :
    Calls Try.prog 22 #[.int .u16 s, .int .u16 o, .int .u16 n] w fun e w' => e = .returned (.int .u16 (Fx s o n)) ∧ w = w' := fix_any s o n w s0 s1 o0 o1 n0 n1

theorem fixWide_any (s o n : Int) (w : World) (s0 : 0 ≤ s) (s1 : s ≤ 65535) (o0 : 0 ≤ o) (o1 : o < 4294967296) (n0 : 0 ≤ n) (n1 : n < 4294967296) :
    Calls Try.prog 23 #[.int .u16 s, .int .u32 o, .int .u32 n] w fun e w' => e = .returned (.int .u16 (Fx (Fx s (o / 65536) (n / 65536)) (o % 65536) (n % 65536))) ∧ w = w' := by
  have hr := Fx_range s (o / 65536) (n / 65536) s0 s1 (by omega) (by omega) (by omega) (by omega)
  go_enter Try.func23, Try.ntmps23
  go_wp2_with fail
  refine (fix_fx s (o / 65536) (n / 65536) _ s0 s1 (by omega) (by omega) (by omega) (by omega)).mono ?_
  rintro e w' ⟨rfl, rfl⟩
  go_wp2_with fail
  refine (fix_fx _ (o % 65536) (n % 65536) _ hr.1 hr.2 (by omega) (by omega) (by omega) (by omega)).mono ?_
  rintro e w' ⟨rfl, rfl⟩
  go_wp2
  go_ret
  exact ⟨rfl, rfl⟩

theorem refFold_any (n : Int) (w : World) (h0 : 0 ≤ n) (h1 : n < 9223372036854775808) :
    Calls Try.prog 21 #[.int .i64 n] w fun e w' => e = .returned (.int .i64 (F n)) ∧ w = w' := by
  go_enter Try.func21, Try.ntmps21
  go_wp2
  go_loop [0] (fun t => ∃ m : Int, t = .int .i64 m ∧ 0 ≤ m ∧ m < 9223372036854775808 ∧ F m = F n) (fun t => (intOf t).toNat)
  case atStart => exact ⟨n, rfl, h0, h1, rfl⟩
  case round =>
    obtain ⟨m, rfl, hm0, hm1, hf⟩ := hrel
    have Hf := Lib.hid hf
    clear hf
    by_cases hlt : 65535 < m
    · go_wp2
      go_round
      case rel => exact ⟨_, rfl, by omega, by omega, by rw [F_step m hlt]; exact Hf.out⟩
      case measure => simp only [intOf]; omega
    · go_wp2
      go_ret
      refine ⟨ret_int ?_, rfl⟩
      rw [← Hf.out, F_small m hm0 (by omega)]

set_option maxHeartbeats 1000000 in
theorem refSum_any (n : Int) (A : Option Addr) (c : Nat) (zs : List Int) (w : World) (h0 : 0 ≤ n) (h1 : n < 4294967296) (hl : zs.length ≤ 1000000) (hR : Rd w A zs) :
    Calls Try.prog 19 #[.int .i64 n, .slice A zs.length c] w fun e w' => e = .returned (.int .i64 (F (n + tot zs))) ∧ w = w' := by
  obtain ⟨hby, hcells⟩ := hR
  go_enter Try.func19, Try.ntmps19
  go_wp2_with fail
  refine (refFold_any n _ h0 (by omega)).mono ?_
  rintro e w' ⟨rfl, rfl⟩
  go_wp2
  go_loop [0, 5] (fun t i => ∃ k : Nat, k % 2 = 0 ∧ k ≤ zs.length + 1 ∧ i = .int .i64 k ∧ t = .int .i64 (F (n + tot (zs.take k)))) (fun _ i => zs.length + 1 - (intOf i).toNat)
  case atStart => exact ⟨0, rfl, Nat.zero_le _, rfl, by simp [tot]⟩
  case round =>
    obtain ⟨k, hk2, hk, rfl, rfl⟩ := hrel
    have t0 := tot_nonneg (zs.take k) (hby.take k)
    have fr := F_range (n + tot (zs.take k)) (by omega)
    by_cases hlt : k < zs.length
    · obtain ⟨b, off, rfl, hc⟩ := hcells (by omega)
      have c0 := hc k (by omega)
      have bx := hby.getD k
      have i0 : (k : Int) < (zs.length : Int) := by omega
      by_cases hlt1 : k + 1 < zs.length
      · have c1 := hc (k + 1) (by omega)
        have byy := hby.getD (k + 1)
        have ht := Lib.hid (tot_two zs k hk2 hlt1)
        generalize zs.getD k 0 = x at *
        generalize zs.getD (k + 1) 0 = y at *
        have i1 : (k : Int) + 1 < (zs.length : Int) := by omega
        clear hc hcells
        go_wp2_with (go_at_call 21; refine (refFold_any _ _ (by omega) (by omega)).mono ?_; rintro e w' ⟨rfl, rfl⟩)
        go_round
        case rel =>
          refine ⟨k + 2, by omega, by omega, by go_num, ?_⟩
          rw [ht.out, F_add _ _ (by omega) (by omega), Int.add_assoc]
        case measure => simp [intOf]; omega
      · have ht := Lib.hid (tot_last zs k hk2 (by omega))
        have ht2 := Lib.hid (show zs.take (k + 2) = zs from List.take_of_length_le (by omega))
        generalize zs.getD k 0 = x at *
        clear hc hcells
        go_wp2_with (go_at_call 21; refine (refFold_any _ _ (by omega) (by omega)).mono ?_; rintro e w' ⟨rfl, rfl⟩)
        go_round
        case rel =>
          refine ⟨k + 2, by omega, by omega, by go_num, ?_⟩
          rw [ht2.out, ht.out, F_add _ _ (by omega) (by omega), Int.add_assoc]
        case measure => simp [intOf]; omega
    · have ht := Lib.hid (show zs.take k = zs from List.take_of_length_le (by omega))
      go_wp2
      go_ret
      exact ⟨ret_int (by rw [ht.out]), rfl⟩

theorem refOf_any (A : Option Addr) (c : Nat) (zs : List Int) (w : World) (hl : zs.length ≤ 1000000) (hR : Rd w A zs) :
    Calls Try.prog 17 #[.slice A zs.length c] w fun e w' => e = .returned (.int .u16 (65535 - F (tot zs))) ∧ w = w' := by
  have t0 := tot_nonneg zs hR.1
  have fr := F_range _ t0
  have HR := Lib.hid hR
  clear hR
  go_enter Try.func17, Try.ntmps17
  go_wp2_with fail
  refine (refSum_any 0 A c zs _ (by omega) (by omega) hl HR.out).mono ?_
  rintro e w' ⟨rfl, rfl⟩
  rw [Int.zero_add]
  go_wp2
  go_ret
  exact ⟨rfl, rfl⟩

theorem refFix_any (s o n : Int) (w : World) (s0 : 0 ≤ s) (s1 : s ≤ 65535) (o0 : 0 ≤ o) (o1 : o ≤ 65535) (n0 : 0 ≤ n) (n1 : n ≤ 65535) :
    Calls Try.prog 24 #[.int .u16 s, .int .u16 o, .int .u16 n] w fun e w' => e = .returned (.int .u16 (Fx s o n)) ∧ w = w' := by
  have fr := F_range (65535 - s + 65535 - o + n) (by omega)
  go_enter Try.func24, Try.ntmps24
  go_wp2_with fail
  refine (refFold_any (65535 - s + 65535 - o + n) _ (by omega) (by omega)).mono ?_
  rintro e w' ⟨rfl, rfl⟩
  go_wp2
  go_ret
  exact ⟨ret_int (by unfold Fx; congr 2; omega), rfl⟩
end Go.Proofs.Ytoeencklcemofaa

namespace Go.Proofs.Ytoeencklcemofaa
open Go.RowKit Plain
set_option linter.unusedVariables false
set_option maxRecDepth 100000

/-- the checksum of bytes -/
def Cs (zs : List Int) : Int := 65535 - F (tot zs)
theorem Cs_range (zs : List Int) (h : By zs) : 0 ≤ Cs zs ∧ Cs zs ≤ 65535 := by
  have := F_range _ (tot_nonneg zs h)
  unfold Cs; omega

theorem of_n (A : Option Addr) (n c : Nat) (zs : List Int) (w : World) (hn : zs.length = n) (hl : n ≤ 1000000) (hR : Rd w A zs) :
    Calls Try.prog 16 #[.slice A n c] w fun e w' => e = .returned (.int .u16 (Cs zs)) ∧ ∃ q, w' = w.drewN q := by
  subst hn; exact of_any A c zs w hl hR
theorem more_n (s : Int) (A : Option Addr) (n c : Nat) (zs : List Int) (w : World) (h0 : 0 ≤ s) (h1 : s < 4294967296) (hn : zs.length = n) (hl : n ≤ 1000000) (hR : Rd w A zs) :
    Calls Try.prog 18 #[.int .u32 s, .slice A n c] w fun e w' => e = .returned (.int .u32 (F (s + tot zs))) ∧ ∃ q, w' = w.drewN q := by
  subst hn; exact more_any s A c zs w h0 h1 hl hR
theorem refOf_n (A : Option Addr) (n c : Nat) (zs : List Int) (w : World) (hn : zs.length = n) (hl : n ≤ 1000000) (hR : Rd w A zs) :
    Calls Try.prog 17 #[.slice A n c] w fun e w' => e = .returned (.int .u16 (Cs zs)) ∧ w = w' := by
  subst hn; exact refOf_any A c zs w hl hR
theorem refSum_n (s : Int) (A : Option Addr) (n c : Nat) (zs : List Int) (w : World) (h0 : 0 ≤ s) (h1 : s < 4294967296) (hn : zs.length = n) (hl : n ≤ 1000000) (hR : Rd w A zs) :
    Calls Try.prog 19 #[.int .i64 s, .slice A n c] w fun e w' => e = .returned (.int .i64 (F (s + tot zs))) ∧ w = w' := by
  subst hn; exact refSum_any s A c zs w h0 h1 hl hR
end Go.Proofs.Ytoeencklcemofaa

namespace Go.Proofs.Ytoeencklcemofaa
open Go.RowKit Plain
set_option linter.unusedVariables false
set_option maxRecDepth 100000

/-- a head as a value -/
structure Hd where
  size : Int
  len : Int
  ttl : Int
  proto : Int
  src : Int
  dst : Int
def Hd.val (h : Hd) : Value := .agg #[.int .i64 h.size, .int .i64 h.len, .int .i64 h.ttl, .int .i64 h.proto, .int .u32 h.src, .int .u32 h.dst]
def hd0 : Hd := ⟨0, 0, 0, 0, 0, 0⟩
/-- the head that bytes tell -/
def fld (zs : List Int) : Hd := ⟨zs.getD 0 0 % 16 * 4, G16 zs 2, zs.getD 8 0, zs.getD 9 0, G32 zs 12, G32 zs 16⟩

theorem and15 (x : Int) (h0 : 0 ≤ x) (h1 : x ≤ 255) : bits .and .u8 x 15 = x % 16 := by go_bits2

theorem Rd.ne {w : World} {b off : Nat} {zs : List Int} (h : Rd w (some ⟨b, off, none⟩) zs) {p : Addr} (hp : p.block ≠ b) (v : Value) : Rd (w.setCell p v) (some ⟨b, off, none⟩) zs :=
  ⟨h.1, fun hl => by
    obtain ⟨b', off', e, hc⟩ := h.2 hl
    injection e with e; injection e with e1 e2; subst e1 e2
    exact ⟨b, off, rfl, fun k hk => (World.cell?_setCell_other w p ⟨b, off + k, none⟩ v (fun e => hp (by rw [e]))).trans (hc k hk)⟩⟩
theorem Rd.set6 {w : World} {b off m : Nat} {zs : List Int} (h : Rd w (some ⟨b, off, none⟩) zs) (hp : m ≠ b) (v0 v1 v2 v3 v4 v5 : Value) :
    Rd ((((((w.setCell ⟨m, 0, none⟩ v0).setCell ⟨m, 1, none⟩ v1).setCell ⟨m, 2, none⟩ v2).setCell ⟨m, 3, none⟩ v3).setCell ⟨m, 4, none⟩ v4).setCell ⟨m, 5, none⟩ v5) (some ⟨b, off, none⟩) zs :=
  (((((h.ne hp v0).ne hp v1).ne hp v2).ne hp v3).ne hp v4).ne hp v5

theorem below_set6 {B : Nat} {w0 w : World} {m : Nat} (h : Below B w0 w) (hp : B ≤ m) (v0 v1 v2 v3 v4 v5 : Value) :
    Below B w0 ((((((w.setCell ⟨m, 0, none⟩ v0).setCell ⟨m, 1, none⟩ v1).setCell ⟨m, 2, none⟩ v2).setCell ⟨m, 3, none⟩ v3).setCell ⟨m, 4, none⟩ v4).setCell ⟨m, 5, none⟩ v5) :=
  (((((h.setCell (p := ⟨m, 0, none⟩) hp v0).setCell (p := ⟨m, 1, none⟩) hp v1).setCell (p := ⟨m, 2, none⟩) hp v2).setCell (p := ⟨m, 3, none⟩) hp v3).setCell (p := ⟨m, 4, none⟩) hp v4).setCell (p := ⟨m, 5, none⟩) hp v5

set_option maxHeartbeats 2000000 in
theorem fields_any (A : Option Addr) (n c : Nat) (zs : List Int) (w : World) (hn : zs.length = n) (h20 : 20 ≤ n) (hl : n ≤ 1000000) (hR : Rd w A zs) :
    Calls Try.prog 94 #[.slice A n c] w fun e w' => e = .returned (fld zs).val ∧ Below w.heap.size w w' := by
  obtain ⟨b, off, rfl, hc⟩ := hR.2 (by omega)
  have c0 : w.cell? ⟨b, off, none⟩ = some (.int .u8 (zs.getD 0 0)) := hc 0 (by omega)
  have c8 := hc 8 (by omega)
  have c9 := hc 9 (by omega)
  have b0 := hR.1.getD 0
  have b8 := hR.1.getD 8
  have b9 := hR.1.getD 9
  have r2 := G16_range zs hR.1 2
  have r12 := G32_range zs hR.1 12
  have r16 := G32_range zs hR.1 16
  have hlt := block_lt_of_cell c0
  have HR := Lib.hid hR
  have Hn := Lib.hid hn
  have Hf := Lib.hid (show (fld zs).val = .agg #[.int .i64 (zs.getD 0 0 % 16 * 4), .int .i64 (G16 zs 2), .int .i64 (zs.getD 8 0), .int .i64 (zs.getD 9 0), .int .u32 (G32 zs 12), .int .u32 (G32 zs 16)] from rfl)
  obtain ⟨z0, e0⟩ : ∃ z, z = zs.getD 0 0 := ⟨_, rfl⟩
  obtain ⟨z8, e8⟩ : ∃ z, z = zs.getD 8 0 := ⟨_, rfl⟩
  obtain ⟨z9, e9⟩ : ∃ z, z = zs.getD 9 0 := ⟨_, rfl⟩
  rw [← e0] at Hf b0
  rw [← e8] at Hf b8
  rw [← e9] at Hf b9
  have Hz := Lib.hid (And.intro e0 (And.intro e8 e9))
  clear e0 e8 e9
  have an := and15 z0 b0.1 b0.2
  have m4 : IntKind.i64.wrap (z0 % 16 * 4) = z0 % 16 * 4 := by rw [IntKind.wrap_i64]; omega
  have v0 : IntKind.i64.wrap (z0 % 16) = z0 % 16 := by rw [IntKind.wrap_i64]; omega
  have v8 : IntKind.i64.wrap z8 = z8 := by rw [IntKind.wrap_i64]; omega
  have v9 : IntKind.i64.wrap z9 = z9 := by rw [IntKind.wrap_i64]; omega
  have v2 : IntKind.i64.wrap (G16 zs 2) = G16 zs 2 := by rw [IntKind.wrap_i64]; omega
  have i0 : 0 < n := by omega
  have hne : w.heap.size ≠ b := by have : b < w.heap.size := hlt; omega
  have i8 : (8 : Int) < (n : Int) := by omega
  have i9 : (9 : Int) < (n : Int) := by omega
  have k0 : ∀ W, Rd W (some ⟨b, off, none⟩) zs → W.cell? ⟨b, off, none⟩ = some (.int .u8 z0) := fun W h => by
    obtain ⟨b', off', e, hc'⟩ := h.2 (by omega)
    injection e with e; injection e with e1 e2; subst e1 e2
    rw [Hz.out.1]; exact hc' 0 (by omega)
  have k8 : ∀ W, Rd W (some ⟨b, off, none⟩) zs → W.cell? ⟨b, off + 8, none⟩ = some (.int .u8 z8) := fun W h => by
    obtain ⟨b', off', e, hc'⟩ := h.2 (by omega)
    injection e with e; injection e with e1 e2; subst e1 e2
    rw [Hz.out.2.1]; exact hc' 8 (by omega)
  have k9 : ∀ W, Rd W (some ⟨b, off, none⟩) zs → W.cell? ⟨b, off + 9, none⟩ = some (.int .u8 z9) := fun W h => by
    obtain ⟨b', off', e, hc'⟩ := h.2 (by omega)
    injection e with e; injection e with e1 e2; subst e1 e2
    rw [Hz.out.2.2]; exact hc' 9 (by omega)
  clear hc hR hn c0 c8 c9
  go_enter Try.func94, Try.ntmps94
  go_wp2
  go_region_held3 (fun w' => Rd w' (some ⟨b, off, none⟩) zs)
    (first | (with_reducible exact (HR.out.alloc _).drew) | (with_reducible exact (HR.out.alloc _).drewN _) | (with_reducible exact Rd.set6 (by assumption) hne _ _ _ _ _ _))
    (first
      | (go_at_call 95; refine (get16_any _ n c zs 2 2 _ Hn.out rfl (by omega) hl ?_).mono ?_; assumption; rintro e w' ⟨rfl, q, rfl⟩)
      | (go_at_call_of 105 (Value.int .i64 12); refine (get32_any _ n c zs 12 12 _ Hn.out rfl (by omega) hl ?_).mono ?_; assumption; rintro e w' ⟨rfl, q, rfl⟩)
      | (go_at_call_of 105 (Value.int .i64 16); refine (get32_any _ n c zs 16 16 _ Hn.out rfl (by omega) hl ?_).mono ?_; assumption; rintro e w' ⟨rfl, q, rfl⟩))
  go_wp2
  rw [Hf.out]
  exact bodyPost_ret (v := .agg #[.int .i64 (z0 % 16 * 4), .int .i64 (G16 zs 2), .int .i64 z8, .int .i64 z9, .int .u32 (G32 zs 12), .int .u32 (G32 zs 16)]) (by simp [results, Try.results94, go_sem]) rfl
    ⟨rfl, below_set6 (below_drewN ((Below.refl _ _).alloc (Nat.le_refl _) _) _) (Nat.le_refl _) _ _ _ _ _ _⟩

theorem and3fff (x : Int) (h0 : 0 ≤ x) (h1 : x ≤ 65535) : bits .and .u16 x 16383 = x % 16384 := by go_bits2

theorem isPiece_any (A : Option Addr) (n c : Nat) (zs : List Int) (w : World) (hn : zs.length = n) (h20 : 20 ≤ n) (hl : n ≤ 1000000) (hR : Rd w A zs) :
    Calls Try.prog 67 #[.slice A n c] w fun e w' => e = .returned (.bool (G16 zs 6 % 16384 != 0)) ∧ ∃ q, w' = w.drewN q := by
  have r6 := G16_range zs hR.1 6
  have an := and3fff _ r6.1 r6.2
  have HR := Lib.hid hR
  have Hn := Lib.hid hn
  clear hR hn
  go_enter Try.func67, Try.ntmps67
  go_wp2_with fail
  refine (get16_any A n c zs 6 6 _ Hn.out rfl (by omega) hl HR.out).mono ?_
  rintro e w' ⟨rfl, q, rfl⟩
  go_wp2
  go_ret
  exact ⟨rfl, q, rfl⟩

theorem isByte_any (v : Int) (w : World) :
    Calls Try.prog 63 #[.int .i64 v] w fun e w' => e = .returned (.bool (decide (0 ≤ v ∧ v ≤ 255))) ∧ w = w' := by
  by_cases h0 : 0 ≤ v
  · have d0 : decide (0 ≤ v) = true := by simp [h0]
    go_enter Try.func63, Try.ntmps63
    go_wp2
    go_ret
    exact ⟨by first | rfl | (simp; done) | (simp [h0]; done), rfl⟩
  · have d0 : decide (0 ≤ v) = false := by simp [h0]
    go_enter Try.func63, Try.ntmps63
    go_wp2
    go_ret
    exact ⟨by first | rfl | (simp; done) | (simp [h0]; done), rfl⟩
end Go.Proofs.Ytoeencklcemofaa

namespace Go.Proofs.Ytoeencklcemofaa
open Go.RowKit Plain
set_option linter.unusedVariables false
set_option maxRecDepth 100000

/-- the error that read tells -/
def rdE (zs : List Int) (most : Int) : Int :=
  if zs.length < 20 then 2 else if zs.getD 0 0 / 16 ≠ 4 then 3 else if (fld zs).size < 20 then 3 else if (zs.length : Int) < (fld zs).size then 2
  else if (fld zs).len < (fld zs).size then 3 else if most < (fld zs).len then 3 else 0
def rdH (zs : List Int) (most : Int) : Hd := if rdE zs most = 0 then fld zs else hd0

/-- six cells of a head in a block that is known whole -/
def hcells (h : Hd) : Array Value := #[.int .i64 h.size, .int .i64 h.len, .int .i64 h.ttl, .int .i64 h.proto, .int .u32 h.src, .int .u32 h.dst]

def zeroH : Array Value := #[.int .i64 0, .int .i64 0, .int .i64 0, .int .i64 0, .int .u32 0, .int .u32 0]

set_option maxHeartbeats 2000000 in
theorem read_any (A : Option Addr) (n c : Nat) (zs : List Int) (most : Int) (w : World) (hn : zs.length = n) (hl : n ≤ 1000000) (hR : Rd w A zs) (hm0 : 0 ≤ most) (hm1 : most ≤ 1000000) :
    Calls Try.prog 66 #[.slice A n c, .int .i64 most] w fun e w' => e = .returned (.tuple #[(rdH zs most).val, .int .i64 (rdE zs most)]) ∧ Below w.heap.size w w' := by
  by_cases h20 : n < 20
  · have he := Lib.hid (show rdE zs most = 2 by unfold rdE; rw [if_pos (by omega)])
    have hh := Lib.hid (show (rdH zs most).val = .agg #[.int .i64 0, .int .i64 0, .int .i64 0, .int .i64 0, .int .u32 0, .int .u32 0] by unfold rdH; rw [he.out, if_neg (by decide)]; rfl)
    have i0 : (n : Int) < 20 := by omega
    clear hR hn
    go_enter Try.func66, Try.ntmps66
    go_wp2
    rw [he.out, hh.out]
    refine bodyPost_ret (v := .tuple #[.agg #[.int .i64 0, .int .i64 0, .int .i64 0, .int .i64 0, .int .u32 0, .int .u32 0], .int .i64 2]) (by simp [results, Try.results66, go_sem]) rfl ⟨rfl, ?_⟩
    exact (Below.refl _ _).alloc (Nat.le_refl _) _
  · have i0 : ¬ (n : Int) < 20 := by omega
    have hf := fields_any A n c zs _ hn (by omega) hl (hR.alloc (.cells #[.int .i64 0, .int .i64 0, .int .i64 0, .int .i64 0, .int .u32 0, .int .u32 0] 43))
    obtain ⟨b, off, rfl, hc⟩ := hR.2 (by omega)
    have c0 : w.cell? ⟨b, off, none⟩ = some (.int .u8 (zs.getD 0 0)) := hc 0 (by omega)
    have hlt : b < w.heap.size := block_lt_of_cell c0
    have b0 := hR.1.getD 0
    obtain ⟨hd, hhd⟩ : ∃ hd, hd = fld zs := ⟨_, rfl⟩
    rw [← hhd] at hf
    have r2 := G16_range zs hR.1 2
    have hs : 0 ≤ hd.size ∧ hd.size ≤ 60 := by rw [hhd]; simp only [fld]; omega
    have hle : 0 ≤ hd.len ∧ hd.len ≤ 65535 := by rw [hhd]; exact r2
    have HF := Lib.hid hf
    have i1 : 0 < n := by omega
    have HE := Lib.hid (show rdE zs most = if zs.getD 0 0 / 16 ≠ 4 then 3 else if hd.size < 20 then 3 else if (n : Int) < hd.size then 2 else if hd.len < hd.size then 3 else if most < hd.len then 3 else 0 by
      unfold rdE; rw [if_neg (by omega), hn, ← hhd])
    have HH := Lib.hid (show rdH zs most = if rdE zs most = 0 then hd else hd0 by unfold rdH; rw [← hhd])
    generalize zs.getD 0 0 = z0 at *
    obtain ⟨d0, d1, d2, d3, d4, d5⟩ := hd
    simp only at hs hle
    clear hf hc hR hn hhd r2
    go_enter Try.func66, Try.ntmps66
    go_wp2_with fail
    refine HF.out.mono ?_
    rintro e w1 ⟨rfl, hb1⟩
    rw [show (Hd.mk d0 d1 d2 d3 d4 d5).val = .agg #[.int .i64 d0, .int .i64 d1, .int .i64 d2, .int .i64 d3, .int .u32 d4, .int .u32 d5] from rfl]
    have bk := (Blk.new w 43 #[.int .i64 0, .int .i64 0, .int .i64 0, .int .i64 0, .int .u32 0, .int .u32 0]).below hb1
    have hs1 : w.heap.size + 1 ≤ w1.heap.size := by have := hb1.size; simpa using this
    have cz : w1.cell? ⟨b, off, none⟩ = some (.int .u8 z0) := (hb1.cell (p := ⟨b, off, none⟩) (by simp; omega)).trans ((World.cell?_alloc_lt w _ ⟨b, off, none⟩ hlt).trans c0)
    have Hbk := Lib.hid bk
    have Hb1 := Lib.hid (show Below w.heap.size w w1 from ((Below.refl _ _).alloc (Nat.le_refl _) _).trans (hb1.mono (by simp)))
    have Hcz := Lib.hid cz
    clear hb1 bk c0 cz
    go_upto_region 4 with fail
    obtain ⟨w2, hw2⟩ : ∃ w2, w2 = w1.alloc (.cells #[.int .i64 d0, .int .i64 d1, .int .i64 d2, .int .i64 d3, .int .u32 d4, .int .u32 d5] 43) := ⟨_, rfl⟩
    rw [← hw2]
    have bk2 : Blk w2 w.heap.size 43 #[.int .i64 0, .int .i64 0, .int .i64 0, .int .i64 0, .int .u32 0, .int .u32 0] := by rw [hw2]; exact Hbk.out.alloc _
    have bh2 : Blk w2 w1.heap.size 43 #[.int .i64 d0, .int .i64 d1, .int .i64 d2, .int .i64 d3, .int .u32 d4, .int .u32 d5] := by rw [hw2]; exact Blk.new w1 _ _
    have cz : w2.cell? ⟨b, off, none⟩ = some (.int .u8 z0) := by rw [hw2]; exact (World.cell?_alloc_lt w1 _ ⟨b, off, none⟩ (show b < w1.heap.size by omega)).trans Hcz.out
    have Hb2 := Lib.hid (show Below w.heap.size w w2 by rw [hw2]; exact Hb1.out.alloc Hb1.out.size _)
    have k0 := bk2.cell 0
    have k1 := bk2.cell 1
    have k2 := bk2.cell 2
    have k3 := bk2.cell 3
    have k4 := bk2.cell 4
    have k5 := bk2.cell 5
    have f0 := bk2.frozen 0
    have f1 := bk2.frozen 1
    have f2 := bk2.frozen 2
    have f3 := bk2.frozen 3
    have f4 := bk2.frozen 4
    have f5 := bk2.frozen 5
    have m0 := bh2.cell 0
    have m1 := bh2.cell 1
    have m2 := bh2.cell 2
    have m3 := bh2.cell 3
    have m4 := bh2.cell 4
    have m5 := bh2.cell 5
    simp only [List.getElem?_toArray, List.getElem?_cons_zero, List.getElem?_cons_succ] at k0 k1 k2 k3 k4 k5 m0 m1 m2 m3 m4 m5
    have hne : ¬ w.heap.size = w1.heap.size := by omega
    clear bk2 bh2 hw2 Hbk Hb1 Hcz
    generalize w1.heap.size = p at *
    by_cases h4 : z0 / 16 = 4
    · have t4 : (z0 / 16 != 4) = false := by simp [h4]
      by_cases hs20 : d0 < 20
      · have he := Lib.hid (show rdE zs most = 3 by rw [HE.out, if_neg (by simp [h4]), if_pos hs20])
        have hh := Lib.hid (show (rdH zs most).val = .agg #[.int .i64 0, .int .i64 0, .int .i64 0, .int .i64 0, .int .u32 0, .int .u32 0] by rw [HH.out, he.out, if_neg (by decide)]; rfl)
        have H4 := Lib.hid h4
        clear h4
        go_wp2
        rw [he.out, hh.out]
        refine bodyPost_ret (v := .tuple #[.agg #[.int .i64 0, .int .i64 0, .int .i64 0, .int .i64 0, .int .u32 0, .int .u32 0], .int .i64 3]) (by simp [results, Try.results66, go_sem, k0, k1, k2, k3, k4, k5]) rfl ⟨rfl, ?_⟩
        exact below_set6 Hb2.out (Nat.le_refl _) _ _ _ _ _ _
      · by_cases hns : (n : Int) < d0
        · have he := Lib.hid (show rdE zs most = 2 by rw [HE.out, if_neg (by simp [h4]), if_neg hs20, if_pos hns])
          have hh := Lib.hid (show (rdH zs most).val = .agg #[.int .i64 0, .int .i64 0, .int .i64 0, .int .i64 0, .int .u32 0, .int .u32 0] by rw [HH.out, he.out, if_neg (by decide)]; rfl)
          have H4 := Lib.hid h4
          clear h4
          go_wp2
          rw [he.out, hh.out]
          refine bodyPost_ret (v := .tuple #[.agg #[.int .i64 0, .int .i64 0, .int .i64 0, .int .i64 0, .int .u32 0, .int .u32 0], .int .i64 2]) (by simp [results, Try.results66, go_sem, k0, k1, k2, k3, k4, k5]) rfl ⟨rfl, ?_⟩
          exact below_set6 Hb2.out (Nat.le_refl _) _ _ _ _ _ _
        · by_cases hl1 : d1 < d0
          · have he := Lib.hid (show rdE zs most = 3 by rw [HE.out, if_neg (by simp [h4]), if_neg hs20, if_neg hns, if_pos hl1])
            have hh := Lib.hid (show (rdH zs most).val = .agg #[.int .i64 0, .int .i64 0, .int .i64 0, .int .i64 0, .int .u32 0, .int .u32 0] by rw [HH.out, he.out, if_neg (by decide)]; rfl)
            have dl : decide (d1 < d0) = true := by simp [hl1]
            have H4 := Lib.hid h4
            clear h4
            go_wp2
            rw [he.out, hh.out]
            refine bodyPost_ret (v := .tuple #[.agg #[.int .i64 0, .int .i64 0, .int .i64 0, .int .i64 0, .int .u32 0, .int .u32 0], .int .i64 3]) (by simp [results, Try.results66, go_sem, k0, k1, k2, k3, k4, k5]) rfl ⟨rfl, ?_⟩
            exact below_set6 Hb2.out (Nat.le_refl _) _ _ _ _ _ _
          · have dl : decide (d1 < d0) = false := by simp; omega
            by_cases hl2 : most < d1
            · have he := Lib.hid (show rdE zs most = 3 by rw [HE.out, if_neg (by simp [h4]), if_neg hs20, if_neg hns, if_neg hl1, if_pos hl2])
              have hh := Lib.hid (show (rdH zs most).val = .agg #[.int .i64 0, .int .i64 0, .int .i64 0, .int .i64 0, .int .u32 0, .int .u32 0] by rw [HH.out, he.out, if_neg (by decide)]; rfl)
              have H4 := Lib.hid h4
              clear h4
              go_wp2
              rw [he.out, hh.out]
              refine bodyPost_ret (v := .tuple #[.agg #[.int .i64 0, .int .i64 0, .int .i64 0, .int .i64 0, .int .u32 0, .int .u32 0], .int .i64 3]) (by simp [results, Try.results66, go_sem, k0, k1, k2, k3, k4, k5]) rfl ⟨rfl, ?_⟩
              exact below_set6 Hb2.out (Nat.le_refl _) _ _ _ _ _ _
            · have he := Lib.hid (show rdE zs most = 0 by rw [HE.out, if_neg (by simp [h4]), if_neg hs20, if_neg hns, if_neg hl1, if_neg hl2])
              have hh := Lib.hid (show (rdH zs most).val = .agg #[.int .i64 d0, .int .i64 d1, .int .i64 d2, .int .i64 d3, .int .u32 d4, .int .u32 d5] by rw [HH.out, he.out, if_pos rfl]; rfl)
              have H4 := Lib.hid h4
              clear h4
              go_wp2
              rw [he.out, hh.out]
              refine bodyPost_ret (v := .tuple #[.agg #[.int .i64 d0, .int .i64 d1, .int .i64 d2, .int .i64 d3, .int .u32 d4, .int .u32 d5], .int .i64 0]) (by simp [results, Try.results66, go_sem, k0, k1, k2, k3, k4, k5]) rfl ⟨rfl, ?_⟩
              exact below_set6 Hb2.out (Nat.le_refl _) _ _ _ _ _ _
    · have t4 : (z0 / 16 != 4) = true := by rw [bne_iff_ne]; exact h4
      have he := Lib.hid (show rdE zs most = 3 by rw [HE.out, if_pos h4])
      have hh := Lib.hid (show (rdH zs most).val = .agg #[.int .i64 0, .int .i64 0, .int .i64 0, .int .i64 0, .int .u32 0, .int .u32 0] by rw [HH.out, he.out, if_neg (by decide)]; rfl)
      clear h4
      go_wp2
      rw [he.out, hh.out]
      refine bodyPost_ret (v := .tuple #[.agg #[.int .i64 0, .int .i64 0, .int .i64 0, .int .i64 0, .int .u32 0, .int .u32 0], .int .i64 3]) (by simp [results, Try.results66, go_sem, k0, k1, k2, k3, k4, k5]) rfl ⟨rfl, ?_⟩
      exact below_set6 Hb2.out (Nat.le_refl _) _ _ _ _ _ _
end Go.Proofs.Ytoeencklcemofaa

namespace Go.Proofs.Ytoeencklcemofaa
open Go.RowKit Plain
set_option linter.unusedVariables false
set_option maxRecDepth 100000

def gtE (zs : List Int) : Int :=
  if rdE zs 1500 ≠ 0 then rdE zs 1500 else if (zs.length : Int) < (fld zs).len then 2 else if Cs (zs.take (fld zs).size.toNat) ≠ 0 then 4 else if G16 zs 6 % 16384 ≠ 0 then 5 else 0
def gtH (zs : List Int) : Hd := if gtE zs = 0 then fld zs else hd0
def ptE (zs : List Int) : Int := if rdE zs 65535 ≠ 0 then rdE zs 65535 else if G16 zs 6 % 16384 ≠ 0 then 5 else 0
def ptH (zs : List Int) : Hd := if ptE zs = 0 then fld zs else hd0

theorem rdE_zero (zs : List Int) (most : Int) (h : rdE zs most = 0) : 20 ≤ zs.length ∧ zs.getD 0 0 / 16 = 4 ∧ 20 ≤ (fld zs).size ∧ (fld zs).size ≤ (zs.length : Int) ∧ (fld zs).size ≤ (fld zs).len ∧ (fld zs).len ≤ most := by
  unfold rdE at h
  split at h
  · omega
  split at h
  · omega
  split at h
  · omega
  split at h
  · omega
  split at h
  · omega
  split at h
  · omega
  rename_i a b c d e f
  exact ⟨by omega, by omega, by omega, by omega, by omega, by omega⟩
theorem rdE_range (zs : List Int) (most : Int) : 0 ≤ rdE zs most ∧ rdE zs most ≤ 3 := by unfold rdE; repeat (split <;> try omega)

set_option maxHeartbeats 2000000 in
theorem get_any (A : Option Addr) (n c : Nat) (zs : List Int) (w : World) (hn : zs.length = n) (hnc : n ≤ c) (hl : n ≤ 1000000) (hR : Rd w A zs) :
    Calls Try.prog 29 #[.slice A n c] w fun e w' => e = .returned (.tuple #[(gtH zs).val, .int .i64 (gtE zs)]) ∧ Below w.heap.size w w' := by
  have hrd := read_any A n c zs 1500 (w.alloc (.cells #[.int .i64 0, .int .i64 0, .int .i64 0, .int .i64 0, .int .u32 0, .int .u32 0] 43)) hn hl (hR.alloc _) (by omega) (by omega)
  obtain ⟨er, her⟩ : ∃ er, er = rdE zs 1500 := ⟨_, rfl⟩
  obtain ⟨hv, hhv⟩ : ∃ hv, hv = rdH zs 1500 := ⟨_, rfl⟩
  rw [← her, ← hhv] at hrd
  have HF := Lib.hid hrd
  have Her := Lib.hid her
  have Hhv := Lib.hid hhv
  have HR := Lib.hid hR
  have Hn := Lib.hid hn
  clear hrd her hhv hR hn
  obtain ⟨d0, d1, d2, d3, d4, d5⟩ := hv
  go_enter Try.func29, Try.ntmps29
  go_wp2_with fail
  refine HF.out.mono ?_
  rintro e w1 ⟨rfl, hb1⟩
  rw [show (Hd.mk d0 d1 d2 d3 d4 d5).val = .agg #[.int .i64 d0, .int .i64 d1, .int .i64 d2, .int .i64 d3, .int .u32 d4, .int .u32 d5] from rfl]
  have bk := (Blk.new w 43 #[.int .i64 0, .int .i64 0, .int .i64 0, .int .i64 0, .int .u32 0, .int .u32 0]).below hb1
  have hs1 : w.heap.size + 1 ≤ w1.heap.size := by have := hb1.size; simpa using this
  have Hbk := Lib.hid bk
  have Hb1 := Lib.hid (show Below w.heap.size w w1 from ((Below.refl _ _).alloc (Nat.le_refl _) _).trans (hb1.mono (by simp)))
  clear hb1 bk HF
  go_upto_region 2 with fail
  obtain ⟨w2, hw2⟩ : ∃ w2, w2 = w1.alloc (.cells #[.int .i64 d0, .int .i64 d1, .int .i64 d2, .int .i64 d3, .int .u32 d4, .int .u32 d5] 43) := ⟨_, rfl⟩
  rw [← hw2]
  have bk2 : Blk w2 w.heap.size 43 #[.int .i64 0, .int .i64 0, .int .i64 0, .int .i64 0, .int .u32 0, .int .u32 0] := by rw [hw2]; exact Hbk.out.alloc _
  have bh2 : Blk w2 w1.heap.size 43 #[.int .i64 d0, .int .i64 d1, .int .i64 d2, .int .i64 d3, .int .u32 d4, .int .u32 d5] := by rw [hw2]; exact Blk.new w1 _ _
  have Hb2 := Lib.hid (show Below w.heap.size w w2 by rw [hw2]; exact Hb1.out.alloc Hb1.out.size _)
  have k0 := bk2.cell 0
  have k1 := bk2.cell 1
  have k2 := bk2.cell 2
  have k3 := bk2.cell 3
  have k4 := bk2.cell 4
  have k5 := bk2.cell 5
  have f0 := bk2.frozen 0
  have f1 := bk2.frozen 1
  have f2 := bk2.frozen 2
  have f3 := bk2.frozen 3
  have f4 := bk2.frozen 4
  have f5 := bk2.frozen 5
  have m0 := bh2.cell 0
  have m1 := bh2.cell 1
  have m2 := bh2.cell 2
  have m3 := bh2.cell 3
  have m4 := bh2.cell 4
  have m5 := bh2.cell 5
  simp only [List.getElem?_toArray, List.getElem?_cons_zero, List.getElem?_cons_succ] at k0 k1 k2 k3 k4 k5 m0 m1 m2 m3 m4 m5
  have hne : ¬ w.heap.size = w1.heap.size := by omega
  clear bk2 bh2 hw2 Hbk Hb1
  generalize w1.heap.size = p at *

  by_cases hz : er = 0
  · have hrd0 : rdE zs 1500 = 0 := by rw [← Her.out]; exact hz
    obtain ⟨q0, q1, q2, q3, q4, q5⟩ := rdE_zero zs 1500 hrd0
    have hfd : fld zs = ⟨d0, d1, d2, d3, d4, d5⟩ := by have := Hhv.out; unfold rdH at this; rw [hrd0, if_pos rfl] at this; exact this.symm
    have hHR := HR.out
    rw [hfd] at q2 q3 q4 q5
    simp only at q2 q3 q4 q5
    rw [Hn.out] at q0 q3
    obtain ⟨sz, hsz⟩ : ∃ sz : Nat, (sz : Int) = d0 := ⟨d0.toNat, by omega⟩
    subst hsz
    have Hfld := Lib.hid hfd
    have Hrd0 := Lib.hid hrd0
    have HE := Lib.hid (show gtE zs = if (n : Int) < d1 then 2 else if Cs (zs.take sz) ≠ 0 then 4 else if G16 zs 6 % 16384 ≠ 0 then 5 else 0 by
      unfold gtE; rw [Hrd0.out, if_neg (by decide), Hn.out, hfd]; rfl)
    obtain rfl : er = 0 := hz
    clear hfd hrd0 hHR
    have hc16 := Cs_range _ (HR.out.1.take sz)
    by_cases hnl : (n : Int) < d1
    · have he := Lib.hid (show gtE zs = 2 by rw [HE.out, if_pos hnl])
      have hh := Lib.hid (show (gtH zs).val = .agg #[.int .i64 0, .int .i64 0, .int .i64 0, .int .i64 0, .int .u32 0, .int .u32 0] by unfold gtH; rw [he.out, if_neg (by decide)]; rfl)
      go_wp2
      rw [he.out, hh.out]
      refine bodyPost_ret (v := .tuple #[.agg #[.int .i64 0, .int .i64 0, .int .i64 0, .int .i64 0, .int .u32 0, .int .u32 0], .int .i64 2]) (by simp [results, Try.results29, go_sem, k0, k1, k2, k3, k4, k5]) rfl ⟨rfl, ?_⟩
      exact below_set6 Hb2.out (Nat.le_refl _) _ _ _ _ _ _
    · have isz : (sz : Int) ≤ (c : Int) := by omega
      have isz0 : (0 : Int) ≤ (sz : Int) := by omega
      go_wp2_with fail
      refine (of_n A sz c (zs.take sz) _ (by rw [List.length_take, Hn.out]; omega) (by omega) ((HR.out.below Hb2.out).take sz)).mono ?_
      rintro e w' ⟨rfl, qa, rfl⟩
      by_cases hcs : Cs (zs.take sz) = 0
      · have t1 : (Cs (zs.take sz) != 0) = false := by simp [hcs]
        have Hcs := Lib.hid hcs
        clear hcs
        go_wp2_with fail
        refine (isPiece_any A n c zs _ Hn.out (by omega) hl ((HR.out.below Hb2.out).drewN qa)).mono ?_
        rintro e w' ⟨rfl, qb, rfl⟩
        by_cases hp : G16 zs 6 % 16384 = 0
        · have t2 : (G16 zs 6 % 16384 != 0) = false := by simp [hp]
          have he := Lib.hid (show gtE zs = 0 by rw [HE.out, if_neg (by omega), if_neg (by simp [Hcs.out]), if_neg (by simp [hp])])
          have hh := Lib.hid (show (gtH zs).val = .agg #[.int .i64 (sz : Int), .int .i64 d1, .int .i64 d2, .int .i64 d3, .int .u32 d4, .int .u32 d5] by unfold gtH; rw [he.out, if_pos rfl, Hfld.out]; rfl)
          clear hp
          go_wp2
          rw [he.out, hh.out]
          refine bodyPost_ret (v := .tuple #[.agg #[.int .i64 (sz : Int), .int .i64 d1, .int .i64 d2, .int .i64 d3, .int .u32 d4, .int .u32 d5], .int .i64 0]) (by simp [results, Try.results29, go_sem, k0, k1, k2, k3, k4, k5]) rfl ⟨rfl, ?_⟩
          exact below_set6 (below_drewN Hb2.out _) (Nat.le_refl _) _ _ _ _ _ _
        · have t2 : (G16 zs 6 % 16384 != 0) = true := by rw [bne_iff_ne]; exact hp
          have he := Lib.hid (show gtE zs = 5 by rw [HE.out, if_neg (by omega), if_neg (by simp [Hcs.out]), if_pos hp])
          have hh := Lib.hid (show (gtH zs).val = .agg #[.int .i64 0, .int .i64 0, .int .i64 0, .int .i64 0, .int .u32 0, .int .u32 0] by unfold gtH; rw [he.out, if_neg (by decide)]; rfl)
          clear hp
          go_wp2
          rw [he.out, hh.out]
          refine bodyPost_ret (v := .tuple #[.agg #[.int .i64 0, .int .i64 0, .int .i64 0, .int .i64 0, .int .u32 0, .int .u32 0], .int .i64 5]) (by simp [results, Try.results29, go_sem, k0, k1, k2, k3, k4, k5]) rfl ⟨rfl, ?_⟩
          exact below_set6 (below_drewN Hb2.out _) (Nat.le_refl _) _ _ _ _ _ _
      · have t1 : (Cs (zs.take sz) != 0) = true := by rw [bne_iff_ne]; exact hcs
        have he := Lib.hid (show gtE zs = 4 by rw [HE.out, if_neg (by omega), if_pos hcs])
        have hh := Lib.hid (show (gtH zs).val = .agg #[.int .i64 0, .int .i64 0, .int .i64 0, .int .i64 0, .int .u32 0, .int .u32 0] by unfold gtH; rw [he.out, if_neg (by decide)]; rfl)
        clear hcs
        go_wp2
        rw [he.out, hh.out]
        refine bodyPost_ret (v := .tuple #[.agg #[.int .i64 0, .int .i64 0, .int .i64 0, .int .i64 0, .int .u32 0, .int .u32 0], .int .i64 4]) (by simp [results, Try.results29, go_sem, k0, k1, k2, k3, k4, k5]) rfl ⟨rfl, ?_⟩
        exact below_set6 (below_drewN Hb2.out _) (Nat.le_refl _) _ _ _ _ _ _
  · have t0 : (er != 0) = true := by rw [bne_iff_ne]; exact hz
    have he := Lib.hid (show gtE zs = er by unfold gtE; rw [← Her.out, if_pos hz])
    have hh := Lib.hid (show (gtH zs).val = .agg #[.int .i64 0, .int .i64 0, .int .i64 0, .int .i64 0, .int .u32 0, .int .u32 0] by unfold gtH; rw [he.out, if_neg hz]; rfl)
    clear hz
    go_wp2
    rw [he.out, hh.out]
    refine bodyPost_ret (v := .tuple #[.agg #[.int .i64 0, .int .i64 0, .int .i64 0, .int .i64 0, .int .u32 0, .int .u32 0], .int .i64 er]) (by simp [results, Try.results29, go_sem, k0, k1, k2, k3, k4, k5]) rfl ⟨rfl, ?_⟩
    exact below_set6 Hb2.out (Nat.le_refl _) _ _ _ _ _ _

set_option maxHeartbeats 2000000 in
theorem part_any (A : Option Addr) (n c : Nat) (zs : List Int) (w : World) (hn : zs.length = n) (hl : n ≤ 1000000) (hR : Rd w A zs) :
    Calls Try.prog 32 #[.slice A n c] w fun e w' => e = .returned (.tuple #[(ptH zs).val, .int .i64 (ptE zs)]) ∧ Below w.heap.size w w' := by
  have hrd := read_any A n c zs 65535 (w.alloc (.cells #[.int .i64 0, .int .i64 0, .int .i64 0, .int .i64 0, .int .u32 0, .int .u32 0] 43)) hn hl (hR.alloc _) (by omega) (by omega)
  obtain ⟨er, her⟩ : ∃ er, er = rdE zs 65535 := ⟨_, rfl⟩
  obtain ⟨hv, hhv⟩ : ∃ hv, hv = rdH zs 65535 := ⟨_, rfl⟩
  rw [← her, ← hhv] at hrd
  have HF := Lib.hid hrd
  have Her := Lib.hid her
  have Hhv := Lib.hid hhv
  have HR := Lib.hid hR
  have Hn := Lib.hid hn
  clear hrd her hhv hR hn
  obtain ⟨d0, d1, d2, d3, d4, d5⟩ := hv
  go_enter Try.func32, Try.ntmps32
  go_wp2_with fail
  refine HF.out.mono ?_
  rintro e w1 ⟨rfl, hb1⟩
  rw [show (Hd.mk d0 d1 d2 d3 d4 d5).val = .agg #[.int .i64 d0, .int .i64 d1, .int .i64 d2, .int .i64 d3, .int .u32 d4, .int .u32 d5] from rfl]
  have bk := (Blk.new w 43 #[.int .i64 0, .int .i64 0, .int .i64 0, .int .i64 0, .int .u32 0, .int .u32 0]).below hb1
  have hs1 : w.heap.size + 1 ≤ w1.heap.size := by have := hb1.size; simpa using this
  have Hbk := Lib.hid bk
  have Hb1 := Lib.hid (show Below w.heap.size w w1 from ((Below.refl _ _).alloc (Nat.le_refl _) _).trans (hb1.mono (by simp)))
  clear hb1 bk HF
  go_upto_region 2 with fail
  obtain ⟨w2, hw2⟩ : ∃ w2, w2 = w1.alloc (.cells #[.int .i64 d0, .int .i64 d1, .int .i64 d2, .int .i64 d3, .int .u32 d4, .int .u32 d5] 43) := ⟨_, rfl⟩
  rw [← hw2]
  have bk2 : Blk w2 w.heap.size 43 #[.int .i64 0, .int .i64 0, .int .i64 0, .int .i64 0, .int .u32 0, .int .u32 0] := by rw [hw2]; exact Hbk.out.alloc _
  have bh2 : Blk w2 w1.heap.size 43 #[.int .i64 d0, .int .i64 d1, .int .i64 d2, .int .i64 d3, .int .u32 d4, .int .u32 d5] := by rw [hw2]; exact Blk.new w1 _ _
  have Hb2 := Lib.hid (show Below w.heap.size w w2 by rw [hw2]; exact Hb1.out.alloc Hb1.out.size _)
  have k0 := bk2.cell 0
  have k1 := bk2.cell 1
  have k2 := bk2.cell 2
  have k3 := bk2.cell 3
  have k4 := bk2.cell 4
  have k5 := bk2.cell 5
  have f0 := bk2.frozen 0
  have f1 := bk2.frozen 1
  have f2 := bk2.frozen 2
  have f3 := bk2.frozen 3
  have f4 := bk2.frozen 4
  have f5 := bk2.frozen 5
  have m0 := bh2.cell 0
  have m1 := bh2.cell 1
  have m2 := bh2.cell 2
  have m3 := bh2.cell 3
  have m4 := bh2.cell 4
  have m5 := bh2.cell 5
  simp only [List.getElem?_toArray, List.getElem?_cons_zero, List.getElem?_cons_succ] at k0 k1 k2 k3 k4 k5 m0 m1 m2 m3 m4 m5
  have hne : ¬ w.heap.size = w1.heap.size := by omega
  clear bk2 bh2 hw2 Hbk Hb1
  generalize w1.heap.size = p at *

  by_cases hz : er = 0
  · have hrd0 : rdE zs 65535 = 0 := by rw [← Her.out]; exact hz
    obtain ⟨q0, q1, q2, q3, q4, q5⟩ := rdE_zero zs 65535 hrd0
    have hfd : fld zs = ⟨d0, d1, d2, d3, d4, d5⟩ := by have := Hhv.out; unfold rdH at this; rw [hrd0, if_pos rfl] at this; exact this.symm
    rw [hfd] at q2 q3 q4 q5
    simp only at q2 q3 q4 q5
    rw [Hn.out] at q0 q3
    obtain ⟨sz, hsz⟩ : ∃ sz : Nat, (sz : Int) = d0 := ⟨d0.toNat, by omega⟩
    subst hsz
    have Hfld := Lib.hid hfd
    have Hrd0 := Lib.hid hrd0
    have HE := Lib.hid (show ptE zs = if G16 zs 6 % 16384 ≠ 0 then 5 else 0 by unfold ptE; rw [Hrd0.out, if_neg (by decide)])
    obtain rfl : er = 0 := hz
    clear hfd hrd0
    go_wp2_with fail
    refine (isPiece_any A n c zs _ Hn.out (by omega) hl (HR.out.below Hb2.out)).mono ?_
    rintro e w' ⟨rfl, qb, rfl⟩
    by_cases hp : G16 zs 6 % 16384 = 0
    · have t2 : (G16 zs 6 % 16384 != 0) = false := by simp [hp]
      have he := Lib.hid (show ptE zs = 0 by rw [HE.out, if_neg (by simp [hp])])
      have hh := Lib.hid (show (ptH zs).val = .agg #[.int .i64 (sz : Int), .int .i64 d1, .int .i64 d2, .int .i64 d3, .int .u32 d4, .int .u32 d5] by unfold ptH; rw [he.out, if_pos rfl, Hfld.out]; rfl)
      clear hp
      go_wp2
      rw [he.out, hh.out]
      refine bodyPost_ret (v := .tuple #[.agg #[.int .i64 (sz : Int), .int .i64 d1, .int .i64 d2, .int .i64 d3, .int .u32 d4, .int .u32 d5], .int .i64 0]) (by simp [results, Try.results32, go_sem, k0, k1, k2, k3, k4, k5]) rfl ⟨rfl, ?_⟩
      exact below_set6 (below_drewN Hb2.out _) (Nat.le_refl _) _ _ _ _ _ _
    · have t2 : (G16 zs 6 % 16384 != 0) = true := by rw [bne_iff_ne]; exact hp
      have he := Lib.hid (show ptE zs = 5 by rw [HE.out, if_pos hp])
      have hh := Lib.hid (show (ptH zs).val = .agg #[.int .i64 0, .int .i64 0, .int .i64 0, .int .i64 0, .int .u32 0, .int .u32 0] by unfold ptH; rw [he.out, if_neg (by decide)]; rfl)
      clear hp
      go_wp2
      rw [he.out, hh.out]
      refine bodyPost_ret (v := .tuple #[.agg #[.int .i64 0, .int .i64 0, .int .i64 0, .int .i64 0, .int .u32 0, .int .u32 0], .int .i64 5]) (by simp [results, Try.results32, go_sem, k0, k1, k2, k3, k4, k5]) rfl ⟨rfl, ?_⟩
      exact below_set6 (below_drewN Hb2.out _) (Nat.le_refl _) _ _ _ _ _ _
  · have t0 : (er != 0) = true := by rw [bne_iff_ne]; exact hz
    have he := Lib.hid (show ptE zs = er by unfold ptE; rw [← Her.out, if_pos hz])
    have hh := Lib.hid (show (ptH zs).val = .agg #[.int .i64 0, .int .i64 0, .int .i64 0, .int .i64 0, .int .u32 0, .int .u32 0] by unfold ptH; rw [he.out, if_neg hz]; rfl)
    clear hz
    go_wp2
    rw [he.out, hh.out]
    refine bodyPost_ret (v := .tuple #[.agg #[.int .i64 0, .int .i64 0, .int .i64 0, .int .i64 0, .int .u32 0, .int .u32 0], .int .i64 er]) (by simp [results, Try.results32, go_sem, k0, k1, k2, k3, k4, k5]) rfl ⟨rfl, ?_⟩
    exact below_set6 Hb2.out (Nat.le_refl _) _ _ _ _ _ _

end Go.Proofs.Ytoeencklcemofaa

namespace Go.Proofs.Ytoeencklcemofaa
open Go.RowKit Plain
set_option linter.unusedVariables false
set_option maxRecDepth 100000

/-- a block just made of these bytes, whatever its mark -/
theorem Rd.newM (w : World) (t : TypeId) (z : Nat × Nat) (zs : List Int) (hby : By zs) (cs : Array Value) (hcs : cs = (zs.map (Value.int .u8)).toArray) : Rd (w.alloc (.cells cs t z)) (some ⟨w.heap.size, 0, none⟩) zs := by
  subst hcs
  refine ⟨hby, fun _ => ⟨w.heap.size, 0, rfl, fun k hk => ?_⟩⟩
  rw [Nat.zero_add, World.cell?_alloc_mark]
  simp [hk, List.getD]
theorem Rd.dropAt {w : World} {b off : Nat} {zs : List Int} (h : Rd w (some ⟨b, off, none⟩) zs) (k : Nat) : Rd w (some ⟨b, off + k, none⟩) (zs.drop k) := by
  refine ⟨h.1.drop k, fun hp => ⟨b, off + k, rfl, fun j hj => ?_⟩⟩
  rw [List.length_drop] at hp hj
  obtain ⟨b', off', e, hc⟩ := h.2 (by omega)
  injection e with e
  injection e with e1 e2
  subst e1 e2
  rw [getD_drop, Nat.add_assoc]
  exact hc (k + j) (by omega)
theorem Rd.lt {w : World} {A : Option Addr} {zs : List Int} (h : Rd w A zs) : ∀ b off, 0 < zs.length → A = some ⟨b, off, none⟩ → b < w.heap.size := by
  intro b off hp e
  obtain ⟨b', off', e', hc⟩ := h.2 hp
  rw [e] at e'
  injection e' with e'
  injection e' with e1 e2
  subst e1
  exact block_lt_of_cell (hc 0 hp)
theorem Rd.neq {w : World} {A : Option Addr} {zs : List Int} (h : Rd w A zs) {p : Addr} (hp : ∀ b off, 0 < zs.length → A = some ⟨b, off, none⟩ → b < p.block) (v : Value) : Rd (w.setCell p v) A zs :=
  ⟨h.1, fun hl => by
    obtain ⟨b, off, e, hc⟩ := h.2 hl
    refine ⟨b, off, e, fun k hk => (World.cell?_setCell_other w p ⟨b, off + k, none⟩ v (fun e2 => ?_)).trans (hc k hk)⟩
    have := hp b off hl e
    rw [e2] at this
    simp at this⟩
theorem Rd.setNew {w : World} {A : Option Addr} {zs : List Int} {m : Nat} (h : Rd w A zs) (hp : ∀ b off, 0 < zs.length → A = some ⟨b, off, none⟩ → b < m) (v0 v1 v2 v3 v4 v5 : Value) :
    Rd ((((((w.setCell ⟨m, 0, none⟩ v0).setCell ⟨m, 1, none⟩ v1).setCell ⟨m, 2, none⟩ v2).setCell ⟨m, 3, none⟩ v3).setCell ⟨m, 4, none⟩ v4).setCell ⟨m, 5, none⟩ v5) A zs :=
  (((((h.neq (p := ⟨m, 0, none⟩) hp v0).neq (p := ⟨m, 1, none⟩) hp v1).neq (p := ⟨m, 2, none⟩) hp v2).neq (p := ⟨m, 3, none⟩) hp v3).neq (p := ⟨m, 4, none⟩) hp v4).neq (p := ⟨m, 5, none⟩) hp v5
end Go.Proofs.Ytoeencklcemofaa

namespace Go.Proofs.Ytoeencklcemofaa
open Go.RowKit Plain
set_option linter.unusedVariables false
set_option maxRecDepth 100000

theorem sPart : Sty 64 15 := ⟨⟨_, Try.underlying64, rfl⟩, by unfold Siz; kernel_rfl⟩
theorem sHead : Sty 43 6 := ⟨⟨_, Try.underlying43, rfl⟩, by unfold Siz; kernel_rfl⟩
theorem sRHead : Sty 39 6 := ⟨⟨_, Try.underlying39, rfl⟩, by unfold Siz; kernel_rfl⟩
theorem sRPart : Sty 68 15 := ⟨⟨_, Try.underlying68, rfl⟩, by unfold Siz; kernel_rfl⟩
theorem sInt : Siz 3 1 := by unfold Siz; kernel_rfl
theorem sBool : Siz 4 1 := by unfold Siz; kernel_rfl
theorem sU16 : Siz 26 1 := by unfold Siz; kernel_rfl
theorem sU32 : Siz 23 1 := by unfold Siz; kernel_rfl
end Go.Proofs.Ytoeencklcemofaa
