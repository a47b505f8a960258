/-
  Several small texts in one: PpJ, PpK, Pq, Pr, PrA, Ps, PsA. Conditions stand in each theorem.
-/
import Derived.Test.YtmbceafeonjffaaPpI
import Derived.Deep.Slices
import Derived.Lib.SmallJoins
import Derived.Deep.CutBlock
import Derived.Deep.DeepCutAuto
import Derived.Test.YtmbceafeonjffaaGC
namespace Go.Proofs.Ytmbceafeonjffaa
open Go.RowKit Go.Deep Plain
set_option linter.unusedVariables false
set_option linter.unusedSimpArgs false
set_option maxRecDepth 100000
def tk0 : Ps := ⟨1, 0, 2, 2, List.replicate 32 0, 0, false, false, []⟩
def tk1 : List Int × Ps := stpP 2 (newL 40) tk0
def tk2 : List Int × Ps := stpP 2 tk1.1 tk1.2
def tb0 : Ps := backP (giftsF 40 [1])
theorem tk1_nx : tk1.2.nx = 2 := by decide +kernel
theorem tk2_nx : tk2.2.nx = 0 := by decide +kernel
theorem tk2_got : numsF tk2.2.wd tk2.2.tk = [0, 1] := by decide +kernel
theorem tk2_free : (freeL 2 tk2.1).length = 38 := by decide +kernel
theorem tb1_nx : (itP 2 tk2.1 tb0 1).2.nx ≠ 0 := by decide +kernel
theorem tb2_nx : (itP 2 tk2.1 tb0 2).2.nx = 0 := by decide +kernel
theorem tb2_free : (freeL 2 (itP 2 tk2.1 tb0 2).1).length = 39 := by decide +kernel
theorem run2 {gp gc gn gs : Nat} {size : Int} {w w' : World} {e : Ending} (h : RunOk 2 gp gc gn gs size tk2.1 tb0 w e w') : e = .returned (.int .i64 2) ∧ PoS w' gp gc gn 2 size (itP 2 tk2.1 tb0 2).1 ∧ Keep [gn, gs] w w' := by
  obtain ⟨k, hk, hp, _, hkp, hnd, hq⟩ := h
  have h2 : k = 2 := by
    rcases Nat.lt_trichotomy k 2 with q | q | q
    · rcases hq with ⟨q1, q2, _⟩ | ⟨q1, _⟩
      · obtain rfl : k = 1 := by omega
        exact absurd q2 tb1_nx
      · omega
    · exact q
    · exact absurd tb2_nx (hnd 2 (by omega) q)
  subst h2
  rcases hq with ⟨_, _, q3⟩ | ⟨q1, _⟩
  · exact ⟨q3, hp, hkp⟩
  · omega
set_option maxHeartbeats 4000000 in
theorem takes_any (w : World) : Calls Try.prog 10 #[] w fun e w' => e = .returned (.bool true) ∧ Below w.heap.size w w' := by
  have HN := Lib.hid (pnew_any 40 (by omega) (by omega) w)
  go_enter Try.func10, Try.ntmps10
  go_upto_region 2 with (go_at_call 9; refine (HN.out).mono ?_; rintro e w1 ⟨gp, gc, gn, rfl, hp, hb, hgp, hgc, hgn⟩; have HP := Lib.hid hp; have HB := Lib.hid hb; clear hp hb)
  have HT := Lib.hid (pTake_any HP.out (by decide) (by decide) 0 2 (by omega) (by omega))
  go_upto_region 3 with (go_at_call 11; refine (HT.out).mono ?_; rintro e w2 ⟨wd, mo, hwd, hm1, hm2, hwx, hmx, rfl, hst, hb2⟩; have HST := Lib.hid hst; have HB2 := Lib.hid hb2; have HWX := Lib.hid hwx; have HMX := Lib.hid hmx; clear hst hb2 hwx hmx)
  obtain rfl : wd = 0 := by have := HWX.out 0 (by omega) rfl; simpa using this
  obtain rfl : mo = 2 := HMX.out 2 (by omega) (by omega) rfl
  have hg1 : w.heap.size ≤ w1.heap.size := HB.out.size
  have HW := Lib.hid (show StW w2 w1.heap.size gc 2 tk0 from ⟨⟨_, HST.out, ⟨none, 0, 0, rfl, rfl, Nat.le_refl _, by omega, fun h => absurd h (by omega)⟩⟩, takeP_ok (by omega) (by omega)⟩)
  have HP2 := Lib.hid (HP.out.below HB2.out)
  have HBB := Lib.hid (bthen HB.out HB2.out)
  generalize w1.heap.size = gs at *
  have hd1 := pDo_any HP2.out HW.out (by decide)
  have e1 : stpP 2 (newL 40) tk0 = tk1 := rfl
  rw [show wdsN 40 = 2 from rfl, e1, decide_eq_false (show ¬ tk1.2.nx = 0 by rw [tk1_nx]; decide)] at hd1
  have HD1 := Lib.hid hd1
  clear hd1 e1 HP HB HST HB2 HWX HMX HT HN HP2 HW
  have hkb : ∀ W W', Below w.heap.size w W → Keep [gn, gs] W W' → Below w.heap.size w W' := fun W W' hb hk => hk.below hb (Nat.le_refl _) (fun x hx => by simp at hx; omega)
  go_upto_region 4 with (first | (with_reducible (go_at_call 14; refine (HD1.out).mono ?_; rintro e w3 ⟨rfl, h3, s3, k3⟩; have HB3 := Lib.hid (hkb _ _ HBB.out k3); have hd2 := pDo_any h3 s3 (by omega); have e2 : stpP 2 tk1.1 tk1.2 = tk2 := rfl; rw [e2, decide_eq_true tk2_nx] at hd2; have HD2 := Lib.hid hd2; clear hd2 e2 h3 s3 k3)) | (go_at_call 14; refine (HD2.out).mono ?_; rintro e w4 ⟨rfl, h4, s4, k4⟩; have HB4 := Lib.hid (hkb _ _ HB3.out k4); have HP4 := Lib.hid h4; have HS4 := Lib.hid s4; clear h4 s4 k4))
  have hgo := got_any HS4.out (by decide)
  rw [tk2_got] at hgo
  have HG := Lib.hid hgo
  clear hgo HD1 HBB HB3
  go_upto_region 5 with (go_at_call 15; refine (HG.out).mono ?_; rintro e w5 ⟨A, m, c, rfl, ho, hb⟩; have HO := Lib.hid ho; have HB5 := Lib.hid (bthen HB4.out hb); have HP5 := Lib.hid (HP4.out.below hb); clear ho hb)
  obtain rfl : 2 = m := HO.out.len
  have hal := ball w5 (.cells #[.int .i64 1] 3)
  have hrd : RdI (w5.alloc (.cells #[.int .i64 1] 3)) (some ⟨w5.heap.size, 0, none⟩) [1] := fun _ => ⟨w5.heap.size, 0, rfl, (Blk.new w5 3 #[.int .i64 1]).lt, fun j hj => by
    obtain rfl : j = 0 := by simpa using hj
    exact (Blk.new w5 3 #[.int .i64 1]).cell 0⟩
  have HBK := Lib.hid (pBack_any (len := 1) (cap := 1) (HP5.out.below hal) (by decide) (by decide) (by decide) hrd rfl (by omega))
  have HP6 := Lib.hid (HP5.out.below hal)
  have HB6 := Lib.hid (bthen HB5.out hal)
  have HO6 := Lib.hid (HO.out.below hal)
  clear hrd hal HG HS4 HP4
  go_upto_region 6 with (go_at_call 12; refine (HBK.out).mono ?_; rintro e w6 ⟨gb, rfl, hgb, hsb, hb⟩; have HS7 := Lib.hid hsb; have HB7 := Lib.hid (bthen HB6.out hb); have HP7 := Lib.hid (HP6.out.below hb); have HO7 := Lib.hid (HO6.out.below hb); clear hsb hb)
  obtain ⟨hc2, ga, rfl, hga, _, hco⟩ := HO7.out.rd (by omega)
  have k0 : w6.cell? ⟨ga, 0, none⟩ = some (.int .i64 0) := hco 0 (by omega)
  have k1 : w6.cell? ⟨ga, 1, none⟩ = some (.int .i64 1) := hco 1 (by omega)
  have hgb2 : w.heap.size ≤ gb := by have := HB6.out.size; omega
  have hkb2 : ∀ W W', Below w.heap.size w W → Keep [gn, gb] W W' → Below w.heap.size w W' := fun W W' hb hk => hk.below hb (Nat.le_refl _) (fun x hx => by simp at hx; omega)
  have HF1 := Lib.hid (free_any HP7.out (by decide))
  have e3 : tb0 = backP (giftsF ((40 : Nat) : Int) [1]) := rfl
  rw [← e3] at HS7
  clear hco e3 HBK HP6 HB6 HO6 HO7 HP5 HB5 HO
  go_wp2_with (first | (go_at_call 16; (with_reducible refine (HF1.out).mono ?_); rintro e w7 ⟨A7, m7, c7, rfl, ho, hb⟩; have hm7 := ho.len; rw [tk2_free] at hm7; subst hm7; have HB8 := Lib.hid (bthen HB7.out hb); have HR := Lib.hid (run8_any (HP7.out.below hb) (HS7.out.below hb) (by decide)); clear ho hb) | (go_at_call 17; refine (HR.out).mono ?_; rintro e w8 hrun; obtain ⟨rfl, h8, k8⟩ := run2 hrun; have HB9 := Lib.hid (hkb2 _ _ HB8.out k8); have HF2 := Lib.hid (free_any h8 (by decide)); clear hrun h8 k8) | (go_at_call 16; refine (HF2.out).mono ?_; rintro e w9 ⟨A9, m9, c9, rfl, ho, hb⟩; have hm9 := ho.len; rw [tb2_free] at hm9; subst hm9; have HB10 := Lib.hid (bthen HB9.out hb); clear ho hb))
  go_ret
  exact ⟨rfl, HB10.out⟩
end Go.Proofs.Ytmbceafeonjffaa

namespace Go.Proofs.Ytmbceafeonjffaa
open Go.ChangeShapes Go.WideShapes Go.ChangeAt Go.RowKit Go.Deep Plain
set_option linter.unusedVariables false
set_option linter.unusedSimpArgs false
set_option maxRecDepth 100000
theorem lst5 {α : Type} {l : List α} (h : l.length = 5) : ∃ a0 a1 a2 a3 a4, l = [a0, a1, a2, a3, a4] := by
  rcases l with _ | ⟨a0, l⟩
  · simp at h
  rcases l with _ | ⟨a1, l⟩
  · simp at h
  rcases l with _ | ⟨a2, l⟩
  · simp at h
  rcases l with _ | ⟨a3, l⟩
  · simp at h
  rcases l with _ | ⟨a4, l⟩
  · simp at h
  rcases l with _ | ⟨b, l⟩
  · exact ⟨a0, a1, a2, a3, a4, rfl⟩
  · simp at h

structure A8 where
  what : Int
  wk : Int
  fr : Int
  mo : Int
  A : Option Addr
  n : Nat
  c : Nat
  zs : List Int
def A8.cs (x : A8) : List Value := [.int .i64 x.what, .int .i64 x.wk, .int .i64 x.fr, .int .i64 x.mo, .slice x.A x.n x.c]
structure A8.ok (x : A8) (w : World) : Prop where
  w1 : (Lit.int .i64 x.what).wf = true
  w2 : (Lit.int .i64 x.wk).wf = true
  w3 : (Lit.int .i64 x.fr).wf = true
  w4 : (Lit.int .i64 x.mo).wf = true
  len : x.zs.length = x.n
  cap : x.n ≤ x.c
  max : x.c ≤ maxLen
  rd : RdN .i64 w x.A x.zs
def a80 : A8 := ⟨0, 0, 0, 0, none, 0, 0, []⟩
/-- a row of Acts reads as a list -/
def RdA8 (w : World) (A : Option Addr) (L : List A8) : Prop :=
  0 < L.length → ∃ b off, A = some ⟨b, off, none⟩ ∧ b < w.heap.size ∧ ∀ i, i < L.length → At w ⟨b, off + i * 5, none⟩ (L.getD i a80).cs
set_option maxHeartbeats 2000000 in
theorem trod_a8 {H : Type} {enc : TypeId × Value → H} {W : World} {m : Nat} {l : List Value} {y : DataW H × List MemPlace} (hl : l.length = 5) (h : DataW.trod enc Try.prog W 0 (fun _ => true) true m 34 l = some y) : ∃ x : A8, l = x.cs ∧ x.ok W := by
  have ci : Try.prog.cellsOf 3 = 1 := by kernel_rfl
  have ck : Try.prog.cellsOf 29 = 1 := by kernel_rfl
  obtain ⟨c0, c1, c2, c3, c4, rfl⟩ := lst5 hl
  obtain ⟨xs, n, _, hx, _, hlen, hg⟩ := DataW.trod_struct Try.underlying34 h
  obtain ⟨y0, y1, y2, y3, y4, rfl⟩ := lst5 hlen
  have g0 : DataW.trod enc Try.prog W 0 (fun _ => true) true n 3 [c0] = some y0 := by simpa [Value.cells, ci, ck] using hg 0 _ rfl
  have g1 : DataW.trod enc Try.prog W 0 (fun _ => true) true n 3 [c1] = some y1 := by simpa [Value.cells, ci, ck] using hg 1 _ rfl
  have g2 : DataW.trod enc Try.prog W 0 (fun _ => true) true n 3 [c2] = some y2 := by simpa [Value.cells, ci, ck] using hg 2 _ rfl
  have g3 : DataW.trod enc Try.prog W 0 (fun _ => true) true n 3 [c3] = some y3 := by simpa [Value.cells, ci, ck] using hg 3 _ rfl
  have g4 : DataW.trod enc Try.prog W 0 (fun _ => true) true n 29 [c4] = some y4 := by simpa [Value.cells, ci, ck] using hg 4 _ rfl
  obtain ⟨a0, e0, _, w0⟩ := DataW.trod_int Try.underlying3 g0
  obtain ⟨a1, e1, _, w1⟩ := DataW.trod_int Try.underlying3 g1
  obtain ⟨a2, e2, _, w2⟩ := DataW.trod_int Try.underlying3 g2
  obtain ⟨a3, e3, _, w3⟩ := DataW.trod_int Try.underlying3 g3
  have hs : ∃ (a : Option Addr) (len cap : Nat), c4 = .slice a len cap := by
    rcases open_ints Try.underlying29 Try.underlying3 (by kernel_rfl) g4 with ⟨hcs, _⟩ | ⟨x, l, c, zs, hcs, _⟩
    · injection hcs with hcs; exact ⟨_, _, _, hcs⟩
    · injection hcs with hcs; exact ⟨_, _, _, hcs⟩
  obtain ⟨a, len, cap, rfl⟩ := hs
  obtain ⟨ys, h1, h2, h3, h4⟩ := open_nums Try.underlying29 Try.underlying3 (by kernel_rfl) (d := y4.1) (p := y4.2) ⟨n, g4⟩
  simp at e0 e1 e2 e3
  subst e0 e1 e2 e3
  exact ⟨⟨a0, a1, a2, a3, a, len, cap, ys⟩, rfl, ⟨w0, w1, w2, w3, h1, h2, h3, h4⟩⟩
theorem open_acts8 {H : Type} {enc : TypeId × Value → H} {W : World} {a : Option Addr} {len cap : Nat} {d : DataW H} {p : List MemPlace} (h : DataW.Trod enc Try.prog W 0 (fun _ => true) true 22 (.slice a len cap) d p) :
    ∃ L : List A8, L.length = len ∧ len ≤ cap ∧ cap ≤ maxLen ∧ RdA8 W a L ∧ ∀ x ∈ L, x.ok W := by
  have hC : Try.prog.cellsOf 34 = 5 := by kernel_rfl
  obtain ⟨fuel, hf⟩ := h
  rcases Go.Deep.open_slice Try.underlying22 hf with ⟨hcs, _⟩ | ⟨x, l, c, m, n, D, Pl, hcs, _, hl, hm, hmm, hx, hi⟩
  · simp [Value.cells] at hcs
    obtain ⟨rfl, rfl, rfl⟩ := hcs
    exact ⟨[], rfl, Nat.le_refl _, Nat.zero_le _, fun h => absurd h (by simp), fun x hx => (by cases hx)⟩
  · simp [Value.cells] at hcs
    obtain ⟨rfl, rfl, rfl⟩ := hcs
    have hmc : m = cap := by simpa using hmm
    subst hmc
    have key : ∀ i, ∃ t : A8, i < len → (∀ j v, t.cs[j]? = some v → W.cell? ((x.add (i * 5)).add j) = some v) ∧ t.ok W := by
      intro i
      by_cases hil : i < len
      · obtain ⟨cs', hc, ht'⟩ := hi i (by omega)
        rw [hC] at hc
        obtain ⟨_, hcl, hat⟩ := World.cells?_some hc
        obtain ⟨y, rfl, hok⟩ := trod_a8 hcl ht'
        refine ⟨y, fun _ => ⟨fun j v hv => ?_, hok⟩⟩
        have hj : j < 5 := (List.getElem?_eq_some_iff.1 hv).1
        rw [hat j hj]; exact hv
      · exact ⟨a80, fun h => absurd h hil⟩
    obtain ⟨T, hT⟩ := Classical.axiomOfChoice key
    refine ⟨(List.range len).map T, by simp, hl, hm, fun hp => ?_, fun y hy => ?_⟩
    · rw [List.length_map, List.length_range] at hp
      obtain ⟨b, off, spot⟩ := x
      have h0 := (hT 0 hp).1 0 _ rfl
      have hspot : spot = none := by simpa [Addr.add] using World.cell?_spot h0
      subst hspot
      refine ⟨b, off, rfl, ?_, fun i hi j v hv => ?_⟩
      · have e : ((⟨b, off, none⟩ : Addr).add (0 * 5)).add 0 = ⟨b, off, none⟩ := by simp [Addr.add]
        rw [e] at h0
        exact block_lt_of_cell h0
      · rw [List.length_map, List.length_range] at hi
        have e : ((List.range len).map T).getD i a80 = T i := by simp [List.getD, hi]
        rw [e] at hv
        have := (hT i hi).1 j v hv
        rw [addr_add] at this
        exact this
    · obtain ⟨i, hi, rfl⟩ := List.mem_map.1 hy
      exact (hT i (by simpa using hi)).2
theorem RdA8.below {w w' : World} {A : Option Addr} {L : List A8} (h : RdA8 w A L) (hb : Below w.heap.size w w') : RdA8 w' A L := fun hp => by
  obtain ⟨b, off, e, hl, hc⟩ := h hp
  exact ⟨b, off, e, Nat.lt_of_lt_of_le hl hb.size, fun i hi => (hc i hi).below hb hl⟩
end Go.Proofs.Ytmbceafeonjffaa

namespace Go.Proofs.Ytmbceafeonjffaa
open Go.RowKit Go.Deep Plain
set_option linter.unusedVariables false
set_option linter.unusedSimpArgs false
set_option maxRecDepth 100000
theorem sA8 : Sty 34 5 := ⟨⟨_, Try.underlying34, rfl⟩, by unfold Siz; kernel_rfl⟩
/-- a Step that may be none: where it lies, what it is -/
abbrev Sg := Option (Nat × Ps)
abbrev sgV (o : Sg) : Value := .pointer (o.map fun p => ⟨p.1, 0, none⟩)
/-- a Step that may be none lies there -/
def SgW (w : World) (B gc n : Nat) (o : Sg) : Prop := ∀ g s, o = some (g, s) → StW w g gc n s ∧ B ≤ g
theorem SgW.nil (w : World) (B gc n : Nat) : SgW w B gc n none := fun g s h => by cases h
theorem SgW.one {w : World} {B gc n g : Nat} {s : Ps} (h : StW w g gc n s) (hb : B ≤ g) : SgW w B gc n (some (g, s)) := fun g' s' e => by cases e; exact ⟨h, hb⟩
theorem SgW.below {w w' : World} {B gc n : Nat} {o : Sg} (h : SgW w B gc n o) (hb : Below w.heap.size w w') : SgW w' B gc n o := fun g s e => ⟨(h g s e).1.below hb, (h g s e).2⟩
theorem SgW.keep {w w' : World} {B gc n : Nat} {o : Sg} {bs : List Nat} (h : SgW w B gc n o) (hk : Keep bs w w') (h1 : ∀ g s, o = some (g, s) → g ∉ bs) (h2 : ∀ g ∈ bs, NoG w g) : SgW w' B gc n o := fun g s e => ⟨(h g s e).1.keep hk (h1 g s e) h2, (h g s e).2⟩
theorem SgW.lt {w : World} {B gc n g : Nat} {s : Ps} {o : Sg} (h : SgW w B gc n o) (e : o = some (g, s)) : g < w.heap.size := (h g s e).1.lt
/-- two Steps are apart -/
def SgN (o p : Sg) : Prop := ∀ g s h t, o = some (g, s) → p = some (h, t) → g ≠ h
/-- how far one's own Step is -/
def OwnI (N : Nat) (l : List Int) (o : Sg) (wh st ch : Nat) : Prop := ∀ g s, o = some (g, s) → (wh = 0 ∧ TkI N l s st ch) ∨ (wh = 1 ∧ BkI N l s st ch)
structure BdI (w0 w : World) (gp gc gn N : Nat) (size : Int) (l : List Int) (own other : Sg) (wh st ch i : Nat) : Prop where
  po : PoS w gp gc gn N size l
  ow : SgW w w0.heap.size gc N own
  ot : SgW w w0.heap.size gc N other
  ap : SgN own other
  iv : OwnI N l own wh st ch
  wh : wh ≤ 1
  st : st ≤ i
  ch : ch ≤ 32 * i
  be : Below w0.heap.size w0 w
/-- what holds of PoolBounds' slots at its loop's head -/
def BdR (w0 : World) (gp gc gn N len : Nat) (size : Int) (s6 s11 s12 s13 s14 s15 s16 : Value) (wr : World) : Prop :=
  ∃ l own other, ∃ wh st ch i : Nat, s6 = .bool false ∧ s11 = sgV own ∧ s12 = sgV other ∧ s13 = .int .i64 st ∧ s14 = .int .i64 ch ∧ s15 = .int .i64 wh ∧ s16 = .int .i64 i ∧ i ≤ len ∧ i ≤ 200 ∧ BdI w0 wr gp gc gn N size l own other wh st ch i
theorem diffs_le : ∀ (l m : List Int), diffs l m ≤ l.length
  | [], _ => by simp [diffs]
  | _ :: _, [] => by simp [diffs]
  | x :: l, y :: m => by
    have := diffs_le l m
    simp only [diffs, List.length_cons]
    split <;> omega
/-- how many words below j are others -/
def dfs (l m : List Int) (j : Nat) : Nat := diffs (l.take j) (m.take j)
theorem dfs_succ : ∀ (l m : List Int) (j : Nat), l.length = m.length → j < l.length → dfs l m (j + 1) = dfs l m j + if l.getD j 0 ≠ m.getD j 0 then 1 else 0
  | [], m, j, h, hj => absurd hj (by simp)
  | x :: l, [], j, h, hj => by simp at h
  | x :: l, y :: m, 0, h, hj => by simp [dfs, diffs, List.getD]
  | x :: l, y :: m, j + 1, h, hj => by
    have e := dfs_succ l m j (by simpa using h) (by simpa using hj)
    have e1 : ∀ q, dfs (x :: l) (y :: m) (q + 1) = (if x ≠ y then 1 else 0) + dfs l m q := fun q => rfl
    rw [e1 (j + 1), e1 j, e]
    simp only [List.getD_cons_succ]
    omega
theorem dfs_all (l m : List Int) (h : l.length = m.length) : dfs l m l.length = diffs l m := by
  unfold dfs
  rw [List.take_length, h, List.take_length]
theorem tkI_start {n wd mo : Nat} {l : List Int} (h1 : wd < n) : TkI n l ⟨1, wd, n, mo, List.replicate 32 0, 0, false, false, []⟩ 0 0 :=
  ⟨by show 1 ≤ n; omega, Nat.le_refl _, h1, 0, .inl ⟨rfl, by show 0 = n - n + 2 * 0; omega, Nat.le_refl _⟩⟩
theorem bkI_start {n : Nat} {l : List Int} (h1 : 1 ≤ n) : BkI n l (backP [(0, 1)]) 0 0 :=
  ⟨(0, 1), rfl, h1, 0, .inl ⟨rfl, rfl, Nat.le_refl _⟩⟩
theorem stp_len (n : Nat) (l : List Int) (s : Ps) : (stpP n l s).1.length = l.length := by
  unfold stpP
  split
  · simp only; split
    · rfl
    · split <;> rfl
  · simp only; split
    · simp
    · rfl
  · split
    · rfl
    · split <;> rfl
  · simp only; split <;> rfl
  · simp only; split
    · simp
    · rfl
  · rfl
end Go.Proofs.Ytmbceafeonjffaa

namespace Go.Proofs.Ytmbceafeonjffaa
open Go.RowKit Plain
set_option linter.unusedVariables false
set_option linter.unusedSimpArgs false
/-- the i-th word behind the one that is looked at -/
def bk (n wd i : Nat) : Nat := (wd + n - i) % n
def TkV (n : Nat) (l : List Int) (t : Ps) (calm : Bool) : Prop :=
  (∀ i, 1 ≤ i → i ≤ n - t.ah → VisP l t.rd (bk n t.wd i)) ∧ (calm = true → (∀ i, 1 ≤ i → i ≤ n - t.ah → l.getD (bk n t.wd i) 0 = t.rd.getD (bk n t.wd i) 0) ∧ (t.nx = 2 → l.getD t.wd 0 = t.rd.getD t.wd 0))
def PnP (n : Nat) (l : List Int) (t : Ps) (s : Option Ps) (full calm over on : Bool) : Prop :=
  (over = false ∧ s = none ∧ on = false ∧ t.no = false ∧ (t.nx = 1 ∨ t.nx = 2) ∧ TkV n l t calm) ∨
  (over = true ∧ t.no = true ∧ (∀ j, j < n → VisP l t.rd j) ∧ (calm = true → ∀ j, j < n → l.getD j 0 = t.rd.getD j 0) ∧
    ((s = none ∧ on = false ∧ (full = false → OddP n l t.rd)) ∨ (∃ u, s = some u ∧ u.rd = t.rd ∧ u.nx = 3 ∧ u.sm = false ∧ (on = false → u.wd = 0) ∧ (full = false → ∃ j, u.wd ≤ j ∧ j < n ∧ hiF (t.rd.getD j 0) < hiF (l.getD j 0)))))
theorem bk_lt {n wd i : Nat} (h : 0 < n) : bk n wd i < n := Nat.mod_lt _ h
theorem bk_next {n wd i : Nat} (h : wd < n) (h1 : 1 ≤ i) (h2 : i < n) : bk n ((wd + 1) % n) (i + 1) = bk n wd i := by
  unfold bk
  by_cases e : wd + 1 = n
  · have e1 : (wd + 1) % n = 0 := by rw [e, Nat.mod_self]
    rw [e1]
    have e2 : wd + n - i = n + (n - (i + 1)) := by omega
    rw [e2, Nat.add_mod_left]
    congr 1
    omega
  · rw [Nat.mod_eq_of_lt (show wd + 1 < n by omega)]
    congr 1
    omega
theorem bk_one {n wd : Nat} (h : wd < n) : bk n ((wd + 1) % n) 1 = wd := by
  unfold bk
  by_cases e : wd + 1 = n
  · have e1 : (wd + 1) % n = 0 := by rw [e, Nat.mod_self]
    rw [e1, Nat.zero_add, Nat.mod_eq_of_lt (by omega)]
    omega
  · rw [Nat.mod_eq_of_lt (show wd + 1 < n by omega), show wd + 1 + n - 1 = n + wd by omega, Nat.add_mod_left, Nat.mod_eq_of_lt h]
theorem bk_ne {n wd i : Nat} (h : wd < n) (h1 : 1 ≤ i) (h2 : i < n) : bk n wd i ≠ wd := by
  unfold bk
  by_cases e : i ≤ wd
  · rw [show wd + n - i = n + (wd - i) by omega, Nat.add_mod_left, Nat.mod_eq_of_lt (by omega)]
    omega
  · rw [Nat.mod_eq_of_lt (by omega)]
    omega
/-- each word is the one that is looked at, or one behind it -/
theorem bk_all {n wd j : Nat} (h : wd < n) (hj : j < n) : j = wd ∨ ∃ i, 1 ≤ i ∧ i < n ∧ bk n wd i = j := by
  by_cases e : j = wd
  · exact .inl e
  · right
    by_cases e1 : j < wd
    · exact ⟨wd - j, by omega, by omega, by unfold bk; rw [show wd + n - (wd - j) = n + j by omega, Nat.add_mod_left, Nat.mod_eq_of_lt hj]⟩
    · exact ⟨wd + n - j, by omega, by omega, by unfold bk; rw [show wd + n - (wd + n - j) = j by omega, Nat.mod_eq_of_lt hj]⟩
theorem set_ne (l : List Int) (i j : Nat) (x : Int) (h : j ≠ i) : (l.set i x).getD j 0 = l.getD j 0 := by simp [List.getD, List.getElem?_set_ne (fun q => h q.symm)]
theorem set_eq (l : List Int) (i : Nat) (x : Int) (h : i < l.length) : (l.set i x).getD i 0 = x := by simp [List.getD, h]
theorem VisP.set {l rd : List Int} {i j : Nat} {x : Int} (h : VisP l rd j) (hne : j ≠ i) : VisP l (rd.set i x) j := by
  unfold VisP at *
  rw [set_ne _ _ _ _ hne]
  exact h
theorem VisP.here {l rd : List Int} {j : Nat} (h : j < rd.length) (hf : freeF (l.getD j 0) = 0) : VisP l (rd.set j (l.getD j 0)) j := by
  unfold VisP
  rw [set_eq _ _ _ h]
  exact ⟨hf, Int.le_refl _, fun _ => rfl⟩
theorem PnP.start (n : Nat) (l : List Int) (wd mo : Nat) (full : Bool) : PnP n l ⟨1, wd, n, mo, List.replicate 32 0, 0, false, false, []⟩ none full true false false :=
  .inl ⟨rfl, rfl, rfl, rfl, .inl rfl, fun i h1 h2 => by simp only at h2; omega, fun _ => ⟨fun i h1 h2 => by simp only at h2; omega, fun h => by simp at h⟩⟩
theorem PnP.other {n : Nat} {l l' : List Int} {t : Ps} {s : Option Ps} {full calm over on : Bool} (h : PnP n l t s full calm over on) (hc : ChP n l l') (hn : 0 < n) (af : Bool) (ha : af = false → ¬ ∀ j, j < n → fulF (l'.getD j 0)) : PnP n l' t s (full && (!over || on || af)) false over on := by
  rcases h with ⟨h1, h2, h3, h4, h5, h6⟩ | ⟨h1, h2, h3, h4, h5⟩
  · exact .inl ⟨h1, h2, h3, h4, h5, fun i q1 q2 => (h6.1 i q1 q2).ch hc (bk_lt hn), fun q => by cases q⟩
  · refine .inr ⟨h1, h2, fun j hj => (h3 j hj).ch hc hj, (fun q => (by cases q)), ?_⟩
    rcases h5 with ⟨k1, k2, k3⟩ | ⟨u, k1, k2, k3, k4, k5, k6⟩
    · refine .inl ⟨k1, k2, fun hf => ?_⟩
      subst h1 k2
      cases full
      · exact (k3 rfl).ch hc
      · exact odd_of (fun j hj => (h3 j hj).ch hc hj) (ha (by simpa using hf))
    · refine .inr ⟨u, k1, k2, k3, k4, k5, fun hf => ?_⟩
      have old : full = false → ∃ j, u.wd ≤ j ∧ j < n ∧ hiF (t.rd.getD j 0) < hiF (l'.getD j 0) := fun q => by
        obtain ⟨j, j1, j2, j3⟩ := k6 q
        rcases hc.2 j j2 with e | ⟨e, _, _⟩
        · exact ⟨j, j1, j2, by rw [e]; exact j3⟩
        · exact ⟨j, j1, j2, by omega⟩
      subst h1
      cases full
      · exact old rfl
      · cases on
        · obtain ⟨j, j1, j2⟩ := odd_of (fun j hj => (h3 j hj).ch hc hj) (ha (by simpa using hf))
          exact ⟨j, by rw [k5 rfl]; omega, j1, j2⟩
        · simp at hf
/-- a step of the Take -/
theorem PnP.take {n : Nat} {l : List Int} {t : Ps} {full calm on : Bool} {s : Option Ps} (h : PnP n l t s full calm false on) (hw : t.wd < n) (hr : t.rd.length = 32) (hn : n ≤ 32) (ha : 1 ≤ t.ah ∧ t.ah ≤ n) :
    ((stpP n l t).2.nx ≠ 0 → (stpP n l t).1 = l ∧ PnP n l (stpP n l t).2 none full calm false false) ∧
    ((stpP n l t).2.nx = 0 → (stpP n l t).2.no = true → (stpP n l t).1 = l ∧ ∀ f : Bool, (f = false → ¬ ∀ j, j < n → fulF (l.getD j 0)) → PnP n l (stpP n l t).2 none f calm true false) := by
  rcases h with ⟨_, _, _, h4, h5, h6, h7⟩ | ⟨h1, _⟩
  · rcases h5 with e | e
    · have hin : ∀ i, 1 ≤ i → i ≤ n - t.ah → VisP l (t.rd.set t.wd (l.getD t.wd 0)) (bk n t.wd i) := fun i q1 q2 => (h6 i q1 q2).set (bk_ne hw q1 (by omega))
      have hil : calm = true → ∀ i, 1 ≤ i → i ≤ n - t.ah → l.getD (bk n t.wd i) 0 = (t.rd.set t.wd (l.getD t.wd 0)).getD (bk n t.wd i) 0 := fun hc i q1 q2 => by
        rw [set_ne _ _ _ _ (bk_ne hw q1 (by omega))]
        exact (h7 hc).1 i q1 q2
      have hwd : (t.rd.set t.wd (l.getD t.wd 0)).getD t.wd 0 = l.getD t.wd 0 := set_eq _ _ _ (by omega)
      unfold stpP
      rw [e]
      simp only
      by_cases q : freeF (l.getD t.wd 0) ≠ 0
      · rw [if_pos q]
        refine ⟨fun _ => ⟨rfl, .inl ⟨rfl, rfl, rfl, h4, .inr rfl, hin, fun hc => ⟨hil hc, fun _ => hwd.symm⟩⟩⟩, fun q1 => by simp at q1⟩
      · rw [if_neg q]
        have q0 : freeF (l.getD t.wd 0) = 0 := Classical.byContradiction q
        have hv : VisP l (t.rd.set t.wd (l.getD t.wd 0)) t.wd := VisP.here (by omega) q0
        by_cases q1 : t.ah = 1
        · rw [if_pos q1]
          have hall : ∀ j, j < n → VisP l (t.rd.set t.wd (l.getD t.wd 0)) j := fun j hj => by
            rcases bk_all hw hj with e1 | ⟨i, i1, i2, e1⟩
            · rw [e1]; exact hv
            · rw [← e1]; exact hin i i1 (by omega)
          refine ⟨fun q2 => by simp at q2, fun _ _ => ⟨rfl, fun f hf => .inr ⟨rfl, rfl, hall, fun hc j hj => ?_, .inl ⟨rfl, rfl, fun q3 => odd_of hall (hf q3)⟩⟩⟩⟩
          rcases bk_all hw hj with e1 | ⟨i, i1, i2, e1⟩
          · rw [e1]; exact hwd.symm
          · rw [← e1]; exact hil hc i i1 (by omega)
        · rw [if_neg q1]
          refine ⟨fun _ => ⟨rfl, .inl ⟨rfl, rfl, rfl, h4, .inl rfl, fun i i1 i2 => ?_, fun hc => ⟨fun i i1 i2 => ?_, fun q3 => by simp at q3⟩⟩⟩, fun q2 => by simp at q2⟩
          · simp only at i2 ⊢
            by_cases e1 : i = 1
            · subst e1; rw [bk_one hw]; exact hv
            · obtain ⟨i', rfl⟩ : ∃ i', i = i' + 1 := ⟨i - 1, by omega⟩
              rw [bk_next hw (by omega) (by omega)]
              exact hin i' (by omega) (by omega)
          · simp only at i2 ⊢
            by_cases e1 : i = 1
            · subst e1; rw [bk_one hw]; exact hwd.symm
            · obtain ⟨i', rfl⟩ : ∃ i', i = i' + 1 := ⟨i - 1, by omega⟩
              rw [bk_next hw (by omega) (by omega)]
              exact hil hc i' (by omega) (by omega)
    · unfold stpP
      rw [e]
      simp only
      by_cases q : l.getD t.wd 0 = t.rd.getD t.wd 0
      · rw [if_pos q]
        exact ⟨fun q1 => by simp at q1, fun _ q1 => by simp only at q1; rw [h4] at q1; cases q1⟩
      · rw [if_neg q]
        refine ⟨fun _ => ⟨rfl, .inl ⟨rfl, rfl, rfl, h4, .inl rfl, h6, fun hc => ⟨(h7 hc).1, fun q1 => by simp at q1⟩⟩⟩, fun q1 => by simp at q1⟩
  · cases h1
theorem PnP.same {n : Nat} {l : List Int} {t : Ps} {full calm on : Bool} (h : PnP n l t none full calm true on) : t.no = true ∧ PnP n l t (some (sameP n t)) full calm true false := by
  rcases h with ⟨h1, _⟩ | ⟨h1, h2, h3, h4, h5⟩
  · cases h1
  · refine ⟨h2, .inr ⟨h1, h2, h3, h4, ?_⟩⟩
    rcases h5 with ⟨k1, k2, k3⟩ | ⟨u, k1, _⟩
    · exact .inr ⟨_, rfl, rfl, rfl, rfl, fun _ => rfl, fun hf => by
        obtain ⟨j, j1, j2⟩ := k3 hf
        exact ⟨j, Nat.zero_le _, j1, j2⟩⟩
    · cases k1
/-- a step of the Same -/
theorem PnP.compare {n : Nat} {l : List Int} {t u : Ps} {full calm over on : Bool} (h : PnP n l t (some u) full calm over on) (hs : u.nx = 3 → u.wd + u.ah = n ∧ 1 ≤ u.ah) :
    over = true ∧ (stpP n l u).1 = l ∧ ((stpP n l u).2.nx ≠ 0 → PnP n l t (some (stpP n l u).2) full calm true true) ∧
    ((stpP n l u).2.nx = 0 → ((stpP n l u).2.sm = true → full = true) ∧ ((stpP n l u).2.sm = false → calm = false)) := by
  rcases h with ⟨_, h2, _⟩ | ⟨h1, h2, h3, h4, h5⟩
  · cases h2
  · rcases h5 with ⟨k1, _⟩ | ⟨u', k1, k2, k3, k4, k5, k6⟩
    · cases k1
    · cases k1
      obtain ⟨s1, s2⟩ := hs k3
      refine ⟨h1, ?_⟩
      unfold stpP
      rw [k3]
      simp only
      by_cases q : l.getD u.wd 0 ≠ u.rd.getD u.wd 0
      · rw [if_pos q]
        refine ⟨rfl, fun q1 => by simp at q1, fun _ => ⟨(fun q1 => (by simp only at q1; rw [k4] at q1; cases q1)), fun _ => ?_⟩⟩
        cases calm
        · rfl
        · exact absurd (by rw [k2]; exact h4 rfl u.wd (by omega)) q
      · rw [if_neg q]
        have q0 : l.getD u.wd 0 = t.rd.getD u.wd 0 := by rw [← k2]; exact Classical.byContradiction q
        have hj : full = false → ∃ j, u.wd + 1 ≤ j ∧ j < n ∧ hiF (t.rd.getD j 0) < hiF (l.getD j 0) := fun hf => by
          obtain ⟨j, j1, j2, j3⟩ := k6 hf
          refine ⟨j, ?_, j2, j3⟩
          have : j ≠ u.wd := fun e => by rw [e, q0] at j3; omega
          omega
        by_cases q1 : u.ah = 1
        · rw [if_pos q1]
          refine ⟨rfl, fun q2 => by simp at q2, fun _ => ⟨fun _ => ?_, fun q2 => by simp at q2⟩⟩
          cases full
          · obtain ⟨j, j1, j2, _⟩ := hj rfl
            omega
          · rfl
        · rw [if_neg q1]
          exact ⟨rfl, fun _ => .inr ⟨rfl, h2, h3, h4, .inr ⟨_, rfl, k2, rfl, k4, (fun q2 => (by cases q2)), hj⟩⟩, fun q2 => by simp at q2⟩
end Go.Proofs.Ytmbceafeonjffaa

namespace Go.Proofs.Ytmbceafeonjffaa
open Go.RowKit Go.Deep Plain
set_option linter.unusedVariables false
set_option linter.unusedSimpArgs false
set_option maxRecDepth 100000
theorem numsF_nil (k : Nat) (s : Int) (h0 : 0 ≤ s) (h1 : s < 4294967296) : (numsF k s).length = 0 ↔ s = 0 := by
  constructor
  · intro h
    refine Classical.byContradiction fun hn => ?_
    obtain ⟨i, hi, hb⟩ := nz_bit s h0 h1 hn
    have hm : ((k * 32 + i : Nat) : Int) ∈ numsF k s := (mem_numsF _ _ _).2 ⟨k * 32 + i, rfl, by omega, by rw [show (k * 32 + i) % 32 = i by omega]; exact hb⟩
    rw [List.length_eq_zero_iff.1 h] at hm
    simp at hm
  · intro h
    subst h
    rw [List.length_eq_zero_iff]
    refine List.eq_nil_iff_forall_not_mem.2 fun x hx => ?_
    obtain ⟨y, _, _, hb⟩ := (mem_numsF _ _ _).1 hx
    simp at hb
theorem freeI_zero (l : List Int) (i : Nat) : (freeI l i).length = 0 ↔ ∀ j, j < i → fulF (l.getD j 0) := by
  induction i with
  | zero => simp [freeI]
  | succ i ih =>
    have hf := freeF_rng (l.getD i 0)
    rw [freeI_succ, List.length_append]
    have h := numsF_nil i (freeF (l.getD i 0)) hf.1 (by omega)
    constructor
    · intro q j hj
      by_cases e : j = i
      · subst e; exact h.1 (by omega)
      · exact ih.1 (by omega) j (by omega)
    · intro q
      have := ih.2 fun j hj => q j (by omega)
      have := h.2 (q i (by omega))
      omega
theorem WfP.u64 {n : Nat} {l : List Int} {b : Int} (h : WfP n l b) (j : Nat) : U64 (l.getD j 0) := by
  by_cases hj : j < n
  · have := h.2 j hj; exact ⟨this.1, this.2.1⟩
  · have : l.getD j 0 = 0 := by simp [List.getD, List.getElem?_eq_none (show l.length ≤ j by have := h.1; omega)]
    rw [this]; unfold U64; omega
theorem WfP.mono {n : Nat} {l : List Int} {b c : Int} (h : WfP n l b) (hc : b ≤ c) : WfP n l c := ⟨h.1, fun j hj => by obtain ⟨q1, q2, q3⟩ := h.2 j hj; exact ⟨q1, q2, by omega⟩⟩
theorem OkS.ch {n : Nat} {l : List Int} {s : Ps} {b : Int} (h : OkS n s) (hw : WfP n l b) (hb : b ≤ 4294967294) : ChP n l (stpP n l s).1 := stp_ch hw hb (fun _ => h.wd) (fun e => by
  have := h.hd (h.gv (.inr e))
  exact ⟨this.1, by omega, this.2.2⟩)
theorem it_wf {n : Nat} {l : List Int} {s : Ps} {b : Int} (hw : WfP n l b) (ho : OkS n s) : ∀ k : Nat, b + k ≤ 4294967294 → WfP n (itP n l s k).1 (b + k) ∧ OkS n (itP n l s k).2
  | 0, _ => ⟨by simpa [itP] using hw, ho⟩
  | k + 1, hk => by
    obtain ⟨h1, h2⟩ := it_wf hw ho k (by omega)
    have hc := h2.ch h1 (by omega)
    refine ⟨?_, h2.step (fun j => h1.u64 j)⟩
    have := hc.wf h1
    rw [show b + (k : Int) + 1 = b + ((k + 1 : Nat) : Int) by omega] at this
    exact this
structure PnW (w0 w : World) (gp gc gn N : Nat) (size : Int) (l : List Int) (gt : Nat) (t : Ps) (s other : Sg) (b : Int) : Prop where
  po : PoS w gp gc gn N size l
  tt : StW w gt gc N t
  tb : w0.heap.size ≤ gt
  ss : SgW w w0.heap.size gc N s
  ot : SgW w w0.heap.size gc N other
  a1 : ∀ g u, s = some (g, u) → g ≠ gt
  a2 : ∀ g u, other = some (g, u) → g ≠ gt
  a3 : SgN s other
  wf : WfP N l b
  be : Below w0.heap.size w0 w
section
variable {w0 w w' : World} {gp gc gn N gt : Nat} {size : Int} {l : List Int} {t : Ps} {s other : Sg} {b : Int}
theorem PnW.below (h : PnW w0 w gp gc gn N size l gt t s other b) (hb : Below w.heap.size w w') : PnW w0 w' gp gc gn N size l gt t s other b :=
  ⟨h.po.below hb, h.tt.below hb, h.tb, h.ss.below hb, h.ot.below hb, h.a1, h.a2, h.a3, h.wf, below2 hb h.be⟩
theorem PnW.up (h : PnW w0 w gp gc gn N size l gt t s other b) {c : Int} (hc : b ≤ c) : PnW w0 w gp gc gn N size l gt t s other c :=
  ⟨h.po, h.tt, h.tb, h.ss, h.ot, h.a1, h.a2, h.a3, h.wf.mono hc, h.be⟩
theorem PnW.newOther {g : Nat} {u : Ps} (h : PnW w0 w gp gc gn N size l gt t s other b) (hb : Below w.heap.size w w') (hs : StW w' g gc N u) (hg : w.heap.size ≤ g) : PnW w0 w' gp gc gn N size l gt t s (some (g, u)) b :=
  ⟨h.po.below hb, h.tt.below hb, h.tb, h.ss.below hb, SgW.one hs (Nat.le_trans h.be.size hg), h.a1, fun _ _ e => by cases e; have := h.tt.lt; omega, fun a c d e e1 e2 => by
    cases e2
    have := h.ss.lt e1
    omega, h.wf, below2 hb h.be⟩
theorem PnW.dropOther (h : PnW w0 w gp gc gn N size l gt t s other b) : PnW w0 w gp gc gn N size l gt t s none b :=
  ⟨h.po, h.tt, h.tb, h.ss, SgW.nil _ _ _ _, h.a1, (fun _ _ e => (by cases e)), (fun _ _ _ _ _ e => (by cases e)), h.wf, h.be⟩
theorem PnW.newT {g : Nat} {u : Ps} (h : PnW w0 w gp gc gn N size l gt t s other b) (hb : Below w.heap.size w w') (hs : StW w' g gc N u) (hg : w.heap.size ≤ g) : PnW w0 w' gp gc gn N size l g u s other b :=
  ⟨h.po.below hb, hs, Nat.le_trans h.be.size hg, h.ss.below hb, h.ot.below hb, fun _ _ e => by have := h.ss.lt e; omega, fun _ _ e => by have := h.ot.lt e; omega, h.a3, h.wf, below2 hb h.be⟩
theorem PnW.dropS (h : PnW w0 w gp gc gn N size l gt t s other b) : PnW w0 w gp gc gn N size l gt t none other b :=
  ⟨h.po, h.tt, h.tb, SgW.nil _ _ _ _, h.ot, (fun _ _ e => (by cases e)), h.a2, (fun _ _ _ _ e _ => (by cases e)), h.wf, h.be⟩
theorem PnW.newS {g : Nat} {u : Ps} (h : PnW w0 w gp gc gn N size l gt t s other b) (hb : Below w.heap.size w w') (hs : StW w' g gc N u) (hg : w.heap.size ≤ g) : PnW w0 w' gp gc gn N size l gt t (some (g, u)) other b :=
  ⟨h.po.below hb, h.tt.below hb, h.tb, SgW.one hs (Nat.le_trans h.be.size hg), h.ot.below hb, fun _ _ e => by cases e; have := h.tt.lt; omega, h.a2, fun a c d e e1 e2 => by
    cases e1
    have := h.ot.lt e2
    omega, h.wf, below2 hb h.be⟩
/-- a Step of all is done: what the others are -/
theorem PnW.kept {g : Nat} {l2 : List Int} {c : Int} (h : PnW w0 w gp gc gn N size l gt t s other b) (hg : NoG w g) (hp : PoS w' gp gc gn N size l2) (hk : Keep [gn, g] w w') (hgn : w0.heap.size ≤ gn) (hg0 : w0.heap.size ≤ g) (hw : WfP N l2 c) :
    (gt ≠ g → StW w' gt gc N t) ∧ ((∀ a u, s = some (a, u) → a ≠ g) → SgW w' w0.heap.size gc N s) ∧ ((∀ a u, other = some (a, u) → a ≠ g) → SgW w' w0.heap.size gc N other) ∧ Below w0.heap.size w0 w' := by
  have hn : ∀ a ∈ [gn, g], NoG w a := fun a ha => by
    rcases List.mem_cons.1 ha with e | e
    · rw [e]; exact NoG.cl h.po.cl
    · rw [List.mem_singleton] at e; rw [e]; exact hg
  have hne : ∀ a u, StW w a gc N u → a ≠ g → a ∉ [gn, g] := fun a u hs q => by
    have q1 := hs.typ h.po.cl.nu (by decide)
    simp
    exact ⟨fun e => q1 e.symm, q⟩
  exact ⟨fun q => h.tt.keep hk (hne _ _ h.tt q) hn, fun q => h.ss.keep hk (fun a u e => hne _ _ (h.ss a u e).1 (q a u e)) hn, fun q => h.ot.keep hk (fun a u e => hne _ _ (h.ot a u e).1 (q a u e)) hn, hk.below h.be (Nat.le_refl _) (fun x hx => by simp at hx; omega)⟩
theorem PnW.doOther {g : Nat} {u : Ps} (h : PnW w0 w gp gc gn N size l gt t s (some (g, u)) b) (hb : b ≤ 4294967294) (hp : PoS w' gp gc gn N size (stpP N l u).1) (hs : StW w' g gc N (stpP N l u).2) (hk : Keep [gn, g] w w') (hgn : w0.heap.size ≤ gn) :
    PnW w0 w' gp gc gn N size (stpP N l u).1 gt t s (some (g, (stpP N l u).2)) (b + 1) ∧ ChP N l (stpP N l u).1 := by
  obtain ⟨hu, hg0⟩ := h.ot g u rfl
  have hc := hu.ok.ch h.wf hb
  have hw := hc.wf h.wf
  obtain ⟨k1, k2, k3, k4⟩ := h.kept hu.nog hp hk hgn hg0 hw
  exact ⟨⟨hp, k1 (fun e => h.a2 g u rfl e.symm), h.tb, k2 (fun a v e => h.a3 a v g u e rfl), SgW.one hs hg0, h.a1, fun a v e => by cases e; exact h.a2 g u rfl, fun a c d e e1 e2 => by cases e2; exact h.a3 a c g u e1 rfl, hw, k4⟩, hc⟩
theorem PnW.doT (h : PnW w0 w gp gc gn N size l gt t s other b) (hb : b ≤ 4294967294) (hp : PoS w' gp gc gn N size (stpP N l t).1) (hs : StW w' gt gc N (stpP N l t).2) (hk : Keep [gn, gt] w w') (hgn : w0.heap.size ≤ gn) :
    PnW w0 w' gp gc gn N size (stpP N l t).1 gt (stpP N l t).2 s other (b + 1) := by
  have hw := (h.tt.ok.ch h.wf hb).wf h.wf
  obtain ⟨k1, k2, k3, k4⟩ := h.kept h.tt.nog hp hk hgn h.tb hw
  exact ⟨hp, hs, h.tb, k2 h.a1, k3 h.a2, h.a1, h.a2, h.a3, hw, k4⟩
theorem PnW.doS {g : Nat} {u : Ps} (h : PnW w0 w gp gc gn N size l gt t (some (g, u)) other b) (hl : (stpP N l u).1 = l) (hp : PoS w' gp gc gn N size (stpP N l u).1) (hs : StW w' g gc N (stpP N l u).2) (hk : Keep [gn, g] w w') (hgn : w0.heap.size ≤ gn) :
    PnW w0 w' gp gc gn N size l gt t (some (g, (stpP N l u).2)) other b := by
  rw [hl] at hp
  obtain ⟨hu, hg0⟩ := h.ss g u rfl
  obtain ⟨k1, k2, k3, k4⟩ := h.kept hu.nog hp hk hgn hg0 h.wf
  exact ⟨hp, k1 (fun e => h.a1 g u rfl e.symm), h.tb, SgW.one hs hg0, k3 (fun a v e q => h.a3 g u a v rfl e q.symm), fun a v e => by cases e; exact h.a1 g u rfl, h.a2, fun a c d e e1 e2 => by cases e1; exact h.a3 g u d e rfl e2, h.wf, k4⟩
/-- a Step that is new is done to its end -/
theorem PnW.run {g : Nat} {u : Ps} {w1 : World} {e : Ending} (h : PnW w0 w gp gc gn N size l gt t s other b) (hb : b ≤ 4294960000) (hb1 : Below w.heap.size w w1) (hu : StW w1 g gc N u) (hg : w.heap.size ≤ g) (hgn : w0.heap.size ≤ gn) (hr : RunOk N gp gc gn g size l u w1 e w') :
    ∃ l2 q, e = .returned (.int .i64 q) ∧ PnW w0 w' gp gc gn N size l2 gt t s other (b + 299) := by
  obtain ⟨k, hk, hp, hs, hkp, _, hq⟩ := hr
  have h1 := h.below hb1
  have hw := (it_wf h.wf hu.ok k (by omega)).1
  have hw2 := hw.mono (c := b + 299) (by omega)
  obtain ⟨k1, k2, k3, k4⟩ := h1.kept hu.nog hp hkp hgn (Nat.le_trans h.be.size hg) hw2
  have hlt := h.tt.lt
  refine ⟨(itP N l u k).1, ?_⟩
  have hm : PnW w0 w' gp gc gn N size (itP N l u k).1 gt t s other (b + 299) := ⟨hp, k1 (by omega), h.tb, k2 (fun a v e => by have := h.ss.lt e; omega), k3 (fun a v e => by have := h.ot.lt e; omega), h.a1, h.a2, h.a3, hw2, k4⟩
  rcases hq with ⟨_, _, q⟩ | ⟨_, _, q⟩
  · exact ⟨_, q, hm⟩
  · exact ⟨_, q, hm⟩
end
end Go.Proofs.Ytmbceafeonjffaa

namespace Go.Proofs.Ytmbceafeonjffaa
open Go.RowKit Plain
set_option linter.unusedVariables false
set_option linter.unusedSimpArgs false
/-- a worker's Step, by what it owns -/
structure StO (k : Nat) (own : List Int) (v : Nat) (b : Bool) (s : Ps) : Prop where
  tk : s.tk = 0
  ta : b = false → s.gi = [] ∧ (s.nx = 1 ∨ s.nx = 2)
  bk : b = true → (s.nx = 0 ∨ s.nx = 4 ∨ s.nx = 5) ∧ (s.nx = 0 → s.gi = []) ∧ (s.gi.map Prod.fst).Nodup
  ow : ∀ y, inG s.gi y → y < k ∧ own.getD y 0 = (v : Int) + 1
def upS {α : Type} (f : Nat → α) (v : Nat) (x : α) : Nat → α := fun u => if u = v then x else f u
theorem upS_same {α : Type} (f : Nat → α) (v : Nat) (x : α) : upS f v x v = x := if_pos rfl
theorem upS_ne {α : Type} (f : Nat → α) {v u : Nat} (x : α) (h : u ≠ v) : upS f v x u = f u := if_neg h
structure OwP (N k : Nat) (l own : List Int) (st : Nat → Option Ps) (bk : Nat → Bool) : Prop where
  len : own.length = k
  tk : ∀ y, y < 32 * N → (tkn l y = true ↔ (k ≤ y ∨ own.getD y 0 ≠ 0))
  st : ∀ v, v < 4 → ∀ s, st v = some s → StO k own v (bk v) s
theorem inG_nil (y : Nat) : ¬ inG [] y := fun ⟨g, hg, _⟩ => by simp at hg
theorem leftF_nil : leftF [] = [] := by
  refine List.eq_nil_iff_forall_not_mem.2 fun x hx => ?_
  obtain ⟨y, _, h⟩ := (mem_leftF _ _).1 hx
  exact inG_nil y h
theorem mem_left (gi : List (Nat × Int)) (y : Nat) : (y : Int) ∈ leftF gi ↔ inG gi y := by
  rw [mem_leftF]
  constructor
  · rintro ⟨z, e, h⟩
    have : y = z := by omega
    rw [this]; exact h
  · intro h; exact ⟨y, rfl, h⟩
theorem mem_nums (k : Nat) (s : Int) (y : Nat) : (y : Int) ∈ numsF k s ↔ y / 32 = k ∧ s.toNat.testBit (y % 32) = true := by
  rw [mem_numsF]
  constructor
  · rintro ⟨z, e, h1, h2⟩
    have : y = z := by omega
    rw [this]; exact ⟨h1, h2⟩
  · rintro ⟨h1, h2⟩; exact ⟨y, rfl, h1, h2⟩
theorem numsF_zero (k : Nat) : numsF k 0 = [] := List.length_eq_zero_iff.1 ((numsF_nil k 0 (by omega) (by omega)).2 rfl)
/-- the first of a Back's words, and the others -/
theorem inG_cons (g : Nat × Int) (gi : List (Nat × Int)) (y : Nat) : inG (g :: gi) y ↔ (g.1 = y / 32 ∧ g.2.toNat.testBit (y % 32) = true) ∨ inG gi y := by
  unfold inG
  constructor
  · rintro ⟨a, ha, h1, h2⟩
    rcases List.mem_cons.1 ha with e | e
    · left; rw [← e]; exact ⟨h1, h2⟩
    · exact .inr ⟨a, e, h1, h2⟩
  · rintro (⟨h1, h2⟩ | ⟨a, ha, h⟩)
    · exact ⟨g, by simp, h1, h2⟩
    · exact ⟨a, List.mem_cons_of_mem _ ha, h⟩
theorem tail_ne {g : Nat × Int} {gi : List (Nat × Int)} (h : ((g :: gi).map Prod.fst).Nodup) (y : Nat) (hy : inG gi y) : g.1 ≠ y / 32 := by
  obtain ⟨a, ha, h1, _⟩ := hy
  rw [List.map_cons, List.nodup_cons] at h
  intro e
  exact h.1 (by rw [e, ← h1]; exact List.mem_map.2 ⟨a, ha, rfl⟩)
section
variable {N k v : Nat} {l own : List Int} {st : Nat → Option Ps} {bk : Nat → Bool} {s : Ps}
/-- what a step of a worker's makes of whose each number is -/
theorem OwP.after (h : OwP N k l own st bk) (hv : v < 4) {l2 own2 : List Int} {s2 : Option Ps} (ho : own2.length = k)
    (h1 : ∀ y, y < 32 * N → (tkn l2 y = true ↔ (k ≤ y ∨ own2.getD y 0 ≠ 0)))
    (h2 : ∀ y, y < k → own2.getD y 0 = own.getD y 0 ∨ own.getD y 0 = 0 ∨ own.getD y 0 = (v : Int) + 1)
    (h3 : ∀ x, s2 = some x → StO k own2 v (bk v) x) : OwP N k l2 own2 (upS st v s2) bk := by
  refine ⟨ho, h1, fun u hu x hx => ?_⟩
  by_cases e : u = v
  · subst e
    rw [upS_same] at hx
    exact h3 x hx
  · rw [upS_ne _ _ e] at hx
    obtain ⟨q1, q2, q3, q4⟩ := h.st u hu x hx
    refine ⟨q1, q2, q3, fun y hy => ?_⟩
    obtain ⟨r1, r2⟩ := q4 y hy
    refine ⟨r1, ?_⟩
    rcases h2 y r1 with q | q | q
    · rw [q]; exact r2
    · omega
    · omega
/-- what a step of a worker's tells -/
structure OwT (N k v : Nat) (l own : List Int) (st : Nat → Option Ps) (bk : Nat → Bool) (s : Ps) (l2 : List Int) (s2 : Ps) : Prop where
  c0 : bk v = false → leftF s.gi = []
  c1 : ∀ y : Nat, (y : Int) ∈ leftF s.gi → y < k
  c2 : s2.nx = 0 → ∀ y : Nat, (y : Int) ∈ numsF s2.wd s2.tk → y < k ∧ own.getD y 0 = 0 ∧ leftF s.gi = []
  c3 : s2.nx = 0 → bk v = true → numsF s2.wd s2.tk = []
  c4 : ∀ own2 : List Int, own2.length = k → (∀ y : Nat, y < k → own2.getD y 0 = if s2.nx = 0 ∧ (y : Int) ∈ numsF s2.wd s2.tk then (v : Int) + 1 else if (y : Int) ∈ leftF s.gi ∧ (y : Int) ∉ leftF s2.gi then 0 else own.getD y 0) → OwP N k l2 own2 (upS st v (if s2.nx = 0 then none else some s2)) bk
theorem OwP.same (h : OwP N k l own st bk) (hv : v < 4) {own2 : List Int} {s2 : Option Ps} (ho : own2.length = k) (he : ∀ y, y < k → own2.getD y 0 = own.getD y 0) (h3 : ∀ x, s2 = some x → StO k own v (bk v) x) : OwP N k l own2 (upS st v s2) bk := by
  have e : own2 = own := by
    refine List.ext_getElem? fun i => ?_
    by_cases hi : i < k
    · have := he i hi
      have h1 : i < own2.length := by omega
      have h2 : i < own.length := by rw [h.len]; exact hi
      simp [List.getD, h1, h2] at this
      simp [h1, h2, this]
    · rw [List.getElem?_eq_none (by omega), List.getElem?_eq_none (by rw [h.len]; omega)]
  subst e
  exact h.after hv ho h.tk (fun y _ => .inl rfl) h3
theorem StO.up {a b : List Int} {t : Bool} {u : Ps} (h : StO k a v t u) (he : ∀ y, inG u.gi y → b.getD y 0 = a.getD y 0) : StO k b v t u := ⟨h.tk, h.ta, h.bk, fun y hy => ⟨(h.ow y hy).1, (he y hy).trans (h.ow y hy).2⟩⟩
/-- nothing was given back, nothing was taken, and it goes on, or not -/
theorem OwP.rest (h : OwP N k l own st bk) (hv : v < 4) (hs : st v = some s) {s2 : Ps} (hg : s2.gi = s.gi) (ht : s2.tk = 0) (h3 : s2.nx ≠ 0 → StO k own v (bk v) s2) : OwT N k v l own st bk s l s2 := by
  have ho := h.st v hv s hs
  refine ⟨fun e => by rw [(ho.ta e).1, leftF_nil], fun y hy => (ho.ow y ((mem_left _ _).1 hy)).1, fun _ y hy => by rw [ht, numsF_zero] at hy; simp at hy, fun _ _ => by rw [ht, numsF_zero], fun own2 hl he => ?_⟩
  refine h.same hv hl (fun y hy => ?_) (fun x hx => ?_)
  · have q := he y hy
    rw [ht, numsF_zero, hg, if_neg (by simp), if_neg (fun q => q.2 q.1)] at q
    exact q
  · by_cases e : s2.nx = 0
    · rw [if_pos e] at hx; cases hx
    · rw [if_neg e] at hx; cases hx; exact h3 e
theorem OwP.step (h : OwP N k l own st bk) (hv : v < 4) (hs : st v = some s) (hok : OkS N s) (hu : ∀ j, U64 (l.getD j 0)) (hk : k ≤ 32 * N) (hl : l.length = N) : OwT N k v l own st bk s (stpP N l s).1 (stpP N l s).2 := by
  have ho := h.st v hv s hs
  have hb : bk v = false ∨ bk v = true := by cases bk v <;> simp
  have hcase : s.nx = 0 ∨ s.nx = 1 ∨ s.nx = 2 ∨ s.nx = 3 ∨ s.nx = 4 ∨ s.nx = 5 := by have := hok.nx; omega
  rcases hcase with e | e | e | e | e | e
  · have e1 : stpP N l s = (l, s) := by unfold stpP; rw [e]; rfl
    rw [e1]
    exact h.rest hv hs rfl ho.tk (fun _ => ho)
  · have hbk : bk v = false := by
      rcases hb with q | q
      · exact q
      · have := (ho.bk q).1; omega
    obtain ⟨q1, q2⟩ := ho.ta hbk
    have hl2 : (stpP N l s).1 = l ∧ (stpP N l s).2.gi = s.gi ∧ (stpP N l s).2.tk = s.tk ∧ ((stpP N l s).2.nx ≠ 0 → (stpP N l s).2.nx = 1 ∨ (stpP N l s).2.nx = 2) := by
      unfold stpP
      rw [e]
      simp only
      split
      · exact ⟨rfl, rfl, rfl, fun _ => .inr rfl⟩
      · split
        · exact ⟨rfl, rfl, rfl, fun q => absurd rfl q⟩
        · exact ⟨rfl, rfl, rfl, fun _ => .inl rfl⟩
    obtain ⟨a1, a2, a3, a4⟩ := hl2
    rw [a1]
    exact h.rest hv hs a2 (by rw [a3, ho.tk]) (fun q => ⟨by rw [a3, ho.tk], fun _ => ⟨by rw [a2, q1], a4 q⟩, (fun q => by rw [hbk] at q; cases q), fun y hy => by rw [a2] at hy; exact ho.ow y hy⟩)
  · have hbk : bk v = false := by
      rcases hb with q | q
      · exact q
      · have := (ho.bk q).1; omega
    obtain ⟨q1, q2⟩ := ho.ta hbk
    have hwd := hok.wd
    unfold stpP
    rw [e]
    simp only
    by_cases q : l.getD s.wd 0 = s.rd.getD s.wd 0
    · rw [if_pos q, ← q]
      obtain ⟨S, hS⟩ : ∃ S, lowF (freeF (l.getD s.wd 0)) s.mo = S := ⟨_, rfl⟩
      rw [hS]
      have hfree : ∀ y : Nat, y / 32 = s.wd → S.toNat.testBit (y % 32) = true → tkn l y = false := fun y y1 y2 => by
        rw [← hS] at y2
        have z := low_bit _ _ _ y2
        rw [free_bit _ (hu s.wd).1 _ (Nat.mod_lt _ (by decide))] at z
        unfold tkn
        rw [y1]
        simpa using z
      have hmem : ∀ y : Nat, (y : Int) ∈ numsF s.wd S → y < 32 * N ∧ tkn l y = false := fun y hy => by
        obtain ⟨y1, y2⟩ := (mem_nums _ _ _).1 hy
        exact ⟨by omega, hfree y y1 y2⟩
      have hfr : ∀ y : Nat, (y : Int) ∈ numsF s.wd S → y < k ∧ own.getD y 0 = 0 := fun y hy => by
        obtain ⟨y1, y2⟩ := hmem y hy
        have y3 := h.tk y y1
        rw [y2] at y3
        have y4 : ¬ (k ≤ y ∨ own.getD y 0 ≠ 0) := fun z => by have := y3.2 z; cases this
        exact ⟨by omega, Classical.byContradiction fun z => y4 (.inr z)⟩
      refine ⟨fun _ => by rw [q1, leftF_nil], fun y hy => by rw [q1, leftF_nil] at hy; simp at hy, fun _ y hy => ⟨(hfr y hy).1, (hfr y hy).2, by rw [q1, leftF_nil]⟩, (fun _ z => (by rw [hbk] at z; cases z)), fun own2 hl2 he => ?_⟩
      simp only at he
      rw [if_pos rfl]
      have he2 : ∀ y : Nat, y < k → own2.getD y 0 = if (y : Int) ∈ numsF s.wd S then (v : Int) + 1 else own.getD y 0 := fun y hy => by
        have z := he y hy
        rw [q1, leftF_nil] at z
        simpa using z
      refine h.after hv hl2 (fun y hy => ?_) (fun y hy => ?_) (fun x hx => by cases hx)
      · rw [tkn_took _ _ _ _ (by omega), Bool.or_eq_true, h.tk y hy]
        by_cases hyk : k ≤ y
        · simp [hyk]
        · rw [he2 y (by omega)]
          by_cases hm : (y : Int) ∈ numsF s.wd S
          · obtain ⟨y1, y2⟩ := (mem_nums _ _ _).1 hm
            rw [if_pos hm]
            simp [y1, y2]
            omega
          · rw [if_neg hm]
            have : ¬ (y / 32 = s.wd ∧ S.toNat.testBit (y % 32) = true) := fun z => hm ((mem_nums _ _ _).2 z)
            simp only [Bool.and_eq_true, decide_eq_true_eq]
            constructor
            · rintro (z | z)
              · exact z
              · exact absurd z this
            · exact .inl
      · rw [he2 y hy]
        by_cases hm : (y : Int) ∈ numsF s.wd S
        · rw [if_pos hm]; exact .inr (.inl (hfr y hm).2)
        · rw [if_neg hm]; exact .inl rfl
    · rw [if_neg q]
      exact h.rest hv hs rfl ho.tk (fun _ => ⟨ho.tk, fun _ => ⟨q1, .inl rfl⟩, (fun q => by rw [hbk] at q; cases q), ho.ow⟩)
  · exfalso
    rcases hb with q | q
    · have := (ho.ta q).2; omega
    · have := (ho.bk q).1; omega
  · have hbk : bk v = true := by
      rcases hb with q | q
      · have := (ho.ta q).2; omega
      · exact q
    obtain ⟨q1, q2, q3⟩ := ho.bk hbk
    have h0 := hok.gv (.inl e)
    obtain ⟨g, gi, hgi⟩ : ∃ g gi, s.gi = g :: gi := by
      cases hh : s.gi with
      | nil => rw [hh] at h0; simp at h0
      | cons g gi => exact ⟨g, gi, rfl⟩
    obtain ⟨r1, r2, r3⟩ := hok.gi g (by rw [hgi]; simp)
    -- its first word holds one of its numbers
    obtain ⟨i, hi, hbit⟩ := nz_bit g.2 (by omega) r3 (by omega)
    have hin : inG s.gi (32 * g.1 + i) := by
      rw [hgi, inG_cons]
      left
      rw [show (32 * g.1 + i) / 32 = g.1 by omega, show (32 * g.1 + i) % 32 = i by omega]
      exact ⟨rfl, hbit⟩
    obtain ⟨o1, o2⟩ := ho.ow _ hin
    have ht : tkn l (32 * g.1 + i) = true := (h.tk _ (by omega)).2 (.inr (by omega))
    unfold tkn at ht
    rw [show (32 * g.1 + i) / 32 = g.1 by omega, show (32 * g.1 + i) % 32 = i by omega] at ht
    have hne : ((l.getD g.1 0) % 4294967296).toNat &&& g.2.toNat ≠ 0 := fun z => by
      have z2 : (((l.getD g.1 0) % 4294967296).toNat &&& g.2.toNat).testBit i = true := by
        rw [Nat.testBit_and, hbit, Bool.and_true]
        have hx := (hu g.1).1
        have e3 : ((l.getD g.1 0) % 4294967296).toNat % 4294967296 = (l.getD g.1 0).toNat % 4294967296 := by omega
        rw [bit_low _ _ i hi e3]
        exact ht
      rw [z] at z2
      simp at z2
    have hg0 : s.gi.getD 0 (0, 0) = g := by rw [hgi]; rfl
    unfold stpP
    rw [e]
    simp only
    rw [hg0, if_neg hne]
    exact h.rest hv hs rfl ho.tk (fun _ => ⟨ho.tk, (fun z => by rw [hbk] at z; cases z), fun _ => ⟨.inr (.inr rfl), fun z => by simp at z, q3⟩, ho.ow⟩)
  · have hbk : bk v = true := by
      rcases hb with q | q
      · have := (ho.ta q).2; omega
      · exact q
    obtain ⟨q1, q2, q3⟩ := ho.bk hbk
    have h0 := hok.gv (.inr e)
    obtain ⟨g, gi, hgi⟩ : ∃ g gi, s.gi = g :: gi := by
      cases hh : s.gi with
      | nil => rw [hh] at h0; simp at h0
      | cons g gi => exact ⟨g, gi, rfl⟩
    obtain ⟨r1, r2, r3⟩ := hok.gi g (by rw [hgi]; simp)
    have hg0 : s.gi.getD 0 (0, 0) = g := by rw [hgi]; rfl
    unfold stpP
    rw [e]
    simp only
    rw [hg0]
    by_cases q : l.getD g.1 0 = s.rd.getD g.1 0
    · rw [if_pos q, ← q]
      have hcg : s.close.gi = gi := by unfold Ps.close; rw [hgi]; rfl
      have hct : s.close.tk = 0 := ho.tk
      have hout : ∀ y : Nat, ((y : Int) ∈ leftF s.gi ∧ (y : Int) ∉ leftF s.close.gi) ↔ (y / 32 = g.1 ∧ g.2.toNat.testBit (y % 32) = true) := fun y => by
        rw [mem_left, mem_left, hcg, hgi, inG_cons]
        constructor
        · rintro ⟨z | z, z2⟩
          · exact ⟨z.1.symm, z.2⟩
          · exact absurd z z2
        · rintro ⟨z1, z2⟩
          rw [hgi] at q3
          exact ⟨.inl ⟨z1.symm, z2⟩, fun z => tail_ne q3 y z z1.symm⟩
      refine ⟨(fun z => (by rw [hbk] at z; cases z)), fun y hy => (ho.ow y ((mem_left _ _).1 hy)).1, fun _ y hy => by rw [hct, numsF_zero] at hy; simp at hy, fun _ _ => by rw [hct, numsF_zero], fun own2 hl2 he => ?_⟩
      have he2 : ∀ y : Nat, y < k → own2.getD y 0 = if (y / 32 = g.1 ∧ g.2.toNat.testBit (y % 32) = true) then 0 else own.getD y 0 := fun y hy => by
        have z := he y hy
        rw [hct, numsF_zero, if_neg (by simp)] at z
        rw [z]
        by_cases c : (y / 32 = g.1 ∧ g.2.toNat.testBit (y % 32) = true)
        · rw [if_pos c, if_pos ((hout y).2 c)]
        · rw [if_neg c, if_neg (fun z => c ((hout y).1 z))]
      have how : ∀ y : Nat, (y / 32 = g.1 ∧ g.2.toNat.testBit (y % 32) = true) → y < k ∧ own.getD y 0 = (v : Int) + 1 := fun y c => ho.ow y (by rw [hgi, inG_cons]; exact .inl ⟨c.1.symm, c.2⟩)
      refine h.after hv hl2 (fun y hy => ?_) (fun y hy => ?_) (fun x hx => ?_)
      · rw [tkn_gave _ _ _ _ (by omega) (by omega), Bool.and_eq_true, h.tk y hy]
        by_cases c : (y / 32 = g.1 ∧ g.2.toNat.testBit (y % 32) = true)
        · obtain ⟨y1, y2⟩ := how y c
          rw [he2 y y1, if_pos c]
          simp [c.1, c.2]
          omega
        · have c2 : (decide (y / 32 = g.1) && g.2.toNat.testBit (y % 32)) = false := by
            cases hh : (decide (y / 32 = g.1) && g.2.toNat.testBit (y % 32)) with
            | false => rfl
            | true => exact absurd (by simpa using hh) c
          rw [c2]
          by_cases hyk : k ≤ y
          · simp [hyk]
          · rw [he2 y (by omega), if_neg c]; simp
      · rw [he2 y hy]
        by_cases c : (y / 32 = g.1 ∧ g.2.toNat.testBit (y % 32) = true)
        · exact .inr (.inr (how y c).2)
        · rw [if_neg c]; exact .inl rfl
      · by_cases ec : s.close.nx = 0
        · rw [if_pos ec] at hx; cases hx
        · rw [if_neg ec] at hx
          cases hx
          have hnx : s.close.nx = 4 := by
            show (if s.gi.length ≤ 1 then 0 else 4) = 4
            have : s.close.nx = if s.gi.length ≤ 1 then 0 else 4 := rfl
            rw [this] at ec
            by_cases z : s.gi.length ≤ 1
            · rw [if_pos z] at ec; exact absurd rfl ec
            · rw [if_neg z]
          refine ⟨hct, (fun z => by rw [hbk] at z; cases z), fun _ => ⟨.inr (.inl hnx), (fun z => absurd z ec), ?_⟩, fun y hy => ?_⟩
          · rw [hcg]; rw [hgi, List.map_cons, List.nodup_cons] at q3; exact q3.2
          · rw [hcg] at hy
            obtain ⟨y1, y2⟩ := ho.ow y (by rw [hgi, inG_cons]; exact .inr hy)
            refine ⟨y1, ?_⟩
            rw [he2 y y1, if_neg (fun c => ?_)]
            · exact y2
            · rw [hgi] at q3; exact tail_ne q3 y hy c.1.symm
    · rw [if_neg q]
      exact h.rest hv hs rfl ho.tk (fun _ => ⟨ho.tk, (fun z => by rw [hbk] at z; cases z), fun _ => ⟨.inr (.inl rfl), fun z => by simp at z, q3⟩, ho.ow⟩)
theorem OwP.setB (h : OwP N k l own st bk) (hs : st v = none) (b : Bool) : OwP N k l own st (upS bk v b) :=
  ⟨h.len, h.tk, fun u hu x hx => by
    have : u ≠ v := fun e => by rw [e, hs] at hx; cases hx
    rw [upS_ne _ _ this]
    exact h.st u hu x hx⟩
theorem OwP.begin (h : OwP N k l own st bk) (hv : v < 4) (hs : StO k own v (bk v) s) : OwP N k l own (upS st v (some s)) bk :=
  h.after hv h.len h.tk (fun y _ => .inl rfl) (fun x hx => by cases hx; exact hs)
theorem StO.take (own : List Int) (wd n mo : Nat) : StO k own v false ⟨1, wd, n, mo, List.replicate 32 0, 0, false, false, []⟩ :=
  ⟨rfl, fun _ => ⟨rfl, .inl rfl⟩, (fun q => by cases q), fun y hy => absurd hy (inG_nil y)⟩
theorem StO.back {own zs : List Int} (hn : N ≤ 32) (hk : (k : Int) ≤ 32 * (N : Int)) (hz : ∀ y : Nat, (y : Int) ∈ zs → y < k → own.getD y 0 = (v : Int) + 1) : StO k own v true (backP (giftsF (k : Int) zs)) := by
  refine ⟨rfl, (fun q => by cases q), fun _ => ⟨?_, fun q => ?_, gifts_nodup hn hk zs⟩, fun y hy => ?_⟩
  · show (if (giftsF (k : Int) zs).length = 0 then 0 else 4) = 0 ∨ (if (giftsF (k : Int) zs).length = 0 then 0 else 4) = 4 ∨ (if (giftsF (k : Int) zs).length = 0 then 0 else 4) = 5
    split
    · exact .inl rfl
    · exact .inr (.inl rfl)
  · have q2 : (if (giftsF (k : Int) zs).length = 0 then 0 else 4) = 0 := q
    by_cases e : (giftsF (k : Int) zs).length = 0
    · exact List.length_eq_zero_iff.1 e
    · rw [if_neg e] at q2; omega
  · obtain ⟨y1, y2⟩ := (inG_gifts hn hk zs y).1 hy
    exact ⟨by omega, hz y y1 (by omega)⟩
theorem OwP.start (h1 : 1 ≤ k) : OwP (wdsN k) k (newL k) (List.replicate k 0) (fun _ => none) (fun _ => false) :=
  ⟨by simp, fun y hy => by rw [newL_tkn k h1 y hy, rep0]; simp, fun _ _ _ q => by cases q⟩
end
end Go.Proofs.Ytmbceafeonjffaa

namespace Go.Proofs.Ytmbceafeonjffaa
open Go.RowKit Plain
set_option linter.unusedVariables false
set_option linter.unusedSimpArgs false
/-- what is given back is nobody's: the first j of B -/
def goneI (own B A : List Int) : Nat → List Int
  | 0 => own
  | j + 1 => if B.getD j 0 ∈ A then goneI own B A j else (goneI own B A j).set (B.getD j 0).toNat 0
/-- what was told is v's: the first j of G -/
def gotI (own G : List Int) (v : Nat) : Nat → List Int
  | 0 => own
  | j + 1 => (gotI own G v j).set (G.getD j 0).toNat ((v : Int) + 1)
theorem goneI_len (own B A : List Int) (j : Nat) : (goneI own B A j).length = own.length := by
  induction j with
  | zero => rfl
  | succ j ih => unfold goneI; split <;> simp [ih]
theorem gotI_len (own G : List Int) (v j : Nat) : (gotI own G v j).length = own.length := by
  induction j with
  | zero => rfl
  | succ j ih => unfold gotI; simp [ih]
theorem mem_getD (B : List Int) (j : Nat) (hj : j < B.length) : B.getD j 0 ∈ B := by
  have e : B.getD j 0 = B[j] := by simp [List.getD, hj]
  rw [e]; exact List.getElem_mem hj
theorem mem_take_succ (B : List Int) (j : Nat) (hj : j < B.length) (x : Int) : x ∈ B.take (j + 1) ↔ x ∈ B.take j ∨ x = B.getD j 0 := by
  rw [List.take_add_one, List.getElem?_eq_getElem hj, List.mem_append]
  simp [List.getD, hj]
theorem goneI_at (own B A : List Int) (hB : ∀ x ∈ B, 0 ≤ x ∧ x < own.length) (j : Nat) (hj : j ≤ B.length) (y : Nat) : (goneI own B A j).getD y 0 = if (y : Int) ∈ B.take j ∧ (y : Int) ∉ A then 0 else own.getD y 0 := by
  induction j with
  | zero => simp [goneI]
  | succ j ih =>
    have ih := ih (by omega)
    have hm := mem_take_succ B j (by omega) y
    obtain ⟨b0, b1⟩ := hB _ (mem_getD B j (by omega))
    unfold goneI
    generalize B.getD j 0 = x at *
    by_cases hx : x ∈ A
    · rw [if_pos hx, ih]
      by_cases c : (y : Int) ∈ B.take j ∧ (y : Int) ∉ A
      · rw [if_pos c, if_pos ⟨hm.2 (.inl c.1), c.2⟩]
      · rw [if_neg c, if_neg (fun z => by
          rcases hm.1 z.1 with q | q
          · exact c ⟨q, z.2⟩
          · exact z.2 (by rw [q]; exact hx))]
    · rw [if_neg hx]
      by_cases e : (y : Int) = x
      · rw [if_pos ⟨hm.2 (.inr e), by rw [e]; exact hx⟩, ← e, Int.toNat_natCast, set_eq _ _ _ (by rw [goneI_len]; omega)]
      · rw [set_ne _ _ _ _ (by omega), ih]
        by_cases c : (y : Int) ∈ B.take j ∧ (y : Int) ∉ A
        · rw [if_pos c, if_pos ⟨hm.2 (.inl c.1), c.2⟩]
        · rw [if_neg c, if_neg (fun z => by
            rcases hm.1 z.1 with q | q
            · exact c ⟨q, z.2⟩
            · exact e q)]
theorem gotI_at (own G : List Int) (v : Nat) (hG : ∀ x ∈ G, 0 ≤ x ∧ x < own.length) (j : Nat) (hj : j ≤ G.length) (y : Nat) : (gotI own G v j).getD y 0 = if (y : Int) ∈ G.take j then (v : Int) + 1 else own.getD y 0 := by
  induction j with
  | zero => simp [gotI]
  | succ j ih =>
    have ih := ih (by omega)
    have hm := mem_take_succ G j (by omega) y
    obtain ⟨b0, b1⟩ := hG _ (mem_getD G j (by omega))
    unfold gotI
    by_cases e : (y : Int) = G.getD j 0
    · rw [if_pos (hm.2 (.inr e)), ← e, Int.toNat_natCast, set_eq _ _ _ (by rw [gotI_len]; omega)]
    · rw [set_ne _ _ _ _ (by omega), ih]
      by_cases c : (y : Int) ∈ G.take j
      · rw [if_pos c, if_pos (hm.2 (.inl c))]
      · rw [if_neg c, if_neg (fun z => (hm.1 z).elim c e)]
theorem gotI_next (own G : List Int) (v : Nat) (hG : ∀ x ∈ G, 0 ≤ x ∧ x < own.length) (hn : G.Nodup) (j : Nat) (hj : j < G.length) : (gotI own G v j).getD (G.getD j 0).toNat 0 = own.getD (G.getD j 0).toNat 0 := by
  obtain ⟨b0, b1⟩ := hG _ (mem_getD G j hj)
  have e1 : G.getD j 0 = G[j] := by simp [List.getD, hj]
  rw [gotI_at own G v hG j (by omega), if_neg]
  rw [Int.toNat_of_nonneg b0, e1]
  intro hm
  obtain ⟨i, hi, e⟩ := List.mem_take_iff_getElem.1 hm
  exact (List.pairwise_iff_getElem.1 hn) i j (by omega) hj (by omega) e
theorem numsF_nodup (k : Nat) (s : Int) : (numsF k s).Nodup := by
  unfold numsF numsI
  refine List.Pairwise.map _ (R := (· ≠ ·)) (fun a b hab => by omega) ?_
  exact (List.nodup_range).filter _
def zz (own : List Int) (x : Nat) : List Int := ((List.range x).filter fun y => own.getD y 0 == 0).map fun y : Nat => (y : Int)
theorem zz_succ (own : List Int) (x : Nat) : zz own (x + 1) = zz own x ++ if own.getD x 0 = 0 then [(x : Int)] else [] := by
  unfold zz
  rw [List.range_succ, List.filter_append, List.map_append]
  congr 1
  by_cases h : own.getD x 0 = 0
  · rw [if_pos h]; simp only [List.filter_cons, h]; simp
  · rw [if_neg h]
    have : (own.getD x 0 == 0) = false := by simpa using h
    simp only [List.filter_cons, this]; simp
theorem zz_pre (own : List Int) (x d : Nat) : ∃ R, zz own (x + d) = zz own x ++ R := by
  induction d with
  | zero => exact ⟨[], by simp⟩
  | succ d ih =>
    obtain ⟨R, e⟩ := ih
    exact ⟨R ++ if own.getD (x + d) 0 = 0 then [((x + d : Nat) : Int)] else [], by rw [← Nat.add_assoc, zz_succ, e, List.append_assoc]⟩
theorem zz_at (own : List Int) (k x : Nat) (hx : x < k) (h : own.getD x 0 = 0) : (zz own x).length < (zz own k).length ∧ (zz own k).getD (zz own x).length 0 = x := by
  obtain ⟨R, e⟩ := zz_pre own (x + 1) (k - (x + 1))
  rw [show x + 1 + (k - (x + 1)) = k by omega, zz_succ, if_pos h, List.append_assoc] at e
  rw [e]
  constructor
  · simp
  · simp [List.getD]
theorem zz_le (own : List Int) (x : Nat) : (zz own x).length ≤ x := by
  unfold zz
  rw [List.length_map]
  exact Nat.le_trans (List.length_filter_le _ _) (by simp)
theorem freeI_tkn (l : List Int) (hu : ∀ j, U64 (l.getD j 0)) (i : Nat) : freeI l i = ((List.range (32 * i)).filter fun y => !tkn l y).map fun y : Nat => (y : Int) := by
  induction i with
  | zero => simp [freeI]
  | succ i ih =>
    rw [freeI_succ, ih, show 32 * (i + 1) = 32 * i + 32 by omega, List.range_add, List.filter_append, List.map_append]
    congr 1
    unfold numsF numsI
    rw [List.filter_map, List.map_map]
    have e1 : (List.range 32).filter (fun j => (freeF (l.getD i 0)).toNat.testBit j) = (List.range 32).filter ((fun y => !tkn l y) ∘ fun x => 32 * i + x) := by
      refine List.filter_congr fun j hj => ?_
      have hj := List.mem_range.1 hj
      rw [free_bit _ (hu i).1 _ hj]
      simp only [Function.comp, tkn]
      rw [show (32 * i + j) / 32 = i by omega, show (32 * i + j) % 32 = j by omega]
    rw [e1]
    refine List.map_congr_left fun j _ => ?_
    simp only [Function.comp]
    omega
theorem free_zz {N k : Nat} {l own : List Int} {st : Nat → Option Ps} {bk : Nat → Bool} (h : OwP N k l own st bk) (hu : ∀ j, U64 (l.getD j 0)) (hk : k ≤ 32 * N) : freeL N l = zz own k := by
  unfold freeL
  rw [freeI_tkn l hu, show 32 * N = k + (32 * N - k) by omega, List.range_add, List.filter_append]
  have e1 : (List.range k).filter (fun y => !tkn l y) = (List.range k).filter (fun y => own.getD y 0 == 0) := by
    refine List.filter_congr fun j hj => ?_
    have hj := List.mem_range.1 hj
    have h1 := h.tk j (by omega)
    cases ht : tkn l j
    · rw [ht] at h1
      have : own.getD j 0 = 0 := Classical.byContradiction fun z => by have := h1.2 (.inr z); cases this
      simpa using this
    · rw [ht] at h1
      have : own.getD j 0 ≠ 0 := by rcases h1.1 rfl with z | z; omega; exact z
      simpa using this
  have e2 : ((List.range (32 * N - k)).map (k + ·)).filter (fun y => !tkn l y) = [] := by
    refine List.filter_eq_nil_iff.2 fun y hy => ?_
    obtain ⟨z, hz, rfl⟩ := List.mem_map.1 hy
    have hz := List.mem_range.1 hz
    have := (h.tk (k + z) (by omega)).2 (.inl (by omega))
    simp [this]
  rw [e1, e2, List.append_nil]
  rfl
end Go.Proofs.Ytmbceafeonjffaa
