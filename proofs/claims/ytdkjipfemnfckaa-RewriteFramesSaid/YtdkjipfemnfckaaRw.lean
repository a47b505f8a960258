/-
  Package rewrite: addresses, ports and sums that are laid anew in a window of a block of bytes. Conditions stand in each theorem.
-/
import Derived.Test.YtdkjipfemnfckaaGG
import Derived.Test.YtdkjipfemnfckaaGH
import Derived.BigQuiet
import Derived.Deep.QuietTactic
import Derived.Deep.RegionHeld3
namespace Go.Proofs.Ytdkjipfemnfckaa
open Go.RowKit Plain
set_option linter.unusedVariables false
set_option linter.unusedSimpArgs false
set_option maxRecDepth 100000

/-- a sum behind another address -/
def FxW (s o n : Int) : Int := Fx (Fx s (o / 65536) (n / 65536)) (o % 65536) (n % 65536)
theorem FxW_range (s o n : Int) (s0 : 0 ≤ s) (s1 : s ≤ 65535) (o0 : 0 ≤ o) (o1 : o ≤ 4294967295) (n0 : 0 ≤ n) (n1 : n ≤ 4294967295) : 0 ≤ FxW s o n ∧ FxW s o n ≤ 65535 := by
  have h := Fx_range s (o / 65536) (n / 65536) s0 s1 (by omega) (by omega) (by omega) (by omega)
  exact Fx_range _ _ _ h.1 h.2 (by omega) (by omega) (by omega) (by omega)
/-- behind a change of address and port -/
def FxC (s wa A wp P : Int) : Int := Fx (FxW s wa A) wp P
theorem FxC_range (s wa A wp P : Int) (s0 : 0 ≤ s) (s1 : s ≤ 65535) (o0 : 0 ≤ wa) (o1 : wa ≤ 4294967295) (n0 : 0 ≤ A) (n1 : A ≤ 4294967295) (p0 : 0 ≤ wp) (p1 : wp ≤ 65535) (q0 : 0 ≤ P) (q1 : P ≤ 65535) : 0 ≤ FxC s wa A wp P ∧ FxC s wa A wp P ≤ 65535 := by
  have h := FxW_range s wa A s0 s1 o0 o1 n0 n1
  exact Fx_range _ _ _ h.1 h.2 p0 p1 q0 q1
/-- what layAddr, layUdp, layTcp, layEcho make of a block, at an offset -/
def adL (L : List Int) (o p : Nat) (A : Int) : List Int := P16 (P32 L (o + p) A) (o + 10) (FxW (G16 (P32 L (o + p) A) (o + 10)) (G32 L (o + p)) A)
def udR (L : List Int) (o p : Nat) (wa A P : Int) : List Int :=
  if G16 (P16 L (o + p) P) (o + 6) ≠ 0 then P16 (P16 L (o + p) P) (o + 6) (no0 (FxC (G16 (P16 L (o + p) P) (o + 6)) wa A (G16 L (o + p)) P)) else P16 L (o + p) P
def tcR (L : List Int) (o n p : Nat) (wa A P : Int) : List Int :=
  if 18 ≤ n then P16 (P16 L (o + p) P) (o + 16) (FxC (G16 (P16 L (o + p) P) (o + 16)) wa A (G16 L (o + p)) P) else P16 L (o + p) P
def ecR (L : List Int) (o : Nat) (P : Int) : List Int := P16 (P16 L (o + 4) P) (o + 2) (no0 (Fx (G16 (P16 L (o + 4) P) (o + 2)) (G16 L (o + 4)) P))
/-- where an end's address stands, and its port: 0 the source, 1 the target -/
def ePl (e : Nat) : Nat := if e = 0 then 12 else 16
def ePt (e : Nat) : Nat := if e = 0 then 0 else 2

theorem Own.keep {w w' : World} {base g n c : Nat} {zs : List Int} {bs : List Nat} (h : Own w base (some ⟨g, 0, none⟩) n c zs) (hk : Keep bs w w') (hg : g ∉ bs) : Own w' base (some ⟨g, 0, none⟩) n c zs := by
  refine ⟨h.len, h.byt, h.row.1, ?_⟩
  rcases h.row.2 with e | ⟨b, cap, cur, e, hb, hh, r⟩
  · exact .inl e
  · injection e with e1 e2 e3
    injection e1 with e1
    injection e1 with e1
    subst e1
    subst e3
    exact .inr ⟨g, c, cur, rfl, hb, (hk.block g (Array.getElem?_eq_some_iff.1 hh).1 hg).trans hh, r⟩
theorem Own.gl {w : World} {base g n c : Nat} {zs : List Int} (h : Own w base (some ⟨g, 0, none⟩) n c zs) : base ≤ g ∧ g < w.heap.size := by
  rcases h.form with ⟨e, _⟩ | ⟨b, e, h1, h2⟩
  · cases e
  · injection e with e; injection e with e; subst e; exact ⟨h1, h2⟩
/-- only the block of bytes, and new blocks, were written -/
structure Lz (w w' : World) (base g n c : Nat) (zs : List Int) : Prop where
  own : Own w' base (some ⟨g, 0, none⟩) n c zs
  kp : Keep [g] w w'
section
variable {w w' w'' : World} {base g n c : Nat} {zs ys : List Int}
theorem Lz.refl (h : Own w base (some ⟨g, 0, none⟩) n c zs) : Lz w w base g n c zs := ⟨h, Keep.refl _ _⟩
theorem Lz.lt (h : Lz w w' base g n c zs) : g < w'.heap.size := h.own.gl.2
theorem Lz.laid (h : Lz w w' base g n c zs) (hl : Laid w' w'' base g n c ys) : Lz w w'' base g n c ys := ⟨hl.own, h.kp.trans (Keep.of_grown hl.grow (by simp))⟩
theorem Lz.then (h : Lz w w' base g n c zs) (hl : Lz w' w'' base g n c ys) : Lz w w'' base g n c ys := ⟨hl.own, h.kp.trans hl.kp⟩
theorem Lz.drewN (h : Lz w w' base g n c zs) (q : Nat) : Lz w (w'.drewN q) base g n c zs := ⟨h.own.drewN q, h.kp.drewN q⟩
theorem Lz.below (h : Lz w w' base g n c zs) (hb : Below w'.heap.size w' w'') : Lz w w'' base g n c zs := ⟨h.own.below hb, h.kp.trans (Keep.of_below hb)⟩
theorem Lz.setN (h : Lz w w' base g n c zs) {b : Nat} (hb : w.heap.size ≤ b) (hne : b ≠ g) (i : Nat) (v : Value) : Lz w (w'.setCell ⟨b, i, none⟩ v) base g n c zs :=
  ⟨h.own.keep (bs := [b]) ((Keep.refl _ _).setCell (.inl (by simp)) v) (by simpa using hne.symm), h.kp.setCell (.inr hb) v⟩
end
theorem sChange : Sty 79 4 := ⟨⟨_, Try.underlying79, rfl⟩, by unfold Siz; kernel_rfl⟩

theorem notNought_any (s : Int) (w : World) : Calls Try.prog 89 #[.int .u16 s] w fun e w' => e = .returned (.int .u16 (no0 s)) ∧ w = w' := by
  by_cases h : s = 0
  · subst h
    rw [show no0 0 = 65535 from rfl]
    go_enter Try.func89, Try.ntmps89
    go_wp2
    go_ret
    exact ⟨rfl, rfl⟩
  · have h1 : (s == 0) = false := by simpa using h
    rw [show no0 s = s from if_neg h]
    go_enter Try.func89, Try.ntmps89
    go_wp2
    go_ret
    exact ⟨rfl, rfl⟩
theorem addrAt_any (e : Nat) (he : e ≤ 1) (w : World) : Calls Try.prog 85 #[.int .i64 e] w fun r w' => r = .returned (.int .i64 (ePl e)) ∧ w = w' := by
  have h : e = 0 ∨ e = 1 := by omega
  rcases h with rfl | rfl
  all_goals
    go_enter Try.func85, Try.ntmps85
    go_wp2
    go_ret
    exact ⟨rfl, rfl⟩
theorem portAt_any (e : Nat) (he : e ≤ 1) (w : World) : Calls Try.prog 88 #[.int .i64 e] w fun r w' => r = .returned (.int .i64 (ePt e)) ∧ w = w' := by
  have h : e = 0 ∨ e = 1 := by omega
  rcases h with rfl | rfl
  all_goals
    go_enter Try.func88, Try.ntmps88
    go_wp2
    go_ret
    exact ⟨rfl, rfl⟩
theorem other_any (e : Nat) (he : e ≤ 1) (w : World) : Calls Try.prog 76 #[.int .i64 e] w fun r w' => r = .returned (.int .i64 ((1 - e : Nat) : Int)) ∧ w = w' := by
  have h : e = 0 ∨ e = 1 := by omega
  rcases h with rfl | rfl
  all_goals
    go_enter Try.func76, Try.ntmps76
    go_wp2
    go_ret
    exact ⟨rfl, rfl⟩
theorem fixWide_w (s o n : Int) (w : World) (s0 : 0 ≤ s) (s1 : s ≤ 65535) (o0 : 0 ≤ o) (o1 : o ≤ 4294967295) (n0 : 0 ≤ n) (n1 : n ≤ 4294967295) :
    Calls Try.prog 86 #[.int .u16 s, .int .u32 o, .int .u32 n] w fun e w' => e = .returned (.int .u16 (FxW s o n)) ∧ w = w' := fixWide_any s o n w s0 s1 o0 (by omega) n0 (by omega)
set_option maxHeartbeats 1000000 in
theorem fixed_any (s wa A wp P : Int) (w : World) (s0 : 0 ≤ s) (s1 : s ≤ 65535) (o0 : 0 ≤ wa) (o1 : wa ≤ 4294967295) (n0 : 0 ≤ A) (n1 : A ≤ 4294967295) (p0 : 0 ≤ wp) (p1 : wp ≤ 65535) (q0 : 0 ≤ P) (q1 : P ≤ 65535) :
    Calls Try.prog 90 #[.agg #[.int .u32 wa, .int .u32 A, .int .u16 wp, .int .u16 P], .int .u16 s] w fun e w' => e = .returned (.int .u16 (FxC s wa A wp P)) ∧ Below w.heap.size w w' := by
  have hr := FxW_range s wa A s0 s1 o0 o1 n0 n1
  have H0 := Lib.hid (Blk.new w 79 #[.int .u32 wa, .int .u32 A, .int .u16 wp, .int .u16 P])
  have HB := Lib.hid (ball w (.cells #[.int .u32 wa, .int .u32 A, .int .u16 wp, .int .u16 P] 79))
  go_enter Try.func90, Try.ntmps90
  go_upto_region 1 with fail
  generalize w.alloc (.cells #[.int .u32 wa, .int .u32 A, .int .u16 wp, .int .u16 P] 79) = w1 at *
  generalize hgb : w.heap.size = gb at *
  have k0 : w1.cell? ⟨gb, 0, none⟩ = some (.int .u32 wa) := H0.out.cell 0
  have k1 : w1.cell? ⟨gb, 1, none⟩ = some (.int .u32 A) := H0.out.cell 1
  have k2 : w1.cell? ⟨gb, 2, none⟩ = some (.int .u16 wp) := H0.out.cell 2
  have k3 : w1.cell? ⟨gb, 3, none⟩ = some (.int .u16 P) := H0.out.cell 3
  have HG := Lib.hid hgb
  clear hgb
  go_quiet ((first
    | (go_at_call 86; exact Calls.quiet_of_same ((fixWide_w s wa A _ s0 s1 o0 o1 n0 n1).mono fun _ _ h => ⟨h.1, h.2.symm⟩))
    | (go_at_call 91; exact Calls.quiet_of_same ((fix_fx (FxW s wa A) wp P _ hr.1 hr.2 p0 p1 q0 q1).mono fun _ _ h => ⟨h.1, h.2.symm⟩))))
  go_wp2
  go_ret
  exact ⟨rfl, by rw [HG.out]; exact below_drewN HB.out _⟩
end Go.Proofs.Ytdkjipfemnfckaa
