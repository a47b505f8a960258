/-
  Contracts of package wire: numbers as they stand in packets. Conditions: the bytes are there; what is laid is laid into a row of the call's own.
-/
import Derived.Test.YtbnlpidhbilenaaOwn
import Derived.Laws.BitsAll
import Derived.Deep.QuietTactic
import Derived.BigQuiet
import Derived.RegionTactic
namespace Go.Proofs.Ytbnlpidhbilenaa
open Go.RowKit Plain
set_option linter.unusedVariables false
set_option maxRecDepth 100000

/-- the number of 16 bits at i; of 32 bits -/
def G16 (zs : List Int) (i : Nat) : Int := zs.getD i 0 * 256 + zs.getD (i + 1) 0
def G32 (zs : List Int) (i : Nat) : Int := G16 zs i * 65536 + G16 zs (i + 2)
theorem G16_range (zs : List Int) (h : By zs) (i : Nat) : 0 ≤ G16 zs i ∧ G16 zs i ≤ 65535 := by
  have := h.getD i; have := h.getD (i + 1); unfold G16; omega
theorem G32_range (zs : List Int) (h : By zs) (i : Nat) : 0 ≤ G32 zs i ∧ G32 zs i ≤ 4294967295 := by
  have := G16_range zs h i; have := G16_range zs h (i + 2); unfold G32; omega
theorem ret_int' {k : IntKind} {a b : Int} (h : a = b) : Ending.returned (.int k a) = .returned (.int k b) := by rw [h]
theorem or_w16 (x y : Int) (h0 : 0 ≤ x) (h1 : x ≤ 255) (h2 : 0 ≤ y) (h3 : y ≤ 255) : bits .or .u16 (x * 256) y = x * 256 + y := by go_bits2
theorem or_w32 (x y : Int) (h0 : 0 ≤ x) (h1 : x ≤ 65535) (h2 : 0 ≤ y) (h3 : y ≤ 65535) : bits .or .u32 (x * 65536) y = x * 65536 + y := by go_bits2

theorem get16_any (A : Option Addr) (n c : Nat) (zs : List Int) (a : Int) (i : Nat) (w : World) (hn : zs.length = n) (ha : a = (i : Int)) (hi : i + 1 < n) (hl : n ≤ 1000000) (hR : Rd w A zs) :
    Calls Try.prog 90 #[.slice A n c, .int .i64 a] w fun e w' => e = .returned (.int .u16 (G16 zs i)) ∧ ∃ q, w' = w.drewN q := by
  subst ha
  obtain ⟨b, off, rfl, hc⟩ := hR.2 (by omega)
  have c0 := hc i (by omega)
  have c1 := hc (i + 1) (by omega)
  have b0 := hR.1.getD i
  have b1 := hR.1.getD (i + 1)
  have HG := Lib.hid (show G16 zs i = zs.getD i 0 * 256 + zs.getD (i + 1) 0 from rfl)
  generalize zs.getD i 0 = x at *
  generalize zs.getD (i + 1) 0 = y at *
  have i0 : (i : Int) < (n : Int) := by omega
  have i1 : (i : Int) + 1 < (n : Int) := by omega
  have or1 := or_w16 x y b0.1 b0.2 b1.1 b1.2
  clear hc hR hn
  go_enter Try.func90, Try.ntmps90
  go_wp2
  go_quiet (fail)
  go_wp2
  go_ret
  exact ⟨ret_int' (by rw [HG.out]), nq, rfl⟩

theorem get32_any (A : Option Addr) (n c : Nat) (zs : List Int) (a : Int) (i : Nat) (w : World) (hn : zs.length = n) (ha : a = (i : Int)) (hi : i + 3 < n) (hl : n ≤ 1000000) (hR : Rd w A zs) :
    Calls Try.prog 102 #[.slice A n c, .int .i64 a] w fun e w' => e = .returned (.int .u32 (G32 zs i)) ∧ ∃ q, w' = w.drewN q := by
  have r0 := G16_range zs hR.1 i
  have r1 := G16_range zs hR.1 (i + 2)
  have or1 := or_w32 _ _ r0.1 r0.2 r1.1 r1.2
  have HR := Lib.hid hR
  have Hn := Lib.hid hn
  have Ha := Lib.hid ha
  have hab : 0 ≤ a ∧ a ≤ 1000000 := by omega
  clear hR hn ha
  go_enter Try.func102, Try.ntmps102
  go_wp2_with fail
  refine (get16_any A n c zs a i _ Hn.out Ha.out (by omega) hl HR.out).mono ?_
  rintro e w' ⟨rfl, q, rfl⟩
  go_wp2_with fail
  refine (get16_any A n c zs (a + 2) (i + 2) _ Hn.out (by rw [Ha.out]; omega) (by omega) hl (HR.out.drewN q)).mono ?_
  rintro e w' ⟨rfl, q2, rfl⟩
  go_wp2
  go_ret
  exact ⟨ret_int' rfl, _, rfl⟩

/-- two bytes laid -/
def P16 (zs : List Int) (i : Nat) (v : Int) : List Int := (zs.set i (v / 256)).set (i + 1) (v % 256)
def P32 (zs : List Int) (i : Nat) (v : Int) : List Int := P16 (P16 zs i (v / 65536)) (i + 2) (v % 65536)

/-- what is behind a call that writes one's own row alone -/
structure Laid (w w' : World) (base g n c : Nat) (zs : List Int) : Prop where
  own : Own w' base (some ⟨g, 0, none⟩) n c zs
  grow : w.grownBy w' (some g)
theorem Laid.below {w0 w w' : World} {B base g n c : Nat} {zs : List Int} (h : Laid w w' base g n c zs) (hb : Below B w0 w) (hg : B ≤ g) (hs : B ≤ w.heap.size) : Below B w0 w' :=
  hb.grown h.grow hs fun k hk => by injection hk with hk; omega


end Go.Proofs.Ytbnlpidhbilenaa
