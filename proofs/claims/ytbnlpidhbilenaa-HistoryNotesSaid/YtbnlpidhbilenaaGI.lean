/-
  Several small texts in one: Wire, Head, Read, Get, Steps, Blk, Part. Conditions stand in each theorem.
-/
import Derived.Test.YtbnlpidhbilenaaGB
import Derived.Laws.BitsAll
import Derived.Deep.QuietTactic
import Derived.BigQuiet
import Derived.RegionTactic
import Derived.Test.YtbnlpidhbilenaaGC
import Derived.Deep.RegionHeld3
import Derived.Deep.DeepCutAuto
import Derived.Test.YtbnlpidhbilenaaGA
import Derived.Lib.SlBytesConst
namespace Go.Proofs.Ytbnlpidhbilenaa
open Go.RowKit Plain
set_option linter.unusedVariables false
set_option maxRecDepth 100000

/-- the number of 16 bits at i; of 32 bits -/
def G16 (zs : List Int) (i : Nat) : Int := zs.getD i 0 * 256 + zs.getD (i + 1) 0
def G32 (zs : List Int) (i : Nat) : Int := G16 zs i * 65536 + G16 zs (i + 2)
theorem G16_range (zs : List Int) (h : By zs) (i : Nat) : 0 ≤ G16 zs i ∧ G16 zs i ≤ 65535 := by
  have := h.getD i; have := h.getD (i + 1); unfold G16; omega
theorem G32_range (zs : List Int) (h : By zs) (i : Nat) : 0 ≤ G32 zs i ∧ G32 zs i ≤ 4294967295 := by
  have := G16_range zs h i; have := G16_range zs h (i + 2); unfold G32; omega
theorem ret_int' {k : IntKind} {a b : Int} (h : a = b) : Ending.returned (.int k a) = .returned (.int k b) := by rw [h]
theorem or_w16 (x y : Int) (h0 : 0 ≤ x) (h1 : x ≤ 255) (h2 : 0 ≤ y) (h3 : y ≤ 255) : bits .or .u16 (x * 256) y = x * 256 + y := by go_bits2
theorem or_w32 (x y : Int) (h0 : 0 ≤ x) (h1 : x ≤ 65535) (h2 : 0 ≤ y) (h3 : y ≤ 65535) : bits .or .u32 (x * 65536) y = x * 65536 + y := by go_bits2

theorem get16_any (A : Option Addr) (n c : Nat) (zs : List Int) (a : Int) (i : Nat) (w : World) (hn : zs.length = n) (ha : a = (i : Int)) (hi : i + 1 < n) (hl : n ≤ 1000000) (hR : Rd w A zs) :
    Calls Try.prog 90 #[.slice A n c, .int .i64 a] w fun e w' => e = .returned (.int .u16 (G16 zs i)) ∧ ∃ q, w' = w.drewN q := by
  subst ha
  obtain ⟨b, off, rfl, hc⟩ := hR.2 (by omega)
  have c0 := hc i (by omega)
  have c1 := hc (i + 1) (by omega)
  have b0 := hR.1.getD i
  have b1 := hR.1.getD (i + 1)
  have HG := Lib.hid (show G16 zs i = zs.getD i 0 * 256 + zs.getD (i + 1) 0 from rfl)
  generalize zs.getD i 0 = x at *
  generalize zs.getD (i + 1) 0 = y at *
  have i0 : (i : Int) < (n : Int) := by omega
  have i1 : (i : Int) + 1 < (n : Int) := by omega
  have or1 := or_w16 x y b0.1 b0.2 b1.1 b1.2
  clear hc hR hn
  go_enter Try.func90, Try.ntmps90
  go_wp2
  go_quiet (fail)
  go_wp2
  go_ret
  exact ⟨ret_int' (by rw [HG.out]), nq, rfl⟩

theorem get32_any (A : Option Addr) (n c : Nat) (zs : List Int) (a : Int) (i : Nat) (w : World) (hn : zs.length = n) (ha : a = (i : Int)) (hi : i + 3 < n) (hl : n ≤ 1000000) (hR : Rd w A zs) :
    Calls Try.prog 102 #[.slice A n c, .int .i64 a] w fun e w' => e = .returned (.int .u32 (G32 zs i)) ∧ ∃ q, w' = w.drewN q := by
  have r0 := G16_range zs hR.1 i
  have r1 := G16_range zs hR.1 (i + 2)
  have or1 := or_w32 _ _ r0.1 r0.2 r1.1 r1.2
  have HR := Lib.hid hR
  have Hn := Lib.hid hn
  have Ha := Lib.hid ha
  have hab : 0 ≤ a ∧ a ≤ 1000000 := by omega
  clear hR hn ha
  go_enter Try.func102, Try.ntmps102
  go_wp2_with fail
  refine (get16_any A n c zs a i _ Hn.out Ha.out (by omega) hl HR.out).mono ?_
  rintro e w' ⟨rfl, q, rfl⟩
  go_wp2_with fail
  refine (get16_any A n c zs (a + 2) (i + 2) _ Hn.out (by rw [Ha.out]; omega) (by omega) hl (HR.out.drewN q)).mono ?_
  rintro e w' ⟨rfl, q2, rfl⟩
  go_wp2
  go_ret
  exact ⟨ret_int' rfl, _, rfl⟩

/-- two bytes laid -/
def P16 (zs : List Int) (i : Nat) (v : Int) : List Int := (zs.set i (v / 256)).set (i + 1) (v % 256)
def P32 (zs : List Int) (i : Nat) (v : Int) : List Int := P16 (P16 zs i (v / 65536)) (i + 2) (v % 65536)

/-- what is behind a call that writes one's own row alone -/
structure Laid (w w' : World) (base g n c : Nat) (zs : List Int) : Prop where
  own : Own w' base (some ⟨g, 0, none⟩) n c zs
  grow : w.grownBy w' (some g)
theorem Laid.below {w0 w w' : World} {B base g n c : Nat} {zs : List Int} (h : Laid w w' base g n c zs) (hb : Below B w0 w) (hg : B ≤ g) (hs : B ≤ w.heap.size) : Below B w0 w' :=
  hb.grown h.grow hs fun k hk => by injection hk with hk; omega


end Go.Proofs.Ytbnlpidhbilenaa

namespace Go.Proofs.Ytbnlpidhbilenaa
open Go.RowKit Plain
set_option linter.unusedVariables false
set_option maxRecDepth 100000

/-- a head as a value -/
structure Hd where
  size : Int
  len : Int
  ttl : Int
  proto : Int
  src : Int
  dst : Int
def Hd.val (h : Hd) : Value := .agg #[.int .i64 h.size, .int .i64 h.len, .int .i64 h.ttl, .int .i64 h.proto, .int .u32 h.src, .int .u32 h.dst]
def hd0 : Hd := ⟨0, 0, 0, 0, 0, 0⟩
/-- the head that bytes tell -/
def fld (zs : List Int) : Hd := ⟨zs.getD 0 0 % 16 * 4, G16 zs 2, zs.getD 8 0, zs.getD 9 0, G32 zs 12, G32 zs 16⟩

theorem and15 (x : Int) (h0 : 0 ≤ x) (h1 : x ≤ 255) : bits .and .u8 x 15 = x % 16 := by go_bits2

theorem Rd.ne {w : World} {b off : Nat} {zs : List Int} (h : Rd w (some ⟨b, off, none⟩) zs) {p : Addr} (hp : p.block ≠ b) (v : Value) : Rd (w.setCell p v) (some ⟨b, off, none⟩) zs :=
  ⟨h.1, fun hl => by
    obtain ⟨b', off', e, hc⟩ := h.2 hl
    injection e with e; injection e with e1 e2; subst e1 e2
    exact ⟨b, off, rfl, fun k hk => (World.cell?_setCell_other w p ⟨b, off + k, none⟩ v (fun e => hp (by rw [e]))).trans (hc k hk)⟩⟩
theorem Rd.set6 {w : World} {b off m : Nat} {zs : List Int} (h : Rd w (some ⟨b, off, none⟩) zs) (hp : m ≠ b) (v0 v1 v2 v3 v4 v5 : Value) :
    Rd ((((((w.setCell ⟨m, 0, none⟩ v0).setCell ⟨m, 1, none⟩ v1).setCell ⟨m, 2, none⟩ v2).setCell ⟨m, 3, none⟩ v3).setCell ⟨m, 4, none⟩ v4).setCell ⟨m, 5, none⟩ v5) (some ⟨b, off, none⟩) zs :=
  (((((h.ne hp v0).ne hp v1).ne hp v2).ne hp v3).ne hp v4).ne hp v5

theorem below_set6 {B : Nat} {w0 w : World} {m : Nat} (h : Below B w0 w) (hp : B ≤ m) (v0 v1 v2 v3 v4 v5 : Value) :
    Below B w0 ((((((w.setCell ⟨m, 0, none⟩ v0).setCell ⟨m, 1, none⟩ v1).setCell ⟨m, 2, none⟩ v2).setCell ⟨m, 3, none⟩ v3).setCell ⟨m, 4, none⟩ v4).setCell ⟨m, 5, none⟩ v5) :=
  (((((h.setCell (p := ⟨m, 0, none⟩) hp v0).setCell (p := ⟨m, 1, none⟩) hp v1).setCell (p := ⟨m, 2, none⟩) hp v2).setCell (p := ⟨m, 3, none⟩) hp v3).setCell (p := ⟨m, 4, none⟩) hp v4).setCell (p := ⟨m, 5, none⟩) hp v5

set_option maxHeartbeats 2000000 in
theorem fields_any (A : Option Addr) (n c : Nat) (zs : List Int) (w : World) (hn : zs.length = n) (h20 : 20 ≤ n) (hl : n ≤ 1000000) (hR : Rd w A zs) :
    Calls Try.prog 87 #[.slice A n c] w fun e w' => e = .returned (fld zs).val ∧ Below w.heap.size w w' := by
  obtain ⟨b, off, rfl, hc⟩ := hR.2 (by omega)
  have c0 : w.cell? ⟨b, off, none⟩ = some (.int .u8 (zs.getD 0 0)) := hc 0 (by omega)
  have c8 := hc 8 (by omega)
  have c9 := hc 9 (by omega)
  have b0 := hR.1.getD 0
  have b8 := hR.1.getD 8
  have b9 := hR.1.getD 9
  have r2 := G16_range zs hR.1 2
  have r12 := G32_range zs hR.1 12
  have r16 := G32_range zs hR.1 16
  have hlt := block_lt_of_cell c0
  have HR := Lib.hid hR
  have Hn := Lib.hid hn
  have Hf := Lib.hid (show (fld zs).val = .agg #[.int .i64 (zs.getD 0 0 % 16 * 4), .int .i64 (G16 zs 2), .int .i64 (zs.getD 8 0), .int .i64 (zs.getD 9 0), .int .u32 (G32 zs 12), .int .u32 (G32 zs 16)] from rfl)
  obtain ⟨z0, e0⟩ : ∃ z, z = zs.getD 0 0 := ⟨_, rfl⟩
  obtain ⟨z8, e8⟩ : ∃ z, z = zs.getD 8 0 := ⟨_, rfl⟩
  obtain ⟨z9, e9⟩ : ∃ z, z = zs.getD 9 0 := ⟨_, rfl⟩
  rw [← e0] at Hf b0
  rw [← e8] at Hf b8
  rw [← e9] at Hf b9
  have Hz := Lib.hid (And.intro e0 (And.intro e8 e9))
  clear e0 e8 e9
  have an := and15 z0 b0.1 b0.2
  have m4 : IntKind.i64.wrap (z0 % 16 * 4) = z0 % 16 * 4 := by rw [IntKind.wrap_i64]; omega
  have v0 : IntKind.i64.wrap (z0 % 16) = z0 % 16 := by rw [IntKind.wrap_i64]; omega
  have v8 : IntKind.i64.wrap z8 = z8 := by rw [IntKind.wrap_i64]; omega
  have v9 : IntKind.i64.wrap z9 = z9 := by rw [IntKind.wrap_i64]; omega
  have v2 : IntKind.i64.wrap (G16 zs 2) = G16 zs 2 := by rw [IntKind.wrap_i64]; omega
  have i0 : 0 < n := by omega
  have hne : w.heap.size ≠ b := by have : b < w.heap.size := hlt; omega
  have i8 : (8 : Int) < (n : Int) := by omega
  have i9 : (9 : Int) < (n : Int) := by omega
  have k0 : ∀ W, Rd W (some ⟨b, off, none⟩) zs → W.cell? ⟨b, off, none⟩ = some (.int .u8 z0) := fun W h => by
    obtain ⟨b', off', e, hc'⟩ := h.2 (by omega)
    injection e with e; injection e with e1 e2; subst e1 e2
    rw [Hz.out.1]; exact hc' 0 (by omega)
  have k8 : ∀ W, Rd W (some ⟨b, off, none⟩) zs → W.cell? ⟨b, off + 8, none⟩ = some (.int .u8 z8) := fun W h => by
    obtain ⟨b', off', e, hc'⟩ := h.2 (by omega)
    injection e with e; injection e with e1 e2; subst e1 e2
    rw [Hz.out.2.1]; exact hc' 8 (by omega)
  have k9 : ∀ W, Rd W (some ⟨b, off, none⟩) zs → W.cell? ⟨b, off + 9, none⟩ = some (.int .u8 z9) := fun W h => by
    obtain ⟨b', off', e, hc'⟩ := h.2 (by omega)
    injection e with e; injection e with e1 e2; subst e1 e2
    rw [Hz.out.2.2]; exact hc' 9 (by omega)
  clear hc hR hn c0 c8 c9
  go_enter Try.func87, Try.ntmps87
  go_wp2
  go_region_held3 (fun w' => Rd w' (some ⟨b, off, none⟩) zs)
    (first | (with_reducible exact (HR.out.alloc _).drew) | (with_reducible exact (HR.out.alloc _).drewN _) | (with_reducible exact Rd.set6 (by assumption) hne _ _ _ _ _ _))
    (first
      | (go_at_call 90; refine (get16_any _ n c zs 2 2 _ Hn.out rfl (by omega) hl ?_).mono ?_; assumption; rintro e w' ⟨rfl, q, rfl⟩)
      | (go_at_call_of 102 (Value.int .i64 12); refine (get32_any _ n c zs 12 12 _ Hn.out rfl (by omega) hl ?_).mono ?_; assumption; rintro e w' ⟨rfl, q, rfl⟩)
      | (go_at_call_of 102 (Value.int .i64 16); refine (get32_any _ n c zs 16 16 _ Hn.out rfl (by omega) hl ?_).mono ?_; assumption; rintro e w' ⟨rfl, q, rfl⟩))
  go_wp2
  rw [Hf.out]
  exact bodyPost_ret (v := .agg #[.int .i64 (z0 % 16 * 4), .int .i64 (G16 zs 2), .int .i64 z8, .int .i64 z9, .int .u32 (G32 zs 12), .int .u32 (G32 zs 16)]) (by simp [results, Try.results87, go_sem]) rfl
    ⟨rfl, below_set6 (below_drewN ((Below.refl _ _).alloc (Nat.le_refl _) _) _) (Nat.le_refl _) _ _ _ _ _ _⟩

theorem and3fff (x : Int) (h0 : 0 ≤ x) (h1 : x ≤ 65535) : bits .and .u16 x 16383 = x % 16384 := by go_bits2

theorem isPiece_any (A : Option Addr) (n c : Nat) (zs : List Int) (w : World) (hn : zs.length = n) (h20 : 20 ≤ n) (hl : n ≤ 1000000) (hR : Rd w A zs) :
    Calls Try.prog 65 #[.slice A n c] w fun e w' => e = .returned (.bool (G16 zs 6 % 16384 != 0)) ∧ ∃ q, w' = w.drewN q := by
  have r6 := G16_range zs hR.1 6
  have an := and3fff _ r6.1 r6.2
  have HR := Lib.hid hR
  have Hn := Lib.hid hn
  clear hR hn
  go_enter Try.func65, Try.ntmps65
  go_wp2_with fail
  refine (get16_any A n c zs 6 6 _ Hn.out rfl (by omega) hl HR.out).mono ?_
  rintro e w' ⟨rfl, q, rfl⟩
  go_wp2
  go_ret
  exact ⟨rfl, q, rfl⟩

end Go.Proofs.Ytbnlpidhbilenaa

namespace Go.Proofs.Ytbnlpidhbilenaa
open Go.RowKit Plain
set_option linter.unusedVariables false
set_option maxRecDepth 100000

/-- the error that read tells -/
def rdE (zs : List Int) (most : Int) : Int :=
  if zs.length < 20 then 2 else if zs.getD 0 0 / 16 ≠ 4 then 3 else if (fld zs).size < 20 then 3 else if (zs.length : Int) < (fld zs).size then 2
  else if (fld zs).len < (fld zs).size then 3 else if most < (fld zs).len then 3 else 0
def rdH (zs : List Int) (most : Int) : Hd := if rdE zs most = 0 then fld zs else hd0

/-- six cells of a head in a block that is known whole -/
def hcells (h : Hd) : Array Value := #[.int .i64 h.size, .int .i64 h.len, .int .i64 h.ttl, .int .i64 h.proto, .int .u32 h.src, .int .u32 h.dst]

def zeroH : Array Value := #[.int .i64 0, .int .i64 0, .int .i64 0, .int .i64 0, .int .u32 0, .int .u32 0]

set_option maxHeartbeats 2000000 in
theorem read_any (A : Option Addr) (n c : Nat) (zs : List Int) (most : Int) (w : World) (hn : zs.length = n) (hl : n ≤ 1000000) (hR : Rd w A zs) (hm0 : 0 ≤ most) (hm1 : most ≤ 1000000) :
    Calls Try.prog 63 #[.slice A n c, .int .i64 most] w fun e w' => e = .returned (.tuple #[(rdH zs most).val, .int .i64 (rdE zs most)]) ∧ Below w.heap.size w w' := by
  by_cases h20 : n < 20
  · have he := Lib.hid (show rdE zs most = 2 by unfold rdE; rw [if_pos (by omega)])
    have hh := Lib.hid (show (rdH zs most).val = .agg #[.int .i64 0, .int .i64 0, .int .i64 0, .int .i64 0, .int .u32 0, .int .u32 0] by unfold rdH; rw [he.out, if_neg (by decide)]; rfl)
    have i0 : (n : Int) < 20 := by omega
    clear hR hn
    go_enter Try.func63, Try.ntmps63
    go_wp2
    rw [he.out, hh.out]
    refine bodyPost_ret (v := .tuple #[.agg #[.int .i64 0, .int .i64 0, .int .i64 0, .int .i64 0, .int .u32 0, .int .u32 0], .int .i64 2]) (by simp [results, Try.results63, go_sem]) rfl ⟨rfl, ?_⟩
    exact (Below.refl _ _).alloc (Nat.le_refl _) _
  · have i0 : ¬ (n : Int) < 20 := by omega
    have hf := fields_any A n c zs _ hn (by omega) hl (hR.alloc (.cells #[.int .i64 0, .int .i64 0, .int .i64 0, .int .i64 0, .int .u32 0, .int .u32 0] 103))
    obtain ⟨b, off, rfl, hc⟩ := hR.2 (by omega)
    have c0 : w.cell? ⟨b, off, none⟩ = some (.int .u8 (zs.getD 0 0)) := hc 0 (by omega)
    have hlt : b < w.heap.size := block_lt_of_cell c0
    have b0 := hR.1.getD 0
    obtain ⟨hd, hhd⟩ : ∃ hd, hd = fld zs := ⟨_, rfl⟩
    rw [← hhd] at hf
    have r2 := G16_range zs hR.1 2
    have hs : 0 ≤ hd.size ∧ hd.size ≤ 60 := by rw [hhd]; simp only [fld]; omega
    have hle : 0 ≤ hd.len ∧ hd.len ≤ 65535 := by rw [hhd]; exact r2
    have HF := Lib.hid hf
    have i1 : 0 < n := by omega
    have HE := Lib.hid (show rdE zs most = if zs.getD 0 0 / 16 ≠ 4 then 3 else if hd.size < 20 then 3 else if (n : Int) < hd.size then 2 else if hd.len < hd.size then 3 else if most < hd.len then 3 else 0 by
      unfold rdE; rw [if_neg (by omega), hn, ← hhd])
    have HH := Lib.hid (show rdH zs most = if rdE zs most = 0 then hd else hd0 by unfold rdH; rw [← hhd])
    generalize zs.getD 0 0 = z0 at *
    obtain ⟨d0, d1, d2, d3, d4, d5⟩ := hd
    simp only at hs hle
    clear hf hc hR hn hhd r2
    go_enter Try.func63, Try.ntmps63
    go_wp2_with fail
    refine HF.out.mono ?_
    rintro e w1 ⟨rfl, hb1⟩
    rw [show (Hd.mk d0 d1 d2 d3 d4 d5).val = .agg #[.int .i64 d0, .int .i64 d1, .int .i64 d2, .int .i64 d3, .int .u32 d4, .int .u32 d5] from rfl]
    have bk := (Blk.new w 103 #[.int .i64 0, .int .i64 0, .int .i64 0, .int .i64 0, .int .u32 0, .int .u32 0]).below hb1
    have hs1 : w.heap.size + 1 ≤ w1.heap.size := by have := hb1.size; simpa using this
    have cz : w1.cell? ⟨b, off, none⟩ = some (.int .u8 z0) := (hb1.cell (p := ⟨b, off, none⟩) (by simp; omega)).trans ((World.cell?_alloc_lt w _ ⟨b, off, none⟩ hlt).trans c0)
    have Hbk := Lib.hid bk
    have Hb1 := Lib.hid (show Below w.heap.size w w1 from ((Below.refl _ _).alloc (Nat.le_refl _) _).trans (hb1.mono (by simp)))
    have Hcz := Lib.hid cz
    clear hb1 bk c0 cz
    go_upto_region 4 with fail
    obtain ⟨w2, hw2⟩ : ∃ w2, w2 = w1.alloc (.cells #[.int .i64 d0, .int .i64 d1, .int .i64 d2, .int .i64 d3, .int .u32 d4, .int .u32 d5] 103) := ⟨_, rfl⟩
    rw [← hw2]
    have bk2 : Blk w2 w.heap.size 103 #[.int .i64 0, .int .i64 0, .int .i64 0, .int .i64 0, .int .u32 0, .int .u32 0] := by rw [hw2]; exact Hbk.out.alloc _
    have bh2 : Blk w2 w1.heap.size 103 #[.int .i64 d0, .int .i64 d1, .int .i64 d2, .int .i64 d3, .int .u32 d4, .int .u32 d5] := by rw [hw2]; exact Blk.new w1 _ _
    have cz : w2.cell? ⟨b, off, none⟩ = some (.int .u8 z0) := by rw [hw2]; exact (World.cell?_alloc_lt w1 _ ⟨b, off, none⟩ (show b < w1.heap.size by omega)).trans Hcz.out
    have Hb2 := Lib.hid (show Below w.heap.size w w2 by rw [hw2]; exact Hb1.out.alloc Hb1.out.size _)
    have k0 := bk2.cell 0
    have k1 := bk2.cell 1
    have k2 := bk2.cell 2
    have k3 := bk2.cell 3
    have k4 := bk2.cell 4
    have k5 := bk2.cell 5
    have f0 := bk2.frozen 0
    have f1 := bk2.frozen 1
    have f2 := bk2.frozen 2
    have f3 := bk2.frozen 3
    have f4 := bk2.frozen 4
    have f5 := bk2.frozen 5
    have m0 := bh2.cell 0
    have m1 := bh2.cell 1
    have m2 := bh2.cell 2
    have m3 := bh2.cell 3
    have m4 := bh2.cell 4
    have m5 := bh2.cell 5
    simp only [List.getElem?_toArray, List.getElem?_cons_zero, List.getElem?_cons_succ] at k0 k1 k2 k3 k4 k5 m0 m1 m2 m3 m4 m5
    have hne : ¬ w.heap.size = w1.heap.size := by omega
    clear bk2 bh2 hw2 Hbk Hb1 Hcz
    generalize w1.heap.size = p at *
    by_cases h4 : z0 / 16 = 4
    · have t4 : (z0 / 16 != 4) = false := by simp [h4]
      by_cases hs20 : d0 < 20
      · have he := Lib.hid (show rdE zs most = 3 by rw [HE.out, if_neg (by simp [h4]), if_pos hs20])
        have hh := Lib.hid (show (rdH zs most).val = .agg #[.int .i64 0, .int .i64 0, .int .i64 0, .int .i64 0, .int .u32 0, .int .u32 0] by rw [HH.out, he.out, if_neg (by decide)]; rfl)
        have H4 := Lib.hid h4
        clear h4
        go_wp2
        rw [he.out, hh.out]
        refine bodyPost_ret (v := .tuple #[.agg #[.int .i64 0, .int .i64 0, .int .i64 0, .int .i64 0, .int .u32 0, .int .u32 0], .int .i64 3]) (by simp [results, Try.results63, go_sem, k0, k1, k2, k3, k4, k5]) rfl ⟨rfl, ?_⟩
        exact below_set6 Hb2.out (Nat.le_refl _) _ _ _ _ _ _
      · by_cases hns : (n : Int) < d0
        · have he := Lib.hid (show rdE zs most = 2 by rw [HE.out, if_neg (by simp [h4]), if_neg hs20, if_pos hns])
          have hh := Lib.hid (show (rdH zs most).val = .agg #[.int .i64 0, .int .i64 0, .int .i64 0, .int .i64 0, .int .u32 0, .int .u32 0] by rw [HH.out, he.out, if_neg (by decide)]; rfl)
          have H4 := Lib.hid h4
          clear h4
          go_wp2
          rw [he.out, hh.out]
          refine bodyPost_ret (v := .tuple #[.agg #[.int .i64 0, .int .i64 0, .int .i64 0, .int .i64 0, .int .u32 0, .int .u32 0], .int .i64 2]) (by simp [results, Try.results63, go_sem, k0, k1, k2, k3, k4, k5]) rfl ⟨rfl, ?_⟩
          exact below_set6 Hb2.out (Nat.le_refl _) _ _ _ _ _ _
        · by_cases hl1 : d1 < d0
          · have he := Lib.hid (show rdE zs most = 3 by rw [HE.out, if_neg (by simp [h4]), if_neg hs20, if_neg hns, if_pos hl1])
            have hh := Lib.hid (show (rdH zs most).val = .agg #[.int .i64 0, .int .i64 0, .int .i64 0, .int .i64 0, .int .u32 0, .int .u32 0] by rw [HH.out, he.out, if_neg (by decide)]; rfl)
            have dl : decide (d1 < d0) = true := by simp [hl1]
            have H4 := Lib.hid h4
            clear h4
            go_wp2
            rw [he.out, hh.out]
            refine bodyPost_ret (v := .tuple #[.agg #[.int .i64 0, .int .i64 0, .int .i64 0, .int .i64 0, .int .u32 0, .int .u32 0], .int .i64 3]) (by simp [results, Try.results63, go_sem, k0, k1, k2, k3, k4, k5]) rfl ⟨rfl, ?_⟩
            exact below_set6 Hb2.out (Nat.le_refl _) _ _ _ _ _ _
          · have dl : decide (d1 < d0) = false := by simp; omega
            by_cases hl2 : most < d1
            · have he := Lib.hid (show rdE zs most = 3 by rw [HE.out, if_neg (by simp [h4]), if_neg hs20, if_neg hns, if_neg hl1, if_pos hl2])
              have hh := Lib.hid (show (rdH zs most).val = .agg #[.int .i64 0, .int .i64 0, .int .i64 0, .int .i64 0, .int .u32 0, .int .u32 0] by rw [HH.out, he.out, if_neg (by decide)]; rfl)
              have H4 := Lib.hid h4
              clear h4
              go_wp2
              rw [he.out, hh.out]
              refine bodyPost_ret (v := .tuple #[.agg #[.int .i64 0, .int .i64 0, .int .i64 0, .int .i64 0, .int .u32 0, .int .u32 0], .int .i64 3]) (by simp [results, Try.results63, go_sem, k0, k1, k2, k3, k4, k5]) rfl ⟨rfl, ?_⟩
              exact below_set6 Hb2.out (Nat.le_refl _) _ _ _ _ _ _
            · have he := Lib.hid (show rdE zs most = 0 by rw [HE.out, if_neg (by simp [h4]), if_neg hs20, if_neg hns, if_neg hl1, if_neg hl2])
              have hh := Lib.hid (show (rdH zs most).val = .agg #[.int .i64 d0, .int .i64 d1, .int .i64 d2, .int .i64 d3, .int .u32 d4, .int .u32 d5] by rw [HH.out, he.out, if_pos rfl]; rfl)
              have H4 := Lib.hid h4
              clear h4
              go_wp2
              rw [he.out, hh.out]
              refine bodyPost_ret (v := .tuple #[.agg #[.int .i64 d0, .int .i64 d1, .int .i64 d2, .int .i64 d3, .int .u32 d4, .int .u32 d5], .int .i64 0]) (by simp [results, Try.results63, go_sem, k0, k1, k2, k3, k4, k5]) rfl ⟨rfl, ?_⟩
              exact below_set6 Hb2.out (Nat.le_refl _) _ _ _ _ _ _
    · have t4 : (z0 / 16 != 4) = true := by rw [bne_iff_ne]; exact h4
      have he := Lib.hid (show rdE zs most = 3 by rw [HE.out, if_pos h4])
      have hh := Lib.hid (show (rdH zs most).val = .agg #[.int .i64 0, .int .i64 0, .int .i64 0, .int .i64 0, .int .u32 0, .int .u32 0] by rw [HH.out, he.out, if_neg (by decide)]; rfl)
      clear h4
      go_wp2
      rw [he.out, hh.out]
      refine bodyPost_ret (v := .tuple #[.agg #[.int .i64 0, .int .i64 0, .int .i64 0, .int .i64 0, .int .u32 0, .int .u32 0], .int .i64 3]) (by simp [results, Try.results63, go_sem, k0, k1, k2, k3, k4, k5]) rfl ⟨rfl, ?_⟩
      exact below_set6 Hb2.out (Nat.le_refl _) _ _ _ _ _ _
end Go.Proofs.Ytbnlpidhbilenaa

namespace Go.Proofs.Ytbnlpidhbilenaa
open Go.RowKit Plain
set_option linter.unusedVariables false
set_option maxRecDepth 100000

def gtE (zs : List Int) : Int :=
  if rdE zs 1500 ≠ 0 then rdE zs 1500 else if (zs.length : Int) < (fld zs).len then 2 else if Cs (zs.take (fld zs).size.toNat) ≠ 0 then 4 else if G16 zs 6 % 16384 ≠ 0 then 5 else 0
def gtH (zs : List Int) : Hd := if gtE zs = 0 then fld zs else hd0
def ptE (zs : List Int) : Int := if rdE zs 65535 ≠ 0 then rdE zs 65535 else if G16 zs 6 % 16384 ≠ 0 then 5 else 0
def ptH (zs : List Int) : Hd := if ptE zs = 0 then fld zs else hd0

theorem rdE_zero (zs : List Int) (most : Int) (h : rdE zs most = 0) : 20 ≤ zs.length ∧ zs.getD 0 0 / 16 = 4 ∧ 20 ≤ (fld zs).size ∧ (fld zs).size ≤ (zs.length : Int) ∧ (fld zs).size ≤ (fld zs).len ∧ (fld zs).len ≤ most := by
  unfold rdE at h
  split at h
  · omega
  split at h
  · omega
  split at h
  · omega
  split at h
  · omega
  split at h
  · omega
  split at h
  · omega
  rename_i a b c d e f
  exact ⟨by omega, by omega, by omega, by omega, by omega, by omega⟩
theorem rdE_range (zs : List Int) (most : Int) : 0 ≤ rdE zs most ∧ rdE zs most ≤ 3 := by unfold rdE; repeat (split <;> try omega)

set_option maxHeartbeats 2000000 in
theorem get_any (A : Option Addr) (n c : Nat) (zs : List Int) (w : World) (hn : zs.length = n) (hnc : n ≤ c) (hl : n ≤ 1000000) (hR : Rd w A zs) :
    Calls Try.prog 50 #[.slice A n c] w fun e w' => e = .returned (.tuple #[(gtH zs).val, .int .i64 (gtE zs)]) ∧ Below w.heap.size w w' := by
  have hrd := read_any A n c zs 1500 (w.alloc (.cells #[.int .i64 0, .int .i64 0, .int .i64 0, .int .i64 0, .int .u32 0, .int .u32 0] 103)) hn hl (hR.alloc _) (by omega) (by omega)
  obtain ⟨er, her⟩ : ∃ er, er = rdE zs 1500 := ⟨_, rfl⟩
  obtain ⟨hv, hhv⟩ : ∃ hv, hv = rdH zs 1500 := ⟨_, rfl⟩
  rw [← her, ← hhv] at hrd
  have HF := Lib.hid hrd
  have Her := Lib.hid her
  have Hhv := Lib.hid hhv
  have HR := Lib.hid hR
  have Hn := Lib.hid hn
  clear hrd her hhv hR hn
  obtain ⟨d0, d1, d2, d3, d4, d5⟩ := hv
  go_enter Try.func50, Try.ntmps50
  go_wp2_with fail
  refine HF.out.mono ?_
  rintro e w1 ⟨rfl, hb1⟩
  rw [show (Hd.mk d0 d1 d2 d3 d4 d5).val = .agg #[.int .i64 d0, .int .i64 d1, .int .i64 d2, .int .i64 d3, .int .u32 d4, .int .u32 d5] from rfl]
  have bk := (Blk.new w 103 #[.int .i64 0, .int .i64 0, .int .i64 0, .int .i64 0, .int .u32 0, .int .u32 0]).below hb1
  have hs1 : w.heap.size + 1 ≤ w1.heap.size := by have := hb1.size; simpa using this
  have Hbk := Lib.hid bk
  have Hb1 := Lib.hid (show Below w.heap.size w w1 from ((Below.refl _ _).alloc (Nat.le_refl _) _).trans (hb1.mono (by simp)))
  clear hb1 bk HF
  go_upto_region 2 with fail
  obtain ⟨w2, hw2⟩ : ∃ w2, w2 = w1.alloc (.cells #[.int .i64 d0, .int .i64 d1, .int .i64 d2, .int .i64 d3, .int .u32 d4, .int .u32 d5] 103) := ⟨_, rfl⟩
  rw [← hw2]
  have bk2 : Blk w2 w.heap.size 103 #[.int .i64 0, .int .i64 0, .int .i64 0, .int .i64 0, .int .u32 0, .int .u32 0] := by rw [hw2]; exact Hbk.out.alloc _
  have bh2 : Blk w2 w1.heap.size 103 #[.int .i64 d0, .int .i64 d1, .int .i64 d2, .int .i64 d3, .int .u32 d4, .int .u32 d5] := by rw [hw2]; exact Blk.new w1 _ _
  have Hb2 := Lib.hid (show Below w.heap.size w w2 by rw [hw2]; exact Hb1.out.alloc Hb1.out.size _)
  have k0 := bk2.cell 0
  have k1 := bk2.cell 1
  have k2 := bk2.cell 2
  have k3 := bk2.cell 3
  have k4 := bk2.cell 4
  have k5 := bk2.cell 5
  have f0 := bk2.frozen 0
  have f1 := bk2.frozen 1
  have f2 := bk2.frozen 2
  have f3 := bk2.frozen 3
  have f4 := bk2.frozen 4
  have f5 := bk2.frozen 5
  have m0 := bh2.cell 0
  have m1 := bh2.cell 1
  have m2 := bh2.cell 2
  have m3 := bh2.cell 3
  have m4 := bh2.cell 4
  have m5 := bh2.cell 5
  simp only [List.getElem?_toArray, List.getElem?_cons_zero, List.getElem?_cons_succ] at k0 k1 k2 k3 k4 k5 m0 m1 m2 m3 m4 m5
  have hne : ¬ w.heap.size = w1.heap.size := by omega
  clear bk2 bh2 hw2 Hbk Hb1
  generalize w1.heap.size = p at *

  by_cases hz : er = 0
  · have hrd0 : rdE zs 1500 = 0 := by rw [← Her.out]; exact hz
    obtain ⟨q0, q1, q2, q3, q4, q5⟩ := rdE_zero zs 1500 hrd0
    have hfd : fld zs = ⟨d0, d1, d2, d3, d4, d5⟩ := by have := Hhv.out; unfold rdH at this; rw [hrd0, if_pos rfl] at this; exact this.symm
    have hHR := HR.out
    rw [hfd] at q2 q3 q4 q5
    simp only at q2 q3 q4 q5
    rw [Hn.out] at q0 q3
    obtain ⟨sz, hsz⟩ : ∃ sz : Nat, (sz : Int) = d0 := ⟨d0.toNat, by omega⟩
    subst hsz
    have Hfld := Lib.hid hfd
    have Hrd0 := Lib.hid hrd0
    have HE := Lib.hid (show gtE zs = if (n : Int) < d1 then 2 else if Cs (zs.take sz) ≠ 0 then 4 else if G16 zs 6 % 16384 ≠ 0 then 5 else 0 by
      unfold gtE; rw [Hrd0.out, if_neg (by decide), Hn.out, hfd]; rfl)
    obtain rfl : er = 0 := hz
    clear hfd hrd0 hHR
    have hc16 := Cs_range _ (HR.out.1.take sz)
    by_cases hnl : (n : Int) < d1
    · have he := Lib.hid (show gtE zs = 2 by rw [HE.out, if_pos hnl])
      have hh := Lib.hid (show (gtH zs).val = .agg #[.int .i64 0, .int .i64 0, .int .i64 0, .int .i64 0, .int .u32 0, .int .u32 0] by unfold gtH; rw [he.out, if_neg (by decide)]; rfl)
      go_wp2
      rw [he.out, hh.out]
      refine bodyPost_ret (v := .tuple #[.agg #[.int .i64 0, .int .i64 0, .int .i64 0, .int .i64 0, .int .u32 0, .int .u32 0], .int .i64 2]) (by simp [results, Try.results50, go_sem, k0, k1, k2, k3, k4, k5]) rfl ⟨rfl, ?_⟩
      exact below_set6 Hb2.out (Nat.le_refl _) _ _ _ _ _ _
    · have isz : (sz : Int) ≤ (c : Int) := by omega
      have isz0 : (0 : Int) ≤ (sz : Int) := by omega
      go_wp2_with fail
      refine (of_n A sz c (zs.take sz) _ (by rw [List.length_take, Hn.out]; omega) (by omega) ((HR.out.below Hb2.out).take sz)).mono ?_
      rintro e w' ⟨rfl, qa, rfl⟩
      by_cases hcs : Cs (zs.take sz) = 0
      · have t1 : (Cs (zs.take sz) != 0) = false := by simp [hcs]
        have Hcs := Lib.hid hcs
        clear hcs
        go_wp2_with fail
        refine (isPiece_any A n c zs _ Hn.out (by omega) hl ((HR.out.below Hb2.out).drewN qa)).mono ?_
        rintro e w' ⟨rfl, qb, rfl⟩
        by_cases hp : G16 zs 6 % 16384 = 0
        · have t2 : (G16 zs 6 % 16384 != 0) = false := by simp [hp]
          have he := Lib.hid (show gtE zs = 0 by rw [HE.out, if_neg (by omega), if_neg (by simp [Hcs.out]), if_neg (by simp [hp])])
          have hh := Lib.hid (show (gtH zs).val = .agg #[.int .i64 (sz : Int), .int .i64 d1, .int .i64 d2, .int .i64 d3, .int .u32 d4, .int .u32 d5] by unfold gtH; rw [he.out, if_pos rfl, Hfld.out]; rfl)
          clear hp
          go_wp2
          rw [he.out, hh.out]
          refine bodyPost_ret (v := .tuple #[.agg #[.int .i64 (sz : Int), .int .i64 d1, .int .i64 d2, .int .i64 d3, .int .u32 d4, .int .u32 d5], .int .i64 0]) (by simp [results, Try.results50, go_sem, k0, k1, k2, k3, k4, k5]) rfl ⟨rfl, ?_⟩
          exact below_set6 (below_drewN Hb2.out _) (Nat.le_refl _) _ _ _ _ _ _
        · have t2 : (G16 zs 6 % 16384 != 0) = true := by rw [bne_iff_ne]; exact hp
          have he := Lib.hid (show gtE zs = 5 by rw [HE.out, if_neg (by omega), if_neg (by simp [Hcs.out]), if_pos hp])
          have hh := Lib.hid (show (gtH zs).val = .agg #[.int .i64 0, .int .i64 0, .int .i64 0, .int .i64 0, .int .u32 0, .int .u32 0] by unfold gtH; rw [he.out, if_neg (by decide)]; rfl)
          clear hp
          go_wp2
          rw [he.out, hh.out]
          refine bodyPost_ret (v := .tuple #[.agg #[.int .i64 0, .int .i64 0, .int .i64 0, .int .i64 0, .int .u32 0, .int .u32 0], .int .i64 5]) (by simp [results, Try.results50, go_sem, k0, k1, k2, k3, k4, k5]) rfl ⟨rfl, ?_⟩
          exact below_set6 (below_drewN Hb2.out _) (Nat.le_refl _) _ _ _ _ _ _
      · have t1 : (Cs (zs.take sz) != 0) = true := by rw [bne_iff_ne]; exact hcs
        have he := Lib.hid (show gtE zs = 4 by rw [HE.out, if_neg (by omega), if_pos hcs])
        have hh := Lib.hid (show (gtH zs).val = .agg #[.int .i64 0, .int .i64 0, .int .i64 0, .int .i64 0, .int .u32 0, .int .u32 0] by unfold gtH; rw [he.out, if_neg (by decide)]; rfl)
        clear hcs
        go_wp2
        rw [he.out, hh.out]
        refine bodyPost_ret (v := .tuple #[.agg #[.int .i64 0, .int .i64 0, .int .i64 0, .int .i64 0, .int .u32 0, .int .u32 0], .int .i64 4]) (by simp [results, Try.results50, go_sem, k0, k1, k2, k3, k4, k5]) rfl ⟨rfl, ?_⟩
        exact below_set6 (below_drewN Hb2.out _) (Nat.le_refl _) _ _ _ _ _ _
  · have t0 : (er != 0) = true := by rw [bne_iff_ne]; exact hz
    have he := Lib.hid (show gtE zs = er by unfold gtE; rw [← Her.out, if_pos hz])
    have hh := Lib.hid (show (gtH zs).val = .agg #[.int .i64 0, .int .i64 0, .int .i64 0, .int .i64 0, .int .u32 0, .int .u32 0] by unfold gtH; rw [he.out, if_neg hz]; rfl)
    clear hz
    go_wp2
    rw [he.out, hh.out]
    refine bodyPost_ret (v := .tuple #[.agg #[.int .i64 0, .int .i64 0, .int .i64 0, .int .i64 0, .int .u32 0, .int .u32 0], .int .i64 er]) (by simp [results, Try.results50, go_sem, k0, k1, k2, k3, k4, k5]) rfl ⟨rfl, ?_⟩
    exact below_set6 Hb2.out (Nat.le_refl _) _ _ _ _ _ _

set_option maxHeartbeats 2000000 in
theorem part_any (A : Option Addr) (n c : Nat) (zs : List Int) (w : World) (hn : zs.length = n) (hl : n ≤ 1000000) (hR : Rd w A zs) :
    Calls Try.prog 104 #[.slice A n c] w fun e w' => e = .returned (.tuple #[(ptH zs).val, .int .i64 (ptE zs)]) ∧ Below w.heap.size w w' := by
  have hrd := read_any A n c zs 65535 (w.alloc (.cells #[.int .i64 0, .int .i64 0, .int .i64 0, .int .i64 0, .int .u32 0, .int .u32 0] 103)) hn hl (hR.alloc _) (by omega) (by omega)
  obtain ⟨er, her⟩ : ∃ er, er = rdE zs 65535 := ⟨_, rfl⟩
  obtain ⟨hv, hhv⟩ : ∃ hv, hv = rdH zs 65535 := ⟨_, rfl⟩
  rw [← her, ← hhv] at hrd
  have HF := Lib.hid hrd
  have Her := Lib.hid her
  have Hhv := Lib.hid hhv
  have HR := Lib.hid hR
  have Hn := Lib.hid hn
  clear hrd her hhv hR hn
  obtain ⟨d0, d1, d2, d3, d4, d5⟩ := hv
  go_enter Try.func104, Try.ntmps104
  go_wp2_with fail
  refine HF.out.mono ?_
  rintro e w1 ⟨rfl, hb1⟩
  rw [show (Hd.mk d0 d1 d2 d3 d4 d5).val = .agg #[.int .i64 d0, .int .i64 d1, .int .i64 d2, .int .i64 d3, .int .u32 d4, .int .u32 d5] from rfl]
  have bk := (Blk.new w 103 #[.int .i64 0, .int .i64 0, .int .i64 0, .int .i64 0, .int .u32 0, .int .u32 0]).below hb1
  have hs1 : w.heap.size + 1 ≤ w1.heap.size := by have := hb1.size; simpa using this
  have Hbk := Lib.hid bk
  have Hb1 := Lib.hid (show Below w.heap.size w w1 from ((Below.refl _ _).alloc (Nat.le_refl _) _).trans (hb1.mono (by simp)))
  clear hb1 bk HF
  go_upto_region 2 with fail
  obtain ⟨w2, hw2⟩ : ∃ w2, w2 = w1.alloc (.cells #[.int .i64 d0, .int .i64 d1, .int .i64 d2, .int .i64 d3, .int .u32 d4, .int .u32 d5] 103) := ⟨_, rfl⟩
  rw [← hw2]
  have bk2 : Blk w2 w.heap.size 103 #[.int .i64 0, .int .i64 0, .int .i64 0, .int .i64 0, .int .u32 0, .int .u32 0] := by rw [hw2]; exact Hbk.out.alloc _
  have bh2 : Blk w2 w1.heap.size 103 #[.int .i64 d0, .int .i64 d1, .int .i64 d2, .int .i64 d3, .int .u32 d4, .int .u32 d5] := by rw [hw2]; exact Blk.new w1 _ _
  have Hb2 := Lib.hid (show Below w.heap.size w w2 by rw [hw2]; exact Hb1.out.alloc Hb1.out.size _)
  have k0 := bk2.cell 0
  have k1 := bk2.cell 1
  have k2 := bk2.cell 2
  have k3 := bk2.cell 3
  have k4 := bk2.cell 4
  have k5 := bk2.cell 5
  have f0 := bk2.frozen 0
  have f1 := bk2.frozen 1
  have f2 := bk2.frozen 2
  have f3 := bk2.frozen 3
  have f4 := bk2.frozen 4
  have f5 := bk2.frozen 5
  have m0 := bh2.cell 0
  have m1 := bh2.cell 1
  have m2 := bh2.cell 2
  have m3 := bh2.cell 3
  have m4 := bh2.cell 4
  have m5 := bh2.cell 5
  simp only [List.getElem?_toArray, List.getElem?_cons_zero, List.getElem?_cons_succ] at k0 k1 k2 k3 k4 k5 m0 m1 m2 m3 m4 m5
  have hne : ¬ w.heap.size = w1.heap.size := by omega
  clear bk2 bh2 hw2 Hbk Hb1
  generalize w1.heap.size = p at *

  by_cases hz : er = 0
  · have hrd0 : rdE zs 65535 = 0 := by rw [← Her.out]; exact hz
    obtain ⟨q0, q1, q2, q3, q4, q5⟩ := rdE_zero zs 65535 hrd0
    have hfd : fld zs = ⟨d0, d1, d2, d3, d4, d5⟩ := by have := Hhv.out; unfold rdH at this; rw [hrd0, if_pos rfl] at this; exact this.symm
    rw [hfd] at q2 q3 q4 q5
    simp only at q2 q3 q4 q5
    rw [Hn.out] at q0 q3
    obtain ⟨sz, hsz⟩ : ∃ sz : Nat, (sz : Int) = d0 := ⟨d0.toNat, by omega⟩
    subst hsz
    have Hfld := Lib.hid hfd
    have Hrd0 := Lib.hid hrd0
    have HE := Lib.hid (show ptE zs = if G16 zs 6 % 16384 ≠ 0 then 5 else 0 by unfold ptE; rw [Hrd0.out, if_neg (by decide)])
    obtain rfl : er = 0 := hz
    clear hfd hrd0
    go_wp2_with fail
    refine (isPiece_any A n c zs _ Hn.out (by omega) hl (HR.out.below Hb2.out)).mono ?_
    rintro e w' ⟨rfl, qb, rfl⟩
    by_cases hp : G16 zs 6 % 16384 = 0
    · have t2 : (G16 zs 6 % 16384 != 0) = false := by simp [hp]
      have he := Lib.hid (show ptE zs = 0 by rw [HE.out, if_neg (by simp [hp])])
      have hh := Lib.hid (show (ptH zs).val = .agg #[.int .i64 (sz : Int), .int .i64 d1, .int .i64 d2, .int .i64 d3, .int .u32 d4, .int .u32 d5] by unfold ptH; rw [he.out, if_pos rfl, Hfld.out]; rfl)
      clear hp
      go_wp2
      rw [he.out, hh.out]
      refine bodyPost_ret (v := .tuple #[.agg #[.int .i64 (sz : Int), .int .i64 d1, .int .i64 d2, .int .i64 d3, .int .u32 d4, .int .u32 d5], .int .i64 0]) (by simp [results, Try.results104, go_sem, k0, k1, k2, k3, k4, k5]) rfl ⟨rfl, ?_⟩
      exact below_set6 (below_drewN Hb2.out _) (Nat.le_refl _) _ _ _ _ _ _
    · have t2 : (G16 zs 6 % 16384 != 0) = true := by rw [bne_iff_ne]; exact hp
      have he := Lib.hid (show ptE zs = 5 by rw [HE.out, if_pos hp])
      have hh := Lib.hid (show (ptH zs).val = .agg #[.int .i64 0, .int .i64 0, .int .i64 0, .int .i64 0, .int .u32 0, .int .u32 0] by unfold ptH; rw [he.out, if_neg (by decide)]; rfl)
      clear hp
      go_wp2
      rw [he.out, hh.out]
      refine bodyPost_ret (v := .tuple #[.agg #[.int .i64 0, .int .i64 0, .int .i64 0, .int .i64 0, .int .u32 0, .int .u32 0], .int .i64 5]) (by simp [results, Try.results104, go_sem, k0, k1, k2, k3, k4, k5]) rfl ⟨rfl, ?_⟩
      exact below_set6 (below_drewN Hb2.out _) (Nat.le_refl _) _ _ _ _ _ _
  · have t0 : (er != 0) = true := by rw [bne_iff_ne]; exact hz
    have he := Lib.hid (show ptE zs = er by unfold ptE; rw [← Her.out, if_pos hz])
    have hh := Lib.hid (show (ptH zs).val = .agg #[.int .i64 0, .int .i64 0, .int .i64 0, .int .i64 0, .int .u32 0, .int .u32 0] by unfold ptH; rw [he.out, if_neg hz]; rfl)
    clear hz
    go_wp2
    rw [he.out, hh.out]
    refine bodyPost_ret (v := .tuple #[.agg #[.int .i64 0, .int .i64 0, .int .i64 0, .int .i64 0, .int .u32 0, .int .u32 0], .int .i64 er]) (by simp [results, Try.results104, go_sem, k0, k1, k2, k3, k4, k5]) rfl ⟨rfl, ?_⟩
    exact below_set6 Hb2.out (Nat.le_refl _) _ _ _ _ _ _

end Go.Proofs.Ytbnlpidhbilenaa

namespace Go.Proofs.Ytbnlpidhbilenaa
open Go.RowKit Plain
set_option linter.unusedVariables false
set_option maxRecDepth 100000

/-- a block just made of these bytes, whatever its mark -/
theorem Rd.newM (w : World) (t : TypeId) (z : Nat × Nat) (zs : List Int) (hby : By zs) (cs : Array Value) (hcs : cs = (zs.map (Value.int .u8)).toArray) : Rd (w.alloc (.cells cs t z)) (some ⟨w.heap.size, 0, none⟩) zs := by
  subst hcs
  refine ⟨hby, fun _ => ⟨w.heap.size, 0, rfl, fun k hk => ?_⟩⟩
  rw [Nat.zero_add, World.cell?_alloc_mark]
  simp [hk, List.getD]
theorem Rd.dropAt {w : World} {b off : Nat} {zs : List Int} (h : Rd w (some ⟨b, off, none⟩) zs) (k : Nat) : Rd w (some ⟨b, off + k, none⟩) (zs.drop k) := by
  refine ⟨h.1.drop k, fun hp => ⟨b, off + k, rfl, fun j hj => ?_⟩⟩
  rw [List.length_drop] at hp hj
  obtain ⟨b', off', e, hc⟩ := h.2 (by omega)
  injection e with e
  injection e with e1 e2
  subst e1 e2
  rw [getD_drop, Nat.add_assoc]
  exact hc (k + j) (by omega)
theorem Rd.lt {w : World} {A : Option Addr} {zs : List Int} (h : Rd w A zs) : ∀ b off, 0 < zs.length → A = some ⟨b, off, none⟩ → b < w.heap.size := by
  intro b off hp e
  obtain ⟨b', off', e', hc⟩ := h.2 hp
  rw [e] at e'
  injection e' with e'
  injection e' with e1 e2
  subst e1
  exact block_lt_of_cell (hc 0 hp)
theorem Rd.neq {w : World} {A : Option Addr} {zs : List Int} (h : Rd w A zs) {p : Addr} (hp : ∀ b off, 0 < zs.length → A = some ⟨b, off, none⟩ → b < p.block) (v : Value) : Rd (w.setCell p v) A zs :=
  ⟨h.1, fun hl => by
    obtain ⟨b, off, e, hc⟩ := h.2 hl
    refine ⟨b, off, e, fun k hk => (World.cell?_setCell_other w p ⟨b, off + k, none⟩ v (fun e2 => ?_)).trans (hc k hk)⟩
    have := hp b off hl e
    rw [e2] at this
    simp at this⟩
theorem Rd.setNew {w : World} {A : Option Addr} {zs : List Int} {m : Nat} (h : Rd w A zs) (hp : ∀ b off, 0 < zs.length → A = some ⟨b, off, none⟩ → b < m) (v0 v1 v2 v3 v4 v5 : Value) :
    Rd ((((((w.setCell ⟨m, 0, none⟩ v0).setCell ⟨m, 1, none⟩ v1).setCell ⟨m, 2, none⟩ v2).setCell ⟨m, 3, none⟩ v3).setCell ⟨m, 4, none⟩ v4).setCell ⟨m, 5, none⟩ v5) A zs :=
  (((((h.neq (p := ⟨m, 0, none⟩) hp v0).neq (p := ⟨m, 1, none⟩) hp v1).neq (p := ⟨m, 2, none⟩) hp v2).neq (p := ⟨m, 3, none⟩) hp v3).neq (p := ⟨m, 4, none⟩) hp v4).neq (p := ⟨m, 5, none⟩) hp v5
end Go.Proofs.Ytbnlpidhbilenaa

namespace Go.Proofs.Ytbnlpidhbilenaa
open Go.RowKit Plain
set_option linter.unusedVariables false
set_option maxRecDepth 100000

theorem sPart : Sty 107 15 := ⟨⟨_, Try.underlying107, rfl⟩, by unfold Siz; kernel_rfl⟩
theorem sHead : Sty 103 6 := ⟨⟨_, Try.underlying103, rfl⟩, by unfold Siz; kernel_rfl⟩
theorem sRHead : Sty 84 6 := ⟨⟨_, Try.underlying84, rfl⟩, by unfold Siz; kernel_rfl⟩
theorem sRPart : Sty 112 15 := ⟨⟨_, Try.underlying112, rfl⟩, by unfold Siz; kernel_rfl⟩
theorem sInt : Siz 3 1 := by unfold Siz; kernel_rfl
theorem sBool : Siz 4 1 := by unfold Siz; kernel_rfl
theorem sU16 : Siz 65 1 := by unfold Siz; kernel_rfl
theorem sU32 : Siz 64 1 := by unfold Siz; kernel_rfl
end Go.Proofs.Ytbnlpidhbilenaa

namespace Go.Proofs.Ytbnlpidhbilenaa
open Go.RowKit Plain
set_option linter.unusedVariables false
set_option linter.unusedSimpArgs false
set_option maxRecDepth 100000

/-- what a packet carries, as a value -/
structure Pt where
  proto : Int
  sp : Int
  dp : Int
  fl : Int
  kd : Int
  cd : Int
  er : Bool
  inn : Hd
  pos : Int
  bare : Bool
def Pt.val (p : Pt) : Value := .agg #[.int .i64 p.proto, .int .u16 p.sp, .int .u16 p.dp, .int .i64 p.fl, .int .i64 p.kd, .int .i64 p.cd, .bool p.er,
  .int .i64 p.inn.size, .int .i64 p.inn.len, .int .i64 p.inn.ttl, .int .i64 p.inn.proto, .int .u32 p.inn.src, .int .u32 p.inn.dst, .int .i64 p.pos, .bool p.bare]
def pt0 : Pt := ⟨0, 0, 0, 0, 0, 0, false, hd0, 0, false⟩


set_option maxHeartbeats 2000000 in
theorem withPorts_any (p0 p1 p2 p3 p4 p5 : Int) (p6 : Bool) (d0 d1 d2 d3 d4 d5 p7 : Int) (p8 : Bool) (A : Option Addr) (n c : Nat) (zs : List Int) (w : World) (hn : zs.length = n) (h4 : 4 ≤ n) (hl : n ≤ 1000000) (hR : Rd w A zs) :
    Calls Try.prog 91 #[.agg #[.int .i64 p0, .int .u16 p1, .int .u16 p2, .int .i64 p3, .int .i64 p4, .int .i64 p5, .bool p6, .int .i64 d0, .int .i64 d1, .int .i64 d2, .int .i64 d3, .int .u32 d4, .int .u32 d5, .int .i64 p7, .bool p8], .slice A n c] w fun e w' => e = .returned (.agg #[.int .i64 p0, .int .u16 (G16 zs 0), .int .u16 (G16 zs 2), .int .i64 p3, .int .i64 p4, .int .i64 p5, .bool p6, .int .i64 d0, .int .i64 d1, .int .i64 d2, .int .i64 d3, .int .u32 d4, .int .u32 d5, .int .i64 p7, .bool p8]) ∧ Below w.heap.size w w' := by
  have HR := Lib.hid hR
  have Hn := Lib.hid hn
  clear hR hn
  go_enter Try.func91, Try.ntmps91
  go_upto_region 1 with fail
  obtain ⟨w1, hw1⟩ : ∃ w1, w1 = (w.alloc (.cells #[.int .i64 p0, .int .u16 p1, .int .u16 p2, .int .i64 p3, .int .i64 p4, .int .i64 p5, .bool p6, .int .i64 d0, .int .i64 d1, .int .i64 d2, .int .i64 d3, .int .u32 d4, .int .u32 d5, .int .i64 p7, .bool p8] 107)).alloc (.cells #[.int .i64 0, .int .u16 0, .int .u16 0, .int .i64 0, .int .i64 0, .int .i64 0, .bool false, .int .i64 0, .int .i64 0, .int .i64 0, .int .i64 0, .int .u32 0, .int .u32 0, .int .i64 0, .bool false] 107) := ⟨_, rfl⟩
  have H0 := Lib.hid (show Blk w1 w.heap.size 107 #[.int .i64 p0, .int .u16 p1, .int .u16 p2, .int .i64 p3, .int .i64 p4, .int .i64 p5, .bool p6, .int .i64 d0, .int .i64 d1, .int .i64 d2, .int .i64 d3, .int .u32 d4, .int .u32 d5, .int .i64 p7, .bool p8] by rw [hw1]; exact (Blk.new w _ _).alloc _)
  have h1 : Blk w1 (w.heap.size + 1) 107 #[.int .i64 0, .int .u16 0, .int .u16 0, .int .i64 0, .int .i64 0, .int .i64 0, .bool false, .int .i64 0, .int .i64 0, .int .i64 0, .int .i64 0, .int .u32 0, .int .u32 0, .int .i64 0, .bool false] := by rw [hw1]; have := Blk.new (w.alloc (.cells #[.int .i64 p0, .int .u16 p1, .int .u16 p2, .int .i64 p3, .int .i64 p4, .int .i64 p5, .bool p6, .int .i64 d0, .int .i64 d1, .int .i64 d2, .int .i64 d3, .int .u32 d4, .int .u32 d5, .int .i64 p7, .bool p8] 107)) 107 #[.int .i64 0, .int .u16 0, .int .u16 0, .int .i64 0, .int .i64 0, .int .i64 0, .bool false, .int .i64 0, .int .i64 0, .int .i64 0, .int .i64 0, .int .u32 0, .int .u32 0, .int .i64 0, .bool false]; rwa [World.size_alloc] at this
  have HB := Lib.hid (show Below w.heap.size w w1 by rw [hw1]; exact bthen (ball _ _) (ball _ _))
  rw [← hw1]
  clear hw1
  obtain ⟨g1, hg1⟩ : ∃ g1, g1 = w.heap.size + 1 := ⟨_, rfl⟩
  have hgl : w.heap.size ≤ g1 := by omega
  have hgn : g1 ≠ w.heap.size := by omega
  rw [← hg1] at h1
  rw [← hg1]
  have H1 := Lib.hid h1
  clear hg1 h1
  go_wp2_with fail
  refine (get16_any A n c zs 0 0 _ Hn.out rfl (by omega) hl (HR.out.below HB.out)).mono ?_
  rintro e w' ⟨rfl, q, rfl⟩
  go_wp2_with ((with_reducible refine gd_st 65 7 ?_); refine wpList_st rfl 65 (.tmp 7) _ rfl _ _ rfl _ rfl (H0.out.drewN q) sU16 (#[.int .i64 p0, .int .u16 (G16 zs 0), .int .u16 p2, .int .i64 p3, .int .i64 p4, .int .i64 p5, .bool p6, .int .i64 d0, .int .i64 d1, .int .i64 d2, .int .i64 d3, .int .u32 d4, .int .u32 d5, .int .i64 p7, .bool p8]) rfl (Nat.le_of_ble_eq_true rfl) rfl ?_; intro w2 hb2 hg2 hs2)
  have HB2 := Lib.hid (bgrown (below_drewN HB.out q) hg2 (Nat.le_refl _))
  have H12 := Lib.hid ((H1.out.drewN q).grown hg2 hgn)
  have H02 := Lib.hid hb2
  clear hb2 hg2 hs2
  refine (get16_any A n c zs 2 2 _ Hn.out rfl (by omega) hl (HR.out.below HB2.out)).mono ?_
  rintro e w' ⟨rfl, q2, rfl⟩
  go_wp2_with (first | ((with_reducible refine gd_st 65 10 ?_); refine wpList_st rfl 65 (.tmp 10) _ rfl _ _ rfl _ rfl (H02.out.drewN q2) sU16 (#[.int .i64 p0, .int .u16 (G16 zs 0), .int .u16 (G16 zs 2), .int .i64 p3, .int .i64 p4, .int .i64 p5, .bool p6, .int .i64 d0, .int .i64 d1, .int .i64 d2, .int .i64 d3, .int .u32 d4, .int .u32 d5, .int .i64 p7, .bool p8]) rfl (Nat.le_of_ble_eq_true rfl) rfl ?_; intro w3 hb3 hg3 hs3) | ((with_reducible refine gd_ld 107 2 ?_); refine wpList_ld rfl 107 (.tmp 2) rfl _ rfl (hb3) sPart ?_) | ((with_reducible refine gd_st 107 4 ?_); refine wpList_st rfl 107 (.tmp 4) _ rfl _ _ rfl _ rfl ((H12.out.drewN q2).grown hg3 hgn) sPart.2 (#[.int .i64 p0, .int .u16 (G16 zs 0), .int .u16 (G16 zs 2), .int .i64 p3, .int .i64 p4, .int .i64 p5, .bool p6, .int .i64 d0, .int .i64 d1, .int .i64 d2, .int .i64 d3, .int .u32 d4, .int .u32 d5, .int .i64 p7, .bool p8]) rfl (Nat.le_of_ble_eq_true rfl) rfl ?_; intro w4 hb4 hg4 hs4))
  have HB4 := bgrown (bgrown (below_drewN HB2.out q2) hg3 (Nat.le_refl _)) hg4 hgl
  exact bodyPost_ret (res_cell1 Try.results91 _ _ rfl hb4 sPart) rfl ⟨rfl, HB4⟩

set_option maxHeartbeats 2000000 in
theorem withNumber_any (p0 p1 p2 p3 p4 p5 : Int) (p6 : Bool) (d0 d1 d2 d3 d4 d5 p7 : Int) (p8 : Bool) (A : Option Addr) (n c : Nat) (zs : List Int) (w : World) (hn : zs.length = n) (h4 : 6 ≤ n) (hl : n ≤ 1000000) (hR : Rd w A zs) :
    Calls Try.prog 93 #[.agg #[.int .i64 p0, .int .u16 p1, .int .u16 p2, .int .i64 p3, .int .i64 p4, .int .i64 p5, .bool p6, .int .i64 d0, .int .i64 d1, .int .i64 d2, .int .i64 d3, .int .u32 d4, .int .u32 d5, .int .i64 p7, .bool p8], .slice A n c] w fun e w' => e = .returned (.agg #[.int .i64 p0, .int .u16 (G16 zs 4), .int .u16 (G16 zs 4), .int .i64 p3, .int .i64 p4, .int .i64 p5, .bool p6, .int .i64 d0, .int .i64 d1, .int .i64 d2, .int .i64 d3, .int .u32 d4, .int .u32 d5, .int .i64 p7, .bool p8]) ∧ Below w.heap.size w w' := by
  have HR := Lib.hid hR
  have Hn := Lib.hid hn
  clear hR hn
  go_enter Try.func93, Try.ntmps93
  go_upto_region 1 with fail
  obtain ⟨w1, hw1⟩ : ∃ w1, w1 = (w.alloc (.cells #[.int .i64 p0, .int .u16 p1, .int .u16 p2, .int .i64 p3, .int .i64 p4, .int .i64 p5, .bool p6, .int .i64 d0, .int .i64 d1, .int .i64 d2, .int .i64 d3, .int .u32 d4, .int .u32 d5, .int .i64 p7, .bool p8] 107)).alloc (.cells #[.int .i64 0, .int .u16 0, .int .u16 0, .int .i64 0, .int .i64 0, .int .i64 0, .bool false, .int .i64 0, .int .i64 0, .int .i64 0, .int .i64 0, .int .u32 0, .int .u32 0, .int .i64 0, .bool false] 107) := ⟨_, rfl⟩
  have H0 := Lib.hid (show Blk w1 w.heap.size 107 #[.int .i64 p0, .int .u16 p1, .int .u16 p2, .int .i64 p3, .int .i64 p4, .int .i64 p5, .bool p6, .int .i64 d0, .int .i64 d1, .int .i64 d2, .int .i64 d3, .int .u32 d4, .int .u32 d5, .int .i64 p7, .bool p8] by rw [hw1]; exact (Blk.new w _ _).alloc _)
  have h1 : Blk w1 (w.heap.size + 1) 107 #[.int .i64 0, .int .u16 0, .int .u16 0, .int .i64 0, .int .i64 0, .int .i64 0, .bool false, .int .i64 0, .int .i64 0, .int .i64 0, .int .i64 0, .int .u32 0, .int .u32 0, .int .i64 0, .bool false] := by rw [hw1]; have := Blk.new (w.alloc (.cells #[.int .i64 p0, .int .u16 p1, .int .u16 p2, .int .i64 p3, .int .i64 p4, .int .i64 p5, .bool p6, .int .i64 d0, .int .i64 d1, .int .i64 d2, .int .i64 d3, .int .u32 d4, .int .u32 d5, .int .i64 p7, .bool p8] 107)) 107 #[.int .i64 0, .int .u16 0, .int .u16 0, .int .i64 0, .int .i64 0, .int .i64 0, .bool false, .int .i64 0, .int .i64 0, .int .i64 0, .int .i64 0, .int .u32 0, .int .u32 0, .int .i64 0, .bool false]; rwa [World.size_alloc] at this
  have HB := Lib.hid (show Below w.heap.size w w1 by rw [hw1]; exact bthen (ball _ _) (ball _ _))
  rw [← hw1]
  clear hw1
  obtain ⟨g1, hg1⟩ : ∃ g1, g1 = w.heap.size + 1 := ⟨_, rfl⟩
  have hgl : w.heap.size ≤ g1 := by omega
  have hgn : g1 ≠ w.heap.size := by omega
  rw [← hg1] at h1
  rw [← hg1]
  have H1 := Lib.hid h1
  clear hg1 h1
  go_wp2_with fail
  refine (get16_any A n c zs 4 4 _ Hn.out rfl (by omega) hl (HR.out.below HB.out)).mono ?_
  rintro e w' ⟨rfl, q, rfl⟩
  have kk := fun (h : Blk w1 w.heap.size 107 #[.int .i64 p0, .int .u16 p1, .int .u16 p2, .int .i64 p3, .int .i64 p4, .int .i64 p5, .bool p6, .int .i64 d0, .int .i64 d1, .int .i64 d2, .int .i64 d3, .int .u32 d4, .int .u32 d5, .int .i64 p7, .bool p8]) => h.cell 1
  go_wp2_with (first | ((with_reducible refine gd_st 65 7 ?_); refine wpList_st rfl 65 (.tmp 7) _ rfl _ _ rfl _ rfl (H0.out.drewN q) sU16 (#[.int .i64 p0, .int .u16 (G16 zs 4), .int .u16 p2, .int .i64 p3, .int .i64 p4, .int .i64 p5, .bool p6, .int .i64 d0, .int .i64 d1, .int .i64 d2, .int .i64 d3, .int .u32 d4, .int .u32 d5, .int .i64 p7, .bool p8]) rfl (Nat.le_of_ble_eq_true rfl) rfl ?_; intro w2 hb2 hg2 hs2); have c1 : w2.cell? ⟨w.heap.size, 1, none⟩ = some (.int .u16 (G16 zs 4)) := hb2.cell 1 | ((with_reducible refine gd_st 65 10 ?_); refine wpList_st rfl 65 (.tmp 10) _ rfl _ _ rfl _ rfl (hb2) sU16 (#[.int .i64 p0, .int .u16 (G16 zs 4), .int .u16 (G16 zs 4), .int .i64 p3, .int .i64 p4, .int .i64 p5, .bool p6, .int .i64 d0, .int .i64 d1, .int .i64 d2, .int .i64 d3, .int .u32 d4, .int .u32 d5, .int .i64 p7, .bool p8]) rfl (Nat.le_of_ble_eq_true rfl) rfl ?_; intro w3 hb3 hg3 hs3) | ((with_reducible refine gd_ld 107 2 ?_); refine wpList_ld rfl 107 (.tmp 2) rfl _ rfl (hb3) sPart ?_) | ((with_reducible refine gd_st 107 4 ?_); refine wpList_st rfl 107 (.tmp 4) _ rfl _ _ rfl _ rfl (((H1.out.drewN q).grown hg2 hgn).grown hg3 hgn) sPart.2 (#[.int .i64 p0, .int .u16 (G16 zs 4), .int .u16 (G16 zs 4), .int .i64 p3, .int .i64 p4, .int .i64 p5, .bool p6, .int .i64 d0, .int .i64 d1, .int .i64 d2, .int .i64 d3, .int .u32 d4, .int .u32 d5, .int .i64 p7, .bool p8]) rfl (Nat.le_of_ble_eq_true rfl) rfl ?_; intro w4 hb4 hg4 hs4))
  have HB4 := bgrown (bgrown (bgrown (below_drewN HB.out q) hg2 (Nat.le_refl _)) hg3 (Nat.le_refl _)) hg4 hgl
  exact bodyPost_ret (res_cell1 Try.results93 _ _ rfl hb4 sPart) rfl ⟨rfl, HB4⟩

/-- the sum of UDP and TCP -/
def Ps (src dst pr : Int) (zs : List Int) : Int := 65535 - F (src / 65536 + src % 65536 + dst / 65536 + dst % 65536 + (pr + (zs.length : Int) % 65536) + tot zs)
theorem Ps_range (src dst pr : Int) (zs : List Int) (h : By zs) (s0 : 0 ≤ src) (d0 : 0 ≤ dst) (p0 : 0 ≤ pr) : 0 ≤ Ps src dst pr zs ∧ Ps src dst pr zs ≤ 65535 := by
  have t := tot_nonneg zs h
  have := F_range (src / 65536 + src % 65536 + dst / 65536 + dst % 65536 + (pr + (zs.length : Int) % 65536) + tot zs) (by omega)
  unfold Ps; omega
theorem and32_ffff (x : Int) (h0 : 0 ≤ x) (h1 : x < 4294967296) : bits .and .u32 x 65535 = x % 65536 := by go_bits2

set_option maxHeartbeats 1000000 in
theorem sumFor_any (src dst pr : Int) (A : Option Addr) (n c : Nat) (zs : List Int) (w : World) (hn : zs.length = n) (hl : n ≤ 1000000) (hR : Rd w A zs) (s0 : 0 ≤ src) (s1 : src ≤ 4294967295) (d0 : 0 ≤ dst) (d1 : dst ≤ 4294967295) (p0 : 0 ≤ pr) (p1 : pr ≤ 255) :
    Calls Try.prog 92 #[.int .u32 src, .int .u32 dst, .int .i64 pr, .slice A n c] w fun e w' => e = .returned (.int .u16 (Ps src dst pr zs)) ∧ ∃ q, w' = w.drewN q := by
  have t := tot_nonneg zs hR.1
  have HR := Lib.hid hR
  have Hn := Lib.hid hn
  have a1 := and32_ffff src s0 (by omega)
  have a2 := and32_ffff dst d0 (by omega)
  obtain ⟨l, wr⟩ : ∃ l, IntKind.u16.wrap (n : Int) = l := ⟨_, rfl⟩
  have hll : l = (n : Int) % 65536 := by rw [← wr]; exact IntKind.wrap_u16 _
  have hlb : 0 ≤ l ∧ l ≤ 65535 := by omega
  have hps := Lib.hid (show Ps src dst pr zs = 65535 - F (F (src / 65536 + src % 65536 + dst / 65536 + dst % 65536 + (pr + l) + tot zs)) by
    unfold Ps; rw [F_idem _ (by omega), hn, hll])
  have fr := F_range (src / 65536 + src % 65536 + dst / 65536 + dst % 65536 + (pr + l) + tot zs) (by omega)
  clear hR hn hll
  go_enter Try.func92, Try.ntmps92
  go_wp2_with fail
  refine (more_n (src / 65536 + src % 65536 + dst / 65536 + dst % 65536 + (pr + l)) A n c zs _ (by omega) (by omega) Hn.out hl HR.out).mono ?_
  rintro e w' ⟨rfl, q, rfl⟩
  go_wp2_with fail
  refine (done_any _ _ fr.1 (by omega)).mono ?_
  rintro e w' ⟨rfl, rfl⟩
  go_wp2
  go_ret
  exact ⟨ret_int hps.out.symm, q, rfl⟩
end Go.Proofs.Ytbnlpidhbilenaa
