/-
  Contracts of package head: what a head's bytes tell. Conditions stand in each theorem.
-/
import Derived.Test.YtbnlpidhbilenaaWire
import Derived.Test.YtbnlpidhbilenaaSumN
import Derived.Deep.RegionHeld3
import Derived.Deep.DeepCutAuto
namespace Go.Proofs.Ytbnlpidhbilenaa
open Go.RowKit Plain
set_option linter.unusedVariables false
set_option maxRecDepth 100000

/-- a head as a value -/
structure Hd where
  size : Int
  len : Int
  ttl : Int
  proto : Int
  src : Int
  dst : Int
def Hd.val (h : Hd) : Value := .agg #[.int .i64 h.size, .int .i64 h.len, .int .i64 h.ttl, .int .i64 h.proto, .int .u32 h.src, .int .u32 h.dst]
def hd0 : Hd := ⟨0, 0, 0, 0, 0, 0⟩
/-- the head that bytes tell -/
def fld (zs : List Int) : Hd := ⟨zs.getD 0 0 % 16 * 4, G16 zs 2, zs.getD 8 0, zs.getD 9 0, G32 zs 12, G32 zs 16⟩

theorem and15 (x : Int) (h0 : 0 ≤ x) (h1 : x ≤ 255) : bits .and .u8 x 15 = x % 16 := by go_bits2

theorem Rd.ne {w : World} {b off : Nat} {zs : List Int} (h : Rd w (some ⟨b, off, none⟩) zs) {p : Addr} (hp : p.block ≠ b) (v : Value) : Rd (w.setCell p v) (some ⟨b, off, none⟩) zs :=
  ⟨h.1, fun hl => by
    obtain ⟨b', off', e, hc⟩ := h.2 hl
    injection e with e; injection e with e1 e2; subst e1 e2
    exact ⟨b, off, rfl, fun k hk => (World.cell?_setCell_other w p ⟨b, off + k, none⟩ v (fun e => hp (by rw [e]))).trans (hc k hk)⟩⟩
theorem Rd.set6 {w : World} {b off m : Nat} {zs : List Int} (h : Rd w (some ⟨b, off, none⟩) zs) (hp : m ≠ b) (v0 v1 v2 v3 v4 v5 : Value) :
    Rd ((((((w.setCell ⟨m, 0, none⟩ v0).setCell ⟨m, 1, none⟩ v1).setCell ⟨m, 2, none⟩ v2).setCell ⟨m, 3, none⟩ v3).setCell ⟨m, 4, none⟩ v4).setCell ⟨m, 5, none⟩ v5) (some ⟨b, off, none⟩) zs :=
  (((((h.ne hp v0).ne hp v1).ne hp v2).ne hp v3).ne hp v4).ne hp v5

theorem below_set6 {B : Nat} {w0 w : World} {m : Nat} (h : Below B w0 w) (hp : B ≤ m) (v0 v1 v2 v3 v4 v5 : Value) :
    Below B w0 ((((((w.setCell ⟨m, 0, none⟩ v0).setCell ⟨m, 1, none⟩ v1).setCell ⟨m, 2, none⟩ v2).setCell ⟨m, 3, none⟩ v3).setCell ⟨m, 4, none⟩ v4).setCell ⟨m, 5, none⟩ v5) :=
  (((((h.setCell (p := ⟨m, 0, none⟩) hp v0).setCell (p := ⟨m, 1, none⟩) hp v1).setCell (p := ⟨m, 2, none⟩) hp v2).setCell (p := ⟨m, 3, none⟩) hp v3).setCell (p := ⟨m, 4, none⟩) hp v4).setCell (p := ⟨m, 5, none⟩) hp v5

set_option maxHeartbeats 2000000 in
theorem fields_any (A : Option Addr) (n c : Nat) (zs : List Int) (w : World) (hn : zs.length = n) (h20 : 20 ≤ n) (hl : n ≤ 1000000) (hR : Rd w A zs) :
    Calls Try.prog 87 #[.slice A n c] w fun e w' => e = .returned (fld zs).val ∧ Below w.heap.size w w' := by
  obtain ⟨b, off, rfl, hc⟩ := hR.2 (by omega)
  have c0 : w.cell? ⟨b, off, none⟩ = some (.int .u8 (zs.getD 0 0)) := hc 0 (by omega)
  have c8 := hc 8 (by omega)
  have c9 := hc 9 (by omega)
  have b0 := hR.1.getD 0
  have b8 := hR.1.getD 8
  have b9 := hR.1.getD 9
  have r2 := G16_range zs hR.1 2
  have r12 := G32_range zs hR.1 12
  have r16 := G32_range zs hR.1 16
  have hlt := block_lt_of_cell c0
  have HR := Lib.hid hR
  have Hn := Lib.hid hn
  have Hf := Lib.hid (show (fld zs).val = .agg #[.int .i64 (zs.getD 0 0 % 16 * 4), .int .i64 (G16 zs 2), .int .i64 (zs.getD 8 0), .int .i64 (zs.getD 9 0), .int .u32 (G32 zs 12), .int .u32 (G32 zs 16)] from rfl)
  obtain ⟨z0, e0⟩ : ∃ z, z = zs.getD 0 0 := ⟨_, rfl⟩
  obtain ⟨z8, e8⟩ : ∃ z, z = zs.getD 8 0 := ⟨_, rfl⟩
  obtain ⟨z9, e9⟩ : ∃ z, z = zs.getD 9 0 := ⟨_, rfl⟩
  rw [← e0] at Hf b0
  rw [← e8] at Hf b8
  rw [← e9] at Hf b9
  have Hz := Lib.hid (And.intro e0 (And.intro e8 e9))
  clear e0 e8 e9
  have an := and15 z0 b0.1 b0.2
  have m4 : IntKind.i64.wrap (z0 % 16 * 4) = z0 % 16 * 4 := by rw [IntKind.wrap_i64]; omega
  have v0 : IntKind.i64.wrap (z0 % 16) = z0 % 16 := by rw [IntKind.wrap_i64]; omega
  have v8 : IntKind.i64.wrap z8 = z8 := by rw [IntKind.wrap_i64]; omega
  have v9 : IntKind.i64.wrap z9 = z9 := by rw [IntKind.wrap_i64]; omega
  have v2 : IntKind.i64.wrap (G16 zs 2) = G16 zs 2 := by rw [IntKind.wrap_i64]; omega
  have i0 : 0 < n := by omega
  have hne : w.heap.size ≠ b := by have : b < w.heap.size := hlt; omega
  have i8 : (8 : Int) < (n : Int) := by omega
  have i9 : (9 : Int) < (n : Int) := by omega
  have k0 : ∀ W, Rd W (some ⟨b, off, none⟩) zs → W.cell? ⟨b, off, none⟩ = some (.int .u8 z0) := fun W h => by
    obtain ⟨b', off', e, hc'⟩ := h.2 (by omega)
    injection e with e; injection e with e1 e2; subst e1 e2
    rw [Hz.out.1]; exact hc' 0 (by omega)
  have k8 : ∀ W, Rd W (some ⟨b, off, none⟩) zs → W.cell? ⟨b, off + 8, none⟩ = some (.int .u8 z8) := fun W h => by
    obtain ⟨b', off', e, hc'⟩ := h.2 (by omega)
    injection e with e; injection e with e1 e2; subst e1 e2
    rw [Hz.out.2.1]; exact hc' 8 (by omega)
  have k9 : ∀ W, Rd W (some ⟨b, off, none⟩) zs → W.cell? ⟨b, off + 9, none⟩ = some (.int .u8 z9) := fun W h => by
    obtain ⟨b', off', e, hc'⟩ := h.2 (by omega)
    injection e with e; injection e with e1 e2; subst e1 e2
    rw [Hz.out.2.2]; exact hc' 9 (by omega)
  clear hc hR hn c0 c8 c9
  go_enter Try.func87, Try.ntmps87
  go_wp2
  go_region_held3 (fun w' => Rd w' (some ⟨b, off, none⟩) zs)
    (first | (with_reducible exact (HR.out.alloc _).drew) | (with_reducible exact (HR.out.alloc _).drewN _) | (with_reducible exact Rd.set6 (by assumption) hne _ _ _ _ _ _))
    (first
      | (go_at_call 90; refine (get16_any _ n c zs 2 2 _ Hn.out rfl (by omega) hl ?_).mono ?_; assumption; rintro e w' ⟨rfl, q, rfl⟩)
      | (go_at_call_of 102 (Value.int .i64 12); refine (get32_any _ n c zs 12 12 _ Hn.out rfl (by omega) hl ?_).mono ?_; assumption; rintro e w' ⟨rfl, q, rfl⟩)
      | (go_at_call_of 102 (Value.int .i64 16); refine (get32_any _ n c zs 16 16 _ Hn.out rfl (by omega) hl ?_).mono ?_; assumption; rintro e w' ⟨rfl, q, rfl⟩))
  go_wp2
  rw [Hf.out]
  exact bodyPost_ret (v := .agg #[.int .i64 (z0 % 16 * 4), .int .i64 (G16 zs 2), .int .i64 z8, .int .i64 z9, .int .u32 (G32 zs 12), .int .u32 (G32 zs 16)]) (by simp [results, Try.results87, go_sem]) rfl
    ⟨rfl, below_set6 (below_drewN ((Below.refl _ _).alloc (Nat.le_refl _) _) _) (Nat.le_refl _) _ _ _ _ _ _⟩

theorem and3fff (x : Int) (h0 : 0 ≤ x) (h1 : x ≤ 65535) : bits .and .u16 x 16383 = x % 16384 := by go_bits2

theorem isPiece_any (A : Option Addr) (n c : Nat) (zs : List Int) (w : World) (hn : zs.length = n) (h20 : 20 ≤ n) (hl : n ≤ 1000000) (hR : Rd w A zs) :
    Calls Try.prog 65 #[.slice A n c] w fun e w' => e = .returned (.bool (G16 zs 6 % 16384 != 0)) ∧ ∃ q, w' = w.drewN q := by
  have r6 := G16_range zs hR.1 6
  have an := and3fff _ r6.1 r6.2
  have HR := Lib.hid hR
  have Hn := Lib.hid hn
  clear hR hn
  go_enter Try.func65, Try.ntmps65
  go_wp2_with fail
  refine (get16_any A n c zs 6 6 _ Hn.out rfl (by omega) hl HR.out).mono ?_
  rintro e w' ⟨rfl, q, rfl⟩
  go_wp2
  go_ret
  exact ⟨rfl, q, rfl⟩

end Go.Proofs.Ytbnlpidhbilenaa
