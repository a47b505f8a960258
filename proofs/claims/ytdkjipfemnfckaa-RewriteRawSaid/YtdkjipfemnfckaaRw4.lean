/-
  Package rewrite: layError. Conditions stand in each theorem.
-/
import Derived.Test.YtdkjipfemnfckaaRw3
namespace Go.Proofs.Ytdkjipfemnfckaa
open Go.RowKit Plain
set_option linter.unusedVariables false
set_option linter.unusedSimpArgs false
set_option maxRecDepth 100000
/-- what layError makes of a block -/
def erR (L : List Int) (size pat isz ilen : Nat) (ipr : Int) (e : Nat) (A P : Int) : List Int :=
  let L2 := pkR (adL L 0 (ePl e) A) pat (min (pat + ilen) L.length - pat) isz ipr (1 - e) A P
  P16 (P16 L2 (size + 2) 0) (size + 2) (Cs ((P16 L2 (size + 2) 0).drop size))
theorem win_drop (L : List Int) (o n : Nat) (h : L.length = o + n) : win L o n = L.drop o := by
  unfold win; rw [List.take_of_length_le (by rw [List.length_drop]; omega)]
structure S83 (gp gb : Nat) (pb cb : Array Value) (W : World) : Prop where
  p : Blk W gp 71 pb
  b : Blk W gb 79 cb
section
variable {w : World} {base g N C : Nat} {L : List Int}
set_option maxHeartbeats 8000000 in
theorem layError_any (e size pat isz ilen : Nat) (d1 d2 d3 d4 d5 x0 x1 x2 x3 x4 x5 : Int) (x6 : Bool) (it ipr is id : Int) (x14 : Bool) (wa A wp P : Int) (he : e ≤ 1) (hs20 : 20 ≤ size) (hs60 : size ≤ 60) (hpa : pat = size + 8) (hi20 : 20 ≤ isz) (hi60 : isz ≤ 60) (hil : isz + 8 ≤ ilen) (hil2 : ilen ≤ 65535) (hpn : pat + isz + 8 ≤ N) (hnc : N ≤ C) (hN : N ≤ 1000000) (hC : C ≤ 4611686018427387904)
    (a0 : 0 ≤ wa) (a1 : wa ≤ 4294967295) (n0 : 0 ≤ A) (n1 : A ≤ 4294967295) (p0 : 0 ≤ wp) (p1 : wp ≤ 65535) (q0 : 0 ≤ P) (q1 : P ≤ 65535) (hO : Own w base (some ⟨g, 0, none⟩) N C L) :
    Calls Try.prog 56 #[.slice (some ⟨g, 0, none⟩) N C, .agg #[.int .i64 size, .int .i64 d1, .int .i64 d2, .int .i64 d3, .int .u32 d4, .int .u32 d5], .agg #[.int .i64 x0, .int .u16 x1, .int .u16 x2, .int .i64 x3, .int .i64 x4, .int .i64 x5, .bool x6, .int .i64 isz, .int .i64 ilen, .int .i64 it, .int .i64 ipr, .int .u32 is, .int .u32 id, .int .i64 pat, .bool x14], .int .i64 e, .agg #[.int .u32 wa, .int .u32 A, .int .u16 wp, .int .u16 P]] w fun r w' => r = .returned (.tuple #[]) ∧ Lz w w' base g N C (erR L size pat isz ilen ipr e A P) := by
  have hgl := hO.gl.2
  have hlen := hO.len
  have hpa1 : pat ≤ size + 8 := by omega
  have hpa2 : size + 8 ≤ pat := by omega
  clear hpa
  have hgr := G32_range L hO.byt (0 + ePl e)
  obtain ⟨L9, hL9⟩ : ∃ x, erR L size pat isz ilen ipr e A P = x := ⟨_, rfl⟩
  rw [hL9]
  unfold erR at hL9
  rw [hlen] at hL9
  obtain ⟨ov, hov⟩ : ∃ x, min (pat + ilen) N = x := ⟨_, rfl⟩
  rw [hov] at hL9
  have hov1 : pat + isz + 8 ≤ ov := by omega
  have hov2 : ov ≤ N := by omega
  have HOV := Lib.hid hov
  clear hov
  have HLA := Lib.hid (fun (W : World) (hO : Own W base (some ⟨g, 0, none⟩) N C L) => layAddr_any 0 N C e wa A wp P he (by omega) (by omega) hN n0 n1 hO)
  generalize adL L 0 (ePl e) A = L1 at *
  generalize G32 L (0 + ePl e) = v at *
  obtain ⟨L2, hL2⟩ : ∃ x, pkR L1 pat (ov - pat) isz ipr (1 - e) A P = x := ⟨_, rfl⟩
  rw [hL2] at hL9
  have H2 := Lib.hid hL2
  have H9 := Lib.hid hL9
  clear hL9 hL2 hlen
  go_enter Try.func56, Try.ntmps56
  go_upto_region 1 with fail
  obtain ⟨w1, hw1⟩ : ∃ w1, w1 = ((w.alloc (.cells #[.int .i64 size, .int .i64 d1, .int .i64 d2, .int .i64 d3, .int .u32 d4, .int .u32 d5] 67)).alloc (.cells #[.int .i64 x0, .int .u16 x1, .int .u16 x2, .int .i64 x3, .int .i64 x4, .int .i64 x5, .bool x6, .int .i64 isz, .int .i64 ilen, .int .i64 it, .int .i64 ipr, .int .u32 is, .int .u32 id, .int .i64 pat, .bool x14] 71)).alloc (.cells #[.int .u32 wa, .int .u32 A, .int .u16 wp, .int .u16 P] 79) := ⟨_, rfl⟩
  have HH := Lib.hid (show Blk w1 w.heap.size 67 #[.int .i64 size, .int .i64 d1, .int .i64 d2, .int .i64 d3, .int .u32 d4, .int .u32 d5] by rw [hw1]; exact ((Blk.new w _ _).alloc _).alloc _)
  have hp1 : Blk w1 (w.heap.size + 1) 71 #[.int .i64 x0, .int .u16 x1, .int .u16 x2, .int .i64 x3, .int .i64 x4, .int .i64 x5, .bool x6, .int .i64 isz, .int .i64 ilen, .int .i64 it, .int .i64 ipr, .int .u32 is, .int .u32 id, .int .i64 pat, .bool x14] := by rw [hw1]; have := (Blk.new (w.alloc (.cells #[.int .i64 size, .int .i64 d1, .int .i64 d2, .int .i64 d3, .int .u32 d4, .int .u32 d5] 67)) 71 #[.int .i64 x0, .int .u16 x1, .int .u16 x2, .int .i64 x3, .int .i64 x4, .int .i64 x5, .bool x6, .int .i64 isz, .int .i64 ilen, .int .i64 it, .int .i64 ipr, .int .u32 is, .int .u32 id, .int .i64 pat, .bool x14]).alloc (.cells #[.int .u32 wa, .int .u32 A, .int .u16 wp, .int .u16 P] 79); rwa [World.size_alloc] at this
  have h1 : Blk w1 (w.heap.size + 1 + 1) 79 #[.int .u32 wa, .int .u32 A, .int .u16 wp, .int .u16 P] := by rw [hw1]; have := Blk.new ((w.alloc (.cells #[.int .i64 size, .int .i64 d1, .int .i64 d2, .int .i64 d3, .int .u32 d4, .int .u32 d5] 67)).alloc (.cells #[.int .i64 x0, .int .u16 x1, .int .u16 x2, .int .i64 x3, .int .i64 x4, .int .i64 x5, .bool x6, .int .i64 isz, .int .i64 ilen, .int .i64 it, .int .i64 ipr, .int .u32 is, .int .u32 id, .int .i64 pat, .bool x14] 71)) 79 #[.int .u32 wa, .int .u32 A, .int .u16 wp, .int .u16 P]; rwa [World.size_alloc, World.size_alloc] at this
  have HL := Lib.hid (show Lz w w1 base g N C L from (Lz.refl hO).below (by rw [hw1]; exact bthen (bthen (ball _ _) (ball _ _)) (ball _ _)))
  rw [← hw1]
  clear hw1 hO
  obtain ⟨gh, hgh⟩ : ∃ x, x = w.heap.size := ⟨_, rfl⟩
  obtain ⟨gp, hgp⟩ : ∃ x, x = w.heap.size + 1 := ⟨_, rfl⟩
  obtain ⟨gb, hgb⟩ : ∃ x, x = w.heap.size + 1 + 1 := ⟨_, rfl⟩
  have hnb : gb ≠ g := by omega
  have hnp : gp ≠ g := by omega
  have hnh : gh ≠ g := by omega
  first | rw [← hgb] at h1 | skip
  first | rw [← hgb] | (rw [show w.heap.size + 2 = gb by omega])
  rw [← hgp] at hp1
  rw [← hgp]
  rw [← hgh] at HH
  rw [← hgh]
  have H0 := Lib.hid h1
  have HP := Lib.hid hp1
  clear hgb hgh hgp h1 hp1
  have k0 : w1.cell? ⟨gb, 0, none⟩ = some (.int .u32 wa) := H0.out.cell 0
  have k1 : w1.cell? ⟨gb, 1, none⟩ = some (.int .u32 A) := H0.out.cell 1
  have k2 : w1.cell? ⟨gb, 2, none⟩ = some (.int .u16 wp) := H0.out.cell 2
  have k3 : w1.cell? ⟨gb, 3, none⟩ = some (.int .u16 P) := H0.out.cell 3
  go_wp2_with fail
  with_reducible refine (HLA.out _ HL.out.own).mono ?_
  rintro r w2 ⟨rfl, hl⟩
  have HB2 := Lib.hid (hl.kp.blk H0.out (by simpa using hnb))
  have HH2 := Lib.hid (hl.kp.blk HH.out (by simpa using hnh))
  have HP2 := Lib.hid (hl.kp.blk HP.out (by simpa using hnp))
  have HL2 := Lib.hid (HL.out.then hl)
  clear k0 k1 k2 k3 HLA hl H0 HH HP HL
  have y8 : w2.cell? ⟨gp, 8, none⟩ = some (.int .i64 ilen) := HP2.out.cell 8
  have y13 : w2.cell? ⟨gp, 13, none⟩ = some (.int .i64 pat) := HP2.out.cell 13
  go_upto_region 3 with fail
  rw [show (if (N : Int) < (pat : Int) + (ilen : Int) then (N : Int) else (pat : Int) + (ilen : Int)) = (ov : Int) by have := HOV.out; split <;> omega]
  have i1 : (pat : Int) ≤ (ov : Int) := by omega
  have i2 : (ov : Int) ≤ (C : Int) := by omega
  have i3 : C ≠ pat := by omega
  have r8 : ∀ W, S83 gp gb #[.int .i64 x0, .int .u16 x1, .int .u16 x2, .int .i64 x3, .int .i64 x4, .int .i64 x5, .bool x6, .int .i64 isz, .int .i64 ilen, .int .i64 it, .int .i64 ipr, .int .u32 is, .int .u32 id, .int .i64 pat, .bool x14] #[.int .u32 wa, .int .u32 A, .int .u16 wp, .int .u16 P] W → W.cell? ⟨gp, 13, none⟩ = some (.int .i64 pat) := fun W h => h.p.cell 13
  have r0 : ∀ W, S83 gp gb #[.int .i64 x0, .int .u16 x1, .int .u16 x2, .int .i64 x3, .int .i64 x4, .int .i64 x5, .bool x6, .int .i64 isz, .int .i64 ilen, .int .i64 it, .int .i64 ipr, .int .u32 is, .int .u32 id, .int .i64 pat, .bool x14] #[.int .u32 wa, .int .u32 A, .int .u16 wp, .int .u16 P] W → W.cell? ⟨gp, 7, none⟩ = some (.int .i64 isz) := fun W h => h.p.cell 7
  have r1 : ∀ W, S83 gp gb #[.int .i64 x0, .int .u16 x1, .int .u16 x2, .int .i64 x3, .int .i64 x4, .int .i64 x5, .bool x6, .int .i64 isz, .int .i64 ilen, .int .i64 it, .int .i64 ipr, .int .u32 is, .int .u32 id, .int .i64 pat, .bool x14] #[.int .u32 wa, .int .u32 A, .int .u16 wp, .int .u16 P] W → W.cell? ⟨gp, 8, none⟩ = some (.int .i64 ilen) := fun W h => h.p.cell 8
  have r2 : ∀ W, S83 gp gb #[.int .i64 x0, .int .u16 x1, .int .u16 x2, .int .i64 x3, .int .i64 x4, .int .i64 x5, .bool x6, .int .i64 isz, .int .i64 ilen, .int .i64 it, .int .i64 ipr, .int .u32 is, .int .u32 id, .int .i64 pat, .bool x14] #[.int .u32 wa, .int .u32 A, .int .u16 wp, .int .u16 P] W → W.cell? ⟨gp, 9, none⟩ = some (.int .i64 it) := fun W h => h.p.cell 9
  have r3 : ∀ W, S83 gp gb #[.int .i64 x0, .int .u16 x1, .int .u16 x2, .int .i64 x3, .int .i64 x4, .int .i64 x5, .bool x6, .int .i64 isz, .int .i64 ilen, .int .i64 it, .int .i64 ipr, .int .u32 is, .int .u32 id, .int .i64 pat, .bool x14] #[.int .u32 wa, .int .u32 A, .int .u16 wp, .int .u16 P] W → W.cell? ⟨gp, 10, none⟩ = some (.int .i64 ipr) := fun W h => h.p.cell 10
  have r4 : ∀ W, S83 gp gb #[.int .i64 x0, .int .u16 x1, .int .u16 x2, .int .i64 x3, .int .i64 x4, .int .i64 x5, .bool x6, .int .i64 isz, .int .i64 ilen, .int .i64 it, .int .i64 ipr, .int .u32 is, .int .u32 id, .int .i64 pat, .bool x14] #[.int .u32 wa, .int .u32 A, .int .u16 wp, .int .u16 P] W → W.cell? ⟨gp, 11, none⟩ = some (.int .u32 is) := fun W h => h.p.cell 11
  have r5 : ∀ W, S83 gp gb #[.int .i64 x0, .int .u16 x1, .int .u16 x2, .int .i64 x3, .int .i64 x4, .int .i64 x5, .bool x6, .int .i64 isz, .int .i64 ilen, .int .i64 it, .int .i64 ipr, .int .u32 is, .int .u32 id, .int .i64 pat, .bool x14] #[.int .u32 wa, .int .u32 A, .int .u16 wp, .int .u16 P] W → W.cell? ⟨gp, 12, none⟩ = some (.int .u32 id) := fun W h => h.p.cell 12
  have s0 : ∀ W, S83 gp gb #[.int .i64 x0, .int .u16 x1, .int .u16 x2, .int .i64 x3, .int .i64 x4, .int .i64 x5, .bool x6, .int .i64 isz, .int .i64 ilen, .int .i64 it, .int .i64 ipr, .int .u32 is, .int .u32 id, .int .i64 pat, .bool x14] #[.int .u32 wa, .int .u32 A, .int .u16 wp, .int .u16 P] W → W.cell? ⟨gb, 0, none⟩ = some (.int .u32 wa) := fun W h => h.b.cell 0
  have s1 : ∀ W, S83 gp gb #[.int .i64 x0, .int .u16 x1, .int .u16 x2, .int .i64 x3, .int .i64 x4, .int .i64 x5, .bool x6, .int .i64 isz, .int .i64 ilen, .int .i64 it, .int .i64 ipr, .int .u32 is, .int .u32 id, .int .i64 pat, .bool x14] #[.int .u32 wa, .int .u32 A, .int .u16 wp, .int .u16 P] W → W.cell? ⟨gb, 1, none⟩ = some (.int .u32 A) := fun W h => h.b.cell 1
  have s2 : ∀ W, S83 gp gb #[.int .i64 x0, .int .u16 x1, .int .u16 x2, .int .i64 x3, .int .i64 x4, .int .i64 x5, .bool x6, .int .i64 isz, .int .i64 ilen, .int .i64 it, .int .i64 ipr, .int .u32 is, .int .u32 id, .int .i64 pat, .bool x14] #[.int .u32 wa, .int .u32 A, .int .u16 wp, .int .u16 P] W → W.cell? ⟨gb, 2, none⟩ = some (.int .u16 wp) := fun W h => h.b.cell 2
  have s3 : ∀ W, S83 gp gb #[.int .i64 x0, .int .u16 x1, .int .u16 x2, .int .i64 x3, .int .i64 x4, .int .i64 x5, .bool x6, .int .i64 isz, .int .i64 ilen, .int .i64 it, .int .i64 ipr, .int .u32 is, .int .u32 id, .int .i64 pat, .bool x14] #[.int .u32 wa, .int .u32 A, .int .u16 wp, .int .u16 P] W → W.cell? ⟨gb, 3, none⟩ = some (.int .u16 P) := fun W h => h.b.cell 3
  have HPK := Lib.hid (show ∀ (W : World), Own W base (some ⟨g, 0, none⟩) N C L1 → Calls Try.prog 57 #[.slice (some ⟨g, pat, none⟩) (ov - pat) (C - pat), .agg #[.int .i64 isz, .int .i64 ilen, .int .i64 it, .int .i64 ipr, .int .u32 is, .int .u32 id], .int .i64 ((1 - e : Nat) : Int), .agg #[.int .u32 wa, .int .u32 A, .int .u16 wp, .int .u16 P]] W fun r w' => r = .returned (.tuple #[]) ∧ Lz W w' base g N C L2 from
    fun W hO => H2.out ▸ layPacket_any pat (ov - pat) (C - pat) (1 - e) isz ilen it ipr is id wa A wp P (by omega) hi20 hi60 (by omega) (by omega) (by omega) hN a0 a1 n0 n1 p0 p1 q0 q1 hO)
  refine wp_region_held_drew (S := (fun W => S83 gp gb #[.int .i64 x0, .int .u16 x1, .int .u16 x2, .int .i64 x3, .int .i64 x4, .int .i64 x5, .bool x6, .int .i64 isz, .int .i64 ilen, .int .i64 it, .int .i64 ipr, .int .u32 is, .int .u32 id, .int .i64 pat, .bool x14] #[.int .u32 wa, .int .u32 A, .int .u16 wp, .int .u16 P] W)) (by kernel_rfl) (⟨HP2.out.drewN 1, HB2.out.drewN 1⟩) (fun hHeld => ?_)
  refine wpAnyH_take (i := 0) (oi := ⟨some 25, _, _, _, _, _⟩) (v := ?tva0) rfl (by kernel_rfl) (by kernel_rfl) (by kernel_rfl) (fun _ _ _ h => h) (Or.inl ⟨by kernel_rfl, ?tya0⟩) (by assumption) ?tra0
  case tya0 => (intro w hSw; first | (go_simp; done) | (go_simp; with_reducible rfl))
  case' tra0 => try simp only [Act.put, List.setIfInBounds_toArray, List.set_cons_zero, List.set_cons_succ]
  refine wpAnyH_take (i := 1) (oi := ⟨some 26, _, _, _, _, _⟩) (v := ?tva1) rfl (by kernel_rfl) (by kernel_rfl) (by kernel_rfl) (fun _ _ _ h => h) (Or.inl ⟨by kernel_rfl, ?tya1⟩) (by assumption) ?tra1
  case tya1 => (intro w hSw; first | (go_simp; done) | (go_simp; with_reducible rfl))
  case' tra1 => try simp only [Act.put, List.setIfInBounds_toArray, List.set_cons_zero, List.set_cons_succ]
  refine wpAnyH_take (i := 2) (oi := ⟨some 27, _, _, _, _, _⟩) (v := ?tva2) rfl (by kernel_rfl) (by kernel_rfl) (by kernel_rfl) (fun _ _ _ h => h) (Or.inl ⟨by kernel_rfl, ?tya2⟩) (by assumption) ?tra2
  case tya2 => (intro w hSw; first | (go_simp; done) | (go_simp; with_reducible rfl))
  case' tra2 => try simp only [Act.put, List.setIfInBounds_toArray, List.set_cons_zero, List.set_cons_succ]
  refine wpAnyH_take (i := 3) (oi := ⟨some 28, _, _, _, _, _⟩) (v := ?tva3) rfl (by kernel_rfl) (by kernel_rfl) (by kernel_rfl) (fun _ _ _ h => h) (Or.inl ⟨by kernel_rfl, ?tya3⟩) (by assumption) ?tra3
  case tya3 => (intro w hSw; first | (go_simp; done) | (go_simp; with_reducible rfl))
  case' tra3 => try simp only [Act.put, List.setIfInBounds_toArray, List.set_cons_zero, List.set_cons_succ]
  refine wpAnyH_take (i := 4) (oi := ⟨some 29, _, _, _, _, _⟩) (v := ?tva4) rfl (by kernel_rfl) (by kernel_rfl) (by kernel_rfl) (fun _ _ _ h => h) (Or.inl ⟨by kernel_rfl, ?tya4⟩) (by assumption) ?tra4
  case tya4 => (intro w hSw; first | (go_simp; done) | (go_simp; with_reducible rfl))
  case' tra4 => try simp only [Act.put, List.setIfInBounds_toArray, List.set_cons_zero, List.set_cons_succ]
  refine wpAnyH_take (i := 5) (oi := ⟨some 30, _, _, _, _, _⟩) (v := ?tva5) rfl (by kernel_rfl) (by kernel_rfl) (by kernel_rfl) (fun _ _ _ h => h) (Or.inl ⟨by kernel_rfl, ?tya5⟩) (by assumption) ?tra5
  case tya5 => (intro w hSw; first | (go_simp; done) | (go_simp; with_reducible rfl))
  case' tra5 => try simp only [Act.put, List.setIfInBounds_toArray, List.set_cons_zero, List.set_cons_succ]
  refine wpAnyH_take (i := 6) (oi := ⟨some 31, _, _, _, _, _⟩) (v := ?tva6) rfl (by kernel_rfl) (by kernel_rfl) (by kernel_rfl) (fun _ _ _ h => h) (Or.inl ⟨by kernel_rfl, ?tya6⟩) (by assumption) ?tra6
  case tya6 => (intro w hSw; first | (go_simp; done) | (go_simp; with_reducible rfl))
  case' tra6 => try simp only [Act.put, List.setIfInBounds_toArray, List.set_cons_zero, List.set_cons_succ]
  refine wpAnyH_take (i := 7) (oi := ⟨some 32, _, _, _, _, _⟩) (v := ?tva7) rfl (by kernel_rfl) (by kernel_rfl) (by kernel_rfl) (fun _ _ _ h => h) (Or.inl ⟨by kernel_rfl, ?tya7⟩) (by assumption) ?tra7
  case tya7 => (intro w hSw; first | (go_simp; done) | (go_simp; with_reducible rfl))
  case' tra7 => try simp only [Act.put, List.setIfInBounds_toArray, List.set_cons_zero, List.set_cons_succ]
  refine wpAnyH_take (i := 9) (oi := ⟨some 34, _, _, _, _, _⟩) (v := ?tva9) rfl (by kernel_rfl) (by kernel_rfl) (by kernel_rfl) (fun _ _ _ h => h) (Or.inl ⟨by kernel_rfl, ?tya9⟩) (by assumption) ?tra9
  case tya9 => (intro w hSw; first | (go_simp; done) | (go_simp; with_reducible rfl))
  case' tra9 => try simp only [Act.put, List.setIfInBounds_toArray, List.set_cons_zero, List.set_cons_succ]
  refine wpAnyH_ready (rs := [8]) (by kernel_rfl) (by simp) ?_
  refine AllReadyH.cons (o := ⟨some 33, _, _, _, _, _⟩) rfl (fun K hK => ?_) AllReadyH.nil
  go_simp
  go_at_call 76
  refine (other_any e he _).mono ?_
  rintro e w3 ⟨rfl, rfl⟩
  refine hK.out _ _ hHeld (fun hHeld0 => ?_)
  clear hK K hHeld0
  try simp only [Act.put, List.setIfInBounds_toArray, List.set_cons_zero, List.set_cons_succ]
  refine wpAnyH_ready (rs := [10]) (by kernel_rfl) (by simp) ?_
  refine AllReadyH.cons (o := ⟨some 35, _, _, _, _, _⟩) rfl (fun K hK => ?_) AllReadyH.nil
  go_simp
  go_at_call 57
  refine (HPK.out _ (HL2.out.own.drewN 1)).mono ?_
  rintro e w3 ⟨rfl, hl3⟩
  have hSa10 : ((fun W => S83 gp gb #[.int .i64 x0, .int .u16 x1, .int .u16 x2, .int .i64 x3, .int .i64 x4, .int .i64 x5, .bool x6, .int .i64 isz, .int .i64 ilen, .int .i64 it, .int .i64 ipr, .int .u32 is, .int .u32 id, .int .i64 pat, .bool x14] #[.int .u32 wa, .int .u32 A, .int .u16 wp, .int .u16 P] W)) w3 := ⟨hl3.kp.blk hHeld.p (by simpa using hnp), hl3.kp.blk hHeld.b (by simpa using hnb)⟩
  refine hK.out _ _ hSa10 (fun hHeld0 => ?_)
  clear hK K hHeld0 hHeld
  try simp only [Act.put, List.setIfInBounds_toArray, List.set_cons_zero, List.set_cons_succ]
  have hHeld : ((fun W => S83 gp gb #[.int .i64 x0, .int .u16 x1, .int .u16 x2, .int .i64 x3, .int .i64 x4, .int .i64 x5, .bool x6, .int .i64 isz, .int .i64 ilen, .int .i64 it, .int .i64 ipr, .int .u32 is, .int .u32 id, .int .i64 pat, .bool x14] #[.int .u32 wa, .int .u32 A, .int .u16 wp, .int .u16 P] W)) w3 := hSa10
  clear hSa10
  refine wpAnyH_done (by kernel_rfl) ?_ _
  have HL3 := Lib.hid ((HL2.out.drewN 1).then hl3)
  have HH3 := Lib.hid (hl3.kp.blk (HH2.out.drewN 1) (by simpa using hnh))
  clear hl3 HL2 HH2 HB2 HP2 hHeld r8 r0 r1 r2 r3 r4 r5 s0 s1 s2 s3 HPK i1 i2 i3
  have y0 : w3.cell? ⟨gh, 0, none⟩ = some (.int .i64 size) := HH3.out.cell 0
  have i1 : (size : Int) ≤ (N : Int) := by omega
  have i2 : (size : Int) ≤ (C : Int) := by omega
  have i3 : C ≠ size := by omega
  go_upto_region 5 with fail
  go_wp2_with fail
  refine (put16_at size (N - size) (C - size) 2 0 2 rfl (by omega) (by omega) hN (by omega) (by omega) HL3.out.own).mono ?_
  rintro r w4 ⟨rfl, hl4⟩
  have HL4 := Lib.hid (HL3.out.laid hl4)
  clear hl4 HL3 y0 y8 y13
  generalize P16 L2 (size + 2) 0 = L3 at *
  have hl3 := HL4.out.own.len
  have hcs := Cs_range _ (HL4.out.own.byt.drop size)
  go_wp2_with fail
  refine (of_n (some ⟨g, size, none⟩) (N - size) (C - size) (win L3 size (N - size)) _ (win_len _ _ _ (by omega)) (by omega) (HL4.out.own.win size (N - size) (by omega))).mono ?_
  rintro r w' ⟨rfl, q, rfl⟩
  rw [win_drop _ _ _ (by omega)]
  go_wp2_with fail
  refine (put16_at size (N - size) (C - size) 2 _ 2 rfl (by omega) (by omega) hN hcs.1 hcs.2 (HL4.out.own.drewN q)).mono ?_
  rintro r w5 ⟨rfl, hl5⟩
  rw [H9.out] at hl5
  have HF := Lib.hid ((HL4.out.drewN q).laid hl5)
  clear hl5
  go_wp2
  go_end0
  exact ⟨rfl, HF.out⟩
end
end Go.Proofs.Ytdkjipfemnfckaa
