/-
  Package rewrite: layPacket, layError. Conditions stand in each theorem.
-/
import Derived.Test.YtdkjipfemnfckaaRw2
namespace Go.Proofs.Ytdkjipfemnfckaa
open Go.RowKit Plain
set_option linter.unusedVariables false
set_option linter.unusedSimpArgs false
set_option maxRecDepth 100000
/-- what layPacket makes of a block: the packet begins at o, and has n bytes -/
def pkR (L : List Int) (o n size : Nat) (pr : Int) (e : Nat) (A P : Int) : List Int :=
  if pr = 17 then udR (adL L o (ePl e) A) (o + size) (ePt e) (G32 L (o + ePl e)) A P
  else if pr = 6 then tcR (adL L o (ePl e) A) (o + size) (n - size) (ePt e) (G32 L (o + ePl e)) A P
  else if pr = 1 then ecR (adL L o (ePl e) A) (o + size) P else adL L o (ePl e) A
section
variable {w : World} {base g N C : Nat} {L : List Int}
set_option maxHeartbeats 8000000 in
theorem layPacket_any (off n c e size : Nat) (d1 d2 pr d4 d5 wa A wp P : Int) (he : e ≤ 1) (hs20 : 20 ≤ size) (hs60 : size ≤ 60) (hi : size + 8 ≤ n) (hnc : n ≤ c) (h : off + n ≤ N) (hN : N ≤ 1000000) (a0 : 0 ≤ wa) (a1 : wa ≤ 4294967295) (n0 : 0 ≤ A) (n1 : A ≤ 4294967295) (p0 : 0 ≤ wp) (p1 : wp ≤ 65535) (q0 : 0 ≤ P) (q1 : P ≤ 65535) (hO : Own w base (some ⟨g, 0, none⟩) N C L) :
    Calls Try.prog 57 #[.slice (some ⟨g, off, none⟩) n c, .agg #[.int .i64 size, .int .i64 d1, .int .i64 d2, .int .i64 pr, .int .u32 d4, .int .u32 d5], .int .i64 e, .agg #[.int .u32 wa, .int .u32 A, .int .u16 wp, .int .u16 P]] w fun r w' => r = .returned (.tuple #[]) ∧ Lz w w' base g N C (pkR L off n size pr e A P) := by
  have hgl := hO.gl.2
  have hgr := G32_range L hO.byt (off + ePl e)
  obtain ⟨L9, hL9⟩ : ∃ x, pkR L off n size pr e A P = x := ⟨_, rfl⟩
  rw [hL9]
  unfold pkR at hL9
  have HLA := Lib.hid (fun (W : World) (hO : Own W base (some ⟨g, 0, none⟩) N C L) => layAddr_any off n c e wa A wp P he (by omega) h hN n0 n1 hO)
  generalize adL L off (ePl e) A = L2 at *
  generalize G32 L (off + ePl e) = v at *
  have H9 := Lib.hid hL9
  clear hL9
  go_enter Try.func57, Try.ntmps57
  go_upto_region 1 with fail
  obtain ⟨w1, hw1⟩ : ∃ w1, w1 = (w.alloc (.cells #[.int .i64 size, .int .i64 d1, .int .i64 d2, .int .i64 pr, .int .u32 d4, .int .u32 d5] 67)).alloc (.cells #[.int .u32 wa, .int .u32 A, .int .u16 wp, .int .u16 P] 79) := ⟨_, rfl⟩
  have HH := Lib.hid (show Blk w1 w.heap.size 67 #[.int .i64 size, .int .i64 d1, .int .i64 d2, .int .i64 pr, .int .u32 d4, .int .u32 d5] by rw [hw1]; exact (Blk.new w _ _).alloc _)
  have h1 : Blk w1 (w.heap.size + 1) 79 #[.int .u32 wa, .int .u32 A, .int .u16 wp, .int .u16 P] := by rw [hw1]; have := Blk.new (w.alloc (.cells #[.int .i64 size, .int .i64 d1, .int .i64 d2, .int .i64 pr, .int .u32 d4, .int .u32 d5] 67)) 79 #[.int .u32 wa, .int .u32 A, .int .u16 wp, .int .u16 P]; rwa [World.size_alloc] at this
  have HL := Lib.hid (show Lz w w1 base g N C L from (Lz.refl hO).below (by rw [hw1]; exact bthen (ball _ _) (ball _ _)))
  rw [← hw1]
  clear hw1 hO
  obtain ⟨gh, hgh⟩ : ∃ x, x = w.heap.size := ⟨_, rfl⟩
  obtain ⟨gb, hgb⟩ : ∃ x, x = w.heap.size + 1 := ⟨_, rfl⟩
  have hge : w.heap.size ≤ gb := by omega
  have hgf : w.heap.size ≤ gh := by omega
  have hbr : gb ≠ gh := by omega
  have hne : gb ≠ g := by omega
  have hnh : gh ≠ g := by omega
  rw [← hgb] at h1
  rw [← hgb]
  rw [← hgh] at HH
  rw [← hgh]
  have H0 := Lib.hid h1
  clear hgb hgh h1
  have k0 : w1.cell? ⟨gb, 0, none⟩ = some (.int .u32 wa) := H0.out.cell 0
  have k1 : w1.cell? ⟨gb, 1, none⟩ = some (.int .u32 A) := H0.out.cell 1
  have k2 : w1.cell? ⟨gb, 2, none⟩ = some (.int .u16 wp) := H0.out.cell 2
  have k3 : w1.cell? ⟨gb, 3, none⟩ = some (.int .u16 P) := H0.out.cell 3
  go_wp2_with fail
  refine (HLA.out _ HL.out.own).mono ?_
  rintro r w2 ⟨rfl, hl⟩
  have hk2 := hl.kp.blk H0.out (by simpa using hne)
  have hh2 := hl.kp.blk HH.out (by simpa using hnh)
  clear k0 k1 k2 k3 HLA
  have k0 : w2.cell? ⟨gb, 0, none⟩ = some (.int .u32 wa) := hk2.cell 0
  have k1 : w2.cell? ⟨gb, 1, none⟩ = some (.int .u32 A) := hk2.cell 1
  have k2 : w2.cell? ⟨gb, 2, none⟩ = some (.int .u16 wp) := hk2.cell 2
  have k3 : w2.cell? ⟨gb, 3, none⟩ = some (.int .u16 P) := hk2.cell 3
  have z0 : w2.frozen? ⟨gb, 0, none⟩ = false := hk2.frozen 0
  have z1 : w2.frozen? ⟨gb, 1, none⟩ = false := hk2.frozen 1
  have z2 : w2.frozen? ⟨gb, 2, none⟩ = false := hk2.frozen 2
  have z3 : w2.frozen? ⟨gb, 3, none⟩ = false := hk2.frozen 3
  go_upto_region 2 with fail
  have HL3 := Lib.hid (((((HL.out.then hl).setN hge hne 0 (.int .u32 v)).setN hge hne 1 (.int .u32 A)).setN hge hne 2 (.int .u16 wp)).setN hge hne 3 (.int .u16 P))
  have H03 := Lib.hid (show Blk _ gb 79 #[.int .u32 v, .int .u32 A, .int .u16 wp, .int .u16 P] from (((hk2.set 0 (.int .u32 v)).set 1 (.int .u32 A)).set 2 (.int .u16 wp)).set 3 (.int .u16 P))
  have HH3 := Lib.hid ((((hh2.ne (p := ⟨gb, 0, none⟩) hbr (.int .u32 v)).ne (p := ⟨gb, 1, none⟩) hbr (.int .u32 A)).ne (p := ⟨gb, 2, none⟩) hbr (.int .u16 wp)).ne (p := ⟨gb, 3, none⟩) hbr (.int .u16 P))
  clear hl hk2 hh2 HL H0 HH k0 k1 k2 k3 z0 z1 z2 z3
  generalize (((w2.setCell ⟨gb, 0, none⟩ (.int .u32 v)).setCell ⟨gb, 1, none⟩ (.int .u32 A)).setCell ⟨gb, 2, none⟩ (.int .u16 wp)).setCell ⟨gb, 3, none⟩ (.int .u16 P) = w3 at *
  have y0 : w3.cell? ⟨gh, 0, none⟩ = some (.int .i64 size) := HH3.out.cell 0
  have y3 : w3.cell? ⟨gh, 3, none⟩ = some (.int .i64 pr) := HH3.out.cell 3
  have k0 : w3.cell? ⟨gb, 0, none⟩ = some (.int .u32 v) := H03.out.cell 0
  have k1 : w3.cell? ⟨gb, 1, none⟩ = some (.int .u32 A) := H03.out.cell 1
  have k2 : w3.cell? ⟨gb, 2, none⟩ = some (.int .u16 wp) := H03.out.cell 2
  have k3 : w3.cell? ⟨gb, 3, none⟩ = some (.int .u16 P) := H03.out.cell 3
  have i1 : (size : Int) ≤ (n : Int) := by omega
  have i2 : (size : Int) ≤ (c : Int) := by omega
  have i3 : c ≠ size := by omega
  have h2 : off + size + (n - size) ≤ N := by omega
  have i4 : 8 ≤ n - size := by omega
  by_cases e17 : pr = 17
  · have t1 : (pr == 17) = true := by simpa using e17
    have HF := Lib.hid (fun hO => layUdp_any (w := w3) (base := base) (g := g) (N := N) (C := C) (L := L2) (off + size) (n - size) (c - size) e v A wp P he i4 h2 hN hgr.1 hgr.2 n0 n1 p0 p1 q0 q1 hO)
    have h9 := H9.out
    rw [if_pos e17] at h9
    rw [h9] at HF
    clear e17 h9
    go_wp2_with fail
    with_reducible refine (HF.out HL3.out.own).mono ?_
    rintro r w4 ⟨rfl, hl4⟩
    have HX := Lib.hid (HL3.out.then hl4)
    clear hl4
    go_wp2
    go_end0
    exact ⟨rfl, HX.out⟩
  by_cases e6 : pr = 6
  · have t1 : (pr == 17) = false := by simpa using e17
    have t2 : (pr == 6) = true := by simpa using e6
    have HF := Lib.hid (fun hO => layTcp_any (w := w3) (base := base) (g := g) (N := N) (C := C) (L := L2) (off + size) (n - size) (c - size) e v A wp P he i4 h2 hN hgr.1 hgr.2 n0 n1 p0 p1 q0 q1 hO)
    have h9 := H9.out
    rw [if_neg e17, if_pos e6] at h9
    rw [h9] at HF
    clear e17 e6 h9
    go_wp2_with fail
    with_reducible refine (HF.out HL3.out.own).mono ?_
    rintro r w4 ⟨rfl, hl4⟩
    have HX := Lib.hid (HL3.out.then hl4)
    clear hl4
    go_wp2
    go_end0
    exact ⟨rfl, HX.out⟩
  by_cases e1 : pr = 1
  · have t1 : (pr == 17) = false := by simpa using e17
    have t2 : (pr == 6) = false := by simpa using e6
    have t3 : (pr == 1) = true := by simpa using e1
    have HF := Lib.hid (fun hO => layEcho_any (w := w3) (base := base) (g := g) (N := N) (C := C) (L := L2) (off + size) (n - size) (c - size) v A wp P (by omega) h2 hN q0 q1 hO)
    have h9 := H9.out
    rw [if_neg e17, if_neg e6, if_pos e1] at h9
    rw [h9] at HF
    clear e17 e6 e1 h9
    go_wp2_with fail
    with_reducible refine (HF.out HL3.out.own).mono ?_
    rintro r w4 ⟨rfl, hl4⟩
    have HX := Lib.hid (HL3.out.then hl4)
    clear hl4
    go_wp2
    go_end0
    exact ⟨rfl, HX.out⟩
  · have t1 : (pr == 17) = false := by simpa using e17
    have t2 : (pr == 6) = false := by simpa using e6
    have t3 : (pr == 1) = false := by simpa using e1
    have h9 := H9.out
    rw [if_neg e17, if_neg e6, if_neg e1] at h9
    have HX := Lib.hid (show Lz w w3 base g N C L9 by rw [← h9]; exact HL3.out)
    clear e17 e6 e1 h9
    go_wp2
    go_end0
    exact ⟨rfl, HX.out⟩
end
end Go.Proofs.Ytdkjipfemnfckaa
