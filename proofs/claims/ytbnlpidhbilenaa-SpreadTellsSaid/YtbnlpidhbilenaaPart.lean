/-
  Contracts of package part, first half: what a packet carries, as a value; its ports; the sum of UDP and TCP. Conditions stand in each theorem.
-/
import Derived.Test.YtbnlpidhbilenaaGet
import Derived.Test.YtbnlpidhbilenaaBlk
namespace Go.Proofs.Ytbnlpidhbilenaa
open Go.RowKit Plain
set_option linter.unusedVariables false
set_option linter.unusedSimpArgs false
set_option maxRecDepth 100000

/-- what a packet carries, as a value -/
structure Pt where
  proto : Int
  sp : Int
  dp : Int
  fl : Int
  kd : Int
  cd : Int
  er : Bool
  inn : Hd
  pos : Int
  bare : Bool
def Pt.val (p : Pt) : Value := .agg #[.int .i64 p.proto, .int .u16 p.sp, .int .u16 p.dp, .int .i64 p.fl, .int .i64 p.kd, .int .i64 p.cd, .bool p.er,
  .int .i64 p.inn.size, .int .i64 p.inn.len, .int .i64 p.inn.ttl, .int .i64 p.inn.proto, .int .u32 p.inn.src, .int .u32 p.inn.dst, .int .i64 p.pos, .bool p.bare]
def pt0 : Pt := ⟨0, 0, 0, 0, 0, 0, false, hd0, 0, false⟩


set_option maxHeartbeats 2000000 in
theorem withPorts_any (p0 p1 p2 p3 p4 p5 : Int) (p6 : Bool) (d0 d1 d2 d3 d4 d5 p7 : Int) (p8 : Bool) (A : Option Addr) (n c : Nat) (zs : List Int) (w : World) (hn : zs.length = n) (h4 : 4 ≤ n) (hl : n ≤ 1000000) (hR : Rd w A zs) :
    Calls Try.prog 91 #[.agg #[.int .i64 p0, .int .u16 p1, .int .u16 p2, .int .i64 p3, .int .i64 p4, .int .i64 p5, .bool p6, .int .i64 d0, .int .i64 d1, .int .i64 d2, .int .i64 d3, .int .u32 d4, .int .u32 d5, .int .i64 p7, .bool p8], .slice A n c] w fun e w' => e = .returned (.agg #[.int .i64 p0, .int .u16 (G16 zs 0), .int .u16 (G16 zs 2), .int .i64 p3, .int .i64 p4, .int .i64 p5, .bool p6, .int .i64 d0, .int .i64 d1, .int .i64 d2, .int .i64 d3, .int .u32 d4, .int .u32 d5, .int .i64 p7, .bool p8]) ∧ Below w.heap.size w w' := by
  have HR := Lib.hid hR
  have Hn := Lib.hid hn
  clear hR hn
  go_enter Try.func91, Try.ntmps91
  go_upto_region 1 with fail
  obtain ⟨w1, hw1⟩ : ∃ w1, w1 = (w.alloc (.cells #[.int .i64 p0, .int .u16 p1, .int .u16 p2, .int .i64 p3, .int .i64 p4, .int .i64 p5, .bool p6, .int .i64 d0, .int .i64 d1, .int .i64 d2, .int .i64 d3, .int .u32 d4, .int .u32 d5, .int .i64 p7, .bool p8] 107)).alloc (.cells #[.int .i64 0, .int .u16 0, .int .u16 0, .int .i64 0, .int .i64 0, .int .i64 0, .bool false, .int .i64 0, .int .i64 0, .int .i64 0, .int .i64 0, .int .u32 0, .int .u32 0, .int .i64 0, .bool false] 107) := ⟨_, rfl⟩
  have H0 := Lib.hid (show Blk w1 w.heap.size 107 #[.int .i64 p0, .int .u16 p1, .int .u16 p2, .int .i64 p3, .int .i64 p4, .int .i64 p5, .bool p6, .int .i64 d0, .int .i64 d1, .int .i64 d2, .int .i64 d3, .int .u32 d4, .int .u32 d5, .int .i64 p7, .bool p8] by rw [hw1]; exact (Blk.new w _ _).alloc _)
  have h1 : Blk w1 (w.heap.size + 1) 107 #[.int .i64 0, .int .u16 0, .int .u16 0, .int .i64 0, .int .i64 0, .int .i64 0, .bool false, .int .i64 0, .int .i64 0, .int .i64 0, .int .i64 0, .int .u32 0, .int .u32 0, .int .i64 0, .bool false] := by rw [hw1]; have := Blk.new (w.alloc (.cells #[.int .i64 p0, .int .u16 p1, .int .u16 p2, .int .i64 p3, .int .i64 p4, .int .i64 p5, .bool p6, .int .i64 d0, .int .i64 d1, .int .i64 d2, .int .i64 d3, .int .u32 d4, .int .u32 d5, .int .i64 p7, .bool p8] 107)) 107 #[.int .i64 0, .int .u16 0, .int .u16 0, .int .i64 0, .int .i64 0, .int .i64 0, .bool false, .int .i64 0, .int .i64 0, .int .i64 0, .int .i64 0, .int .u32 0, .int .u32 0, .int .i64 0, .bool false]; rwa [World.size_alloc] at this
  have HB := Lib.hid (show Below w.heap.size w w1 by rw [hw1]; exact bthen (ball _ _) (ball _ _))
  rw [← hw1]
  clear hw1
  obtain ⟨g1, hg1⟩ : ∃ g1, g1 = w.heap.size + 1 := ⟨_, rfl⟩
  have hgl : w.heap.size ≤ g1 := by omega
  have hgn : g1 ≠ w.heap.size := by omega
  rw [← hg1] at h1
  rw [← hg1]
  have H1 := Lib.hid h1
  clear hg1 h1
  go_wp2_with fail
  refine (get16_any A n c zs 0 0 _ Hn.out rfl (by omega) hl (HR.out.below HB.out)).mono ?_
  rintro e w' ⟨rfl, q, rfl⟩
  go_wp2_with ((with_reducible refine gd_st 65 7 ?_); refine wpList_st rfl 65 (.tmp 7) _ rfl _ _ rfl _ rfl (H0.out.drewN q) sU16 (#[.int .i64 p0, .int .u16 (G16 zs 0), .int .u16 p2, .int .i64 p3, .int .i64 p4, .int .i64 p5, .bool p6, .int .i64 d0, .int .i64 d1, .int .i64 d2, .int .i64 d3, .int .u32 d4, .int .u32 d5, .int .i64 p7, .bool p8]) rfl (Nat.le_of_ble_eq_true rfl) rfl ?_; intro w2 hb2 hg2 hs2)
  have HB2 := Lib.hid (bgrown (below_drewN HB.out q) hg2 (Nat.le_refl _))
  have H12 := Lib.hid ((H1.out.drewN q).grown hg2 hgn)
  have H02 := Lib.hid hb2
  clear hb2 hg2 hs2
  refine (get16_any A n c zs 2 2 _ Hn.out rfl (by omega) hl (HR.out.below HB2.out)).mono ?_
  rintro e w' ⟨rfl, q2, rfl⟩
  go_wp2_with (first | ((with_reducible refine gd_st 65 10 ?_); refine wpList_st rfl 65 (.tmp 10) _ rfl _ _ rfl _ rfl (H02.out.drewN q2) sU16 (#[.int .i64 p0, .int .u16 (G16 zs 0), .int .u16 (G16 zs 2), .int .i64 p3, .int .i64 p4, .int .i64 p5, .bool p6, .int .i64 d0, .int .i64 d1, .int .i64 d2, .int .i64 d3, .int .u32 d4, .int .u32 d5, .int .i64 p7, .bool p8]) rfl (Nat.le_of_ble_eq_true rfl) rfl ?_; intro w3 hb3 hg3 hs3) | ((with_reducible refine gd_ld 107 2 ?_); refine wpList_ld rfl 107 (.tmp 2) rfl _ rfl (hb3) sPart ?_) | ((with_reducible refine gd_st 107 4 ?_); refine wpList_st rfl 107 (.tmp 4) _ rfl _ _ rfl _ rfl ((H12.out.drewN q2).grown hg3 hgn) sPart.2 (#[.int .i64 p0, .int .u16 (G16 zs 0), .int .u16 (G16 zs 2), .int .i64 p3, .int .i64 p4, .int .i64 p5, .bool p6, .int .i64 d0, .int .i64 d1, .int .i64 d2, .int .i64 d3, .int .u32 d4, .int .u32 d5, .int .i64 p7, .bool p8]) rfl (Nat.le_of_ble_eq_true rfl) rfl ?_; intro w4 hb4 hg4 hs4))
  have HB4 := bgrown (bgrown (below_drewN HB2.out q2) hg3 (Nat.le_refl _)) hg4 hgl
  exact bodyPost_ret (res_cell1 Try.results91 _ _ rfl hb4 sPart) rfl ⟨rfl, HB4⟩

set_option maxHeartbeats 2000000 in
theorem withNumber_any (p0 p1 p2 p3 p4 p5 : Int) (p6 : Bool) (d0 d1 d2 d3 d4 d5 p7 : Int) (p8 : Bool) (A : Option Addr) (n c : Nat) (zs : List Int) (w : World) (hn : zs.length = n) (h4 : 6 ≤ n) (hl : n ≤ 1000000) (hR : Rd w A zs) :
    Calls Try.prog 93 #[.agg #[.int .i64 p0, .int .u16 p1, .int .u16 p2, .int .i64 p3, .int .i64 p4, .int .i64 p5, .bool p6, .int .i64 d0, .int .i64 d1, .int .i64 d2, .int .i64 d3, .int .u32 d4, .int .u32 d5, .int .i64 p7, .bool p8], .slice A n c] w fun e w' => e = .returned (.agg #[.int .i64 p0, .int .u16 (G16 zs 4), .int .u16 (G16 zs 4), .int .i64 p3, .int .i64 p4, .int .i64 p5, .bool p6, .int .i64 d0, .int .i64 d1, .int .i64 d2, .int .i64 d3, .int .u32 d4, .int .u32 d5, .int .i64 p7, .bool p8]) ∧ Below w.heap.size w w' := by
  have HR := Lib.hid hR
  have Hn := Lib.hid hn
  clear hR hn
  go_enter Try.func93, Try.ntmps93
  go_upto_region 1 with fail
  obtain ⟨w1, hw1⟩ : ∃ w1, w1 = (w.alloc (.cells #[.int .i64 p0, .int .u16 p1, .int .u16 p2, .int .i64 p3, .int .i64 p4, .int .i64 p5, .bool p6, .int .i64 d0, .int .i64 d1, .int .i64 d2, .int .i64 d3, .int .u32 d4, .int .u32 d5, .int .i64 p7, .bool p8] 107)).alloc (.cells #[.int .i64 0, .int .u16 0, .int .u16 0, .int .i64 0, .int .i64 0, .int .i64 0, .bool false, .int .i64 0, .int .i64 0, .int .i64 0, .int .i64 0, .int .u32 0, .int .u32 0, .int .i64 0, .bool false] 107) := ⟨_, rfl⟩
  have H0 := Lib.hid (show Blk w1 w.heap.size 107 #[.int .i64 p0, .int .u16 p1, .int .u16 p2, .int .i64 p3, .int .i64 p4, .int .i64 p5, .bool p6, .int .i64 d0, .int .i64 d1, .int .i64 d2, .int .i64 d3, .int .u32 d4, .int .u32 d5, .int .i64 p7, .bool p8] by rw [hw1]; exact (Blk.new w _ _).alloc _)
  have h1 : Blk w1 (w.heap.size + 1) 107 #[.int .i64 0, .int .u16 0, .int .u16 0, .int .i64 0, .int .i64 0, .int .i64 0, .bool false, .int .i64 0, .int .i64 0, .int .i64 0, .int .i64 0, .int .u32 0, .int .u32 0, .int .i64 0, .bool false] := by rw [hw1]; have := Blk.new (w.alloc (.cells #[.int .i64 p0, .int .u16 p1, .int .u16 p2, .int .i64 p3, .int .i64 p4, .int .i64 p5, .bool p6, .int .i64 d0, .int .i64 d1, .int .i64 d2, .int .i64 d3, .int .u32 d4, .int .u32 d5, .int .i64 p7, .bool p8] 107)) 107 #[.int .i64 0, .int .u16 0, .int .u16 0, .int .i64 0, .int .i64 0, .int .i64 0, .bool false, .int .i64 0, .int .i64 0, .int .i64 0, .int .i64 0, .int .u32 0, .int .u32 0, .int .i64 0, .bool false]; rwa [World.size_alloc] at this
  have HB := Lib.hid (show Below w.heap.size w w1 by rw [hw1]; exact bthen (ball _ _) (ball _ _))
  rw [← hw1]
  clear hw1
  obtain ⟨g1, hg1⟩ : ∃ g1, g1 = w.heap.size + 1 := ⟨_, rfl⟩
  have hgl : w.heap.size ≤ g1 := by omega
  have hgn : g1 ≠ w.heap.size := by omega
  rw [← hg1] at h1
  rw [← hg1]
  have H1 := Lib.hid h1
  clear hg1 h1
  go_wp2_with fail
  refine (get16_any A n c zs 4 4 _ Hn.out rfl (by omega) hl (HR.out.below HB.out)).mono ?_
  rintro e w' ⟨rfl, q, rfl⟩
  have kk := fun (h : Blk w1 w.heap.size 107 #[.int .i64 p0, .int .u16 p1, .int .u16 p2, .int .i64 p3, .int .i64 p4, .int .i64 p5, .bool p6, .int .i64 d0, .int .i64 d1, .int .i64 d2, .int .i64 d3, .int .u32 d4, .int .u32 d5, .int .i64 p7, .bool p8]) => h.cell 1
  go_wp2_with (first | ((with_reducible refine gd_st 65 7 ?_); refine wpList_st rfl 65 (.tmp 7) _ rfl _ _ rfl _ rfl (H0.out.drewN q) sU16 (#[.int .i64 p0, .int .u16 (G16 zs 4), .int .u16 p2, .int .i64 p3, .int .i64 p4, .int .i64 p5, .bool p6, .int .i64 d0, .int .i64 d1, .int .i64 d2, .int .i64 d3, .int .u32 d4, .int .u32 d5, .int .i64 p7, .bool p8]) rfl (Nat.le_of_ble_eq_true rfl) rfl ?_; intro w2 hb2 hg2 hs2); have c1 : w2.cell? ⟨w.heap.size, 1, none⟩ = some (.int .u16 (G16 zs 4)) := hb2.cell 1 | ((with_reducible refine gd_st 65 10 ?_); refine wpList_st rfl 65 (.tmp 10) _ rfl _ _ rfl _ rfl (hb2) sU16 (#[.int .i64 p0, .int .u16 (G16 zs 4), .int .u16 (G16 zs 4), .int .i64 p3, .int .i64 p4, .int .i64 p5, .bool p6, .int .i64 d0, .int .i64 d1, .int .i64 d2, .int .i64 d3, .int .u32 d4, .int .u32 d5, .int .i64 p7, .bool p8]) rfl (Nat.le_of_ble_eq_true rfl) rfl ?_; intro w3 hb3 hg3 hs3) | ((with_reducible refine gd_ld 107 2 ?_); refine wpList_ld rfl 107 (.tmp 2) rfl _ rfl (hb3) sPart ?_) | ((with_reducible refine gd_st 107 4 ?_); refine wpList_st rfl 107 (.tmp 4) _ rfl _ _ rfl _ rfl (((H1.out.drewN q).grown hg2 hgn).grown hg3 hgn) sPart.2 (#[.int .i64 p0, .int .u16 (G16 zs 4), .int .u16 (G16 zs 4), .int .i64 p3, .int .i64 p4, .int .i64 p5, .bool p6, .int .i64 d0, .int .i64 d1, .int .i64 d2, .int .i64 d3, .int .u32 d4, .int .u32 d5, .int .i64 p7, .bool p8]) rfl (Nat.le_of_ble_eq_true rfl) rfl ?_; intro w4 hb4 hg4 hs4))
  have HB4 := bgrown (bgrown (bgrown (below_drewN HB.out q) hg2 (Nat.le_refl _)) hg3 (Nat.le_refl _)) hg4 hgl
  exact bodyPost_ret (res_cell1 Try.results93 _ _ rfl hb4 sPart) rfl ⟨rfl, HB4⟩

/-- the sum of UDP and TCP -/
def Ps (src dst pr : Int) (zs : List Int) : Int := 65535 - F (src / 65536 + src % 65536 + dst / 65536 + dst % 65536 + (pr + (zs.length : Int) % 65536) + tot zs)
theorem Ps_range (src dst pr : Int) (zs : List Int) (h : By zs) (s0 : 0 ≤ src) (d0 : 0 ≤ dst) (p0 : 0 ≤ pr) : 0 ≤ Ps src dst pr zs ∧ Ps src dst pr zs ≤ 65535 := by
  have t := tot_nonneg zs h
  have := F_range (src / 65536 + src % 65536 + dst / 65536 + dst % 65536 + (pr + (zs.length : Int) % 65536) + tot zs) (by omega)
  unfold Ps; omega
theorem and32_ffff (x : Int) (h0 : 0 ≤ x) (h1 : x < 4294967296) : bits .and .u32 x 65535 = x % 65536 := by go_bits2

set_option maxHeartbeats 1000000 in
theorem sumFor_any (src dst pr : Int) (A : Option Addr) (n c : Nat) (zs : List Int) (w : World) (hn : zs.length = n) (hl : n ≤ 1000000) (hR : Rd w A zs) (s0 : 0 ≤ src) (s1 : src ≤ 4294967295) (d0 : 0 ≤ dst) (d1 : dst ≤ 4294967295) (p0 : 0 ≤ pr) (p1 : pr ≤ 255) :
    Calls Try.prog 92 #[.int .u32 src, .int .u32 dst, .int .i64 pr, .slice A n c] w fun e w' => e = .returned (.int .u16 (Ps src dst pr zs)) ∧ ∃ q, w' = w.drewN q := by
  have t := tot_nonneg zs hR.1
  have HR := Lib.hid hR
  have Hn := Lib.hid hn
  have a1 := and32_ffff src s0 (by omega)
  have a2 := and32_ffff dst d0 (by omega)
  obtain ⟨l, wr⟩ : ∃ l, IntKind.u16.wrap (n : Int) = l := ⟨_, rfl⟩
  have hll : l = (n : Int) % 65536 := by rw [← wr]; exact IntKind.wrap_u16 _
  have hlb : 0 ≤ l ∧ l ≤ 65535 := by omega
  have hps := Lib.hid (show Ps src dst pr zs = 65535 - F (F (src / 65536 + src % 65536 + dst / 65536 + dst % 65536 + (pr + l) + tot zs)) by
    unfold Ps; rw [F_idem _ (by omega), hn, hll])
  have fr := F_range (src / 65536 + src % 65536 + dst / 65536 + dst % 65536 + (pr + l) + tot zs) (by omega)
  clear hR hn hll
  go_enter Try.func92, Try.ntmps92
  go_wp2_with fail
  refine (more_n (src / 65536 + src % 65536 + dst / 65536 + dst % 65536 + (pr + l)) A n c zs _ (by omega) (by omega) Hn.out hl HR.out).mono ?_
  rintro e w' ⟨rfl, q, rfl⟩
  go_wp2_with fail
  refine (done_any _ _ fr.1 (by omega)).mono ?_
  rintro e w' ⟨rfl, rfl⟩
  go_wp2
  go_ret
  exact ⟨ret_int hps.out.symm, q, rfl⟩
end Go.Proofs.Ytbnlpidhbilenaa
