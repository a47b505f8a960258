/-
  Several small texts in one: Po, PoS, PoR, PoT. Conditions stand in each theorem.
-/
import Derived.Test.YtmbceafeonjffaaGB
import Derived.Test.YtmbceafeonjffaaGC
import Derived.Lib.Hide
import Derived.Deep.QuietTactic
import Derived.BigQuiet
import Derived.RegionTactic
import Derived.BigRegion
import Derived.Deep.RegionLaw
import Derived.LoopTactic
namespace Go.Proofs.Ytmbceafeonjffaa
open Go.RowKit Plain
set_option linter.unusedVariables false
set_option linter.unusedSimpArgs false
set_option maxRecDepth 100000
theorem retP {k : IntKind} {a b : Int} (h : a = b) : Ending.returned (.int k a) = .returned (.int k b) := by rw [h]
/-- a Pool: its struct in block gp, its words are cells -/
structure PoS (w : World) (gp gc gn n : Nat) (size : Int) (l : List Int) : Prop where
  ps : Blk w gp 73 #[.pointer (some ⟨gc, 0, none⟩), .int .i64 size]
  cl : Cl w gc gn n l
  nn : gp ≠ gn
  nc : gp ≠ gc
section
variable {w w' : World} {gp gc gn n : Nat} {size : Int} {l : List Int}
theorem PoS.below (h : PoS w gp gc gn n size l) (hb : Below w.heap.size w w') : PoS w' gp gc gn n size l := ⟨h.ps.below hb, h.cl.below hb, h.nn, h.nc⟩
theorem PoS.keep {bs : List Nat} (h : PoS w gp gc gn n size l) (hk : Keep bs w w') (h1 : gp ∉ bs) (h2 : gc ∉ bs) (h3 : gn ∉ bs) : PoS w' gp gc gn n size l := ⟨hk.blk h.ps h1, h.cl.keep hk h2 h3, h.nn, h.nc⟩
theorem PoS.drewN (h : PoS w gp gc gn n size l) (q : Nat) : PoS (w.drewN q) gp gc gn n size l := ⟨h.ps, h.cl.drewN q, h.nn, h.nc⟩
theorem PoS.set (h : PoS w gp gc gn n size l) (i : Nat) (x : Int) (hx : U64 x) : PoS (w.setCell ⟨gn, i, none⟩ (.int .u64 x)) gp gc gn n size (l.set i x) := ⟨h.ps.ne (p := ⟨gn, i, none⟩) (Ne.symm h.nn) _, h.cl.set i x hx, h.nn, h.nc⟩
end
theorem freeF_rng (x : Int) : 0 ≤ freeF x ∧ freeF x ≤ 4294967295 := by unfold freeF; omega
theorem bits_not32 (y : Int) (h0 : 0 ≤ y) (h1 : y < 4294967296) : bits .xor .u32 IntKind.u32.max y = 4294967295 - y := by
  obtain ⟨n, rfl⟩ : ∃ n : Nat, y = n := ⟨y.toNat, by omega⟩
  have hY : (BitVec.ofInt 32 (n : Int)).toNat = n := by simp; omega
  have hM : BitVec.ofInt 32 IntKind.u32.max = BitVec.allOnes 32 := by decide
  show IntKind.u32.wrap ((BitVec.ofInt 32 IntKind.u32.max ^^^ BitVec.ofInt 32 (n : Int)).toNat : Nat) = _
  rw [hM, BitVec.allOnes_xor, BitVec.toNat_not, hY, IntKind.wrap_u32]
  omega
theorem freeOf_any (x : Int) (w : World) (h0 : 0 ≤ x) (h1 : x < 18446744073709551616) :
    Calls Try.prog 51 #[.int .u64 x] w fun e w' => e = .returned (.int .u32 (freeF x)) ∧ w = w' := by
  have e : bits .xor .u32 IntKind.u32.max (x % 4294967296) = freeF x := bits_not32 _ (by omega) (by omega)
  have HE := Lib.hid e
  clear e
  go_enter Try.func51, Try.ntmps51
  go_wp2
  go_ret
  refine ⟨retP ?_, rfl⟩
  exact HE.out
theorem phas_any {w : World} {gp gc gn n : Nat} {size : Int} {l : List Int} (h : PoS w gp gc gn n size l) (x : Int) :
    Calls Try.prog 60 #[.pointer (some ⟨gp, 0, none⟩), .int .i64 x] w fun e w' => e = .returned (.bool (decide (0 ≤ x ∧ x < size))) ∧ w = w' := by
  have c1 : w.cell? ⟨gp, 1, none⟩ = some (.int .i64 size) := h.ps.cell 1
  clear h
  by_cases h0 : 0 ≤ x
  · have e : decide (0 ≤ x ∧ x < size) = decide (x < size) := by simp [h0]
    have e0 : decide (0 ≤ x) = true := by simpa using h0
    rw [e]
    clear e
    go_enter Try.func60, Try.ntmps60
    go_wp2
    go_ret
    exact ⟨rfl, rfl⟩
  · have e : decide (0 ≤ x ∧ x < size) = false := by simp; omega
    have e0 : decide (0 ≤ x) = false := by simpa using h0
    rw [e]
    clear e
    go_enter Try.func60, Try.ntmps60
    go_wp2
    go_ret
    exact ⟨rfl, rfl⟩
theorem pcount_any8 {w : World} {gp gc gn n : Nat} {size : Int} {l : List Int} (h : PoS w gp gc gn n size l) :
    Calls Try.prog 41 #[.pointer (some ⟨gp, 0, none⟩)] w fun e w' => e = .returned (.int .i64 n) ∧ w = w' := by
  have c0 : w.cell? ⟨gp, 0, none⟩ = some (.pointer (some ⟨gc, 0, none⟩)) := h.ps.cell 0
  have HS := Lib.hid (size_any h.cl)
  clear h
  go_enter Try.func41, Try.ntmps41
  go_wp2_with (go_at_call 39; refine (HS.out).mono ?_; rintro e w1 ⟨rfl, rfl⟩)
  go_ret
  exact ⟨rfl, rfl⟩
theorem pcopy_any8 {w : World} {gp gc gn n : Nat} {size : Int} {l : List Int} (h : PoS w gp gc gn n size l) (hn : n ≤ 65536) :
    Calls Try.prog 22 #[.pointer (some ⟨gp, 0, none⟩)] w fun e w' => e = .returned (.slice (some ⟨w.heap.size, 0, none⟩) n n) ∧ Row .u64 23 w' w.heap.size l ∧ Below w.heap.size w w' := by
  have c0 : w.cell? ⟨gp, 0, none⟩ = some (.pointer (some ⟨gc, 0, none⟩)) := h.ps.cell 0
  have HS := Lib.hid (copy_any h.cl hn)
  clear h
  go_enter Try.func22, Try.ntmps22
  go_wp2_with (go_at_call 52; refine (HS.out).mono ?_; rintro e w1 ⟨rfl, hr, hb⟩)
  go_ret
  exact ⟨rfl, hr, hb⟩
end Go.Proofs.Ytmbceafeonjffaa

namespace Go.Proofs.Ytmbceafeonjffaa
open Go.RowKit Plain
set_option linter.unusedVariables false
set_option linter.unusedSimpArgs false
set_option maxRecDepth 100000
/-- the cells of a Step -/
def Ps.cs (s : Ps) (gc : Nat) (gv : Value) : List Value :=
  .pointer (some ⟨gc, 0, none⟩) :: .int .i64 s.nx :: .int .i64 s.wd :: .int .i64 s.ah :: .int .i64 s.mo :: (s.rd.map (Value.int .u64) ++ [.int .u32 s.tk, .bool s.no, .bool s.sm, gv])
structure StP (w : World) (gs gc : Nat) (gv : Value) (s : Ps) : Prop where
  blk : Blk w gs 78 (s.cs gc gv).toArray
  len : s.rd.length = 32
section
variable {w w' : World} {gs gc : Nat} {gv : Value} {s : Ps}
theorem StP.below (h : StP w gs gc gv s) (hb : Below w.heap.size w w') : StP w' gs gc gv s := ⟨h.blk.below hb, h.len⟩
theorem StP.keep {bs : List Nat} (h : StP w gs gc gv s) (hk : Keep bs w w') (hg : gs ∉ bs) : StP w' gs gc gv s := ⟨hk.blk h.blk hg, h.len⟩
theorem StP.drewN (h : StP w gs gc gv s) (q : Nat) : StP (w.drewN q) gs gc gv s := ⟨h.blk, h.len⟩
theorem StP.ne (h : StP w gs gc gv s) {p : Addr} (hp : p.block ≠ gs) (v : Value) : StP (w.setCell p v) gs gc gv s := ⟨h.blk.ne hp v, h.len⟩
theorem StP.c0 (h : StP w gs gc gv s) : w.cell? ⟨gs, 0, none⟩ = some (.pointer (some ⟨gc, 0, none⟩)) := h.blk.cell 0
theorem StP.c1 (h : StP w gs gc gv s) : w.cell? ⟨gs, 1, none⟩ = some (.int .i64 s.nx) := h.blk.cell 1
theorem StP.c2 (h : StP w gs gc gv s) : w.cell? ⟨gs, 2, none⟩ = some (.int .i64 s.wd) := h.blk.cell 2
theorem StP.c3 (h : StP w gs gc gv s) : w.cell? ⟨gs, 3, none⟩ = some (.int .i64 s.ah) := h.blk.cell 3
theorem StP.c4 (h : StP w gs gc gv s) : w.cell? ⟨gs, 4, none⟩ = some (.int .i64 s.mo) := h.blk.cell 4
theorem cs_rd (h : s.rd.length = 32) (i : Nat) (hi : i < 32) : (s.cs gc gv)[5 + i]? = some (.int .u64 (s.rd.getD i 0)) := by
  have e : (s.cs gc gv)[5 + i]? = (s.rd.map (Value.int .u64) ++ [.int .u32 s.tk, .bool s.no, .bool s.sm, gv])[i]? := by
    rw [show 5 + i = i + 5 by omega]; rfl
  rw [e, List.getElem?_append_left (by simp; omega), List.getElem?_map, List.getElem?_eq_getElem (by omega)]
  simp [List.getD, show i < s.rd.length by omega]
theorem cs_end (h : s.rd.length = 32) (i : Nat) : (s.cs gc gv)[37 + i]? = [Value.int .u32 s.tk, .bool s.no, .bool s.sm, gv][i]? := by
  have e : (s.cs gc gv)[37 + i]? = (s.rd.map (Value.int .u64) ++ [.int .u32 s.tk, .bool s.no, .bool s.sm, gv])[32 + i]? := by
    rw [show 37 + i = (32 + i) + 5 by omega]; rfl
  rw [e, List.getElem?_append_right (by simp; omega)]
  simp [h]
theorem StP.cr (h : StP w gs gc gv s) (i : Nat) (hi : i < 32) : w.cell? ⟨gs, 5 + i, none⟩ = some (.int .u64 (s.rd.getD i 0)) := by rw [h.blk.cell (5 + i)]; simpa using cs_rd h.len i hi
theorem StP.c37 (h : StP w gs gc gv s) : w.cell? ⟨gs, 37, none⟩ = some (.int .u32 s.tk) := by rw [h.blk.cell 37]; simpa using cs_end h.len 0
theorem StP.c38 (h : StP w gs gc gv s) : w.cell? ⟨gs, 38, none⟩ = some (.bool s.no) := by rw [h.blk.cell 38]; simpa using cs_end h.len 1
theorem StP.c39 (h : StP w gs gc gv s) : w.cell? ⟨gs, 39, none⟩ = some (.bool s.sm) := by rw [h.blk.cell 39]; simpa using cs_end h.len 2
theorem StP.c40 (h : StP w gs gc gv s) : w.cell? ⟨gs, 40, none⟩ = some gv := by rw [h.blk.cell 40]; simpa using cs_end h.len 3
theorem StP.free (h : StP w gs gc gv s) (i : Nat) : w.frozen? ⟨gs, i, none⟩ = false := h.blk.frozen i
theorem StP.put (h : StP w gs gc gv s) (i : Nat) (v : Value) (s' : Ps) (gv' : Value) (hs : (s.cs gc gv).set i v = s'.cs gc gv') (hl : s'.rd.length = 32) : StP (w.setCell ⟨gs, i, none⟩ v) gs gc gv' s' := ⟨by
  have := h.blk.set i v
  rw [List.setIfInBounds_toArray, hs] at this
  exact this, hl⟩
theorem StP.nx (h : StP w gs gc gv s) (x : Nat) : StP (w.setCell ⟨gs, 1, none⟩ (.int .i64 x)) gs gc gv { s with nx := x } := h.put 1 _ _ _ rfl h.len
theorem StP.wd (h : StP w gs gc gv s) (x : Nat) : StP (w.setCell ⟨gs, 2, none⟩ (.int .i64 x)) gs gc gv { s with wd := x } := h.put 2 _ _ _ rfl h.len
theorem StP.ah (h : StP w gs gc gv s) (x : Nat) : StP (w.setCell ⟨gs, 3, none⟩ (.int .i64 x)) gs gc gv { s with ah := x } := h.put 3 _ _ _ rfl h.len
theorem cs_setr (i : Nat) (v : Value) (hi : i < s.rd.length) : (s.cs gc gv).set (5 + i) v = .pointer (some ⟨gc, 0, none⟩) :: .int .i64 s.nx :: .int .i64 s.wd :: .int .i64 s.ah :: .int .i64 s.mo :: ((s.rd.map (Value.int .u64)).set i v ++ [.int .u32 s.tk, .bool s.no, .bool s.sm, gv]) := by
  rw [show 5 + i = i + 5 by omega]
  unfold Ps.cs
  simp only [List.set_cons_succ]
  rw [List.set_append_left _ _ (by simpa using hi)]
theorem cs_sete (h : s.rd.length = 32) (i : Nat) (v : Value) : (s.cs gc gv).set (37 + i) v = .pointer (some ⟨gc, 0, none⟩) :: .int .i64 s.nx :: .int .i64 s.wd :: .int .i64 s.ah :: .int .i64 s.mo :: (s.rd.map (Value.int .u64) ++ [Value.int .u32 s.tk, .bool s.no, .bool s.sm, gv].set i v) := by
  rw [show 37 + i = (32 + i) + 5 by omega]
  unfold Ps.cs
  simp only [List.set_cons_succ]
  rw [List.set_append_right _ _ (by simp; omega)]
  simp [h]
theorem StP.rd (h : StP w gs gc gv s) (i : Nat) (hi : i < 32) (x : Int) : StP (w.setCell ⟨gs, 5 + i, none⟩ (.int .u64 x)) gs gc gv { s with rd := s.rd.set i x } :=
  h.put (5 + i) _ _ _ (by rw [cs_setr i _ (by have := h.len; omega), ← List.map_set]; rfl) (by simp [h.len])
theorem StP.tk (h : StP w gs gc gv s) (x : Int) : StP (w.setCell ⟨gs, 37, none⟩ (.int .u32 x)) gs gc gv { s with tk := x } := h.put 37 _ _ _ (cs_sete h.len 0 _) h.len
theorem StP.no (h : StP w gs gc gv s) (x : Bool) : StP (w.setCell ⟨gs, 38, none⟩ (.bool x)) gs gc gv { s with no := x } := h.put 38 _ _ _ (cs_sete h.len 1 _) h.len
theorem StP.sm (h : StP w gs gc gv s) (x : Bool) : StP (w.setCell ⟨gs, 39, none⟩ (.bool x)) gs gc gv { s with sm := x } := h.put 39 _ _ _ (cs_sete h.len 2 _) h.len
theorem StP.gi (h : StP w gs gc gv s) (v : Value) : StP (w.setCell ⟨gs, 40, none⟩ v) gs gc v s := h.put 40 _ _ _ (cs_sete h.len 3 _) h.len
end
end Go.Proofs.Ytmbceafeonjffaa

namespace Go.Proofs.Ytmbceafeonjffaa
open Go.RowKit Plain
set_option linter.unusedVariables false
set_option linter.unusedSimpArgs false
set_option maxRecDepth 100000
theorem quietP {f : FuncId} {args : Array Value} {w : World} {n : Nat} {v : Value} (h : Calls Try.prog f args (w.drewN n) fun e w' => e = .returned v ∧ w.drewN n = w') :
    Calls Try.prog f args (w.drewN n) fun e w' => e = .returned v ∧ ∃ m, w' = w.drewN m := h.mono fun _ _ ⟨he, hw⟩ => ⟨he, n, hw.symm⟩
set_option maxHeartbeats 4000000 in
theorem readToTake_any {w : World} {gs gc gn n : Nat} {gv : Value} {l : List Int} {s : Ps} (hc : Cl w gc gn n l) (hs : StP w gs gc gv s) (hx : s.nx = 1) (h1 : s.wd < n) (hn : n ≤ 32) (ha : 1 ≤ s.ah) (ha2 : s.ah ≤ 32) (hgc : gc ≠ gs) (hgn : gn ≠ gs) :
    Calls Try.prog 46 #[.pointer (some ⟨gs, 0, none⟩)] w fun e w' => e = .returned (.tuple #[]) ∧ StP w' gs gc gv (stpP n l s).2 ∧ Keep [gs] w w' := by
  have hu := hc.u64 s.wd
  unfold U64 at hu
  obtain ⟨x, hxx⟩ : ∃ x, l.getD s.wd 0 = x := ⟨_, rfl⟩
  rw [hxx] at hu
  have HLD := Lib.hid (fun q => load_eq (hc.drewN q) s.wd h1 x hxx)
  have HSZ := Lib.hid (fun (W : World) (hk : Keep [gs] w W) => size_any (hc.keep hk (by simp; omega) (by simp; omega)))
  have HS := Lib.hid hs
  have HX := Lib.hid hxx
  have HN := Lib.hid hx
  have c0 := hs.c0
  have c2 := hs.c2
  have r0 := hs.cr s.wd (by omega)
  have f0 := hs.free (5 + s.wd)
  have i1 : (s.wd : Int) < 32 := by omega
  have i2 : s.wd < 32 := by omega
  clear hc hs hxx hx
  go_enter Try.func46, Try.ntmps46
  go_upto_region 0 with fail
  go_quiet ((go_at_call 63; exact quietP (HLD.out _)))
  go_upto_region 1 with fail
  have c2' : (w.drewN nq).cell? ⟨gs, 2, none⟩ = some (.int .i64 s.wd) := c2
  have r0' : (w.drewN nq).cell? ⟨gs, 5 + s.wd, none⟩ = some (.int .u64 (s.rd.getD s.wd 0)) := r0
  have f0' : (w.drewN nq).frozen? ⟨gs, 5 + s.wd, none⟩ = false := f0
  go_region
  have HS1 := Lib.hid ((HS.out.drewN (nq + 1)).rd s.wd i2 x)
  have HK1 := Lib.hid (((Keep.refl [gs] w).drewN (nq + 1)).setCell (p := ⟨gs, 5 + s.wd, none⟩) (.inl (by simp)) (.int .u64 x))
  clear c0 c2 r0 f0 c2' r0' f0'
  generalize (w.drewN (nq + 1)).setCell ⟨gs, 5 + s.wd, none⟩ (.int .u64 x) = w1 at *
  have HFO := Lib.hid (freeOf_any x w1 hu.1 hu.2)
  by_cases hf : freeF x = 0
  · have d1 : (freeF x != 0) = false := by simp [hf]
    by_cases ha1 : s.ah = 1
    · have HF := Lib.hid (show (stpP n l s).2 = { s with rd := s.rd.set s.wd x, no := true, nx := 0 } by
        unfold stpP; rw [HN.out]; simp only; rw [HX.out, if_neg (by simpa using hf), if_pos ha1])
      have c3 := HS1.out.c3
      simp only at c3
      have f38 := HS1.out.free 38
      have c38 := HS1.out.c38
      have d3 : ((s.ah : Int) == 1) = true := by simp [ha1]
      have HS2 := Lib.hid ((HS1.out.no true).nx 0)
      have c1 := (HS1.out.no true).c1
      have f1 := (HS1.out.no true).free 1
      have HK2 := Lib.hid ((HK1.out.setCell (p := ⟨gs, 38, none⟩) (.inl (by simp)) (.bool true)).setCell (p := ⟨gs, 1, none⟩) (.inl (by simp)) (.int .i64 0))
      clear ha1 hf HS1 HK1
      go_wp2_with (go_at_call 51; refine (HFO.out).mono ?_; rintro e w2 ⟨rfl, rfl⟩)
      go_end0
      refine ⟨rfl, ?_, HK2.out⟩
      rw [HF.out]
      exact HS2.out
    · obtain ⟨a, haa⟩ : ∃ a, s.ah = a + 1 := ⟨s.ah - 1, by omega⟩
      have hr : (s.wd + 1) % n < n := Nat.mod_lt _ (by omega)
      obtain ⟨r, hrr⟩ : ∃ r, (s.wd + 1) % n = r := ⟨_, rfl⟩
      have HF := Lib.hid (show (stpP n l s).2 = { s with rd := s.rd.set s.wd x, ah := a, wd := r } by
        unfold stpP; rw [HN.out]; simp only; rw [HX.out, if_neg (by simpa using hf), if_neg ha1]; simp only; rw [haa, hrr]; rfl)
      have HRR := Lib.hid (show ((s.wd : Int) + 1) % (n : Int) = (r : Int) by rw [← hrr]; simp)
      have c3 : w1.cell? ⟨gs, 3, none⟩ = some (.int .i64 ((a : Int) + 1)) := by have := HS1.out.c3; simp only at this; rw [haa] at this; exact this
      have f3 := HS1.out.free 3
      have d3 : ((a : Int) + 1 == 1) = false := by simp; omega
      have HS2 := Lib.hid (HS1.out.ah a)
      have HK2 := Lib.hid (HK1.out.setCell (p := ⟨gs, 3, none⟩) (.inl (by simp)) (.int .i64 a))
      rw [hrr] at hr
      have ha3 : a ≤ 31 := by omega
      have HV := Lib.hid (show (IntKind.i64.wrap ((s.wd : Int) + 1)).tmod (n : Int) = (r : Int) by
        rw [show IntKind.i64.wrap ((s.wd : Int) + 1) = (s.wd : Int) + 1 from IntWalk.i64_in _ (by omega), Int.tmod_eq_emod_of_nonneg (by omega)]
        exact HRR.out)
      clear ha1 hf HS1 HK1 haa hrr
      go_upto_region 3 with (go_at_call 51; refine (HFO.out).mono ?_; rintro e w2 ⟨rfl, rfl⟩)
      clear c3 f3
      generalize w1.setCell ⟨gs, 3, none⟩ (.int .i64 a) = w3 at *
      have c0 := HS2.out.c0
      have c2 : w3.cell? ⟨gs, 2, none⟩ = some (.int .i64 s.wd) := HS2.out.c2
      have f2 := HS2.out.free 2
      have HSZ2 := Lib.hid (HSZ.out w3.drew HK2.out.drew)
      have hn1 : (n : Int) ≠ 0 := by omega
      have hn2 : (0 : Int) < (n : Int) := by omega
      have hn3 : n ≠ 0 := by omega
      go_region_law (go_simp; go_at_call 39; refine (HSZ2.out).mono ?_; rintro e w4 ⟨rfl, rfl⟩)
      all_goals
        rw [HV.out]
        go_wp2
        go_end0
        refine ⟨rfl, ?_, (HK2.out.setCell (p := ⟨gs, 2, none⟩) (.inl (by simp)) (.int .i64 r)).drew⟩
        rw [HF.out]
        exact (HS2.out.wd r).drewN 1
  · have d1 : (freeF x != 0) = true := by simp [hf]
    have HF := Lib.hid (show (stpP n l s).2 = { s with rd := s.rd.set s.wd x, nx := 2 } by
      unfold stpP; rw [HN.out]; simp only; rw [HX.out, if_pos hf])
    have c1 := HS1.out.c1
    have f1 := HS1.out.free 1
    have HS2 := Lib.hid (HS1.out.nx 2)
    have HK2 := Lib.hid (HK1.out.setCell (p := ⟨gs, 1, none⟩) (.inl (by simp)) (.int .i64 2))
    clear hf HS1 HK1
    go_wp2_with (go_at_call 51; refine (HFO.out).mono ?_; rintro e w2 ⟨rfl, rfl⟩)
    go_end0
    refine ⟨rfl, ?_, HK2.out⟩
    rw [HF.out]
    exact HS2.out
end Go.Proofs.Ytmbceafeonjffaa

namespace Go.Proofs.Ytmbceafeonjffaa
open Go.RowKit Plain
set_option linter.unusedVariables false
set_option linter.unusedSimpArgs false
set_option maxRecDepth 100000
theorem bits_and32 (x y : Nat) (hx : x < 4294967296) (hy : y < 4294967296) : bits .and .u32 (x : Int) (y : Int) = ((x &&& y : Nat) : Int) := by
  have hX : (BitVec.ofInt 32 (x : Int)).toNat = x := by simp; omega
  have hY : (BitVec.ofInt 32 (y : Int)).toNat = y := by simp; omega
  have h : x &&& y ≤ x := Nat.and_le_left
  show IntKind.u32.wrap ((BitVec.ofInt 32 (x : Int) &&& BitVec.ofInt 32 (y : Int)).toNat : Nat) = _
  rw [BitVec.toNat_and, hX, hY, IntKind.wrap_u32]
  omega
theorem bits_andNot32 (x y : Nat) (hx : x < 4294967296) (hy : y < 4294967296) : bits .andNot .u32 (x : Int) (y : Int) = ((x &&& (4294967295 - y) : Nat) : Int) := by
  have hX : (BitVec.ofInt 32 (x : Int)).toNat = x := by simp; omega
  have hY : (BitVec.ofInt 32 (y : Int)).toNat = y := by simp; omega
  have h : x &&& (4294967295 - y) ≤ x := Nat.and_le_left
  show IntKind.u32.wrap ((BitVec.ofInt 32 (x : Int) &&& ~~~ BitVec.ofInt 32 (y : Int)).toNat : Nat) = _
  rw [BitVec.toNat_and, BitVec.toNat_not, hX, hY, IntKind.wrap_u32, show 2 ^ 32 - 1 - y = 4294967295 - y from rfl]
  omega
theorem restN_lt (s : Nat) (h : s < 4294967296) : ∀ k, restN s k < 4294967296
  | 0 => h
  | k + 1 => Nat.lt_of_le_of_lt Nat.and_le_left (restN_lt s h k)
set_option maxHeartbeats 2000000 in
theorem lowest_any (s m : Nat) (w : World) (hs : s < 4294967296) (hm : m ≤ 100) :
    Calls Try.prog 64 #[.int .u32 s, .int .i64 m] w fun e w' => e = .returned (.int .u32 (lowF s m)) ∧ w = w' := by
  have HS := Lib.hid hs
  go_enter Try.func64, Try.ntmps64
  go_wp2
  go_loop [5, 8] (fun r i => ∃ k : Nat, k ≤ m ∧ i = .int .i64 k ∧ r = .int .u32 (restN s k)) (fun _ i => m - (intOf i).toNat)
  case atStart => exact ⟨0, Nat.zero_le _, rfl, rfl⟩
  case round =>
    obtain ⟨k, hk, rfl, rfl⟩ := hrel
    have hr := restN_lt s hs k
    obtain ⟨r, hrr⟩ : ∃ r, restN s k = r := ⟨_, rfl⟩
    rw [hrr] at hr
    have HB := Lib.hid (show bits .and .u32 (r : Int) (((r + 4294967295) % 4294967296 : Nat) : Int) = (restN s (k + 1) : Int) by
      rw [bits_and32 _ _ hr (Nat.mod_lt _ (by decide)), ← hrr]; rfl)
    have HW := Lib.hid (show ((r : Int) - 1) % 4294967296 = (((r + 4294967295) % 4294967296 : Nat) : Int) by omega)
    have HA := Lib.hid (show bits .andNot .u32 (s : Int) (r : Int) = ((s &&& (4294967295 - r) : Nat) : Int) from bits_andNot32 s r hs hr)
    have HRR := Lib.hid hrr
    rw [hrr]
    clear hrr
    by_cases hlt : k < m
    · have d : decide ((k : Int) < (m : Int)) = true := decide_eq_true (by omega)
      go_wp2
      go_round
      case rel => exact ⟨k + 1, by omega, by go_num, by rw [HW.out, HB.out]⟩
      case measure => simp [intOf]; omega
    · have d : decide ((k : Int) < (m : Int)) = false := decide_eq_false (by omega)
      obtain rfl : k = m := by omega
      go_wp2
      go_ret
      refine ⟨retP ?_, rfl⟩
      rw [HA.out, ← HRR.out]
      unfold lowF
      simp
end Go.Proofs.Ytmbceafeonjffaa
