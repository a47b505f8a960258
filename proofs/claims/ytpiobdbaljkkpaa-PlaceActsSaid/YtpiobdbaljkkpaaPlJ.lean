/-
  Package place: Key and SetKey of a place that there is; Copy, Count; calls of none. Conditions stand in each theorem.
-/
import Derived.Test.YtpiobdbaljkkpaaPlK
namespace Go.Proofs.Ytpiobdbaljkkpaa
open Go.RowKit Plain
set_option linter.unusedVariables false
set_option maxRecDepth 100000
set_option linter.unusedSimpArgs false

theorem styF : Sty 68 3 := ⟨⟨_, Try.underlying68, rfl⟩, by unfold Siz; kernel_rfl⟩
theorem Blk.c3 {w : World} {g : Nat} {t : TypeId} {x0 x1 x2 : Value} (h : Blk w g t #[x0, x1, x2]) : w.cell? ⟨g, 0, none⟩ = some x0 ∧ w.cell? ⟨g, 1, none⟩ = some x1 ∧ w.cell? ⟨g, 2, none⟩ = some x2 := ⟨h.cell 0, h.cell 1, h.cell 2⟩
theorem Blk.c3set {w : World} {g : Nat} {t : TypeId} {x0 x1 x2 : Value} (h : Blk w g t #[x0, x1, x2]) (v0 v1 v2 : Value) :
    Blk (((w.setCell ⟨g, 0, none⟩ v0).setCell ⟨g, 1, none⟩ v1).setCell ⟨g, 2, none⟩ v2) g t #[v0, v1, v2] := ((h.set 0 v0).set 1 v1).set 2 v2
theorem wrap32a (x : Int) : IntKind.u32.wrap x = x % 4294967296 := IntKind.wrap_u32 x
theorem wrap16a (x : Int) : IntKind.u16.wrap x = x % 65536 := IntKind.wrap_u16 x

section
variable {w : World} {gp gc gn n : Nat} {l : List Int}
set_option maxHeartbeats 1000000 in
theorem pkey_any (h : PlB w gp gc gn n l) (i : Nat) (hi : i < n) :
    Calls Try.prog 25 #[.pointer (some ⟨gp, 0, none⟩), .int .i64 i] w fun e w' => e = .returned (flOf (l.getD (2 * i + 1) 0)).val ∧ Below w.heap.size w w' := by
  have hmx := h.mx
  have hu := h.cl.u64 (2 * i + 1)
  have H := Lib.hid (h.alloc (.cells #[.int .i64 0, .int .u32 0, .int .u16 0] 68))
  have hlt := h.lt
  obtain ⟨v, hv⟩ : ∃ v, v = l.getD (2 * i + 1) 0 := ⟨_, rfl⟩
  rw [← hv] at hu ⊢
  rw [show (flOf v).val = .agg #[.int .i64 (v / 281474976710656), .int .u32 (v / 65536 % 4294967296), .int .u16 (v % 65536)] from rfl]
  have HL := Lib.hid (load_eq (H.out.drewN 1).cl (2 * i + 1) (by omega) v hv.symm)
  clear h hv
  go_enter Try.func25, Try.ntmps25
  go_wp2_with fail
  refine (phas_any H.out i).mono ?_
  rintro e w' ⟨rfl, rfl⟩
  rw [inC_nat hi]
  have c0 : (w.alloc (.cells #[.int .i64 0, .int .u32 0, .int .u16 0] 68)).cell? ⟨gp, 0, none⟩ = some (.pointer (some ⟨gc, 0, none⟩)) := H.out.ptr
  go_upto_region 3 with fail
  go_region_held3 (fun W => W.cell? ⟨gp, 0, none⟩ = some (.pointer (some ⟨gc, 0, none⟩)))
    (first | go_keep | assumption)
    (first
      | (go_at_call 65; refine (keyCell_any i (by omega) _).mono ?_; rintro e w' ⟨rfl, rfl⟩)
      | (go_at_call 20; refine (HL.out).mono ?_; rintro e w' ⟨rfl, rfl⟩))
  have bk := Lib.hid (Blk.drewN (Blk.new w 68 #[.int .i64 0, .int .u32 0, .int .u16 0]) 1)
  have Hb := Lib.hid ((ball w (.cells #[.int .i64 0, .int .u32 0, .int .u16 0] 68)).drew)
  obtain ⟨k0, k1, k2⟩ := bk.out.c3
  have f0 := bk.out.frozen 0
  have f1 := bk.out.frozen 1
  have f2 := bk.out.frozen 2
  have hu0 := hu.1
  have hu1 := hu.2
  have e1 := wrap32a (v / 65536)
  have e2 := wrap16a v
  go_wp2
  have BF := Lib.hid (bk.out.c3set (.int .i64 (v / 281474976710656)) (.int .u32 (v / 65536 % 4294967296)) (.int .u16 (v % 65536)))
  have HF := Lib.hid (((Hb.out.setCell (p := ⟨w.heap.size, 0, none⟩) (Nat.le_refl _) (.int .i64 (v / 281474976710656))).setCell (p := ⟨w.heap.size, 1, none⟩) (Nat.le_refl _) (.int .u32 (v / 65536 % 4294967296))).setCell (p := ⟨w.heap.size, 2, none⟩) (Nat.le_refl _) (.int .u16 (v % 65536)))
  refine bodyPost_ret (res_cell1 Try.results25 _ w.heap.size rfl BF.out styF) rfl ⟨rfl, HF.out⟩

theorem or_k1 (p a : Int) (p0 : 0 ≤ p) (p1 : p ≤ 255) (a0 : 0 ≤ a) (a1 : a ≤ 4294967295) : bits .or .u64 (p * 281474976710656) (a * 65536) = p * 281474976710656 + a * 65536 := by go_bits2
theorem or_k2 (p a o : Int) (p0 : 0 ≤ p) (p1 : p ≤ 255) (a0 : 0 ≤ a) (a1 : a ≤ 4294967295) (o0 : 0 ≤ o) (o1 : o ≤ 65535) : bits .or .u64 (p * 281474976710656 + a * 65536) o = p * 281474976710656 + a * 65536 + o := by go_bits2

theorem psetkey_no (h : PlB w gp gc gn n l) (i : Int) (x : Fl) (hx : inC n i = false ∨ wi x.p 255 = false) :
    Calls Try.prog 26 #[.pointer (some ⟨gp, 0, none⟩), .int .i64 i, x.val] w fun e w' => e = .returned (.int .i64 1) ∧ Below w.heap.size w w' := by
  obtain ⟨p, a, o⟩ := x
  rw [Fl.v3]
  have H := Lib.hid (h.alloc (.cells #[.int .i64 p, .int .u32 a, .int .u16 o] 68))
  have HW := Lib.hid (within_any p 255)
  have HX := Lib.hid hx
  clear h hx
  go_enter Try.func26, Try.ntmps26
  go_wp2_with fail
  refine (phas_any H.out i).mono ?_
  rintro e w' ⟨rfl, rfl⟩
  cases hi : inC n i
  · go_wp2
    go_ret
    exact ⟨rfl, ball w _⟩
  · have hw : wi p 255 = false := by
      rcases HX.out with h | h
      · rw [hi] at h; cases h
      · exact h
    rw [hw] at HW
    clear HX hi
    go_wp2_with fail
    refine (HW.out _).mono ?_
    rintro e w' ⟨rfl, rfl⟩
    go_wp2
    go_ret
    exact ⟨rfl, ball w _⟩

set_option maxHeartbeats 2000000 in
theorem psetkey_any (h : PlB w gp gc gn n l) (i : Nat) (hi : i < n) (x : Fl) (hx : x.can) :
    Calls Try.prog 26 #[.pointer (some ⟨gp, 0, none⟩), .int .i64 i, x.val] w fun e w' => e = .returned (.int .i64 0) ∧ PlB w' gp gc gn n (l.set (2 * i + 1) x.num) ∧ Keep [gn] w w' := by
  have hnr := fnum_range x hx
  obtain ⟨p, a, o⟩ := x
  obtain ⟨⟨p0, p1⟩, ⟨a0, a1⟩, ⟨o0, o1⟩⟩ := hx
  simp only at p0 p1 a0 a1 o0 o1
  rw [Fl.v3]
  have hmx := h.mx
  have hlt := h.lt
  have hn2 : gn ≠ gp := h.n2.symm
  have hnum : (Fl.mk p a o).num = p * 281474976710656 + a * 65536 + o := by simp only [Fl.num]; omega
  rw [hnum] at hnr ⊢
  have H := Lib.hid (h.alloc (.cells #[.int .i64 p, .int .u32 a, .int .u16 o] 68))
  have HW := Lib.hid (within_any p 255)
  rw [show wi p 255 = true by rw [wi_iff]; exact ⟨p0, p1⟩] at HW
  have HST := Lib.hid (store_any (H.out.drewN 1).cl (2 * i + 1) (by omega) (p * 281474976710656 + a * 65536 + o))
  have HF := Lib.hid ((H.out.drewN 1).set (2 * i + 1) (p * 281474976710656 + a * 65536 + o) hnr)
  have HK := Lib.hid (((Keep.of_below (bs := [gn]) (ball w (.cells #[.int .i64 p, .int .u32 a, .int .u16 o] 68))).drewN 1).setCell (p := ⟨gn, 2 * i + 1, none⟩) (.inl (by simp)) (.int .u64 (p * 281474976710656 + a * 65536 + o)))
  have r1 := or_k1 p a p0 p1 a0 a1
  have r2 := or_k2 p a o p0 p1 a0 a1 o0 o1
  have u1 : IntKind.u64.wrap p = p := by rw [IntKind.wrap_u64]; omega
  have u2 : IntKind.u64.wrap a = a := by rw [IntKind.wrap_u64]; omega
  have u3 : IntKind.u64.wrap o = o := by rw [IntKind.wrap_u64]; omega
  have u4 : IntKind.u64.wrap (p * 281474976710656) = p * 281474976710656 := by rw [IntKind.wrap_u64]; omega
  have u5 : IntKind.u64.wrap (a * 65536) = a * 65536 := by rw [IntKind.wrap_u64]; omega
  clear h hnum
  go_enter Try.func26, Try.ntmps26
  go_wp2_with fail
  refine (phas_any H.out i).mono ?_
  rintro e w' ⟨rfl, rfl⟩
  rw [inC_nat hi]
  go_wp2_with fail
  refine (HW.out _).mono ?_
  rintro e w' ⟨rfl, rfl⟩
  have c0 : (w.alloc (.cells #[.int .i64 p, .int .u32 a, .int .u16 o] 68)).cell? ⟨gp, 0, none⟩ = some (.pointer (some ⟨gc, 0, none⟩)) := H.out.ptr
  obtain ⟨k0, k1, k2⟩ := (Blk.new w 68 #[.int .i64 p, .int .u32 a, .int .u16 o]).c3
  have hgw : w.heap.size ≠ gn := by omega
  go_upto_region 3 with fail
  generalize w.alloc (.cells #[.int .i64 p, .int .u32 a, .int .u16 o] 68) = w1 at *
  generalize w.heap.size = g at *
  go_region_held3 (fun W => W.cell? ⟨gp, 0, none⟩ = some (.pointer (some ⟨gc, 0, none⟩)) ∧ W.cell? ⟨g, 0, none⟩ = some (.int .i64 p) ∧ W.cell? ⟨g, 1, none⟩ = some (.int .u32 a) ∧ W.cell? ⟨g, 2, none⟩ = some (.int .u16 o))
    (first | assumption | (refine ⟨?_, ?_, ?_, ?_⟩ <;> first | assumption | (exact (World.cell?_setCell_other _ _ _ _ (by simp <;> omega)).trans (by assumption)) | go_keep) | go_keep)
    (first
      | (go_at_call 65; refine (keyCell_any i (by omega) _).mono ?_; rintro e w' ⟨rfl, rfl⟩)
      | (go_at_call 67; refine (HST.out).mono ?_; rintro e w' ⟨rfl, hw⟩))
  first | subst hw | skip
  generalize (w1.drewN 1).setCell ⟨gn, 2 * i + 1, none⟩ (Value.int IntKind.u64 (p * 281474976710656 + a * 65536 + o)) = w9 at *
  go_wp2
  go_ret
  exact ⟨rfl, HF.out, HK.out⟩

theorem pcopy_any (h : PlB w gp gc gn n l) :
    Calls Try.prog 29 #[.pointer (some ⟨gp, 0, none⟩)] w fun e w' => e = .returned (.slice (some ⟨w.heap.size, 0, none⟩) (2 * n) (2 * n)) ∧ Row .u64 45 w' w.heap.size l ∧ Below w.heap.size w w' := by
  have c0 := h.ptr
  have HC := Lib.hid (copy_any h.cl (by have := h.mx; omega))
  clear h
  go_enter Try.func29, Try.ntmps29
  go_wp2_with fail
  refine HC.out.mono ?_
  rintro e w1 ⟨rfl, hr, hb⟩
  have HR := Lib.hid hr
  have HB := Lib.hid hb
  clear hr hb
  go_wp2
  go_ret
  exact ⟨rfl, HR.out, HB.out⟩

/-- how many of the first k places are in a state -/
def cntS (l : List Int) (s : Int) : Nat → Nat
  | 0 => 0
  | k + 1 => cntS l s k + if (wdOf (l.getD (2 * k) 0)).st = s then 1 else 0
theorem cntS_le (l : List Int) (s : Int) : ∀ k, cntS l s k ≤ k
  | 0 => Nat.le_refl _
  | k + 1 => by have := cntS_le l s k; rw [cntS]; split <;> omega
set_option maxHeartbeats 1000000 in
theorem pcount_any (h : PlB w gp gc gn n l) (s : Int) :
    Calls Try.prog 28 #[.pointer (some ⟨gp, 0, none⟩), .int .i64 s] w fun e w' => e = .returned (.int .i64 (cntS l s n)) ∧ Below w.heap.size w w' := by
  have hmx := h.mx
  have H := Lib.hid h
  clear h
  go_enter Try.func28, Try.ntmps28
  go_wp2_with fail
  refine (psize_any H.out).mono ?_
  rintro e w1 ⟨rfl, rfl⟩
  go_wp2
  go_loopw [5, 6, 9] (fun s5 s6 s9 wr => ∃ k : Nat, s5 = .int .i64 (cntS l s k) ∧ s9 = .int .i64 k ∧ k ≤ n ∧ PlB wr gp gc gn n l ∧ Below w.heap.size w wr) (fun _ _ i _ => n - (intOf i).toNat)
  case atStart => exact ⟨0, rfl, rfl, by omega, H.out, Below.refl _ _⟩
  case round =>
    obtain ⟨k, rfl, rfl, hk, hP, hB⟩ := hrel
    have HP := Lib.hid hP
    have HB := Lib.hid hB
    clear hP hB H
    have hcl := cntS_le l s k
    by_cases hlt : k < n
    · have i0 : (k : Int) < (n : Int) := by omega
      have HLD := Lib.hid (pload_any HP.out k hlt)
      have HS := Lib.hid (show cntS l s (k + 1) = cntS l s k + if (wdOf (l.getD (2 * k) 0)).st = s then 1 else 0 from rfl)
      generalize cntS l s k = ck at *
      generalize wdOf (l.getD (2 * k) 0) = x at *
      obtain ⟨x0, x1, x2, x3⟩ := x
      simp only [Wd.v4] at HLD HS
      have hfd : ∀ W : World, (Instr.field 62 (.agg #[.int .i64 x0, .int .i64 x1, .int .i64 x2, .int .i64 x3]) 0).run Try.prog W = .ok (.int .i64 x0) W := fun _ => by kernel_rfl
      go_wp2_with fail
      refine HLD.out.mono ?_
      rintro e w2 ⟨rfl, hb⟩
      have HP2 := Lib.hid (HP.out.below hb)
      have HB2 := Lib.hid (bthen HB.out hb)
      clear hb HP HB HLD
      by_cases hx : x0 = s
      · have HS' := Lib.hid (show cntS l s (k + 1) = ck + 1 by rw [HS.out, if_pos hx])
        subst hx
        clear HS
        go_wp2
        go_roundw
        case rel => exact ⟨k + 1, by rw [HS'.out]; go_num, by go_num, by omega, HP2.out, HB2.out⟩
        case measure => simp [intOf]; omega
      · have hx' : (x0 == s) = false := by simpa using hx
        have HS' := Lib.hid (show cntS l s (k + 1) = ck by rw [HS.out, if_neg hx]; rfl)
        clear HS
        go_wp2
        go_roundw
        case rel => exact ⟨k + 1, by rw [HS'.out], by go_num, by omega, HP2.out, HB2.out⟩
        case measure => simp [intOf]; omega
    · obtain rfl : k = n := by omega
      go_wp2
      go_ret
      exact ⟨rfl, HB.out⟩
end
end Go.Proofs.Ytpiobdbaljkkpaa
