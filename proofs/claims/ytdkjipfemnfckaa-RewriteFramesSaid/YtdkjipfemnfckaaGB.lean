/-
  Several small texts in one: Sum, Wrap, SumN. Conditions stand in each theorem.
-/
import Derived.Test.YtdkjipfemnfckaaRows
import Derived.Test.YtdkjipfemnfckaaGA
import Derived.WalkKit
import Derived.ProofKit
import Derived.OpenShut
import Derived.Below
import Derived.Laws.BitsAll
import Derived.Deep.QuietTactic
import Derived.BigQuiet
import Derived.Lib.Hide
import Derived.Outline
import Derived.ShutString
import Derived.ChangeOld
import Derived.SizedLaws
import Derived.Laws.Rows
namespace Go.Proofs.Ytdkjipfemnfckaa
open Go.RowKit Plain
set_option linter.unusedVariables false
set_option maxRecDepth 100000

theorem and_ffff (m : Int) (h0 : 0 ≤ m) (h1 : m < 18446744073709551616) : bits .and .u64 m 65535 = m % 65536 := by
  go_bits2

theorem ret_int {k : IntKind} {a b : Int} (h : a = b) : Ending.returned (.int k a) = .returned (.int k b) := by rw [h]

theorem fold_any (n : Int) (w : World) (h0 : 0 ≤ n) (h1 : n < 18446744073709551616) :
    Calls Try.prog 82 #[.int .u64 n] w fun e w' => e = .returned (.int .u32 (F n)) ∧ w = w' := by
  go_enter Try.func82, Try.ntmps82
  go_wp2
  go_loop [0] (fun t => ∃ m : Int, t = .int .u64 m ∧ 0 ≤ m ∧ m < 18446744073709551616 ∧ F m = F n) (fun t => (intOf t).toNat)
  case atStart => exact ⟨n, rfl, h0, h1, rfl⟩
  case round =>
    obtain ⟨m, rfl, hm0, hm1, hf⟩ := hrel
    have Hf := Lib.hid hf
    clear hf
    by_cases hlt : 65535 < m
    · have e1 : IntKind.u64.wrap (m / 65536 + bits .and .u64 m 65535) = m / 65536 + m % 65536 := by
        rw [and_ffff m hm0 hm1, IntKind.wrap_u64]; omega
      have E1 := Lib.hid e1
      clear e1
      go_wp2
      go_round
      case rel => exact ⟨_, rfl, by rw [E1.out]; omega, by rw [E1.out]; omega, by rw [E1.out, F_step m hlt]; exact Hf.out⟩
      case measure => rw [E1.out]; simp only [intOf]; omega
    · go_wp2
      go_ret
      refine ⟨ret_int ?_, rfl⟩
      rw [← Hf.out, F_small m hm0 (by omega)]

theorem or_bytes (x y : Int) (h0 : 0 ≤ x) (h1 : x ≤ 255) (h2 : 0 ≤ y) (h3 : y ≤ 255) : bits .or .u64 (x * 256) y = x * 256 + y := by
  go_bits2

set_option maxHeartbeats 1000000 in
theorem more_any (n : Int) (A : Option Addr) (c : Nat) (zs : List Int) (w : World) (h0 : 0 ≤ n) (h1 : n < 4294967296) (hl : zs.length ≤ 1000000) (hR : Rd w A zs) :
    Calls Try.prog 69 #[.int .u32 n, .slice A zs.length c] w fun e w' => e = .returned (.int .u32 (F (n + tot zs))) ∧ ∃ q, w' = w.drewN q := by
  obtain ⟨hby, hcells⟩ := hR
  go_enter Try.func69, Try.ntmps69
  go_wp2
  go_loopw [5, 6] (fun t i wr => ∃ k q : Nat, k % 2 = 0 ∧ k ≤ zs.length ∧ i = .int .i64 k ∧ t = .int .u64 (n + tot (zs.take k)) ∧ wr = w.drewN q) (fun _ i _ => zs.length - (intOf i).toNat)
  case atStart => 
    exact ⟨0, 0, rfl, Nat.zero_le _, rfl, by simp [tot], rfl⟩
  case round =>
    obtain ⟨k, q, hk2, hk, rfl, rfl, rfl⟩ := hrel
    have t0 := tot_nonneg (zs.take k) (hby.take k)
    have t1 : tot (zs.take k) ≤ 65535000000 := by
      have := tot_le (zs.take k) (hby.take k)
      rw [List.length_take] at this
      omega
    by_cases hlt : k + 1 < zs.length
    · obtain ⟨b, off, rfl, hc⟩ := hcells (by omega)
      have c0 := hc k (by omega)
      have c1 := hc (k + 1) (by omega)
      have bx := hby.getD k
      have byy := hby.getD (k + 1)
      have ht := Lib.hid (tot_two zs k hk2 hlt)
      generalize zs.getD k 0 = x at *
      generalize zs.getD (k + 1) 0 = y at *
      have i0 : (k : Int) < (zs.length : Int) := by omega
      have i1 : (k : Int) + 1 < (zs.length : Int) := by omega
      clear hc hcells
      go_wp2
      go_quiet (fail)
      go_wp2
      go_roundw
      case rel =>
        refine ⟨k + 2, q + nq, by omega, by omega, by go_num, ?_, rfl⟩
        rw [ht.out, or_bytes x y bx.1 bx.2 byy.1 byy.2, IntKind.wrap_u64]
        congr 1
        omega
      case measure => simp [intOf]; omega
    · by_cases hodd : k + 1 = zs.length
      · obtain ⟨b, off, rfl, hc⟩ := hcells (by omega)
        have c0 := hc k (by omega)
        have bx := hby.getD k
        have ht := Lib.hid (tot_last zs k hk2 hodd)
        generalize zs.getD k 0 = x at *
        clear hc hcells
        have i1 : ((zs.length : Int) % 2 == 1) = true := by simp; omega
        have i2 : (zs.length : Int) - 1 = (k : Int) := by omega
        have i3 : ((zs.length : Int) - 1).toNat = k := by omega
        have i0 : (k : Int) < (zs.length : Int) := by omega
        go_wp2_with (go_at_call 82; refine (fold_any _ _ (by omega) (by omega)).mono ?_; rintro e w' ⟨rfl, rfl⟩)
        go_ret
        exact ⟨ret_int (by rw [ht.out, Int.add_assoc]), q, rfl⟩
      · have hkk : k = zs.length := by omega
        have ht := Lib.hid (show tot (zs.take k) = tot zs by rw [hkk, List.take_length])
        clear hkk
        have i1 : ((zs.length : Int) % 2 == 1) = false := by simp; omega
        go_wp2_with (go_at_call 82; refine (fold_any _ _ (by omega) (by omega)).mono ?_; rintro e w' ⟨rfl, rfl⟩)
        go_ret
        exact ⟨ret_int (by rw [ht.out]), q, rfl⟩

theorem xor_u16 (x : Int) (h0 : 0 ≤ x) (h1 : x ≤ 65535) : bits .xor .u16 IntKind.u16.max x = 65535 - x := by
  obtain ⟨a, rfl⟩ := Int.eq_ofNat_of_zero_le h0
  have ha : a < 65536 := by omega
  have e : IntKind.u16.max = ((65535 : Nat) : Int) := rfl
  rw [e, u16_xor_nat 65535 a (by omega) ha]
  have h : 65535 ^^^ a = 65535 - a := by
    have e1 : (65535 ^^^ a) = (BitVec.ofNat 16 a ^^^ BitVec.allOnes 16).toNat := by
      rw [BitVec.toNat_xor, BitVec.toNat_ofNat, Nat.mod_eq_of_lt ha, Nat.xor_comm]; rfl
    rw [e1, BitVec.xor_allOnes, BitVec.toNat_not, BitVec.toNat_ofNat, Nat.mod_eq_of_lt ha]
  rw [h]; omega

theorem done_any (n : Int) (w : World) (h0 : 0 ≤ n) (h1 : n < 4294967296) :
    Calls Try.prog 68 #[.int .u32 n] w fun e w' => e = .returned (.int .u16 (65535 - F n)) ∧ w = w' := by
  have fr := F_range n h0
  go_enter Try.func68, Try.ntmps68
  go_wp2_with (go_at_call 82; refine (fold_any _ _ (by omega) (by omega)).mono ?_; rintro e w' ⟨rfl, rfl⟩)
  go_ret
  exact ⟨ret_int (xor_u16 _ fr.1 fr.2), rfl⟩

theorem of_any (A : Option Addr) (c : Nat) (zs : List Int) (w : World) (hl : zs.length ≤ 1000000) (hR : Rd w A zs) :
    Calls Try.prog 48 #[.slice A zs.length c] w fun e w' => e = .returned (.int .u16 (65535 - F (tot zs))) ∧ ∃ q, w' = w.drewN q := by
  have t0 := tot_nonneg zs hR.1
  have fr := F_range _ t0
  have Hi := Lib.hid (F_idem _ t0)
  have HR := Lib.hid hR
  clear hR
  go_enter Try.func48, Try.ntmps48
  go_wp2_with fail
  refine (more_any 0 A c zs _ (by omega) (by omega) hl HR.out).mono ?_
  rintro e w' ⟨rfl, q, rfl⟩
  rw [Int.zero_add]
  go_wp2_with fail
  refine (done_any _ _ (by omega) (by omega)).mono ?_
  rintro e w' ⟨rfl, rfl⟩
  go_wp2
  go_ret
  exact ⟨ret_int (by rw [Hi.out]), q, rfl⟩

theorem fix_any (s o n : Int) (w : World) (s0 : 0 ≤ s) (s1 : s ≤ 65535) (o0 : 0 ≤ o) (o1 : o ≤ 65535) (n0 : 0 ≤ n) (n1 : n ≤ 65535) :
    Calls Try.prog 91 #[.int .u16 s, .int .u16 o, .int .u16 n] w fun e w' => e = .returned (.int .u16 (65535 - F (65535 - s + (65535 - o) + n))) ∧ w = w' := by
  have e1 := xor_u16 s s0 s1
  have e2 := xor_u16 o o0 o1
  go_enter Try.func91, Try.ntmps91
  go_wp2_with fail
  refine (done_any _ _ (by omega) (by omega)).mono ?_
  rintro e w' ⟨rfl, rfl⟩
  go_wp2
  go_ret
  exact ⟨ret_int (by rw [Int.emod_eq_of_lt (by omega) (by omega)]), rfl⟩

/-- what Fix tells -/
def Fx (s o n : Int) : Int := 65535 - F (65535 - s + (65535 - o) + n)
theorem Fx_range (s o n : Int) (s0 : 0 ≤ s) (s1 : s ≤ 65535) (o0 : 0 ≤ o) (o1 : o ≤ 65535) (n0 : 0 ≤ n) (n1 : n ≤ 65535) : 0 ≤ Fx s o n ∧ Fx s o n ≤ 65535 := by
  have := F_range (65535 - s + (65535 - o) + n) (by omega)
  unfold Fx; omega
theorem fix_fx (s o n : Int) (w : World) (s0 : 0 ≤ s) (s1 : s ≤ 65535) (o0 : 0 ≤ o) (o1 : o ≤ 65535) (n0 : 0 ≤ n) (n1 : n ≤ 65535) :
    Calls Try.prog 91 #[.int .u16 s, .int .u16 o, .int .u16 n] w fun e w' => e = .returned (.int .u16 (Fx s o n)) ∧ w = w' := fix_any s o n w s0 s1 o0 o1 n0 n1

theorem fixWide_any (s o n : Int) (w : World) (s0 : 0 ≤ s) (s1 : s ≤ 65535) (o0 : 0 ≤ o) (o1 : o < 4294967296) (n0 : 0 ≤ n) (n1 : n < 4294967296) :
    Calls Try.prog 86 #[.int .u16 s, .int .u32 o, .int .u32 n] w fun e w' => e = .returned (.int .u16 (Fx (Fx s (o / 65536) (n / 65536)) (o % 65536) (n % 65536))) ∧ w = w' := by
  have hr := Fx_range s (o / 65536) (n / 65536) s0 s1 (by omega) (by omega) (by omega) (by omega)
  go_enter Try.func86, Try.ntmps86
  go_wp2_with fail
  refine (fix_fx s (o / 65536) (n / 65536) _ s0 s1 (by omega) (by omega) (by omega) (by omega)).mono ?_
  rintro e w' ⟨rfl, rfl⟩
  go_wp2_with fail
  refine (fix_fx _ (o % 65536) (n % 65536) _ hr.1 hr.2 (by omega) (by omega) (by omega) (by omega)).mono ?_
  rintro e w' ⟨rfl, rfl⟩
  go_wp2
  go_ret
  exact ⟨rfl, rfl⟩

theorem refFold_any (n : Int) (w : World) (h0 : 0 ≤ n) (h1 : n < 9223372036854775808) :
    Calls Try.prog 80 #[.int .i64 n] w fun e w' => e = .returned (.int .i64 (F n)) ∧ w = w' := by
  go_enter Try.func80, Try.ntmps80
  go_wp2
  go_loop [0] (fun t => ∃ m : Int, t = .int .i64 m ∧ 0 ≤ m ∧ m < 9223372036854775808 ∧ F m = F n) (fun t => (intOf t).toNat)
  case atStart => exact ⟨n, rfl, h0, h1, rfl⟩
  case round =>
    obtain ⟨m, rfl, hm0, hm1, hf⟩ := hrel
    have Hf := Lib.hid hf
    clear hf
    by_cases hlt : 65535 < m
    · go_wp2
      go_round
      case rel => exact ⟨_, rfl, by omega, by omega, by rw [F_step m hlt]; exact Hf.out⟩
      case measure => simp only [intOf]; omega
    · go_wp2
      go_ret
      refine ⟨ret_int ?_, rfl⟩
      rw [← Hf.out, F_small m hm0 (by omega)]

set_option maxHeartbeats 1000000 in
theorem refSum_any (n : Int) (A : Option Addr) (c : Nat) (zs : List Int) (w : World) (h0 : 0 ≤ n) (h1 : n < 4294967296) (hl : zs.length ≤ 1000000) (hR : Rd w A zs) :
    Calls Try.prog 58 #[.int .i64 n, .slice A zs.length c] w fun e w' => e = .returned (.int .i64 (F (n + tot zs))) ∧ w = w' := by
  obtain ⟨hby, hcells⟩ := hR
  go_enter Try.func58, Try.ntmps58
  go_wp2_with fail
  refine (refFold_any n _ h0 (by omega)).mono ?_
  rintro e w' ⟨rfl, rfl⟩
  go_wp2
  go_loop [0, 5] (fun t i => ∃ k : Nat, k % 2 = 0 ∧ k ≤ zs.length + 1 ∧ i = .int .i64 k ∧ t = .int .i64 (F (n + tot (zs.take k)))) (fun _ i => zs.length + 1 - (intOf i).toNat)
  case atStart => exact ⟨0, rfl, Nat.zero_le _, rfl, by simp [tot]⟩
  case round =>
    obtain ⟨k, hk2, hk, rfl, rfl⟩ := hrel
    have t0 := tot_nonneg (zs.take k) (hby.take k)
    have fr := F_range (n + tot (zs.take k)) (by omega)
    by_cases hlt : k < zs.length
    · obtain ⟨b, off, rfl, hc⟩ := hcells (by omega)
      have c0 := hc k (by omega)
      have bx := hby.getD k
      have i0 : (k : Int) < (zs.length : Int) := by omega
      by_cases hlt1 : k + 1 < zs.length
      · have c1 := hc (k + 1) (by omega)
        have byy := hby.getD (k + 1)
        have ht := Lib.hid (tot_two zs k hk2 hlt1)
        generalize zs.getD k 0 = x at *
        generalize zs.getD (k + 1) 0 = y at *
        have i1 : (k : Int) + 1 < (zs.length : Int) := by omega
        clear hc hcells
        go_wp2_with (go_at_call 80; refine (refFold_any _ _ (by omega) (by omega)).mono ?_; rintro e w' ⟨rfl, rfl⟩)
        go_round
        case rel =>
          refine ⟨k + 2, by omega, by omega, by go_num, ?_⟩
          rw [ht.out, F_add _ _ (by omega) (by omega), Int.add_assoc]
        case measure => simp [intOf]; omega
      · have ht := Lib.hid (tot_last zs k hk2 (by omega))
        have ht2 := Lib.hid (show zs.take (k + 2) = zs from List.take_of_length_le (by omega))
        generalize zs.getD k 0 = x at *
        clear hc hcells
        go_wp2_with (go_at_call 80; refine (refFold_any _ _ (by omega) (by omega)).mono ?_; rintro e w' ⟨rfl, rfl⟩)
        go_round
        case rel =>
          refine ⟨k + 2, by omega, by omega, by go_num, ?_⟩
          rw [ht2.out, ht.out, F_add _ _ (by omega) (by omega), Int.add_assoc]
        case measure => simp [intOf]; omega
    · have ht := Lib.hid (show zs.take k = zs from List.take_of_length_le (by omega))
      go_wp2
      go_ret
      exact ⟨ret_int (by rw [ht.out]), rfl⟩

theorem refOf_any (A : Option Addr) (c : Nat) (zs : List Int) (w : World) (hl : zs.length ≤ 1000000) (hR : Rd w A zs) :
    Calls Try.prog 36 #[.slice A zs.length c] w fun e w' => e = .returned (.int .u16 (65535 - F (tot zs))) ∧ w = w' := by
  have t0 := tot_nonneg zs hR.1
  have fr := F_range _ t0
  have HR := Lib.hid hR
  clear hR
  go_enter Try.func36, Try.ntmps36
  go_wp2_with fail
  refine (refSum_any 0 A c zs _ (by omega) (by omega) hl HR.out).mono ?_
  rintro e w' ⟨rfl, rfl⟩
  rw [Int.zero_add]
  go_wp2
  go_ret
  exact ⟨rfl, rfl⟩

end Go.Proofs.Ytdkjipfemnfckaa

namespace Go.Proofs.Ytdkjipfemnfckaa
open Go.ChangeShapes Go.WideShapes Go.ChangeAt Go.RowKit
set_option linter.unusedVariables false
set_option maxRecDepth 100000

theorem own : ownKnob Try.prog.godebug = none := by kernel_rfl
theorem laidOut : laidOutB Try.prog = true := by kernel_rfl

theorem trodAll_below {H : Type} {enc : TypeId × Value → H} {W W' : World} (hb : Below W.heap.size W W') :
    ∀ (tys : List TypeId), (∀ t ∈ tys, Try.prog.readableRec t = true ∧ t < Try.prog.types.size) → ∀ (vs : List Value) (ds : List (DataW H)) (p : List MemPlace),
      DataW.TrodAll enc Try.prog W 0 (fun _ => true) true tys vs ds p → DataW.TrodAll enc Try.prog W' 0 (fun b => decide (b < W.heap.size)) true tys vs ds p
  | [], _, vs, ds, p, h => by
      obtain ⟨rfl, rfl, rfl⟩ := trodAll_nil h
      exact trodAll_mk0
  | t :: ts, hr, vs, ds, p, h => by
      obtain ⟨v, vs', d, ds', p', q', rfl, rfl, rfl, h0, r⟩ := trodAll_cons h
      have lt0 : ∀ x ∈ p', x.block < W.heap.size := by obtain ⟨m, hm⟩ := h0; exact DataW.trod_lt m _ _ _ hm
      exact trodAll_cons_mk (Below.trod laidOut (hr t (by simp)).1 (hr t (by simp)).2 h0 hb lt0) (trodAll_below hb ts (fun x hx => hr x (by simp [hx])) vs' ds' q' r)

/-- a law's post: it told true, and nothing that was there is written -/
theorem law_post {H : Type} {enc : TypeId × Value → H} {f : Func} {s : ChangeSpec} {W W' : World} {args : Array Value} {ds gs : List (DataW H)} {before : List MemPlace}
    (hv : s.vars = []) (ht : f.resultTypes = #[4]) (hr : ∀ t ∈ f.params.toList, Try.prog.readableRec t = true ∧ t < Try.prog.types.size)
    (hW : DataW.Whole enc Try.prog f.params.toList s.vars false W args.toList ds gs before)
    (h1 : (s.fn H (ds ++ gs)).results = [.lit (.bool true)]) (h2 : (s.fn H (ds ++ gs)).args = ds) (h3 : (s.fn H (ds ++ gs)).vars = []) (hb : Below W.heap.size W W') :
    s.post enc Try.prog f false true false false W args (.bool true) W' := by
  have hW' := hW
  obtain ⟨p, q, hA, hV, rfl, hfz, hnd⟩ := hW
  refine ⟨ds, gs, p ++ q, [], p, [], hW', ?_, ?_, ?_, hb.frame _, fun h => by cases h⟩
  · rw [h1, ht]; exact trodAll_mk1 (shut_bool Try.underlying4 _)
  · rw [h2]; exact trodAll_below hb _ hr _ _ _ hA
  · rw [h3, hv]; rfl

/-- a slice of bytes that came in: its elements -/
theorem open_bytes {H : Type} {enc : TypeId × Value → H} {W : World} {a : Option Addr} {len cap : Nat} {d : DataW H} {p : List MemPlace} (h : DataW.Trod enc Try.prog W 0 (fun _ => true) true 24 (.slice a len cap) d p) :
    ∃ zs : List Int, zs.length = len ∧ len ≤ cap ∧ cap ≤ maxLen ∧ (∀ x ∈ zs, 0 ≤ x ∧ x ≤ 255) ∧
      (0 < len → ∃ b off, a = some ⟨b, off, none⟩ ∧ b < W.heap.size ∧ ∀ k, k < len → W.cell? ⟨b, off + k, none⟩ = some (.int .u8 (zs.getD k 0))) := by
  obtain ⟨fuel, hf⟩ := h
  rcases open_ints Try.underlying24 Try.underlying5 (by kernel_rfl) hf with ⟨hcs, _⟩ | ⟨x, l, c, zs, hcs, _, hl, hm, hz, _, hcell, hwz⟩
  · simp [Value.cells] at hcs
    obtain ⟨rfl, rfl, rfl⟩ := hcs
    exact ⟨[], rfl, Nat.le_refl _, Nat.zero_le _, by simp, fun h => absurd h (by omega)⟩
  · simp [Value.cells] at hcs
    obtain ⟨rfl, rfl, rfl⟩ := hcs
    have hz' : zs.length = cap := by simpa using hz
    refine ⟨zs.take len, by rw [List.length_take]; omega, hl, hm, ?_, ?_⟩
    · intro y hy
      have := hwz y (List.mem_of_mem_take hy)
      simpa [Lit.wf, IntKind.min, IntKind.max, IntKind.signed, IntKind.bits] using this
    · intro hpos
      obtain ⟨b, off, spot⟩ := x
      have hc := hcell 0 (by omega)
      have hspot : spot = none := by simpa [Addr.add] using World.cell?_spot hc
      subst hspot
      refine ⟨b, off, rfl, ?_, ?_⟩
      · have hc0 : W.cell? ⟨b, off, none⟩ = some (.int .u8 (zs.getD 0 0)) := by simpa [Addr.add] using hc
        exact block_lt_of_cell hc0
      · intro k hk
        have h1 := hcell k (by omega)
        have e : (zs.take len).getD k 0 = zs.getD k 0 := by
          simp [List.getD, hk]
        rw [e, ← h1]
        rcases Nat.eq_zero_or_pos k with rfl | hk0
        · simp [Addr.add]
        · simp [Addr.add, Nat.pos_iff_ne_zero.1 hk0]

theorem okWide_array {P : Program} {w : World} {r : Reach} {base : Nat} {t : TypeId} {v : Value} {n : Nat} {e : TypeId} (ht : P.underlying t = some (.array n e)) (h : Value.okWide P w r base t v) : ∃ cs, v = .agg cs ∧ cs.size = P.cellsOf t := by
  simp only [Value.okWide, ht] at h
  obtain ⟨cs, h1, h2, _⟩ := h
  exact ⟨cs, h1, h2⟩

/-- an array of integers that came in by value -/
theorem open_arr {H : Type} {enc : TypeId × Value → H} {W : World} {r : Reach} {b0 : Nat} {t e : TypeId} {n : Nat} {k : IntKind} {v : Value} {d : DataW H} {p : List MemPlace}
    (ht : Try.prog.underlying t = some (.array n e)) (he : Try.prog.underlying e = some (.int k)) (hce : Try.prog.cellsOf e = 1) (hC : Try.prog.cellsOf t = n)
    (hv : Value.okWide Try.prog W r b0 t v) (h : DataW.Trod enc Try.prog W 0 (fun _ => true) true t v d p) :
    ∃ xs : List Int, xs.length = n ∧ v = .agg (xs.map (Value.int k)).toArray ∧ ∀ x ∈ xs, (Lit.int k x).wf = true := by
  obtain ⟨cs, rfl, hsz⟩ := okWide_array ht hv
  obtain ⟨l⟩ := cs
  obtain ⟨fuel, hf⟩ := h
  obtain ⟨ys, m, _, hx, hlen, hyl, hg⟩ := DataW.trod_array ht hf
  rw [hC] at hsz
  have hl : l.length = n := by simpa using hsz
  have key : ∀ i (hi : i < l.length), ∃ x, l[i] = .int k x ∧ (Lit.int k x).wf = true := by
    intro i hi
    have h1 := hg i (by omega)
    rw [hce, Nat.mul_one, List.getElem?_eq_getElem (by omega)] at h1
    obtain ⟨x, hc, _, hw⟩ := DataW.trod_int he h1
    refine ⟨x, ?_, hw⟩
    have h2 : (Value.agg l.toArray).cells.toList = l := by simp [Value.cells]
    rw [h2, List.drop_eq_getElem_cons hi, List.take_succ_cons, List.take_zero] at hc
    injection hc
  refine ⟨l.map intOf, by simpa using hl, ?_, ?_⟩
  · congr 1
    congr 1
    rw [List.map_map]
    refine (List.ext_getElem (by simp) fun i h1 h2 => ?_)
    obtain ⟨x, hx, _⟩ := key i h1
    simp only [List.getElem_map, Function.comp, hx, intOf]
  · intro x hx
    obtain ⟨y, hy, rfl⟩ := List.mem_map.1 hx
    obtain ⟨i, hi, rfl⟩ := List.mem_iff_getElem.1 hy
    obtain ⟨x, hx, hw⟩ := key i hi
    rw [hx]
    exact hw

theorem open_arr3 {H : Type} {enc : TypeId × Value → H} {W : World} {r : Reach} {b0 : Nat} {t e : TypeId} {k : IntKind} {v : Value} {d : DataW H} {p : List MemPlace}
    (ht : Try.prog.underlying t = some (.array 3 e)) (he : Try.prog.underlying e = some (.int k)) (hce : Try.prog.cellsOf e = 1) (hC : Try.prog.cellsOf t = 3)
    (hv : Value.okWide Try.prog W r b0 t v) (h : DataW.Trod enc Try.prog W 0 (fun _ => true) true t v d p) :
    ∃ a b c : Int, v = .agg #[.int k a, .int k b, .int k c] ∧ (Lit.int k a).wf = true ∧ (Lit.int k b).wf = true ∧ (Lit.int k c).wf = true := by
  obtain ⟨xs, hl, rfl, hwf⟩ := open_arr ht he hce hC hv h
  match xs, hl with
  | [a, b, c], _ => exact ⟨a, b, c, rfl, hwf a (by simp), hwf b (by simp), hwf c (by simp)⟩
theorem open_arr2 {H : Type} {enc : TypeId × Value → H} {W : World} {r : Reach} {b0 : Nat} {t e : TypeId} {k : IntKind} {v : Value} {d : DataW H} {p : List MemPlace}
    (ht : Try.prog.underlying t = some (.array 2 e)) (he : Try.prog.underlying e = some (.int k)) (hce : Try.prog.cellsOf e = 1) (hC : Try.prog.cellsOf t = 2)
    (hv : Value.okWide Try.prog W r b0 t v) (h : DataW.Trod enc Try.prog W 0 (fun _ => true) true t v d p) :
    ∃ a b : Int, v = .agg #[.int k a, .int k b] ∧ (Lit.int k a).wf = true ∧ (Lit.int k b).wf = true := by
  obtain ⟨xs, hl, rfl, hwf⟩ := open_arr ht he hce hC hv h
  match xs, hl with
  | [a, b], _ => exact ⟨a, b, rfl, hwf a (by simp), hwf b (by simp)⟩
end Go.Proofs.Ytdkjipfemnfckaa

namespace Go.Proofs.Ytdkjipfemnfckaa
open Go.RowKit Plain
set_option linter.unusedVariables false
set_option maxRecDepth 100000

/-- the checksum of bytes -/
def Cs (zs : List Int) : Int := 65535 - F (tot zs)
theorem Cs_range (zs : List Int) (h : By zs) : 0 ≤ Cs zs ∧ Cs zs ≤ 65535 := by
  have := F_range _ (tot_nonneg zs h)
  unfold Cs; omega

theorem of_n (A : Option Addr) (n c : Nat) (zs : List Int) (w : World) (hn : zs.length = n) (hl : n ≤ 1000000) (hR : Rd w A zs) :
    Calls Try.prog 48 #[.slice A n c] w fun e w' => e = .returned (.int .u16 (Cs zs)) ∧ ∃ q, w' = w.drewN q := by
  subst hn; exact of_any A c zs w hl hR
theorem more_n (s : Int) (A : Option Addr) (n c : Nat) (zs : List Int) (w : World) (h0 : 0 ≤ s) (h1 : s < 4294967296) (hn : zs.length = n) (hl : n ≤ 1000000) (hR : Rd w A zs) :
    Calls Try.prog 69 #[.int .u32 s, .slice A n c] w fun e w' => e = .returned (.int .u32 (F (s + tot zs))) ∧ ∃ q, w' = w.drewN q := by
  subst hn; exact more_any s A c zs w h0 h1 hl hR
theorem refOf_n (A : Option Addr) (n c : Nat) (zs : List Int) (w : World) (hn : zs.length = n) (hl : n ≤ 1000000) (hR : Rd w A zs) :
    Calls Try.prog 36 #[.slice A n c] w fun e w' => e = .returned (.int .u16 (Cs zs)) ∧ w = w' := by
  subst hn; exact refOf_any A c zs w hl hR
theorem refSum_n (s : Int) (A : Option Addr) (n c : Nat) (zs : List Int) (w : World) (h0 : 0 ≤ s) (h1 : s < 4294967296) (hn : zs.length = n) (hl : n ≤ 1000000) (hR : Rd w A zs) :
    Calls Try.prog 58 #[.int .i64 s, .slice A n c] w fun e w' => e = .returned (.int .i64 (F (s + tot zs))) ∧ w = w' := by
  subst hn; exact refSum_any s A c zs w h0 h1 hl hR
end Go.Proofs.Ytdkjipfemnfckaa
