/-
  Several small texts in one: Sum, SumN, Cut, RegS. Conditions stand in each theorem.
-/
import Derived.Test.YtbnlpidhbilenaaRows
import Derived.Test.YtbnlpidhbilenaaGA
import Derived.WalkKit
import Derived.ProofKit
import Derived.OpenShut
import Derived.Below
import Derived.Laws.BitsAll
import Derived.Deep.QuietTactic
import Derived.BigQuiet
import Derived.Lib.Hide
import Derived.Outline
import Derived.Test.YtbnlpidhbilenaaGB
import Derived.Laws.BytesArg
import Derived.Deep.RegionHeld3
import Derived.Deep.DeepCutAuto
import Derived.RegionTactic
namespace Go.Proofs.Ytbnlpidhbilenaa
open Go.RowKit Plain
set_option linter.unusedVariables false
set_option maxRecDepth 100000

theorem and_ffff (m : Int) (h0 : 0 ≤ m) (h1 : m < 18446744073709551616) : bits .and .u64 m 65535 = m % 65536 := by
  go_bits2

theorem ret_int {k : IntKind} {a b : Int} (h : a = b) : Ending.returned (.int k a) = .returned (.int k b) := by rw [h]

theorem fold_any (n : Int) (w : World) (h0 : 0 ≤ n) (h1 : n < 18446744073709551616) :
    Calls Try.prog 103 #[.int .u64 n] w fun e w' => e = .returned (.int .u32 (F n)) ∧ w = w' := by
  go_enter Try.func103, Try.ntmps103
  go_wp2
  go_loop [0] (fun t => ∃ m : Int, t = .int .u64 m ∧ 0 ≤ m ∧ m < 18446744073709551616 ∧ F m = F n) (fun t => (intOf t).toNat)
  case atStart => exact ⟨n, rfl, h0, h1, rfl⟩
  case round =>
    obtain ⟨m, rfl, hm0, hm1, hf⟩ := hrel
    have Hf := Lib.hid hf
    clear hf
    by_cases hlt : 65535 < m
    · have e1 : IntKind.u64.wrap (m / 65536 + bits .and .u64 m 65535) = m / 65536 + m % 65536 := by
        rw [and_ffff m hm0 hm1, IntKind.wrap_u64]; omega
      have E1 := Lib.hid e1
      clear e1
      go_wp2
      go_round
      case rel => exact ⟨_, rfl, by rw [E1.out]; omega, by rw [E1.out]; omega, by rw [E1.out, F_step m hlt]; exact Hf.out⟩
      case measure => rw [E1.out]; simp only [intOf]; omega
    · go_wp2
      go_ret
      refine ⟨ret_int ?_, rfl⟩
      rw [← Hf.out, F_small m hm0 (by omega)]

theorem or_bytes (x y : Int) (h0 : 0 ≤ x) (h1 : x ≤ 255) (h2 : 0 ≤ y) (h3 : y ≤ 255) : bits .or .u64 (x * 256) y = x * 256 + y := by
  go_bits2

set_option maxHeartbeats 1000000 in
theorem more_any (n : Int) (A : Option Addr) (c : Nat) (zs : List Int) (w : World) (h0 : 0 ≤ n) (h1 : n < 4294967296) (hl : zs.length ≤ 1000000) (hR : Rd w A zs) :
    Calls Try.prog 89 #[.int .u32 n, .slice A zs.length c] w fun e w' => e = .returned (.int .u32 (F (n + tot zs))) ∧ ∃ q, w' = w.drewN q := by
  obtain ⟨hby, hcells⟩ := hR
  go_enter Try.func89, Try.ntmps89
  go_wp2
  go_loopw [5, 6] (fun t i wr => ∃ k q : Nat, k % 2 = 0 ∧ k ≤ zs.length ∧ i = .int .i64 k ∧ t = .int .u64 (n + tot (zs.take k)) ∧ wr = w.drewN q) (fun _ i _ => zs.length - (intOf i).toNat)
  case atStart => 
    exact ⟨0, 0, rfl, Nat.zero_le _, rfl, by simp [tot], rfl⟩
  case round =>
    obtain ⟨k, q, hk2, hk, rfl, rfl, rfl⟩ := hrel
    have t0 := tot_nonneg (zs.take k) (hby.take k)
    have t1 : tot (zs.take k) ≤ 65535000000 := by
      have := tot_le (zs.take k) (hby.take k)
      rw [List.length_take] at this
      omega
    by_cases hlt : k + 1 < zs.length
    · obtain ⟨b, off, rfl, hc⟩ := hcells (by omega)
      have c0 := hc k (by omega)
      have c1 := hc (k + 1) (by omega)
      have bx := hby.getD k
      have byy := hby.getD (k + 1)
      have ht := Lib.hid (tot_two zs k hk2 hlt)
      generalize zs.getD k 0 = x at *
      generalize zs.getD (k + 1) 0 = y at *
      have i0 : (k : Int) < (zs.length : Int) := by omega
      have i1 : (k : Int) + 1 < (zs.length : Int) := by omega
      clear hc hcells
      go_wp2
      go_quiet (fail)
      go_wp2
      go_roundw
      case rel =>
        refine ⟨k + 2, q + nq, by omega, by omega, by go_num, ?_, rfl⟩
        rw [ht.out, or_bytes x y bx.1 bx.2 byy.1 byy.2, IntKind.wrap_u64]
        congr 1
        omega
      case measure => simp [intOf]; omega
    · by_cases hodd : k + 1 = zs.length
      · obtain ⟨b, off, rfl, hc⟩ := hcells (by omega)
        have c0 := hc k (by omega)
        have bx := hby.getD k
        have ht := Lib.hid (tot_last zs k hk2 hodd)
        generalize zs.getD k 0 = x at *
        clear hc hcells
        have i1 : ((zs.length : Int) % 2 == 1) = true := by simp; omega
        have i2 : (zs.length : Int) - 1 = (k : Int) := by omega
        have i3 : ((zs.length : Int) - 1).toNat = k := by omega
        have i0 : (k : Int) < (zs.length : Int) := by omega
        go_wp2_with (go_at_call 103; refine (fold_any _ _ (by omega) (by omega)).mono ?_; rintro e w' ⟨rfl, rfl⟩)
        go_ret
        exact ⟨ret_int (by rw [ht.out, Int.add_assoc]), q, rfl⟩
      · have hkk : k = zs.length := by omega
        have ht := Lib.hid (show tot (zs.take k) = tot zs by rw [hkk, List.take_length])
        clear hkk
        have i1 : ((zs.length : Int) % 2 == 1) = false := by simp; omega
        go_wp2_with (go_at_call 103; refine (fold_any _ _ (by omega) (by omega)).mono ?_; rintro e w' ⟨rfl, rfl⟩)
        go_ret
        exact ⟨ret_int (by rw [ht.out]), q, rfl⟩

theorem xor_u16 (x : Int) (h0 : 0 ≤ x) (h1 : x ≤ 65535) : bits .xor .u16 IntKind.u16.max x = 65535 - x := by
  obtain ⟨a, rfl⟩ := Int.eq_ofNat_of_zero_le h0
  have ha : a < 65536 := by omega
  have e : IntKind.u16.max = ((65535 : Nat) : Int) := rfl
  rw [e, u16_xor_nat 65535 a (by omega) ha]
  have h : 65535 ^^^ a = 65535 - a := by
    have e1 : (65535 ^^^ a) = (BitVec.ofNat 16 a ^^^ BitVec.allOnes 16).toNat := by
      rw [BitVec.toNat_xor, BitVec.toNat_ofNat, Nat.mod_eq_of_lt ha, Nat.xor_comm]; rfl
    rw [e1, BitVec.xor_allOnes, BitVec.toNat_not, BitVec.toNat_ofNat, Nat.mod_eq_of_lt ha]
  rw [h]; omega

theorem done_any (n : Int) (w : World) (h0 : 0 ≤ n) (h1 : n < 4294967296) :
    Calls Try.prog 88 #[.int .u32 n] w fun e w' => e = .returned (.int .u16 (65535 - F n)) ∧ w = w' := by
  have fr := F_range n h0
  go_enter Try.func88, Try.ntmps88
  go_wp2_with (go_at_call 103; refine (fold_any _ _ (by omega) (by omega)).mono ?_; rintro e w' ⟨rfl, rfl⟩)
  go_ret
  exact ⟨ret_int (xor_u16 _ fr.1 fr.2), rfl⟩

theorem of_any (A : Option Addr) (c : Nat) (zs : List Int) (w : World) (hl : zs.length ≤ 1000000) (hR : Rd w A zs) :
    Calls Try.prog 64 #[.slice A zs.length c] w fun e w' => e = .returned (.int .u16 (65535 - F (tot zs))) ∧ ∃ q, w' = w.drewN q := by
  have t0 := tot_nonneg zs hR.1
  have fr := F_range _ t0
  have Hi := Lib.hid (F_idem _ t0)
  have HR := Lib.hid hR
  clear hR
  go_enter Try.func64, Try.ntmps64
  go_wp2_with fail
  refine (more_any 0 A c zs _ (by omega) (by omega) hl HR.out).mono ?_
  rintro e w' ⟨rfl, q, rfl⟩
  rw [Int.zero_add]
  go_wp2_with fail
  refine (done_any _ _ (by omega) (by omega)).mono ?_
  rintro e w' ⟨rfl, rfl⟩
  go_wp2
  go_ret
  exact ⟨ret_int (by rw [Hi.out]), q, rfl⟩


/-- what Fix tells -/
def Fx (s o n : Int) : Int := 65535 - F (65535 - s + (65535 - o) + n)
theorem Fx_range (s o n : Int) (s0 : 0 ≤ s) (s1 : s ≤ 65535) (o0 : 0 ≤ o) (o1 : o ≤ 65535) (n0 : 0 ≤ n) (n1 : n ≤ 65535) : 0 ≤ Fx s o n ∧ Fx s o n ≤ 65535 := by
  have := F_range (65535 - s + (65535 - o) + n) (by omega)
  unfold Fx; omega


theorem refFold_any (n : Int) (w : World) (h0 : 0 ≤ n) (h1 : n < 9223372036854775808) :
    Calls Try.prog 95 #[.int .i64 n] w fun e w' => e = .returned (.int .i64 (F n)) ∧ w = w' := by
  go_enter Try.func95, Try.ntmps95
  go_wp2
  go_loop [0] (fun t => ∃ m : Int, t = .int .i64 m ∧ 0 ≤ m ∧ m < 9223372036854775808 ∧ F m = F n) (fun t => (intOf t).toNat)
  case atStart => exact ⟨n, rfl, h0, h1, rfl⟩
  case round =>
    obtain ⟨m, rfl, hm0, hm1, hf⟩ := hrel
    have Hf := Lib.hid hf
    clear hf
    by_cases hlt : 65535 < m
    · go_wp2
      go_round
      case rel => exact ⟨_, rfl, by omega, by omega, by rw [F_step m hlt]; exact Hf.out⟩
      case measure => simp only [intOf]; omega
    · go_wp2
      go_ret
      refine ⟨ret_int ?_, rfl⟩
      rw [← Hf.out, F_small m hm0 (by omega)]

set_option maxHeartbeats 1000000 in
theorem refSum_any (n : Int) (A : Option Addr) (c : Nat) (zs : List Int) (w : World) (h0 : 0 ≤ n) (h1 : n < 4294967296) (hl : zs.length ≤ 1000000) (hR : Rd w A zs) :
    Calls Try.prog 73 #[.int .i64 n, .slice A zs.length c] w fun e w' => e = .returned (.int .i64 (F (n + tot zs))) ∧ w = w' := by
  obtain ⟨hby, hcells⟩ := hR
  go_enter Try.func73, Try.ntmps73
  go_wp2_with fail
  refine (refFold_any n _ h0 (by omega)).mono ?_
  rintro e w' ⟨rfl, rfl⟩
  go_wp2
  go_loop [0, 5] (fun t i => ∃ k : Nat, k % 2 = 0 ∧ k ≤ zs.length + 1 ∧ i = .int .i64 k ∧ t = .int .i64 (F (n + tot (zs.take k)))) (fun _ i => zs.length + 1 - (intOf i).toNat)
  case atStart => exact ⟨0, rfl, Nat.zero_le _, rfl, by simp [tot]⟩
  case round =>
    obtain ⟨k, hk2, hk, rfl, rfl⟩ := hrel
    have t0 := tot_nonneg (zs.take k) (hby.take k)
    have fr := F_range (n + tot (zs.take k)) (by omega)
    by_cases hlt : k < zs.length
    · obtain ⟨b, off, rfl, hc⟩ := hcells (by omega)
      have c0 := hc k (by omega)
      have bx := hby.getD k
      have i0 : (k : Int) < (zs.length : Int) := by omega
      by_cases hlt1 : k + 1 < zs.length
      · have c1 := hc (k + 1) (by omega)
        have byy := hby.getD (k + 1)
        have ht := Lib.hid (tot_two zs k hk2 hlt1)
        generalize zs.getD k 0 = x at *
        generalize zs.getD (k + 1) 0 = y at *
        have i1 : (k : Int) + 1 < (zs.length : Int) := by omega
        clear hc hcells
        go_wp2_with (go_at_call 95; refine (refFold_any _ _ (by omega) (by omega)).mono ?_; rintro e w' ⟨rfl, rfl⟩)
        go_round
        case rel =>
          refine ⟨k + 2, by omega, by omega, by go_num, ?_⟩
          rw [ht.out, F_add _ _ (by omega) (by omega), Int.add_assoc]
        case measure => simp [intOf]; omega
      · have ht := Lib.hid (tot_last zs k hk2 (by omega))
        have ht2 := Lib.hid (show zs.take (k + 2) = zs from List.take_of_length_le (by omega))
        generalize zs.getD k 0 = x at *
        clear hc hcells
        go_wp2_with (go_at_call 95; refine (refFold_any _ _ (by omega) (by omega)).mono ?_; rintro e w' ⟨rfl, rfl⟩)
        go_round
        case rel =>
          refine ⟨k + 2, by omega, by omega, by go_num, ?_⟩
          rw [ht2.out, ht.out, F_add _ _ (by omega) (by omega), Int.add_assoc]
        case measure => simp [intOf]; omega
    · have ht := Lib.hid (show zs.take k = zs from List.take_of_length_le (by omega))
      go_wp2
      go_ret
      exact ⟨ret_int (by rw [ht.out]), rfl⟩

theorem refOf_any (A : Option Addr) (c : Nat) (zs : List Int) (w : World) (hl : zs.length ≤ 1000000) (hR : Rd w A zs) :
    Calls Try.prog 55 #[.slice A zs.length c] w fun e w' => e = .returned (.int .u16 (65535 - F (tot zs))) ∧ w = w' := by
  have t0 := tot_nonneg zs hR.1
  have fr := F_range _ t0
  have HR := Lib.hid hR
  clear hR
  go_enter Try.func55, Try.ntmps55
  go_wp2_with fail
  refine (refSum_any 0 A c zs _ (by omega) (by omega) hl HR.out).mono ?_
  rintro e w' ⟨rfl, rfl⟩
  rw [Int.zero_add]
  go_wp2
  go_ret
  exact ⟨rfl, rfl⟩

end Go.Proofs.Ytbnlpidhbilenaa

namespace Go.Proofs.Ytbnlpidhbilenaa
open Go.RowKit Plain
set_option linter.unusedVariables false
set_option maxRecDepth 100000

/-- the checksum of bytes -/
def Cs (zs : List Int) : Int := 65535 - F (tot zs)
theorem Cs_range (zs : List Int) (h : By zs) : 0 ≤ Cs zs ∧ Cs zs ≤ 65535 := by
  have := F_range _ (tot_nonneg zs h)
  unfold Cs; omega

theorem of_n (A : Option Addr) (n c : Nat) (zs : List Int) (w : World) (hn : zs.length = n) (hl : n ≤ 1000000) (hR : Rd w A zs) :
    Calls Try.prog 64 #[.slice A n c] w fun e w' => e = .returned (.int .u16 (Cs zs)) ∧ ∃ q, w' = w.drewN q := by
  subst hn; exact of_any A c zs w hl hR
theorem more_n (s : Int) (A : Option Addr) (n c : Nat) (zs : List Int) (w : World) (h0 : 0 ≤ s) (h1 : s < 4294967296) (hn : zs.length = n) (hl : n ≤ 1000000) (hR : Rd w A zs) :
    Calls Try.prog 89 #[.int .u32 s, .slice A n c] w fun e w' => e = .returned (.int .u32 (F (s + tot zs))) ∧ ∃ q, w' = w.drewN q := by
  subst hn; exact more_any s A c zs w h0 h1 hl hR
theorem refOf_n (A : Option Addr) (n c : Nat) (zs : List Int) (w : World) (hn : zs.length = n) (hl : n ≤ 1000000) (hR : Rd w A zs) :
    Calls Try.prog 55 #[.slice A n c] w fun e w' => e = .returned (.int .u16 (Cs zs)) ∧ w = w' := by
  subst hn; exact refOf_any A c zs w hl hR
theorem refSum_n (s : Int) (A : Option Addr) (n c : Nat) (zs : List Int) (w : World) (h0 : 0 ≤ s) (h1 : s < 4294967296) (hn : zs.length = n) (hl : n ≤ 1000000) (hR : Rd w A zs) :
    Calls Try.prog 73 #[.int .i64 s, .slice A n c] w fun e w' => e = .returned (.int .i64 (F (s + tot zs))) ∧ w = w' := by
  subst hn; exact refSum_any s A c zs w h0 h1 hl hR
end Go.Proofs.Ytbnlpidhbilenaa

namespace Go.Proofs.Ytbnlpidhbilenaa
open Go.RowKit Plain
set_option linter.unusedVariables false
set_option maxRecDepth 100000

theorem run_str (W : World) (A : Option Addr) (n c : Nat) (zs : List Int) (hn : zs.length = n) (hR : Rd W A zs) :
    (convert 27 9 (.slice A n c)).run Try.prog W = .ok (.string (strOfNums zs)) W := by
  rcases Nat.eq_zero_or_pos n with h0 | h0
  · subst h0
    have hz : zs = [] := List.eq_nil_of_length_eq_zero hn
    subst hz
    rcases A with _ | ⟨b, off, sp⟩
    · exact run_convert_bytes_nil W 27 5 Try.underlying27 Try.underlying5 0 c 9 Try.underlying9
    · rw [run_convert_bytes_string W 27 9 5 _ 0 c Try.underlying27 Try.underlying5 Try.underlying9]
      have hl : (loadCells ⟨b, off, sp⟩ 0).run Try.prog W = .ok ([].map (Value.int .u8)).toArray W := by
        simpa using run_loadCells_list (P := Try.prog) W ⟨b, off, sp⟩ [] (fun j v hj => by simp at hj)
      rw [run_bytesToString W _ 0 c [] hl]
      rfl
  · obtain ⟨b, off, rfl, hc⟩ := hR.2 (by omega)
    exact run_convert_bytes_arg W 27 5 Try.underlying27 Try.underlying5 b off n c zs hn (fun i hi => hc i (by omega)) 9 Try.underlying9

/-- a number that any int picks below m -/
theorem pick_any (bit m : Int) (h0 : 0 < m) (h1 : m < 4611686018427387904) : ∃ K : Nat, wrap64 ((IntKind.u64.wrap bit).tmod m) = (K : Int) ∧ (K : Int) < m := by
  have e : IntKind.u64.wrap bit = bit % 18446744073709551616 := IntKind.wrap_u64 bit
  have n0 : 0 ≤ bit % 18446744073709551616 := by omega
  have e2 : (bit % 18446744073709551616).tmod m = bit % 18446744073709551616 % m := Int.tmod_eq_emod_of_nonneg n0
  have l0 := Int.emod_nonneg (bit % 18446744073709551616) (show m ≠ 0 by omega)
  have l1 := Int.emod_lt_of_pos (bit % 18446744073709551616) h0
  rw [e, e2]
  generalize bit % 18446744073709551616 % m = x at *
  refine ⟨x.toNat, ?_, by omega⟩
  unfold wrap64; omega

theorem turned_bits (x : Int) (K : Nat) (h0 : 0 ≤ x) (h1 : x ≤ 255) : Turned x (bits .xor .u8 x (2 ^ (K % 8) % 256)) := by
  obtain ⟨a, rfl⟩ := Int.eq_ofNat_of_zero_le h0
  have hj : K % 8 < 8 := by omega
  generalize K % 8 = j at hj ⊢
  have e : ((2 : Int) ^ j % 256) = ((2 ^ j : Nat) : Int) := by
    have : ∀ j, j < 8 → ((2 : Int) ^ j % 256) = ((2 ^ j : Nat) : Int) := by decide
    exact this j hj
  have h2 : 2 ^ j < 256 := by
    have : ∀ j, j < 8 → 2 ^ j < 256 := by decide
    exact this j hj
  rw [e, u8_xor_nat a (2 ^ j) (by omega) h2]
  exact turned a j (by omega) hj
end Go.Proofs.Ytbnlpidhbilenaa

namespace Go.Proofs.Ytbnlpidhbilenaa
open Go.RowKit Plain
set_option linter.unusedVariables false
set_option maxRecDepth 100000

theorem wpAnyH_mono {P : Program} {md : Region.Mode} {ops : Array Oper} {Q : Exit → Act → World → Prop} {S S' : World → Prop} (hSS : ∀ w, S' w → S w) :
    ∀ (fuel : Nat) (listed : Array Bool) (a : Act) (w : World), wpAnyH P md ops Q S' fuel listed a w → wpAnyH P md ops Q S fuel listed a w
  | 0, _, _, _, h => h
  | fuel + 1, _, _, _, h => ⟨h.1, fun i hi => wpOp_mono (fun a' w' h' => ⟨hSS _ h'.1, wpAnyH_mono hSS fuel _ a' w' h'.2⟩) (h.2 i hi)⟩

/-- S, and bytes that somebody told -/
structure SO (S : World → Prop) (A : Option Addr) (n c : Nat) (zs : List Int) (W : World) : Prop where
  s : S W
  o : Own W 0 A n c zs
theorem SO.str {S : World → Prop} {A : Option Addr} {n c : Nat} {zs : List Int} : ∀ W, SO S A n c zs W → (convert 27 9 (.slice A n c)).run Try.prog W = .ok (.string (strOfNums zs)) W :=
  fun W h => run_str W A n c zs h.o.len h.o.rd
/-- an operation of a region without a draw whose value is known -/
theorem wpList_val {P : Program} {ops : Array Oper} {Q : Exit → Act → World → Prop} {a : Act} {w : World} {rest : List Oper} {o : Oper} {v : Value}
    (hw : Region.wanted o (yielded ops a.tmps) = true) (hv : (execOp a.eval o).run P w = .ok (.value v) w) (h : wpList P ops Q rest (a.put o.dst v) w) : wpList P ops Q (o :: rest) a w := by
  unfold wpList
  rw [if_pos hw]
  refine .inl ?_
  unfold Oper.wp
  rw [hv]
  exact h
/-- an operation of a region without a draw that is not wanted -/
theorem wpList_no {P : Program} {ops : Array Oper} {Q : Exit → Act → World → Prop} {a : Act} {w : World} {rest : List Oper} {o : Oper}
    (hw : (!Region.wanted o (yielded ops a.tmps)) = true) (h : wpList P ops Q rest (a.put o.dst undef) w) : wpList P ops Q (o :: rest) a w := by
  unfold wpList
  rw [if_neg (by simpa using hw)]
  exact h
/-- the walk stands still ahead of the operation that fills slot k -/
theorem wpList_hold {P : Program} {ops : Array Oper} {Q : Exit → Act → World → Prop} {a : Act} {w : World} {rest : List Oper} {op : Op} {type : TypeId} {pos : String} {after : Array Edge} {gd : Option (Nat × Bool)} (k : Nat)
    (h : Hid (wpList P ops Q (⟨some k, op, type, pos, after, gd⟩ :: rest) a w)) : wpList P ops Q (⟨some k, op, type, pos, after, gd⟩ :: rest) a w := h.out
end Go.Proofs.Ytbnlpidhbilenaa
