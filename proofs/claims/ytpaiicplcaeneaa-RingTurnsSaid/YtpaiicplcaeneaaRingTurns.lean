/-
  RingTurns: by whatever turns, the ring does as the document's does. Conditions stand in each theorem.
-/
import Derived.Test.YtpaiicplcaeneaaRj4
import Derived.Test.YtpaiicplcaeneaaRoO
import Derived.Deep.CutBlock
namespace Go.Proofs.Ytpaiicplcaeneaa
open Go.ChangeShapes Go.WideShapes Go.ChangeAt Go.RowKit Go.Deep Plain
set_option linter.unusedVariables false
set_option maxRecDepth 100000
theorem J.up {w0 w : World} {gr gc gn gf gl ga gd N n m : Nat} {P G Pf Gf : Option Nat} (h : J w0 w gr gc gn gf gl ga gd N n P G Pf Gf) (hm : n ≤ m) : J w0 w gr gc gn gf gl ga gd N m P G Pf Gf := by
  obtain ⟨pu, go, vs, p, g, f, k, h1, h2, h3, h4, h5⟩ := h
  exact ⟨pu, go, vs, p, g, f, k, h1, h2, h3, h4, h5.up hm⟩
theorem J.start {w0 w2 : World} {gr gc gn N : Nat} {p g : RSt} (h : RgW w0 w2 gr gc gn N 0 0 (List.replicate N 0) none none p g) (n1 : 1 ≤ N) (n2 : N ≤ 256) :
    J w0 ((((w2.alloc (.cells (Array.replicate N (Value.int .u64 0)) 22)).alloc (.cells #[.int .i64 N, .int .u64 0, .int .u64 0, .slice (some ⟨w2.heap.size, 0, none⟩) N N, .pointer none, .pointer none] 56)).alloc (.cells #[.pointer none, .pointer none] 57)).alloc (.cells #[.pointer none, .pointer none] 54))
      gr gc gn (w2.heap.size + 1) w2.heap.size (w2.heap.size + 1 + 1) (w2.heap.size + 1 + 1 + 1) N 0 none none none none := by
  have hz := h.bel.size
  have e3 := ball w2 (.cells (Array.replicate N (Value.int .u64 0)) 22)
  have L3 := Row.made .u64 22 w2 N
  have er : ((List.replicate N (0 : Int)).map (Value.int .u64)).toArray = Array.replicate N (Value.int .u64 0) := by simp
  rw [er] at L3
  have s3 : (w2.alloc (.cells (Array.replicate N (Value.int .u64 0)) 22)).heap.size = w2.heap.size + 1 := by simp
  generalize w2.alloc (.cells (Array.replicate N (Value.int .u64 0)) 22) = w3 at *
  have e4 := ball w3 (.cells #[.int .i64 N, .int .u64 0, .int .u64 0, .slice (some ⟨w2.heap.size, 0, none⟩) N N, .pointer none, .pointer none] 56)
  have B4 := Blk.new w3 56 #[.int .i64 N, .int .u64 0, .int .u64 0, .slice (some ⟨w2.heap.size, 0, none⟩) N N, .pointer none, .pointer none]
  have s4 : (w3.alloc (.cells #[.int .i64 N, .int .u64 0, .int .u64 0, .slice (some ⟨w2.heap.size, 0, none⟩) N N, .pointer none, .pointer none] 56)).heap.size = w2.heap.size + 2 := by simp; omega
  generalize w3.alloc (.cells #[.int .i64 N, .int .u64 0, .int .u64 0, .slice (some ⟨w2.heap.size, 0, none⟩) N N, .pointer none, .pointer none] 56) = w4 at *
  have e5 := ball w4 (.cells #[.pointer none, .pointer none] 57)
  have B5 := Blk.new w4 57 #[.pointer none, .pointer none]
  have s5 : (w4.alloc (.cells #[.pointer none, .pointer none] 57)).heap.size = w2.heap.size + 3 := by simp; omega
  generalize w4.alloc (.cells #[.pointer none, .pointer none] 57) = w5 at *
  have e6 := ball w5 (.cells #[.pointer none, .pointer none] 54)
  have B6 := Blk.new w5 54 #[.pointer none, .pointer none]
  rw [s3] at B4
  rw [s4] at B5
  rw [s5] at B6
  have hF : RfB w4 (w2.heap.size + 1) w2.heap.size N 0 0 (List.replicate N 0) none none ⟨0, 0, 0, 0, true⟩ ⟨0, 0, 0, 0, true⟩ :=
    ⟨B4, (show Row .u64 22 w4 w2.heap.size (List.replicate N 0) from L3.below e4), List.length_replicate, fun x hx => by rw [List.eq_of_mem_replicate hx]; unfold U64; omega, fun _ q => (by cases q), fun _ q => (by cases q), n1, n2, fun _ q => (by cases q)⟩
  exact ⟨0, 0, _, p, g, _, _, h.down (bthen (bthen (bthen e3 e4) e5) e6), (hF.below e5).below e6, ⟨B5.below e6, B6, by omega, by omega⟩, ⟨by omega, by omega, fun _ q => (by cases q), fun _ q => (by cases q)⟩, ⟨by omega, by omega, by omega, rfl, rfl, fun _ q => (by cases q), fun _ q => (by cases q)⟩⟩
set_option maxHeartbeats 16000000 in
theorem ringTurns_walk (n0 : Int) (A0 : Option Addr) (nr cr : Nat) (V : Nat → Nat → Value) (w : World) (hnc : nr ≤ cr) (hm : cr ≤ maxLen) (hR : RdS act20 w A0 nr V) :
    Calls Try.prog 4 #[.int .i64 n0, .slice A0 nr cr] w fun e w' => e = .returned (.bool true) ∧ Below w.heap.size w w' := by
  have HM := Lib.hid hm
  unfold maxLen at hm
  have HR := Lib.hid hR
  clear hR
  go_enter Try.func4, Try.ntmps4
  go_upto_region 2 with (go_at_call 11; refine (none20_any _).mono ?_; rintro e w1 ⟨rfl, rfl⟩)
  go_upto_region 4 with (first
    | (go_at_call 12; refine (waits_any _).mono ?_; rintro e w1 ⟨rfl, hb1⟩)
    | (go_at_call 13; refine (rPut_nil _ _).mono ?_; rintro e w2 ⟨rfl, rfl⟩)
    | (go_at_call 14; refine (rGet_nil _).mono ?_; rintro e w2 ⟨rfl, rfl⟩)
    | (go_at_call 15; refine (do_none none _).mono ?_; rintro e w2 ⟨rfl, rfl⟩)
    | (go_at_call 16; refine (rLen_nil _).mono ?_; rintro e w2 ⟨rfl, rfl⟩)
    | (go_at_call 17; refine (rAll_nil _).mono ?_; rintro e w2 ⟨rfl, rfl⟩)
    | (go_at_call 18; refine (rCopy_nil _).mono ?_; rintro e w2 ⟨rfl, rfl⟩)
    | (go_at_call 19; refine (end_nil _).mono ?_; rintro e w2 ⟨rfl, rfl⟩)
    | (go_at_call 20; refine (value_nil _).mono ?_; rintro e w2 ⟨rfl, rfl⟩))
  have HB1 := Lib.hid hb1
  clear hb1
  by_cases hN : n0 < 1 ∨ 256 < n0
  · have HN := Lib.hid hN
    go_upto_region 5 with (go_at_call 21; refine (rNew_bad n0 HN.out _).mono ?_; rintro e w2 ⟨rfl, rfl⟩)
    by_cases h1 : n0 < 1
    · clear hN
      go_wp2
      go_ret
      exact ⟨rfl, HB1.out⟩
    · have h2 : 256 < n0 := by omega
      clear hN
      go_wp2
      go_ret
      exact ⟨rfl, HB1.out⟩
  obtain ⟨N, rfl⟩ : ∃ N : Nat, n0 = (N : Int) := ⟨n0.toNat, by omega⟩
  have hn1 : 1 ≤ N := by omega
  have hn2 : N ≤ 256 := by omega
  have in1 : (1 : Int) ≤ (N : Int) := by omega
  have in2 : (N : Int) ≤ 256 := by omega
  clear hN
  go_upto_region 5 with (go_at_call 21; refine (made_any (w0 := w) N hn1 hn2 HB1.out).mono ?_; rintro e w2 ⟨gr, gc, gn, rfl, h2⟩)
  have H2 := Lib.hid h2
  clear h2 HB1
  have hmk := mk64 N (by omega) w2
  have er : ((List.replicate N (0 : Int)).map (Value.int .u64)).toArray = Array.replicate N (Value.int .u64 0) := by simp
  rw [er] at hmk
  clear er
  go_upto_region 10 with fail
  have HJ0 := Lib.hid (J.start H2.out hn1 hn2)
  clear hmk H2 in1 in2
  generalize (((w2.alloc (.cells (Array.replicate N (Value.int .u64 0)) 22)).alloc (.cells #[.int .i64 N, .int .u64 0, .int .u64 0, .slice (some ⟨w2.heap.size, 0, none⟩) N N, .pointer none, .pointer none] 56)).alloc (.cells #[.pointer none, .pointer none] 57)).alloc (.cells #[.pointer none, .pointer none] 54) = w6 at *
  generalize w2.heap.size + 1 + 1 + 1 = gd at *
  generalize w2.heap.size + 1 + 1 = ga at *
  generalize w2.heap.size + 1 = gf at *
  generalize w2.heap.size = gl at *
  go_wp2
  go_loopw [12] (fun s12 wr => ∃ i : Nat, s12 = .int .i64 i ∧ i ≤ 300 ∧ ∃ P G Pf Gf, J w wr gr gc gn gf gl ga gd N i P G Pf Gf) (fun i _ => 300 - (intOf i).toNat)
  case atStart => exact ⟨0, rfl, by omega, _, _, _, _, HJ0.out⟩
  case round =>
    obtain ⟨i, rfl, hi, P, G, Pf, Gf, hj⟩ := hrel
    have H3 := Lib.hid hj
    clear hj HJ0
    by_cases hlt : i < nr ∧ i < 300
    · obtain ⟨hl1, hl2⟩ := hlt
      obtain ⟨bk, off, rfl, hbl, hcell⟩ := HR.out (by omega)
      obtain ⟨q0, o0, hx0, hw0⟩ := hcell i hl1 0 _ rfl
      obtain ⟨q1, sb, hx1⟩ := hcell i hl1 1 _ rfl
      obtain ⟨q2, vv, hx2, hw2⟩ := hcell i hl1 2 _ rfl
      rw [hx0] at q0
      rw [hx1] at q1
      rw [hx2] at q2
      have hvv : U64 vv := by have := bounds_u64 hw2; unfold U64; omega
      have d0 : wr.cell? ⟨bk, off + i * 3, none⟩ = some (.int .i64 o0) := (H3.out.bel.cell (p := ⟨bk, off + i * 3, none⟩) hbl).trans q0
      have d1 : wr.cell? ⟨bk, off + i * 3 + 1, none⟩ = some (.bool sb) := (H3.out.bel.cell (p := ⟨bk, off + i * 3 + 1, none⟩) hbl).trans (by rw [Nat.add_assoc]; exact q1)
      have d2 : wr.cell? ⟨bk, off + i * 3 + 2, none⟩ = some (.int .u64 vv) := (H3.out.bel.cell (p := ⟨bk, off + i * 3 + 2, none⟩) hbl).trans (by rw [Nat.add_assoc]; exact q2)
      have HVV := Lib.hid hvv
      clear hcell q0 q1 q2 hx0 hx1 hx2 hw0 hw2 hvv
      have di1 : decide ((i : Int) < (nr : Int)) = true := decide_eq_true (by omega)
      have di2 : decide ((i : Int) < 300) = true := decide_eq_true (by omega)
      go_upto_region 14 with fail
      clear di1 di2
      have B8 := Lib.hid (Blk.new wr 59 #[.int .i64 o0, .bool sb, .int .u64 vv])
      have HA := Lib.hid (H3.out.down (ball wr (.cells #[.int .i64 o0, .bool sb, .int .u64 vv] 59)))
      clear d0 d1 d2 H3
      generalize wr.alloc (.cells #[.int .i64 o0, .bool sb, .int .u64 vv] 59) = wa at *
      generalize wr.heap.size = g8 at *
      have t0 : wa.cell? ⟨g8, 0, none⟩ = some (.int .i64 o0) := B8.out.cell 0
      have t1 : wa.cell? ⟨g8, 1, none⟩ = some (.bool sb) := B8.out.cell 1
      have t2 : wa.cell? ⟨g8, 2, none⟩ = some (.int .u64 vv) := B8.out.cell 2
      obtain ⟨r, hr⟩ : ∃ r, (IntKind.u64.wrap o0).tmod 6 = r := ⟨_, rfl⟩
      have hr0 : 0 ≤ r ∧ r < 6 := by
        rw [← hr, Int.tmod_eq_emod_of_nonneg (by rw [IntKind.wrap_u64]; omega)]; omega
      have hr6 : wrap64 r = r := by unfold wrap64; omega
      have hr7 : IntKind.u64.wrap r = r := by rw [IntKind.wrap_u64]; omega
      cases sb with
      | true =>
        go_upto_block 2 with fail
        go_cut [15] (fun s15 wx => ∃ P G Pf Gf, J w wx gr gc gn gf gl ga gd N (i + 1) P G Pf Gf)
        case first =>
          have HX0 := Lib.hid hr0
          have HX6 := Lib.hid hr6
          by_cases hx0 : r = 0
          · obtain rfl := hx0
            go_upto_region 21 with fail
            obtain ⟨⟨cs1, hb1⟩, ⟨cs2, hb2⟩⟩ := HA.out.blocks
            have h8r : g8 ∉ [gr] := not1 (blk_types B8.out hb1 (by decide))
            have h8f : g8 ∉ [gf] := not1 (blk_types B8.out hb2 (by decide))
            clear hb1 hb2 t0 t1 t2
            have rr : ∀ W, SAct g8 o0 true vv W → W.cell? ⟨g8, 2, none⟩ = some (.int .u64 vv) := fun W h => h.cell 2
            rcases (HA.out.down (bdrew wa)).put vv HVV.out with ⟨c1, c2⟩ | c1
            · have HC1 := Lib.hid c1
              have HC2 := Lib.hid c2
              clear c1 c2
              refine wp_region_held_drew (S := (fun W => SAct g8 o0 true vv W)) (by kernel_rfl) (B8.out) (fun hHeld => ?_)
              refine wpAnyH_take (i := 0) (oi := ⟨some 125, _, _, _, _, _⟩) (v := ?tvnt0) rfl (by kernel_rfl) (by kernel_rfl) (by kernel_rfl) (fun _ _ _ h => h) (Or.inl ⟨by kernel_rfl, ?tynt0⟩) (by assumption) ?trnt0
              case tynt0 => (intro w hSw; first | (go_simp; done) | (go_simp; with_reducible rfl))
              case' trnt0 => try simp only [Act.put, List.setIfInBounds_toArray, List.set_cons_zero, List.set_cons_succ]
              refine wpAnyH_take (i := 1) (oi := ⟨some 126, _, _, _, _, _⟩) (v := ?tvnt1) rfl (by kernel_rfl) (by kernel_rfl) (by kernel_rfl) (fun _ _ _ h => h) (Or.inl ⟨by kernel_rfl, ?tynt1⟩) (by assumption) ?trnt1
              case tynt1 => (intro w hSw; first | (go_simp; done) | (go_simp; with_reducible rfl))
              case' trnt1 => try simp only [Act.put, List.setIfInBounds_toArray, List.set_cons_zero, List.set_cons_succ]
              refine wpAnyH_take (i := 2) (oi := ⟨some 127, _, _, _, _, _⟩) (v := ?tvnt2) rfl (by kernel_rfl) (by kernel_rfl) (by kernel_rfl) (fun _ _ _ h => h) (Or.inl ⟨by kernel_rfl, ?tynt2⟩) (by assumption) ?trnt2
              case tynt2 => (intro w hSw; first | (go_simp; done) | (go_simp; with_reducible rfl))
              case' trnt2 => try simp only [Act.put, List.setIfInBounds_toArray, List.set_cons_zero, List.set_cons_succ]
              refine wpAnyH_take (i := 4) (oi := ⟨some 129, _, _, _, _, _⟩) (v := ?tvnt4) rfl (by kernel_rfl) (by kernel_rfl) (by kernel_rfl) (fun _ _ _ h => h) (Or.inl ⟨by kernel_rfl, ?tynt4⟩) (by assumption) ?trnt4
              case tynt4 => (intro w hSw; first | (go_simp; done) | (go_simp; with_reducible rfl))
              case' trnt4 => try simp only [Act.put, List.setIfInBounds_toArray, List.set_cons_zero, List.set_cons_succ]
              refine wpAnyH_take (i := 5) (oi := ⟨some 130, _, _, _, _, _⟩) (v := ?tvnt5) rfl (by kernel_rfl) (by kernel_rfl) (by kernel_rfl) (fun _ _ _ h => h) (Or.inl ⟨by kernel_rfl, ?tynt5⟩) (by assumption) ?trnt5
              case tynt5 => (intro w hSw; first | (go_simp; done) | (go_simp; with_reducible rfl))
              case' trnt5 => try simp only [Act.put, List.setIfInBounds_toArray, List.set_cons_zero, List.set_cons_succ]
              refine wpAnyH_take (i := 6) (oi := ⟨some 131, _, _, _, _, _⟩) (v := ?tvnt6) rfl (by kernel_rfl) (by kernel_rfl) (by kernel_rfl) (fun _ _ _ h => h) (Or.inl ⟨by kernel_rfl, ?tynt6⟩) (by assumption) ?trnt6
              case tynt6 => (intro w hSw; first | (go_simp; done) | (go_simp; with_reducible rfl))
              case' trnt6 => try simp only [Act.put, List.setIfInBounds_toArray, List.set_cons_zero, List.set_cons_succ]
              refine wpAnyH_ready (rs := [3]) (by kernel_rfl) (by simp) ?_
              refine AllReadyH.cons (o := ⟨some 128, _, _, _, _, _⟩) rfl (fun K hK => ?_) AllReadyH.nil
              go_simp
              go_at_call 13
              refine (HC1.out).mono ?_
              rintro e w3 ⟨rfl, rfl⟩
              refine hK.out _ _ hHeld (fun hHeld0 => ?_)
              clear hK K hHeld0
              try simp only [Act.put, List.setIfInBounds_toArray, List.set_cons_zero, List.set_cons_succ]
              refine wpAnyH_ready (rs := [7]) (by kernel_rfl) (by simp) ?_
              refine AllReadyH.cons (o := ⟨some 132, _, _, _, _, _⟩) rfl (fun K hK => ?_) AllReadyH.nil
              go_simp
              go_at_call 22
              refine (HC2.out).mono ?_
              rintro e w4 ⟨rfl, rfl⟩
              refine hK.out _ _ hHeld (fun hHeld0 => ?_)
              clear hK K hHeld0
              try simp only [Act.put, List.setIfInBounds_toArray, List.set_cons_zero, List.set_cons_succ]
              refine wpAnyH_take (i := 8) (oi := ⟨some 15, _, _, _, _, _⟩) (v := ?tvnt8) rfl (by kernel_rfl) (by kernel_rfl) (by kernel_rfl) (fun _ _ _ h => h) (Or.inl ⟨by kernel_rfl, ?tynt8⟩) (by assumption) ?trnt8
              case tynt8 => (intro w hSw; first | (go_simp; done) | (go_simp; with_reducible rfl))
              case' trnt8 => try simp only [Act.put, List.setIfInBounds_toArray, List.set_cons_zero, List.set_cons_succ]
              refine wpAnyH_take (i := 9) (oi := ⟨some 16, _, _, _, _, _⟩) (v := ?tvnt9) rfl (by kernel_rfl) (by kernel_rfl) (by kernel_rfl) (fun _ _ _ h => h) (Or.inl ⟨by kernel_rfl, ?tynt9⟩) (by assumption) ?trnt9
              case tynt9 => (intro w hSw; first | (go_simp; done) | (go_simp; with_reducible rfl))
              case' trnt9 => try simp only [Act.put, List.setIfInBounds_toArray, List.set_cons_zero, List.set_cons_succ]
              refine wpAnyH_done (by kernel_rfl) ?_ _

              go_wp2
              go_meet
              exact ⟨P, G, Pf, Gf, (HA.out.down (bdrew wa)).up (by omega)⟩
            · have HC1 := Lib.hid c1
              clear c1
              refine wp_region_held_drew (S := (fun W => SAct g8 o0 true vv W)) (by kernel_rfl) (B8.out) (fun hHeld => ?_)
              refine wpAnyH_take (i := 0) (oi := ⟨some 125, _, _, _, _, _⟩) (v := ?tvmt0) rfl (by kernel_rfl) (by kernel_rfl) (by kernel_rfl) (fun _ _ _ h => h) (Or.inl ⟨by kernel_rfl, ?tymt0⟩) (by assumption) ?trmt0
              case tymt0 => (intro w hSw; first | (go_simp; done) | (go_simp; with_reducible rfl))
              case' trmt0 => try simp only [Act.put, List.setIfInBounds_toArray, List.set_cons_zero, List.set_cons_succ]
              refine wpAnyH_take (i := 1) (oi := ⟨some 126, _, _, _, _, _⟩) (v := ?tvmt1) rfl (by kernel_rfl) (by kernel_rfl) (by kernel_rfl) (fun _ _ _ h => h) (Or.inl ⟨by kernel_rfl, ?tymt1⟩) (by assumption) ?trmt1
              case tymt1 => (intro w hSw; first | (go_simp; done) | (go_simp; with_reducible rfl))
              case' trmt1 => try simp only [Act.put, List.setIfInBounds_toArray, List.set_cons_zero, List.set_cons_succ]
              refine wpAnyH_take (i := 2) (oi := ⟨some 127, _, _, _, _, _⟩) (v := ?tvmt2) rfl (by kernel_rfl) (by kernel_rfl) (by kernel_rfl) (fun _ _ _ h => h) (Or.inl ⟨by kernel_rfl, ?tymt2⟩) (by assumption) ?trmt2
              case tymt2 => (intro w hSw; first | (go_simp; done) | (go_simp; with_reducible rfl))
              case' trmt2 => try simp only [Act.put, List.setIfInBounds_toArray, List.set_cons_zero, List.set_cons_succ]
              refine wpAnyH_take (i := 4) (oi := ⟨some 129, _, _, _, _, _⟩) (v := ?tvmt4) rfl (by kernel_rfl) (by kernel_rfl) (by kernel_rfl) (fun _ _ _ h => h) (Or.inl ⟨by kernel_rfl, ?tymt4⟩) (by assumption) ?trmt4
              case tymt4 => (intro w hSw; first | (go_simp; done) | (go_simp; with_reducible rfl))
              case' trmt4 => try simp only [Act.put, List.setIfInBounds_toArray, List.set_cons_zero, List.set_cons_succ]
              refine wpAnyH_take (i := 5) (oi := ⟨some 130, _, _, _, _, _⟩) (v := ?tvmt5) rfl (by kernel_rfl) (by kernel_rfl) (by kernel_rfl) (fun _ _ _ h => h) (Or.inl ⟨by kernel_rfl, ?tymt5⟩) (by assumption) ?trmt5
              case tymt5 => (intro w hSw; first | (go_simp; done) | (go_simp; with_reducible rfl))
              case' trmt5 => try simp only [Act.put, List.setIfInBounds_toArray, List.set_cons_zero, List.set_cons_succ]
              refine wpAnyH_take (i := 6) (oi := ⟨some 131, _, _, _, _, _⟩) (v := ?tvmt6) rfl (by kernel_rfl) (by kernel_rfl) (by kernel_rfl) (fun _ _ _ h => h) (Or.inl ⟨by kernel_rfl, ?tymt6⟩) (by assumption) ?trmt6
              case tymt6 => (intro w hSw; first | (go_simp; done) | (go_simp; with_reducible rfl))
              case' trmt6 => try simp only [Act.put, List.setIfInBounds_toArray, List.set_cons_zero, List.set_cons_succ]
              refine wpAnyH_ready (rs := [3]) (by kernel_rfl) (by simp) ?_
              refine AllReadyH.cons (o := ⟨some 128, _, _, _, _, _⟩) rfl (fun K hK => ?_) AllReadyH.nil
              go_simp
              go_at_call 13
              refine (HC1.out).mono ?_
              rintro e w3 ⟨a, rfl, hk1, hc2⟩
              have hSmt3 : ((fun W => SAct g8 o0 true vv W)) w3 := hk1.blk hHeld h8r
              refine hK.out _ _ hSmt3 (fun hHeld0 => ?_)
              clear hK K hHeld0 hHeld
              try simp only [Act.put, List.setIfInBounds_toArray, List.set_cons_zero, List.set_cons_succ]
              have hHeld : ((fun W => SAct g8 o0 true vv W)) w3 := hSmt3
              clear hSmt3
              refine wpAnyH_ready (rs := [7]) (by kernel_rfl) (by simp) ?_
              refine AllReadyH.cons (o := ⟨some 132, _, _, _, _, _⟩) rfl (fun K hK => ?_) AllReadyH.nil
              go_simp
              go_at_call 22
              refine (hc2).mono ?_
              rintro e w4 ⟨b, rfl, hk2, hj2, hja⟩
              have hSmt7 : ((fun W => SAct g8 o0 true vv W)) w4 := hk2.blk hHeld h8f
              refine hK.out _ _ hSmt7 (fun hHeld0 => ?_)
              clear hK K hHeld0 hHeld
              try simp only [Act.put, List.setIfInBounds_toArray, List.set_cons_zero, List.set_cons_succ]
              have hHeld : ((fun W => SAct g8 o0 true vv W)) w4 := hSmt7
              clear hSmt7
              refine wpAnyH_take (i := 8) (oi := ⟨some 15, _, _, _, _, _⟩) (v := ?tvmt8) rfl (by kernel_rfl) (by kernel_rfl) (by kernel_rfl) (fun _ _ _ h => h) (Or.inl ⟨by kernel_rfl, ?tymt8⟩) (by assumption) ?trmt8
              case tymt8 => (intro w hSw; first | (go_simp; done) | (go_simp; with_reducible rfl))
              case' trmt8 => try simp only [Act.put, List.setIfInBounds_toArray, List.set_cons_zero, List.set_cons_succ]
              refine wpAnyH_take (i := 9) (oi := ⟨some 16, _, _, _, _, _⟩) (v := ?tvmt9) rfl (by kernel_rfl) (by kernel_rfl) (by kernel_rfl) (fun _ _ _ h => h) (Or.inl ⟨by kernel_rfl, ?tymt9⟩) (by assumption) ?trmt9
              case tymt9 => (intro w hSw; first | (go_simp; done) | (go_simp; with_reducible rfl))
              case' trmt9 => try simp only [Act.put, List.setIfInBounds_toArray, List.set_cons_zero, List.set_cons_succ]
              refine wpAnyH_done (by kernel_rfl) ?_ _

              have HJ2 := Lib.hid hj2
              have HJA := Lib.hid hja
              have ca : w4.cell? ⟨ga, 0, none⟩ = some (ptO P) := hja.sa.cell 0
              have cd : w4.cell? ⟨gd, 0, none⟩ = some (ptO Pf) := hja.da.cell 0
              have fa := hja.sa.frozen 0
              have fd := hja.da.frozen 0
              have hne : ga ≠ gd := blk_types hja.sa hja.da (by decide)
              have cd2 : (w4.setCell ⟨ga, 0, none⟩ (.pointer (some ⟨a, 0, none⟩))).cell? ⟨gd, 0, none⟩ = some (ptO Pf) := (hja.da.ne (p := ⟨ga, 0, none⟩) hne (.pointer (some ⟨a, 0, none⟩))).cell 0
              have fd2 : (w4.setCell ⟨ga, 0, none⟩ (.pointer (some ⟨a, 0, none⟩))).frozen? ⟨gd, 0, none⟩ = false := (hja.da.ne (p := ⟨ga, 0, none⟩) hne (.pointer (some ⟨a, 0, none⟩))).frozen 0
              clear hj2 hja hk1 hk2 hHeld rr
              go_wp2
              go_meet
              exact ⟨_, _, _, _, (HJ2.out.arrP HJA.out).up (by omega)⟩
          by_cases hx1 : r = 1
          · obtain rfl := hx1
            rcases HA.out.get with ⟨c1, c2⟩ | c1
            · have HC1 := Lib.hid c1
              have HC2 := Lib.hid c2
              clear c1 c2 hx0
              go_upto_region 28 with (first
                | (go_at_call 14; refine (HC1.out).mono ?_; rintro e w3 ⟨rfl, rfl⟩)
                | (go_at_call 22; refine (HC2.out).mono ?_; rintro e w4 ⟨rfl, rfl⟩))
              go_wp2
              go_meet
              exact ⟨P, G, Pf, Gf, HA.out.up (by omega)⟩
            · have HC1 := Lib.hid c1
              clear c1 hx0
              go_upto_region 28 with (first
                | (go_at_call 14; refine (HC1.out).mono ?_; rintro e w3 ⟨a, rfl, hc2⟩; have HC2 := Lib.hid hc2; clear hc2)
                | (go_at_call 22; refine (HC2.out).mono ?_; rintro e w4 ⟨b, rfl, hj2, hja⟩))
              have HJ2 := Lib.hid hj2
              have HJA := Lib.hid hja
              have ca : w4.cell? ⟨ga, 1, none⟩ = some (ptO G) := hja.sa.cell 1
              have cd : w4.cell? ⟨gd, 1, none⟩ = some (ptO Gf) := hja.da.cell 1
              have fa := hja.sa.frozen 1
              have fd := hja.da.frozen 1
              have hne : ga ≠ gd := blk_types hja.sa hja.da (by decide)
              have cd2 : (w4.setCell ⟨ga, 1, none⟩ (.pointer (some ⟨a, 0, none⟩))).cell? ⟨gd, 1, none⟩ = some (ptO Gf) := (hja.da.ne (p := ⟨ga, 1, none⟩) hne (.pointer (some ⟨a, 0, none⟩))).cell 1
              have fd2 : (w4.setCell ⟨ga, 1, none⟩ (.pointer (some ⟨a, 0, none⟩))).frozen? ⟨gd, 1, none⟩ = false := (hja.da.ne (p := ⟨ga, 1, none⟩) hne (.pointer (some ⟨a, 0, none⟩))).frozen 1
              clear hj2 hja t0 t1 t2
              go_wp2
              go_meet
              exact ⟨_, _, _, _, (HJ2.out.arrG HJA.out).up (by omega)⟩
          · clear t0 t1 t2
            go_upto_region 18 with fail
            clear hx0 hx1
            obtain ⟨b, hc⟩ := (HA.out.down (bdrew wa)).doG (by omega)
            have HC := Lib.hid hc
            clear hc
            have rs : ∀ W, JA w W ga gd P G Pf Gf → W.cell? ⟨ga, 1, none⟩ = some (ptO G) := fun W h => h.sa.cell 1
            have rd : ∀ W, JA w W ga gd P G Pf Gf → W.cell? ⟨gd, 1, none⟩ = some (ptO Gf) := fun W h => h.da.cell 1
            refine wp_region_held_drew (S := (fun W => JA w W ga gd P G Pf Gf)) (by kernel_rfl) (HA.out.two.2.below (bdrew wa)) (fun hHeld => ?_)
            refine wpAnyH_take (i := 0) (oi := ⟨some 112, _, _, _, _, _⟩) (v := ?tvdt0) rfl (by kernel_rfl) (by kernel_rfl) (by kernel_rfl) (fun _ _ _ h => h) (Or.inl ⟨by kernel_rfl, ?tydt0⟩) (by assumption) ?trdt0
            case tydt0 => (intro w hSw; first | (go_simp; done) | (go_simp; with_reducible rfl))
            case' trdt0 => try simp only [Act.put, List.setIfInBounds_toArray, List.set_cons_zero, List.set_cons_succ]
            refine wpAnyH_take (i := 1) (oi := ⟨some 113, _, _, _, _, _⟩) (v := ?tvdt1) rfl (by kernel_rfl) (by kernel_rfl) (by kernel_rfl) (fun _ _ _ h => h) (Or.inl ⟨by kernel_rfl, ?tydt1⟩) (by assumption) ?trdt1
            case tydt1 => (intro w hSw; first | (go_simp; done) | (go_simp; with_reducible rfl))
            case' trdt1 => try simp only [Act.put, List.setIfInBounds_toArray, List.set_cons_zero, List.set_cons_succ]
            refine wpAnyH_take (i := 2) (oi := ⟨some 114, _, _, _, _, _⟩) (v := ?tvdt2) rfl (by kernel_rfl) (by kernel_rfl) (by kernel_rfl) (fun _ _ _ h => h) (Or.inl ⟨by kernel_rfl, ?tydt2⟩) (by assumption) ?trdt2
            case tydt2 => (intro w hSw; first | (go_simp; done) | (go_simp; with_reducible rfl))
            case' trdt2 => try simp only [Act.put, List.setIfInBounds_toArray, List.set_cons_zero, List.set_cons_succ]
            refine wpAnyH_take (i := 3) (oi := ⟨some 115, _, _, _, _, _⟩) (v := ?tvdt3) rfl (by kernel_rfl) (by kernel_rfl) (by kernel_rfl) (fun _ _ _ h => h) (Or.inl ⟨by kernel_rfl, ?tydt3⟩) (by assumption) ?trdt3
            case tydt3 => (intro w hSw; first | (go_simp; done) | (go_simp; with_reducible rfl))
            case' trdt3 => try simp only [Act.put, List.setIfInBounds_toArray, List.set_cons_zero, List.set_cons_succ]
            refine wpAnyH_take (i := 5) (oi := ⟨some 117, _, _, _, _, _⟩) (v := ?tvdt5) rfl (by kernel_rfl) (by kernel_rfl) (by kernel_rfl) (fun _ _ _ h => h) (Or.inl ⟨by kernel_rfl, ?tydt5⟩) (by assumption) ?trdt5
            case tydt5 => (intro w hSw; first | (go_simp; done) | (go_simp; with_reducible rfl))
            case' trdt5 => try simp only [Act.put, List.setIfInBounds_toArray, List.set_cons_zero, List.set_cons_succ]
            refine wpAnyH_take (i := 6) (oi := ⟨some 118, _, _, _, _, _⟩) (v := ?tvdt6) rfl (by kernel_rfl) (by kernel_rfl) (by kernel_rfl) (fun _ _ _ h => h) (Or.inl ⟨by kernel_rfl, ?tydt6⟩) (by assumption) ?trdt6
            case tydt6 => (intro w hSw; first | (go_simp; done) | (go_simp; with_reducible rfl))
            case' trdt6 => try simp only [Act.put, List.setIfInBounds_toArray, List.set_cons_zero, List.set_cons_succ]
            refine wpAnyH_take (i := 7) (oi := ⟨some 119, _, _, _, _, _⟩) (v := ?tvdt7) rfl (by kernel_rfl) (by kernel_rfl) (by kernel_rfl) (fun _ _ _ h => h) (Or.inl ⟨by kernel_rfl, ?tydt7⟩) (by assumption) ?trdt7
            case tydt7 => (intro w hSw; first | (go_simp; done) | (go_simp; with_reducible rfl))
            case' trdt7 => try simp only [Act.put, List.setIfInBounds_toArray, List.set_cons_zero, List.set_cons_succ]
            refine wpAnyH_take (i := 8) (oi := ⟨some 120, _, _, _, _, _⟩) (v := ?tvdt8) rfl (by kernel_rfl) (by kernel_rfl) (by kernel_rfl) (fun _ _ _ h => h) (Or.inl ⟨by kernel_rfl, ?tydt8⟩) (by assumption) ?trdt8
            case tydt8 => (intro w hSw; first | (go_simp; done) | (go_simp; with_reducible rfl))
            case' trdt8 => try simp only [Act.put, List.setIfInBounds_toArray, List.set_cons_zero, List.set_cons_succ]
            refine wpAnyH_ready (rs := [4]) (by kernel_rfl) (by simp) ?_
            refine AllReadyH.cons (o := ⟨some 116, _, _, _, _, _⟩) rfl (fun K hK => ?_) AllReadyH.nil
            go_simp
            go_at_call 15
            refine (HC.out).mono ?_
            rintro e w3 ⟨rfl, hja, hc2⟩
            have hSdt4 : ((fun W => JA w W ga gd P G Pf Gf)) w3 := hja
            refine hK.out _ _ hSdt4 (fun hHeld0 => ?_)
            clear hK K hHeld0 hHeld
            try simp only [Act.put, List.setIfInBounds_toArray, List.set_cons_zero, List.set_cons_succ]
            have hHeld : ((fun W => JA w W ga gd P G Pf Gf)) w3 := hSdt4
            clear hSdt4
            refine wpAnyH_ready (rs := [9]) (by kernel_rfl) (by simp) ?_
            refine AllReadyH.cons (o := ⟨some 121, _, _, _, _, _⟩) rfl (fun K hK => ?_) AllReadyH.nil
            go_simp
            go_at_call 23
            refine (hc2).mono ?_
            rintro e w4 ⟨rfl, hj⟩
            have hSdt9 : ((fun W => JA w W ga gd P G Pf Gf)) w4 := hj.two.2
            refine hK.out _ _ hSdt9 (fun hHeld0 => ?_)
            clear hK K hHeld0 hHeld
            try simp only [Act.put, List.setIfInBounds_toArray, List.set_cons_zero, List.set_cons_succ]
            have hHeld : ((fun W => JA w W ga gd P G Pf Gf)) w4 := hSdt9
            clear hSdt9
            refine wpAnyH_take (i := 10) (oi := ⟨some 122, _, _, _, _, _⟩) (v := ?tvdt10) rfl (by kernel_rfl) (by kernel_rfl) (by kernel_rfl) (fun _ _ _ h => h) (Or.inl ⟨by kernel_rfl, ?tydt10⟩) (by assumption) ?trdt10
            case tydt10 => (intro w hSw; first | (go_simp; done) | (go_simp; with_reducible rfl))
            case' trdt10 => try simp only [Act.put, List.setIfInBounds_toArray, List.set_cons_zero, List.set_cons_succ]
            refine wpAnyH_done (by kernel_rfl) ?_ _
            have HB := Lib.hid hj
            clear hj hja hc2 hHeld rs rd HA HC
            go_wp2
            go_meet
            exact ⟨P, G, Pf, Gf, HB.out⟩
        case rest =>
          clear HA B8 t0 t1 t2 P G Pf Gf
          obtain ⟨P, G, Pf, Gf, hj⟩ := hcut
          have HA := Lib.hid hj
          clear hj hr hr0 hr6 hr7 HVV
          go_wp2
          go_loopw [19] (fun s19 wt => ∃ j : Int, s19 = .int .i64 j ∧ (j = 0 ∨ j = 1 ∨ j = 2) ∧ J w wt gr gc gn gf gl ga gd N (i + 1) P G Pf Gf) (fun j _ => 2 - (intOf j).toNat)
          case atStart => exact ⟨0, rfl, .inl rfl, HA.out⟩
          case round =>
            obtain ⟨j, rfl, h012, hjj⟩ := hrel
            have H5 := Lib.hid hjj
            clear hjj HA
            rcases h012 with rfl | rfl | rfl
            · rcases H5.out.showP with ⟨rfl, rfl⟩ | ⟨a, af, rfl, rfl, er, x, ce, hE, hV, hF⟩
              · have ca : wr.cell? ⟨ga, 0, none⟩ = some (.pointer none) := H5.out.two.2.sa.cell 0
                have cd : wr.cell? ⟨gd, 0, none⟩ = some (.pointer none) := H5.out.two.2.da.cell 0
                go_upto_region 35 with fail
                go_quiet (fail)
                go_wp2
                go_roundw
                case rel => exact ⟨1, rfl, by omega, H5.out.down (bdrewN _ _)⟩
                case measure => simp [intOf]
              · have ca : wr.cell? ⟨ga, 0, none⟩ = some (.pointer (some ⟨a, 0, none⟩)) := H5.out.two.2.sa.cell 0
                have cd : wr.cell? ⟨gd, 0, none⟩ = some (.pointer (some ⟨af, 0, none⟩)) := H5.out.two.2.da.cell 0
                have HE := Lib.hid hE
                have HV := Lib.hid hV
                have HF := Lib.hid hF
                clear hE hV hF
                go_upto_region 35 with fail
                go_quiet ((first
                  | (go_at_call 19; exact quietB (HE.out _))
                  | (go_at_call 20; exact quietB (HV.out _))
                  | (go_at_call 24; exact quietB (HF.out _))))
                go_wp2
                go_roundw
                case rel => exact ⟨1, rfl, by omega, H5.out.down (bdrewN _ _)⟩
                case measure => simp [intOf]
            · rcases H5.out.showG with ⟨rfl, rfl⟩ | ⟨a, af, rfl, rfl, er, x, ce, hE, hV, hF⟩
              · have ca : wr.cell? ⟨ga, 1, none⟩ = some (.pointer none) := H5.out.two.2.sa.cell 1
                have cd : wr.cell? ⟨gd, 1, none⟩ = some (.pointer none) := H5.out.two.2.da.cell 1
                go_upto_region 35 with fail
                go_quiet (fail)
                go_wp2
                go_roundw
                case rel => exact ⟨2, rfl, by omega, H5.out.down (bdrewN _ _)⟩
                case measure => simp [intOf]
              · have ca : wr.cell? ⟨ga, 1, none⟩ = some (.pointer (some ⟨a, 0, none⟩)) := H5.out.two.2.sa.cell 1
                have cd : wr.cell? ⟨gd, 1, none⟩ = some (.pointer (some ⟨af, 0, none⟩)) := H5.out.two.2.da.cell 1
                have HE := Lib.hid hE
                have HV := Lib.hid hV
                have HF := Lib.hid hF
                clear hE hV hF
                go_upto_region 35 with fail
                go_quiet ((first
                  | (go_at_call 19; exact quietB (HE.out _))
                  | (go_at_call 20; exact quietB (HV.out _))
                  | (go_at_call 24; exact quietB (HF.out _))))
                go_wp2
                go_roundw
                case rel => exact ⟨2, rfl, by omega, H5.out.down (bdrewN _ _)⟩
                case measure => simp [intOf]

            · have HH := Lib.hid (H5.out.holds (by omega))
              clear H5
              go_upto_region 12 with (first
                | (go_at_call 18; refine (HH.out).mono ?_; rintro e w1 ⟨s1, rfl, h1⟩; have K1 := Lib.hid h1; clear h1 HH)
                | (go_at_call 26; refine (K1.out).mono ?_; rintro e w2 ⟨s2, rfl, h2⟩; have K2 := Lib.hid h2; clear h2 K1)
                | (go_at_call 25; refine (K2.out).mono ?_; rintro e w3 ⟨rfl, h3⟩; have K3 := Lib.hid h3; clear h3 K2)
                | (go_at_call 17; refine (K3.out).mono ?_; rintro e w4 ⟨s3, rfl, h4⟩; have K4 := Lib.hid h4; clear h4 K3)
                | (go_at_call 27; refine (K4.out).mono ?_; rintro e w5 ⟨s4, rfl, h5⟩; have K5 := Lib.hid h5; clear h5 K4)
                | (go_at_call 25; refine (K5.out).mono ?_; rintro e w6 ⟨rfl, m, h6⟩; have K6 := Lib.hid h6; clear h6 K5)
                | (go_at_call 16; refine (K6.out).mono ?_; rintro e w7 ⟨rfl, h7⟩; have K7 := Lib.hid h7; clear h7 K6)
                | (go_at_call 27; refine (K7.out).mono ?_; rintro e w8 ⟨⟨A8, c8, rfl⟩, h8⟩; have K8 := Lib.hid h8; clear h8 K7))
              go_wp2
              go_roundw
              case rel => exact ⟨i + 1, by go_num, by omega, P, G, Pf, Gf, K8.out⟩
              case measure => simp [intOf]; omega
      | false =>
        go_upto_block 2 with fail
        go_cut [15] (fun s15 wx => ∃ P G Pf Gf, J w wx gr gc gn gf gl ga gd N (i + 1) P G Pf Gf)
        case first =>
          have HX0 := Lib.hid hr0
          have HX6 := Lib.hid hr6
          by_cases hx0 : r = 0
          · obtain rfl := hx0
            go_upto_region 21 with fail
            obtain ⟨⟨cs1, hb1⟩, ⟨cs2, hb2⟩⟩ := HA.out.blocks
            have h8r : g8 ∉ [gr] := not1 (blk_types B8.out hb1 (by decide))
            have h8f : g8 ∉ [gf] := not1 (blk_types B8.out hb2 (by decide))
            clear hb1 hb2 t0 t1 t2
            have rr : ∀ W, SAct g8 o0 false vv W → W.cell? ⟨g8, 2, none⟩ = some (.int .u64 vv) := fun W h => h.cell 2
            rcases (HA.out.down (bdrew wa)).put vv HVV.out with ⟨c1, c2⟩ | c1
            · have HC1 := Lib.hid c1
              have HC2 := Lib.hid c2
              clear c1 c2
              refine wp_region_held_drew (S := (fun W => SAct g8 o0 false vv W)) (by kernel_rfl) (B8.out) (fun hHeld => ?_)
              refine wpAnyH_take (i := 0) (oi := ⟨some 125, _, _, _, _, _⟩) (v := ?tvnf0) rfl (by kernel_rfl) (by kernel_rfl) (by kernel_rfl) (fun _ _ _ h => h) (Or.inl ⟨by kernel_rfl, ?tynf0⟩) (by assumption) ?trnf0
              case tynf0 => (intro w hSw; first | (go_simp; done) | (go_simp; with_reducible rfl))
              case' trnf0 => try simp only [Act.put, List.setIfInBounds_toArray, List.set_cons_zero, List.set_cons_succ]
              refine wpAnyH_take (i := 1) (oi := ⟨some 126, _, _, _, _, _⟩) (v := ?tvnf1) rfl (by kernel_rfl) (by kernel_rfl) (by kernel_rfl) (fun _ _ _ h => h) (Or.inl ⟨by kernel_rfl, ?tynf1⟩) (by assumption) ?trnf1
              case tynf1 => (intro w hSw; first | (go_simp; done) | (go_simp; with_reducible rfl))
              case' trnf1 => try simp only [Act.put, List.setIfInBounds_toArray, List.set_cons_zero, List.set_cons_succ]
              refine wpAnyH_take (i := 2) (oi := ⟨some 127, _, _, _, _, _⟩) (v := ?tvnf2) rfl (by kernel_rfl) (by kernel_rfl) (by kernel_rfl) (fun _ _ _ h => h) (Or.inl ⟨by kernel_rfl, ?tynf2⟩) (by assumption) ?trnf2
              case tynf2 => (intro w hSw; first | (go_simp; done) | (go_simp; with_reducible rfl))
              case' trnf2 => try simp only [Act.put, List.setIfInBounds_toArray, List.set_cons_zero, List.set_cons_succ]
              refine wpAnyH_take (i := 4) (oi := ⟨some 129, _, _, _, _, _⟩) (v := ?tvnf4) rfl (by kernel_rfl) (by kernel_rfl) (by kernel_rfl) (fun _ _ _ h => h) (Or.inl ⟨by kernel_rfl, ?tynf4⟩) (by assumption) ?trnf4
              case tynf4 => (intro w hSw; first | (go_simp; done) | (go_simp; with_reducible rfl))
              case' trnf4 => try simp only [Act.put, List.setIfInBounds_toArray, List.set_cons_zero, List.set_cons_succ]
              refine wpAnyH_take (i := 5) (oi := ⟨some 130, _, _, _, _, _⟩) (v := ?tvnf5) rfl (by kernel_rfl) (by kernel_rfl) (by kernel_rfl) (fun _ _ _ h => h) (Or.inl ⟨by kernel_rfl, ?tynf5⟩) (by assumption) ?trnf5
              case tynf5 => (intro w hSw; first | (go_simp; done) | (go_simp; with_reducible rfl))
              case' trnf5 => try simp only [Act.put, List.setIfInBounds_toArray, List.set_cons_zero, List.set_cons_succ]
              refine wpAnyH_take (i := 6) (oi := ⟨some 131, _, _, _, _, _⟩) (v := ?tvnf6) rfl (by kernel_rfl) (by kernel_rfl) (by kernel_rfl) (fun _ _ _ h => h) (Or.inl ⟨by kernel_rfl, ?tynf6⟩) (by assumption) ?trnf6
              case tynf6 => (intro w hSw; first | (go_simp; done) | (go_simp; with_reducible rfl))
              case' trnf6 => try simp only [Act.put, List.setIfInBounds_toArray, List.set_cons_zero, List.set_cons_succ]
              refine wpAnyH_ready (rs := [3]) (by kernel_rfl) (by simp) ?_
              refine AllReadyH.cons (o := ⟨some 128, _, _, _, _, _⟩) rfl (fun K hK => ?_) AllReadyH.nil
              go_simp
              go_at_call 13
              refine (HC1.out).mono ?_
              rintro e w3 ⟨rfl, rfl⟩
              refine hK.out _ _ hHeld (fun hHeld0 => ?_)
              clear hK K hHeld0
              try simp only [Act.put, List.setIfInBounds_toArray, List.set_cons_zero, List.set_cons_succ]
              refine wpAnyH_ready (rs := [7]) (by kernel_rfl) (by simp) ?_
              refine AllReadyH.cons (o := ⟨some 132, _, _, _, _, _⟩) rfl (fun K hK => ?_) AllReadyH.nil
              go_simp
              go_at_call 22
              refine (HC2.out).mono ?_
              rintro e w4 ⟨rfl, rfl⟩
              refine hK.out _ _ hHeld (fun hHeld0 => ?_)
              clear hK K hHeld0
              try simp only [Act.put, List.setIfInBounds_toArray, List.set_cons_zero, List.set_cons_succ]
              refine wpAnyH_take (i := 8) (oi := ⟨some 15, _, _, _, _, _⟩) (v := ?tvnf8) rfl (by kernel_rfl) (by kernel_rfl) (by kernel_rfl) (fun _ _ _ h => h) (Or.inl ⟨by kernel_rfl, ?tynf8⟩) (by assumption) ?trnf8
              case tynf8 => (intro w hSw; first | (go_simp; done) | (go_simp; with_reducible rfl))
              case' trnf8 => try simp only [Act.put, List.setIfInBounds_toArray, List.set_cons_zero, List.set_cons_succ]
              refine wpAnyH_take (i := 9) (oi := ⟨some 16, _, _, _, _, _⟩) (v := ?tvnf9) rfl (by kernel_rfl) (by kernel_rfl) (by kernel_rfl) (fun _ _ _ h => h) (Or.inl ⟨by kernel_rfl, ?tynf9⟩) (by assumption) ?trnf9
              case tynf9 => (intro w hSw; first | (go_simp; done) | (go_simp; with_reducible rfl))
              case' trnf9 => try simp only [Act.put, List.setIfInBounds_toArray, List.set_cons_zero, List.set_cons_succ]
              refine wpAnyH_done (by kernel_rfl) ?_ _

              go_wp2
              go_meet
              exact ⟨P, G, Pf, Gf, (HA.out.down (bdrew wa)).up (by omega)⟩
            · have HC1 := Lib.hid c1
              clear c1
              refine wp_region_held_drew (S := (fun W => SAct g8 o0 false vv W)) (by kernel_rfl) (B8.out) (fun hHeld => ?_)
              refine wpAnyH_take (i := 0) (oi := ⟨some 125, _, _, _, _, _⟩) (v := ?tvmf0) rfl (by kernel_rfl) (by kernel_rfl) (by kernel_rfl) (fun _ _ _ h => h) (Or.inl ⟨by kernel_rfl, ?tymf0⟩) (by assumption) ?trmf0
              case tymf0 => (intro w hSw; first | (go_simp; done) | (go_simp; with_reducible rfl))
              case' trmf0 => try simp only [Act.put, List.setIfInBounds_toArray, List.set_cons_zero, List.set_cons_succ]
              refine wpAnyH_take (i := 1) (oi := ⟨some 126, _, _, _, _, _⟩) (v := ?tvmf1) rfl (by kernel_rfl) (by kernel_rfl) (by kernel_rfl) (fun _ _ _ h => h) (Or.inl ⟨by kernel_rfl, ?tymf1⟩) (by assumption) ?trmf1
              case tymf1 => (intro w hSw; first | (go_simp; done) | (go_simp; with_reducible rfl))
              case' trmf1 => try simp only [Act.put, List.setIfInBounds_toArray, List.set_cons_zero, List.set_cons_succ]
              refine wpAnyH_take (i := 2) (oi := ⟨some 127, _, _, _, _, _⟩) (v := ?tvmf2) rfl (by kernel_rfl) (by kernel_rfl) (by kernel_rfl) (fun _ _ _ h => h) (Or.inl ⟨by kernel_rfl, ?tymf2⟩) (by assumption) ?trmf2
              case tymf2 => (intro w hSw; first | (go_simp; done) | (go_simp; with_reducible rfl))
              case' trmf2 => try simp only [Act.put, List.setIfInBounds_toArray, List.set_cons_zero, List.set_cons_succ]
              refine wpAnyH_take (i := 4) (oi := ⟨some 129, _, _, _, _, _⟩) (v := ?tvmf4) rfl (by kernel_rfl) (by kernel_rfl) (by kernel_rfl) (fun _ _ _ h => h) (Or.inl ⟨by kernel_rfl, ?tymf4⟩) (by assumption) ?trmf4
              case tymf4 => (intro w hSw; first | (go_simp; done) | (go_simp; with_reducible rfl))
              case' trmf4 => try simp only [Act.put, List.setIfInBounds_toArray, List.set_cons_zero, List.set_cons_succ]
              refine wpAnyH_take (i := 5) (oi := ⟨some 130, _, _, _, _, _⟩) (v := ?tvmf5) rfl (by kernel_rfl) (by kernel_rfl) (by kernel_rfl) (fun _ _ _ h => h) (Or.inl ⟨by kernel_rfl, ?tymf5⟩) (by assumption) ?trmf5
              case tymf5 => (intro w hSw; first | (go_simp; done) | (go_simp; with_reducible rfl))
              case' trmf5 => try simp only [Act.put, List.setIfInBounds_toArray, List.set_cons_zero, List.set_cons_succ]
              refine wpAnyH_take (i := 6) (oi := ⟨some 131, _, _, _, _, _⟩) (v := ?tvmf6) rfl (by kernel_rfl) (by kernel_rfl) (by kernel_rfl) (fun _ _ _ h => h) (Or.inl ⟨by kernel_rfl, ?tymf6⟩) (by assumption) ?trmf6
              case tymf6 => (intro w hSw; first | (go_simp; done) | (go_simp; with_reducible rfl))
              case' trmf6 => try simp only [Act.put, List.setIfInBounds_toArray, List.set_cons_zero, List.set_cons_succ]
              refine wpAnyH_ready (rs := [3]) (by kernel_rfl) (by simp) ?_
              refine AllReadyH.cons (o := ⟨some 128, _, _, _, _, _⟩) rfl (fun K hK => ?_) AllReadyH.nil
              go_simp
              go_at_call 13
              refine (HC1.out).mono ?_
              rintro e w3 ⟨a, rfl, hk1, hc2⟩
              have hSmf3 : ((fun W => SAct g8 o0 false vv W)) w3 := hk1.blk hHeld h8r
              refine hK.out _ _ hSmf3 (fun hHeld0 => ?_)
              clear hK K hHeld0 hHeld
              try simp only [Act.put, List.setIfInBounds_toArray, List.set_cons_zero, List.set_cons_succ]
              have hHeld : ((fun W => SAct g8 o0 false vv W)) w3 := hSmf3
              clear hSmf3
              refine wpAnyH_ready (rs := [7]) (by kernel_rfl) (by simp) ?_
              refine AllReadyH.cons (o := ⟨some 132, _, _, _, _, _⟩) rfl (fun K hK => ?_) AllReadyH.nil
              go_simp
              go_at_call 22
              refine (hc2).mono ?_
              rintro e w4 ⟨b, rfl, hk2, hj2, hja⟩
              have hSmf7 : ((fun W => SAct g8 o0 false vv W)) w4 := hk2.blk hHeld h8f
              refine hK.out _ _ hSmf7 (fun hHeld0 => ?_)
              clear hK K hHeld0 hHeld
              try simp only [Act.put, List.setIfInBounds_toArray, List.set_cons_zero, List.set_cons_succ]
              have hHeld : ((fun W => SAct g8 o0 false vv W)) w4 := hSmf7
              clear hSmf7
              refine wpAnyH_take (i := 8) (oi := ⟨some 15, _, _, _, _, _⟩) (v := ?tvmf8) rfl (by kernel_rfl) (by kernel_rfl) (by kernel_rfl) (fun _ _ _ h => h) (Or.inl ⟨by kernel_rfl, ?tymf8⟩) (by assumption) ?trmf8
              case tymf8 => (intro w hSw; first | (go_simp; done) | (go_simp; with_reducible rfl))
              case' trmf8 => try simp only [Act.put, List.setIfInBounds_toArray, List.set_cons_zero, List.set_cons_succ]
              refine wpAnyH_take (i := 9) (oi := ⟨some 16, _, _, _, _, _⟩) (v := ?tvmf9) rfl (by kernel_rfl) (by kernel_rfl) (by kernel_rfl) (fun _ _ _ h => h) (Or.inl ⟨by kernel_rfl, ?tymf9⟩) (by assumption) ?trmf9
              case tymf9 => (intro w hSw; first | (go_simp; done) | (go_simp; with_reducible rfl))
              case' trmf9 => try simp only [Act.put, List.setIfInBounds_toArray, List.set_cons_zero, List.set_cons_succ]
              refine wpAnyH_done (by kernel_rfl) ?_ _

              have HJ2 := Lib.hid hj2
              have HJA := Lib.hid hja
              have ca : w4.cell? ⟨ga, 0, none⟩ = some (ptO P) := hja.sa.cell 0
              have cd : w4.cell? ⟨gd, 0, none⟩ = some (ptO Pf) := hja.da.cell 0
              have fa := hja.sa.frozen 0
              have fd := hja.da.frozen 0
              have hne : ga ≠ gd := blk_types hja.sa hja.da (by decide)
              have cd2 : (w4.setCell ⟨ga, 0, none⟩ (.pointer (some ⟨a, 0, none⟩))).cell? ⟨gd, 0, none⟩ = some (ptO Pf) := (hja.da.ne (p := ⟨ga, 0, none⟩) hne (.pointer (some ⟨a, 0, none⟩))).cell 0
              have fd2 : (w4.setCell ⟨ga, 0, none⟩ (.pointer (some ⟨a, 0, none⟩))).frozen? ⟨gd, 0, none⟩ = false := (hja.da.ne (p := ⟨ga, 0, none⟩) hne (.pointer (some ⟨a, 0, none⟩))).frozen 0
              clear hj2 hja hk1 hk2 hHeld rr
              go_wp2
              go_meet
              exact ⟨_, _, _, _, (HJ2.out.arrP HJA.out).up (by omega)⟩
          by_cases hx1 : r = 1
          · obtain rfl := hx1
            rcases HA.out.get with ⟨c1, c2⟩ | c1
            · have HC1 := Lib.hid c1
              have HC2 := Lib.hid c2
              clear c1 c2 hx0
              go_upto_region 28 with (first
                | (go_at_call 14; refine (HC1.out).mono ?_; rintro e w3 ⟨rfl, rfl⟩)
                | (go_at_call 22; refine (HC2.out).mono ?_; rintro e w4 ⟨rfl, rfl⟩))
              go_wp2
              go_meet
              exact ⟨P, G, Pf, Gf, HA.out.up (by omega)⟩
            · have HC1 := Lib.hid c1
              clear c1 hx0
              go_upto_region 28 with (first
                | (go_at_call 14; refine (HC1.out).mono ?_; rintro e w3 ⟨a, rfl, hc2⟩; have HC2 := Lib.hid hc2; clear hc2)
                | (go_at_call 22; refine (HC2.out).mono ?_; rintro e w4 ⟨b, rfl, hj2, hja⟩))
              have HJ2 := Lib.hid hj2
              have HJA := Lib.hid hja
              have ca : w4.cell? ⟨ga, 1, none⟩ = some (ptO G) := hja.sa.cell 1
              have cd : w4.cell? ⟨gd, 1, none⟩ = some (ptO Gf) := hja.da.cell 1
              have fa := hja.sa.frozen 1
              have fd := hja.da.frozen 1
              have hne : ga ≠ gd := blk_types hja.sa hja.da (by decide)
              have cd2 : (w4.setCell ⟨ga, 1, none⟩ (.pointer (some ⟨a, 0, none⟩))).cell? ⟨gd, 1, none⟩ = some (ptO Gf) := (hja.da.ne (p := ⟨ga, 1, none⟩) hne (.pointer (some ⟨a, 0, none⟩))).cell 1
              have fd2 : (w4.setCell ⟨ga, 1, none⟩ (.pointer (some ⟨a, 0, none⟩))).frozen? ⟨gd, 1, none⟩ = false := (hja.da.ne (p := ⟨ga, 1, none⟩) hne (.pointer (some ⟨a, 0, none⟩))).frozen 1
              clear hj2 hja t0 t1 t2
              go_wp2
              go_meet
              exact ⟨_, _, _, _, (HJ2.out.arrG HJA.out).up (by omega)⟩
          · clear t0 t1 t2
            go_upto_region 18 with fail
            clear hx0 hx1
            obtain ⟨b, hc⟩ := (HA.out.down (bdrew wa)).doP (by omega)
            have HC := Lib.hid hc
            clear hc
            have rs : ∀ W, JA w W ga gd P G Pf Gf → W.cell? ⟨ga, 0, none⟩ = some (ptO P) := fun W h => h.sa.cell 0
            have rd : ∀ W, JA w W ga gd P G Pf Gf → W.cell? ⟨gd, 0, none⟩ = some (ptO Pf) := fun W h => h.da.cell 0
            refine wp_region_held_drew (S := (fun W => JA w W ga gd P G Pf Gf)) (by kernel_rfl) (HA.out.two.2.below (bdrew wa)) (fun hHeld => ?_)
            refine wpAnyH_take (i := 0) (oi := ⟨some 112, _, _, _, _, _⟩) (v := ?tvdf0) rfl (by kernel_rfl) (by kernel_rfl) (by kernel_rfl) (fun _ _ _ h => h) (Or.inl ⟨by kernel_rfl, ?tydf0⟩) (by assumption) ?trdf0
            case tydf0 => (intro w hSw; first | (go_simp; done) | (go_simp; with_reducible rfl))
            case' trdf0 => try simp only [Act.put, List.setIfInBounds_toArray, List.set_cons_zero, List.set_cons_succ]
            refine wpAnyH_take (i := 1) (oi := ⟨some 113, _, _, _, _, _⟩) (v := ?tvdf1) rfl (by kernel_rfl) (by kernel_rfl) (by kernel_rfl) (fun _ _ _ h => h) (Or.inl ⟨by kernel_rfl, ?tydf1⟩) (by assumption) ?trdf1
            case tydf1 => (intro w hSw; first | (go_simp; done) | (go_simp; with_reducible rfl))
            case' trdf1 => try simp only [Act.put, List.setIfInBounds_toArray, List.set_cons_zero, List.set_cons_succ]
            refine wpAnyH_take (i := 2) (oi := ⟨some 114, _, _, _, _, _⟩) (v := ?tvdf2) rfl (by kernel_rfl) (by kernel_rfl) (by kernel_rfl) (fun _ _ _ h => h) (Or.inl ⟨by kernel_rfl, ?tydf2⟩) (by assumption) ?trdf2
            case tydf2 => (intro w hSw; first | (go_simp; done) | (go_simp; with_reducible rfl))
            case' trdf2 => try simp only [Act.put, List.setIfInBounds_toArray, List.set_cons_zero, List.set_cons_succ]
            refine wpAnyH_take (i := 3) (oi := ⟨some 115, _, _, _, _, _⟩) (v := ?tvdf3) rfl (by kernel_rfl) (by kernel_rfl) (by kernel_rfl) (fun _ _ _ h => h) (Or.inl ⟨by kernel_rfl, ?tydf3⟩) (by assumption) ?trdf3
            case tydf3 => (intro w hSw; first | (go_simp; done) | (go_simp; with_reducible rfl))
            case' trdf3 => try simp only [Act.put, List.setIfInBounds_toArray, List.set_cons_zero, List.set_cons_succ]
            refine wpAnyH_take (i := 5) (oi := ⟨some 117, _, _, _, _, _⟩) (v := ?tvdf5) rfl (by kernel_rfl) (by kernel_rfl) (by kernel_rfl) (fun _ _ _ h => h) (Or.inl ⟨by kernel_rfl, ?tydf5⟩) (by assumption) ?trdf5
            case tydf5 => (intro w hSw; first | (go_simp; done) | (go_simp; with_reducible rfl))
            case' trdf5 => try simp only [Act.put, List.setIfInBounds_toArray, List.set_cons_zero, List.set_cons_succ]
            refine wpAnyH_take (i := 6) (oi := ⟨some 118, _, _, _, _, _⟩) (v := ?tvdf6) rfl (by kernel_rfl) (by kernel_rfl) (by kernel_rfl) (fun _ _ _ h => h) (Or.inl ⟨by kernel_rfl, ?tydf6⟩) (by assumption) ?trdf6
            case tydf6 => (intro w hSw; first | (go_simp; done) | (go_simp; with_reducible rfl))
            case' trdf6 => try simp only [Act.put, List.setIfInBounds_toArray, List.set_cons_zero, List.set_cons_succ]
            refine wpAnyH_take (i := 7) (oi := ⟨some 119, _, _, _, _, _⟩) (v := ?tvdf7) rfl (by kernel_rfl) (by kernel_rfl) (by kernel_rfl) (fun _ _ _ h => h) (Or.inl ⟨by kernel_rfl, ?tydf7⟩) (by assumption) ?trdf7
            case tydf7 => (intro w hSw; first | (go_simp; done) | (go_simp; with_reducible rfl))
            case' trdf7 => try simp only [Act.put, List.setIfInBounds_toArray, List.set_cons_zero, List.set_cons_succ]
            refine wpAnyH_take (i := 8) (oi := ⟨some 120, _, _, _, _, _⟩) (v := ?tvdf8) rfl (by kernel_rfl) (by kernel_rfl) (by kernel_rfl) (fun _ _ _ h => h) (Or.inl ⟨by kernel_rfl, ?tydf8⟩) (by assumption) ?trdf8
            case tydf8 => (intro w hSw; first | (go_simp; done) | (go_simp; with_reducible rfl))
            case' trdf8 => try simp only [Act.put, List.setIfInBounds_toArray, List.set_cons_zero, List.set_cons_succ]
            refine wpAnyH_ready (rs := [4]) (by kernel_rfl) (by simp) ?_
            refine AllReadyH.cons (o := ⟨some 116, _, _, _, _, _⟩) rfl (fun K hK => ?_) AllReadyH.nil
            go_simp
            go_at_call 15
            refine (HC.out).mono ?_
            rintro e w3 ⟨rfl, hja, hc2⟩
            have hSdf4 : ((fun W => JA w W ga gd P G Pf Gf)) w3 := hja
            refine hK.out _ _ hSdf4 (fun hHeld0 => ?_)
            clear hK K hHeld0 hHeld
            try simp only [Act.put, List.setIfInBounds_toArray, List.set_cons_zero, List.set_cons_succ]
            have hHeld : ((fun W => JA w W ga gd P G Pf Gf)) w3 := hSdf4
            clear hSdf4
            refine wpAnyH_ready (rs := [9]) (by kernel_rfl) (by simp) ?_
            refine AllReadyH.cons (o := ⟨some 121, _, _, _, _, _⟩) rfl (fun K hK => ?_) AllReadyH.nil
            go_simp
            go_at_call 23
            refine (hc2).mono ?_
            rintro e w4 ⟨rfl, hj⟩
            have hSdf9 : ((fun W => JA w W ga gd P G Pf Gf)) w4 := hj.two.2
            refine hK.out _ _ hSdf9 (fun hHeld0 => ?_)
            clear hK K hHeld0 hHeld
            try simp only [Act.put, List.setIfInBounds_toArray, List.set_cons_zero, List.set_cons_succ]
            have hHeld : ((fun W => JA w W ga gd P G Pf Gf)) w4 := hSdf9
            clear hSdf9
            refine wpAnyH_take (i := 10) (oi := ⟨some 122, _, _, _, _, _⟩) (v := ?tvdf10) rfl (by kernel_rfl) (by kernel_rfl) (by kernel_rfl) (fun _ _ _ h => h) (Or.inl ⟨by kernel_rfl, ?tydf10⟩) (by assumption) ?trdf10
            case tydf10 => (intro w hSw; first | (go_simp; done) | (go_simp; with_reducible rfl))
            case' trdf10 => try simp only [Act.put, List.setIfInBounds_toArray, List.set_cons_zero, List.set_cons_succ]
            refine wpAnyH_done (by kernel_rfl) ?_ _
            have HB := Lib.hid hj
            clear hj hja hc2 hHeld rs rd HA HC
            go_wp2
            go_meet
            exact ⟨P, G, Pf, Gf, HB.out⟩
        case rest =>
          clear HA B8 t0 t1 t2 P G Pf Gf
          obtain ⟨P, G, Pf, Gf, hj⟩ := hcut
          have HA := Lib.hid hj
          clear hj hr hr0 hr6 hr7 HVV
          go_wp2
          go_loopw [19] (fun s19 wt => ∃ j : Int, s19 = .int .i64 j ∧ (j = 0 ∨ j = 1 ∨ j = 2) ∧ J w wt gr gc gn gf gl ga gd N (i + 1) P G Pf Gf) (fun j _ => 2 - (intOf j).toNat)
          case atStart => exact ⟨0, rfl, .inl rfl, HA.out⟩
          case round =>
            obtain ⟨j, rfl, h012, hjj⟩ := hrel
            have H5 := Lib.hid hjj
            clear hjj HA
            rcases h012 with rfl | rfl | rfl
            · rcases H5.out.showP with ⟨rfl, rfl⟩ | ⟨a, af, rfl, rfl, er, x, ce, hE, hV, hF⟩
              · have ca : wr.cell? ⟨ga, 0, none⟩ = some (.pointer none) := H5.out.two.2.sa.cell 0
                have cd : wr.cell? ⟨gd, 0, none⟩ = some (.pointer none) := H5.out.two.2.da.cell 0
                go_upto_region 35 with fail
                go_quiet (fail)
                go_wp2
                go_roundw
                case rel => exact ⟨1, rfl, by omega, H5.out.down (bdrewN _ _)⟩
                case measure => simp [intOf]
              · have ca : wr.cell? ⟨ga, 0, none⟩ = some (.pointer (some ⟨a, 0, none⟩)) := H5.out.two.2.sa.cell 0
                have cd : wr.cell? ⟨gd, 0, none⟩ = some (.pointer (some ⟨af, 0, none⟩)) := H5.out.two.2.da.cell 0
                have HE := Lib.hid hE
                have HV := Lib.hid hV
                have HF := Lib.hid hF
                clear hE hV hF
                go_upto_region 35 with fail
                go_quiet ((first
                  | (go_at_call 19; exact quietB (HE.out _))
                  | (go_at_call 20; exact quietB (HV.out _))
                  | (go_at_call 24; exact quietB (HF.out _))))
                go_wp2
                go_roundw
                case rel => exact ⟨1, rfl, by omega, H5.out.down (bdrewN _ _)⟩
                case measure => simp [intOf]
            · rcases H5.out.showG with ⟨rfl, rfl⟩ | ⟨a, af, rfl, rfl, er, x, ce, hE, hV, hF⟩
              · have ca : wr.cell? ⟨ga, 1, none⟩ = some (.pointer none) := H5.out.two.2.sa.cell 1
                have cd : wr.cell? ⟨gd, 1, none⟩ = some (.pointer none) := H5.out.two.2.da.cell 1
                go_upto_region 35 with fail
                go_quiet (fail)
                go_wp2
                go_roundw
                case rel => exact ⟨2, rfl, by omega, H5.out.down (bdrewN _ _)⟩
                case measure => simp [intOf]
              · have ca : wr.cell? ⟨ga, 1, none⟩ = some (.pointer (some ⟨a, 0, none⟩)) := H5.out.two.2.sa.cell 1
                have cd : wr.cell? ⟨gd, 1, none⟩ = some (.pointer (some ⟨af, 0, none⟩)) := H5.out.two.2.da.cell 1
                have HE := Lib.hid hE
                have HV := Lib.hid hV
                have HF := Lib.hid hF
                clear hE hV hF
                go_upto_region 35 with fail
                go_quiet ((first
                  | (go_at_call 19; exact quietB (HE.out _))
                  | (go_at_call 20; exact quietB (HV.out _))
                  | (go_at_call 24; exact quietB (HF.out _))))
                go_wp2
                go_roundw
                case rel => exact ⟨2, rfl, by omega, H5.out.down (bdrewN _ _)⟩
                case measure => simp [intOf]

            · have HH := Lib.hid (H5.out.holds (by omega))
              clear H5
              go_upto_region 12 with (first
                | (go_at_call 18; refine (HH.out).mono ?_; rintro e w1 ⟨s1, rfl, h1⟩; have K1 := Lib.hid h1; clear h1 HH)
                | (go_at_call 26; refine (K1.out).mono ?_; rintro e w2 ⟨s2, rfl, h2⟩; have K2 := Lib.hid h2; clear h2 K1)
                | (go_at_call 25; refine (K2.out).mono ?_; rintro e w3 ⟨rfl, h3⟩; have K3 := Lib.hid h3; clear h3 K2)
                | (go_at_call 17; refine (K3.out).mono ?_; rintro e w4 ⟨s3, rfl, h4⟩; have K4 := Lib.hid h4; clear h4 K3)
                | (go_at_call 27; refine (K4.out).mono ?_; rintro e w5 ⟨s4, rfl, h5⟩; have K5 := Lib.hid h5; clear h5 K4)
                | (go_at_call 25; refine (K5.out).mono ?_; rintro e w6 ⟨rfl, m, h6⟩; have K6 := Lib.hid h6; clear h6 K5)
                | (go_at_call 16; refine (K6.out).mono ?_; rintro e w7 ⟨rfl, h7⟩; have K7 := Lib.hid h7; clear h7 K6)
                | (go_at_call 27; refine (K7.out).mono ?_; rintro e w8 ⟨⟨A8, c8, rfl⟩, h8⟩; have K8 := Lib.hid h8; clear h8 K7))
              go_wp2
              go_roundw
              case rel => exact ⟨i + 1, by go_num, by omega, P, G, Pf, Gf, K8.out⟩
              case measure => simp [intOf]; omega
    · have HB := Lib.hid H3.out.bel
      clear H3
      by_cases hl1 : i < nr
      · obtain rfl : i = 300 := by omega
        go_wp2
        go_ret
        exact ⟨rfl, HB.out⟩
      · go_wp2
        go_ret
        exact ⟨rfl, HB.out⟩
end Go.Proofs.Ytpaiicplcaeneaa
