/-
  PlaceActs: one round of its loop.
-/
import Derived.Test.YtpiobdbaljkkpaaPlaW
namespace Go.Proofs.Ytpiobdbaljkkpaa
open Go.RowKit Plain
set_option linter.unusedVariables false
set_option linter.unusedSimpArgs false
set_option maxRecDepth 1000000

/-- a call, as it lies in a block -/
def Av.blk (x : Av) : Array Value := #[.int .i64 x.wh, .int .i64 x.ii, .int .i64 x.old.st, .int .i64 x.old.gn, .int .i64 x.old.tr, .int .i64 x.old.sn, .int .i64 x.now.st, .int .i64 x.now.gn, .int .i64 x.now.tr, .int .i64 x.now.sn, .int .i64 x.kp, .int .u32 x.ka, .int .u16 x.ko]
/-- behind one call -/
def MidP (w : World) (gp gc gn gl gk n g10 : Nat) (x : Av) (wr : World) : Prop := Blk wr g10 81 x.blk ∧ StP w gp gc gn gl gk n wr
def Wd.cs (x : Wd) : Array Value := #[.int .i64 x.st, .int .i64 x.gn, .int .i64 x.tr, .int .i64 x.sn]
/-- two Words in new blocks -/
def NewP (wa : World) (s12 s13 : Value) (o z : Wd) (wx : World) : Prop :=
  ∃ g12 g13, s12 = .pointer (some ⟨g12, 0, none⟩) ∧ s13 = .pointer (some ⟨g13, 0, none⟩) ∧ g12 ≠ g13 ∧ wa.heap.size ≤ g12 ∧ wa.heap.size ≤ g13 ∧ Blk wx g12 78 o.cs ∧ Blk wx g13 78 z.cs ∧ Below wa.heap.size wa wx
/-- two Words in blocks that may have been written -/
def NewQ (wa : World) (g12 g13 : Nat) (wx : World) : Prop :=
  ∃ o z : Wd, Blk wx g12 78 o.cs ∧ Blk wx g13 78 z.cs ∧ Keep [g12, g13] wa wx
theorem keepd {w : World} {p : Addr} {u : Option Value} (h : w.cell? p = u) : w.drew.cell? p = u := h
theorem keepc {w : World} {g f i j : Nat} {v : Value} {u : Option Value} (h : w.cell? ⟨g, i, none⟩ = u) (hne : f ≠ g) : (w.setCell ⟨f, j, none⟩ v).cell? ⟨g, i, none⟩ = u :=
  (World.cell?_setCell_other _ _ _ _ (by intro h1; injection h1 with h2; exact hne h2)).trans h
/-- a call, two Words: the first one known -/
structure TwoW (wa : World) (g10 g12 g13 : Nat) (b : Array Value) (o : Wd) (wx : World) : Prop where
  b10 : Blk wx g10 81 b
  w12 : Blk wx g12 78 o.cs
  w13 : ∃ z : Wd, Blk wx g13 78 z.cs
  kp : Keep [g12, g13] wa wx
theorem TwoW.st4 {wa wx : World} {g10 g12 g13 : Nat} {b : Array Value} {o : Wd} (h : TwoW wa g10 g12 g13 b o wx) (h1 : g12 ≠ g13) (h2 : g10 ≠ g12) (x : Wd) :
    TwoW wa g10 g12 g13 b x ((((wx.setCell ⟨g12, 0, none⟩ (.int .i64 x.st)).setCell ⟨g12, 1, none⟩ (.int .i64 x.gn)).setCell ⟨g12, 2, none⟩ (.int .i64 x.tr)).setCell ⟨g12, 3, none⟩ (.int .i64 x.sn)) := by
  obtain ⟨z, hz⟩ := h.w13
  exact ⟨(((h.b10.ne (p := ⟨g12, 0, none⟩) h2.symm _).ne (p := ⟨g12, 1, none⟩) h2.symm _).ne (p := ⟨g12, 2, none⟩) h2.symm _).ne (p := ⟨g12, 3, none⟩) h2.symm _,
    h.w12.c4set _ _ _ _, ⟨z, (((hz.ne (p := ⟨g12, 0, none⟩) h1 _).ne (p := ⟨g12, 1, none⟩) h1 _).ne (p := ⟨g12, 2, none⟩) h1 _).ne (p := ⟨g12, 3, none⟩) h1 _⟩,
    (((h.kp.setCell (p := ⟨g12, 0, none⟩) (.inl (by simp)) _).setCell (p := ⟨g12, 1, none⟩) (.inl (by simp)) _).setCell (p := ⟨g12, 2, none⟩) (.inl (by simp)) _).setCell (p := ⟨g12, 3, none⟩) (.inl (by simp)) _⟩
theorem TwoW.st1 {wa wx : World} {g10 g12 g13 : Nat} {b : Array Value} {o : Wd} (h : TwoW wa g10 g12 g13 b o wx) (h1 : g12 ≠ g13) (h2 : g10 ≠ g13) (k : Nat) (hk : k < 4) (v : Int) :
    TwoW wa g10 g12 g13 b o (wx.setCell ⟨g13, k, none⟩ (.int .i64 v)) := by
  obtain ⟨⟨a, b, c, d⟩, hz⟩ := h.w13
  refine ⟨h.b10.ne (p := ⟨g13, k, none⟩) h2.symm _, h.w12.ne (p := ⟨g13, k, none⟩) h1.symm _, ?_, h.kp.setCell (p := ⟨g13, k, none⟩) (.inl (by simp)) _⟩
  have hs := hz.set k (.int .i64 v)
  have k4 : k = 0 ∨ k = 1 ∨ k = 2 ∨ k = 3 := by omega
  rcases k4 with rfl | rfl | rfl | rfl
  · exact ⟨⟨v, b, c, d⟩, hs⟩
  · exact ⟨⟨a, v, c, d⟩, hs⟩
  · exact ⟨⟨a, b, v, d⟩, hs⟩
  · exact ⟨⟨a, b, c, v⟩, hs⟩
theorem TwoW.drewN {wa wx : World} {g10 g12 g13 : Nat} {b : Array Value} {o : Wd} (h : TwoW wa g10 g12 g13 b o wx) (q : Nat) : TwoW wa g10 g12 g13 b o (wx.drewN q) := ⟨h.b10, h.w12, h.w13, h.kp.drewN q⟩
theorem TwoW.fin {wa wx : World} {g10 g12 g13 : Nat} {b : Array Value} {o : Wd} (h : TwoW wa g10 g12 g13 b o wx) : NewQ wa g12 g13 wx := by
  obtain ⟨z, hz⟩ := h.w13
  exact ⟨o, z, h.w12, hz, h.kp⟩
/-- while a call goes on: rows that stay, a call, two Words -/
structure S26 (w : World) (gp gc gn gl gk n : Nat) (vs : Nat → Wd) (js : Nat → Fl) (g10 g12 g13 : Nat) (b : Array Value) (o z : Wd) (W : World) : Prop where
  ast : ∃ l ws ks, AS w gp gc gn gl gk n l ws ks vs js W
  b10 : Blk W g10 81 b
  b12 : Blk W g12 78 o.cs
  b13 : Blk W g13 78 z.cs
theorem S26.below {w W W' : World} {gp gc gn gl gk n g10 g12 g13 : Nat} {vs : Nat → Wd} {js : Nat → Fl} {b : Array Value} {o z : Wd} (h : S26 w gp gc gn gl gk n vs js g10 g12 g13 b o z W) (hb : Below W.heap.size W W') : S26 w gp gc gn gl gk n vs js g10 g12 g13 b o z W' := by
  obtain ⟨l, ws, ks, hA⟩ := h.ast
  exact ⟨⟨l, ws, ks, hA.below hb⟩, h.b10.below hb, h.b12.below hb, h.b13.below hb⟩
theorem S26.keep {w W W' : World} {gp gc gn gl gk n g10 g12 g13 : Nat} {vs : Nat → Wd} {js : Nat → Fl} {b : Array Value} {o z : Wd} {l2 : List Int} {ws2 : Nat → Wd} {ks2 : Nat → Fl} (h : S26 w gp gc gn gl gk n vs js g10 g12 g13 b o z W) (hk : Keep [gn] W W')
    (hA : AS w gp gc gn gl gk n l2 ws2 ks2 vs js W') (hn : gn ≠ g10 ∧ gn ≠ g12 ∧ gn ≠ g13) : S26 w gp gc gn gl gk n vs js g10 g12 g13 b o z W' :=
  ⟨⟨_, _, _, hA⟩, hk.blk h.b10 (by simp; omega), hk.blk h.b12 (by simp; omega), hk.blk h.b13 (by simp; omega)⟩
theorem S26.drew {w W : World} {gp gc gn gl gk n g10 g12 g13 : Nat} {vs : Nat → Wd} {js : Nat → Fl} {b : Array Value} {o z : Wd} (h : S26 w gp gc gn gl gk n vs js g10 g12 g13 b o z W) : S26 w gp gc gn gl gk n vs js g10 g12 g13 b o z W.drew := h.below (bdrew W)
theorem S26.cl {w W : World} {gp gc gn gl gk n g10 g12 g13 : Nat} {vs : Nat → Wd} {js : Nat → Fl} {b : Array Value} {o z : Wd} (h : S26 w gp gc gn gl gk n vs js g10 g12 g13 b o z W) (i : Nat) (hi : i < n) : W.cell? ⟨gl, i * 4, none⟩ = some (.int .i64 (vs i).st) ∧ W.cell? ⟨gl, i * 4 + 1, none⟩ = some (.int .i64 (vs i).gn) ∧ W.cell? ⟨gl, i * 4 + 2, none⟩ = some (.int .i64 (vs i).tr) ∧ W.cell? ⟨gl, i * 4 + 3, none⟩ = some (.int .i64 (vs i).sn) := by
  obtain ⟨_, _, _, hA⟩ := h.ast
  exact hA.cl i hi
theorem eq4 (x o : Wd) (w : World) : (if x.st = o.st then if x.gn = o.gn then if x.tr = o.tr then if x.sn = o.sn then Result.ok (Next.value (Value.bool true)) w else Result.ok (Next.value (Value.bool false)) w else Result.ok (Next.value (Value.bool false)) w
    else Result.ok (Next.value (Value.bool false)) w else Result.ok (Next.value (Value.bool false)) w) = Result.ok (Next.value (Value.bool (decide (x = o)))) w := by
  obtain ⟨a, b, c, d⟩ := x
  obtain ⟨p, q, r, s⟩ := o
  by_cases h1 : a = p <;> by_cases h2 : b = q <;> by_cases h3 : c = r <;> by_cases h4 : d = s <;> simp [h1, h2, h3, h4]
/-- while a call goes on: rows that stay, a call -/
structure S32 (w : World) (gp gc gn gl gk n : Nat) (vs : Nat → Wd) (js : Nat → Fl) (g10 : Nat) (b : Array Value) (W : World) : Prop where
  ast : ∃ l ws ks, AS w gp gc gn gl gk n l ws ks vs js W
  b10 : Blk W g10 81 b
section
variable {w W W' : World} {gp gc gn gl gk n g10 : Nat} {vs : Nat → Wd} {js : Nat → Fl} {b : Array Value}
theorem S32.below (h : S32 w gp gc gn gl gk n vs js g10 b W) (hb : Below W.heap.size W W') : S32 w gp gc gn gl gk n vs js g10 b W' := by
  obtain ⟨l, ws, ks, hA⟩ := h.ast
  exact ⟨⟨l, ws, ks, hA.below hb⟩, h.b10.below hb⟩
theorem S32.drew (h : S32 w gp gc gn gl gk n vs js g10 b W) : S32 w gp gc gn gl gk n vs js g10 b W.drew := h.below (bdrew W)
theorem S32.keep {l2 : List Int} {ws2 : Nat → Wd} {ks2 : Nat → Fl} (h : S32 w gp gc gn gl gk n vs js g10 b W) (hk : Keep [gn] W W') (hA : AS w gp gc gn gl gk n l2 ws2 ks2 vs js W') (hn : gn ≠ g10) : S32 w gp gc gn gl gk n vs js g10 b W' :=
  ⟨⟨_, _, _, hA⟩, hk.blk h.b10 (by simp; omega)⟩
theorem S32.cl (h : S32 w gp gc gn gl gk n vs js g10 b W) (i : Nat) (hi : i < n) : W.cell? ⟨gl, i * 4, none⟩ = some (.int .i64 (vs i).st) ∧ W.cell? ⟨gl, i * 4 + 1, none⟩ = some (.int .i64 (vs i).gn) ∧ W.cell? ⟨gl, i * 4 + 2, none⟩ = some (.int .i64 (vs i).tr) ∧ W.cell? ⟨gl, i * 4 + 3, none⟩ = some (.int .i64 (vs i).sn) := by
  obtain ⟨_, _, _, hA⟩ := h.ast
  exact hA.cl i hi
theorem S32.cf (h : S32 w gp gc gn gl gk n vs js g10 b W) (i : Nat) (hi : i < n) : W.cell? ⟨gk, i * 3, none⟩ = some (.int .i64 (js i).p) ∧ W.cell? ⟨gk, i * 3 + 1, none⟩ = some (.int .u32 (js i).a) ∧ W.cell? ⟨gk, i * 3 + 2, none⟩ = some (.int .u16 (js i).o) := by
  obtain ⟨_, _, _, hA⟩ := h.ast
  exact hA.cf i hi
theorem AS.loadE {l : List Int} {ws : Nat → Wd} {ks : Nat → Fl} (h : AS w gp gc gn gl gk n l ws ks vs js W) (i : Nat) (hi : i < n) : Calls Try.prog 23 #[.pointer (some ⟨gp, 0, none⟩), .int .i64 i] W fun e w' => e = .returned (.agg #[.int .i64 (ws i).st, .int .i64 (ws i).gn, .int .i64 (ws i).tr, .int .i64 (ws i).sn]) ∧ Below W.heap.size W w' := h.load i hi
theorem AS.keyE {l : List Int} {ws : Nat → Wd} {ks : Nat → Fl} (h : AS w gp gc gn gl gk n l ws ks vs js W) (i : Nat) (hi : i < n) : Calls Try.prog 25 #[.pointer (some ⟨gp, 0, none⟩), .int .i64 i] W fun e w' => e = .returned (.agg #[.int .i64 (ks i).p, .int .u32 (ks i).a, .int .u16 (ks i).o]) ∧ Below W.heap.size W w' := h.key i hi
end
theorem wfromE (x : Wd) (w : World) : Calls Try.prog 34 #[.agg #[.int .i64 x.st, .int .i64 x.gn, .int .i64 x.tr, .int .i64 x.sn]] w fun e w' => e = .returned (.agg #[.int .i64 x.st, .int .i64 x.gn, .int .i64 x.tr, .int .i64 x.sn]) ∧ Below w.heap.size w w' := wfrom_any x w
theorem lfromE (x : Fl) (w : World) : Calls Try.prog 35 #[.agg #[.int .i64 x.p, .int .u32 x.a, .int .u16 x.o]] w fun e w' => e = .returned (.agg #[.int .i64 x.p, .int .u32 x.a, .int .u16 x.o]) ∧ Below w.heap.size w w' := lfromKey_any x w
theorem ploadE {w : World} {gp gc gn n : Nat} {l : List Int} (h : PlB w gp gc gn n l) (i : Int) (hi : inC n i = false) :
    Calls Try.prog 23 #[.pointer (some ⟨gp, 0, none⟩), .int .i64 i] w fun e w' => e = .returned (.agg #[.int .i64 0, .int .i64 0, .int .i64 0, .int .i64 0]) ∧ Below w.heap.size w w' := pload_out h i hi
theorem AS.setF {w0 W : World} {gp gc gn gl gk n : Nat} {l : List Int} {ws vs : Nat → Wd} {ks js : Nat → Fl} (h : AS w0 gp gc gn gl gk n l ws ks vs js W) (i : Int) (x : Fl) (hx : (0 ≤ x.a ∧ x.a ≤ 4294967295) ∧ (0 ≤ x.o ∧ x.o ≤ 65535)) (v : Bool) (hv : v = (inC n i && wi x.p 255)) (fv : Int) (hf : fv = if v then 0 else 1) :
    Calls Try.prog 26 #[.pointer (some ⟨gp, 0, none⟩), .int .i64 i, x.val] W fun e w' => e = .returned (.int .i64 fv) ∧ ∃ l', AS w0 gp gc gn gl gk n l' ws (if v then upd ks i.toNat x else ks) vs js w' ∧ Keep [gn] W w' := hf ▸ h.setAny i x hx v hv
def KeyR (w : World) (gp gc gn gl gk n : Nat) (ws : Nat → Wd) (ks : Nat → Fl) (g10 : Nat) (b : Array Value) (v : Bool) (i : Nat) (x : Fl) (wx : World) : Prop :=
  Blk wx g10 81 b ∧ ∃ l', AS w gp gc gn gl gk n l' ws (if v then upd ks i x else ks) ws ks wx
theorem pkeyE {w : World} {gp gc gn n : Nat} {l : List Int} (h : PlB w gp gc gn n l) (i : Int) (hi : inC n i = false) :
    Calls Try.prog 25 #[.pointer (some ⟨gp, 0, none⟩), .int .i64 i] w fun e w' => e = .returned (.agg #[.int .i64 0, .int .u32 0, .int .u16 0]) ∧ Below w.heap.size w w' := pkey_out h i hi
def RTW (wa : World) (g10 g12 g13 : Nat) (b : Array Value) (o : Wd) (s12 s13 : Value) (wx : World) : Prop := s12 = .pointer (some ⟨g12, 0, none⟩) ∧ s13 = .pointer (some ⟨g13, 0, none⟩) ∧ TwoW wa g10 g12 g13 b o wx
set_option maxHeartbeats 80000000 in
theorem place_body (w : World) (gp gc gn gl gk n nr c : Nat) (A : Option Addr) (c2 c3 c6 c17 c18 c19 c20 c21 c22 c23 c24 c25 c26 c27 c28 c29 c30 c31 c32 c33 c34 c35 c36 c37 c38 c39 c40 c41 c42 c43 c44 c45 c46 c47 c48 c49 c50 c51 c52 c53 c54 c55 c56 c57 c58 c59 c60 c61 c62 c63 c64 c65 c66 c67 c68 c69 c70 c71 c72 c73 c74 c75 c76 c77 c78 c79 c80 c81 c82 c83 c84 c85 c304 c305 c306 c307 c308 c309 c310 c311 c312 c313 c314 c315 c316 c317 c318 c319 c320 c321 c322 c323 c324 c325 c326 c327 c328 c329 c330 c331 c332 c333 c334 c335 c336 c337 c338 c339 c340 c341 c342 c343 c344 c345 c346 c347 c348 c349 c350 c351 c352 c353 c354 c355 c356 c357 c358 c359 c360 c361 c362 c363 c364 c365 c366 c367 c368 c369 c370 c371 c372 : Value) (V : Nat → Av) (hn1 : 1 ≤ n) (hn2 : n ≤ 3072) (hnr : nr ≤ c) (hc : c ≤ 9223372036854775807) (hR : RdA w A nr V) : BodyP w gp gc gn gl gk n nr c A c2 c3 c6 c17 c18 c19 c20 c21 c22 c23 c24 c25 c26 c27 c28 c29 c30 c31 c32 c33 c34 c35 c36 c37 c38 c39 c40 c41 c42 c43 c44 c45 c46 c47 c48 c49 c50 c51 c52 c53 c54 c55 c56 c57 c58 c59 c60 c61 c62 c63 c64 c65 c66 c67 c68 c69 c70 c71 c72 c73 c74 c75 c76 c77 c78 c79 c80 c81 c82 c83 c84 c85 c304 c305 c306 c307 c308 c309 c310 c311 c312 c313 c314 c315 c316 c317 c318 c319 c320 c321 c322 c323 c324 c325 c326 c327 c328 c329 c330 c331 c332 c333 c334 c335 c336 c337 c338 c339 c340 c341 c342 c343 c344 c345 c346 c347 c348 c349 c350 c351 c352 c353 c354 c355 c356 c357 c358 c359 c360 c361 c362 c363 c364 c365 c366 c367 c368 c369 c370 c371 c372 := by
  intro i u4 u10 u11 u12 u13 u14 u15 u16 u86 u87 u88 u89 u90 u91 u92 u93 u94 u95 u96 u97 u98 u99 u100 u101 u102 u103 u104 u105 u106 u107 u108 u109 u110 u111 u112 u113 u114 u115 u116 u117 u118 u119 u120 u121 u122 u123 u124 u125 u126 u127 u128 u129 u130 u131 u132 u133 u134 u135 u136 u137 u138 u139 u140 u141 u142 u143 u144 u145 u146 u147 u148 u149 u150 u151 u152 u153 u154 u155 u156 u157 u158 u159 u160 u161 u162 u163 u164 u165 u166 u167 u168 u169 u170 u171 u172 u173 u174 u175 u176 u177 u178 u179 u180 u181 u182 u183 u184 u185 u186 u187 u188 u189 u190 u191 u192 u193 u194 u195 u196 u197 u198 u199 u200 u201 u202 u203 u204 u205 u206 u207 u208 u209 u210 u211 u212 u213 u214 u215 u216 u217 u218 u219 u220 u221 u222 u223 u224 u225 u226 u227 u228 u229 u230 u231 u232 u233 u234 u235 u236 u237 u238 u239 u240 u241 u242 u243 u244 u245 u246 u247 u248 u249 u250 u251 u252 u253 u254 u255 u256 u257 u258 u259 u260 u261 u262 u263 u264 u265 u266 u267 u268 u269 u270 u271 u272 u273 u274 u275 u276 u277 u278 u279 u280 u281 u282 u283 u284 u285 u286 u287 u288 u289 u290 u291 u292 u293 u294 u295 u296 u297 u298 u299 u300 u301 u302 u303 wr Q0 hlt ht
  obtain ⟨hl1, hl2⟩ := hlt
  obtain ⟨_, _, l, ws, ks, hA⟩ := ht
  have HA := Lib.hid hA
  clear hA
  have di1 : decide ((i : Int) < (nr : Int)) = true := decide_eq_true (by omega)
  have di2 : decide ((i : Int) < 60) = true := decide_eq_true (by omega)
  obtain ⟨bk, off, rfl, hbl, hcc⟩ := hR (by omega)
  obtain ⟨hok, hcell⟩ := hcc i hl1
  have cell : ∀ j v, (V i).cs[j]? = some v → wr.cell? ⟨bk, off + (i * 13 + j), none⟩ = some v := fun j v h => (HA.out.bel.cell (p := ⟨bk, off + (i * 13 + j), none⟩) hbl).trans (hcell j v h)
  generalize V i = x at *
  obtain ⟨wh, ii, ⟨o0, o1, o2, o3⟩, ⟨x0, x1, x2, x3⟩, kp, ka, ko⟩ := x
  have y0 := cell 0 _ rfl
  have y1 := cell 1 _ rfl
  have y2 := cell 2 _ rfl
  have y3 := cell 3 _ rfl
  have y4 := cell 4 _ rfl
  have y5 := cell 5 _ rfl
  have y6 := cell 6 _ rfl
  have y7 := cell 7 _ rfl
  have y8 := cell 8 _ rfl
  have y9 := cell 9 _ rfl
  have y10 := cell 10 _ rfl
  have y11 := cell 11 _ rfl
  have y12 := cell 12 _ rfl
  simp only [Nat.add_zero, ← Nat.add_assoc] at y0 y1 y2 y3 y4 y5 y6 y7 y8 y9 y10 y11 y12
  clear cell hcell hcc
  have HX := Lib.hid hok
  clear hok
  conv => arg 2; whnf
  go_upto_region 11 with fail
  have B10 := Lib.hid (Blk.new wr 81 #[.int .i64 wh, .int .i64 ii, .int .i64 o0, .int .i64 o1, .int .i64 o2, .int .i64 o3, .int .i64 x0, .int .i64 x1, .int .i64 x2, .int .i64 x3, .int .i64 kp, .int .u32 ka, .int .u16 ko])
  have A10 := Lib.hid (HA.out.below (ball wr (.cells #[.int .i64 wh, .int .i64 ii, .int .i64 o0, .int .i64 o1, .int .i64 o2, .int .i64 o3, .int .i64 x0, .int .i64 x1, .int .i64 x2, .int .i64 x3, .int .i64 kp, .int .u32 ka, .int .u16 ko] 81)))
  have hap : gp ≠ wr.heap.size ∧ gc ≠ wr.heap.size ∧ gn ≠ wr.heap.size ∧ gl ≠ wr.heap.size ∧ gk ≠ wr.heap.size ∧ w.heap.size ≤ wr.heap.size := by
    have h1 := HA.out.pl.lt
    have h2 := HA.out.ltl
    have h3 := HA.out.ltk
    have h4 := HA.out.bel.size
    omega
  clear HA y0 y1 y2 y3 y4 y5 y6 y7 y8 y9 y10 y11 y12
  generalize wr.alloc (.cells #[.int .i64 wh, .int .i64 ii, .int .i64 o0, .int .i64 o1, .int .i64 o2, .int .i64 o3, .int .i64 x0, .int .i64 x1, .int .i64 x2, .int .i64 x3, .int .i64 kp, .int .u32 ka, .int .u16 ko] 81) = wa at *
  generalize wr.heap.size = g10 at *
  have q1 : wa.cell? ⟨g10, 1, none⟩ = some (.int .i64 ii) := B10.out.cell 1
  have q0 : wa.cell? ⟨g10, 0, none⟩ = some (.int .i64 wh) := B10.out.cell 0
  obtain ⟨th, hth⟩ : ∃ th, th = inC n ii := ⟨_, rfl⟩
  have HTH := Lib.hid hth
  clear hth
  go_cut [11] from 100 to 108 (fun s11 wx => s11 = .bool th ∧ wx = wa)
  case first =>
    by_cases h0 : 0 ≤ ii
    · have e0 : decide (0 ≤ ii) = true := by simpa using h0
      have e1 : decide (ii < (n : Int)) = th := by rw [HTH.out]; unfold inC; simp [h0]
      have E1 := Lib.hid e1
      clear e1
      go_wp2_with fail
      go_meet
      exact ⟨by rw [E1.out], rfl⟩
    · have e0 : decide (0 ≤ ii) = false := by simpa using h0
      have e1 : th = false := by rw [HTH.out]; unfold inC; simp; omega
      have E1 := Lib.hid e1
      clear e1
      go_wp2_with fail
      go_meet
      exact ⟨by rw [E1.out], rfl⟩
  case rest =>
  obtain ⟨rfl, rfl⟩ := hcut
  obtain ⟨K, hK, hKl⟩ := pickN wh 4 (by omega) (by omega)
  go_upto_block 2 with fail
  rw [hK]
  clear hK
  go_cut [12, 13, 14, 15, 16] from 114 to 256 (fun s12 s13 s14 s15 s16 wx => MidP w gp gc gn gl gk n g10 ⟨wh, ii, ⟨o0, o1, o2, o3⟩, ⟨x0, x1, x2, x3⟩, kp, ka, ko⟩ wx)
  case first =>
    have hK4 : K < 4 := by omega
    clear hKl
    go_upto_if 114 with fail
    go_cut [114] from 115 to 117 (fun s114 wx => s114 = .bool (decide (K < 3)) ∧ wx = wc)
    case first =>
      have k4 : K = 0 ∨ K = 1 ∨ K = 2 ∨ K = 3 := by omega
      rcases k4 with rfl | rfl | rfl | rfl
      · go_wp2
        go_meet
        exact ⟨rfl, rfl⟩
      · go_wp2
        go_meet
        exact ⟨rfl, rfl⟩
      · go_wp2
        go_meet
        exact ⟨rfl, rfl⟩
      · go_wp2
        go_meet
        exact ⟨rfl, rfl⟩
    case rest =>
    obtain ⟨rfl, rfl⟩ := hcut
    by_cases hK3 : K < 3
    · have bK : decide (K < 3) = true := decide_eq_true hK3
      rw [bK]
      clear hK3 hK4
      have z2 := B10.out.cell 2
      have z3 := B10.out.cell 3
      have z4 := B10.out.cell 4
      have z5 := B10.out.cell 5
      have z6 := B10.out.cell 6
      have z7 := B10.out.cell 7
      have z8 := B10.out.cell 8
      have z9 := B10.out.cell 9
      simp only [List.getElem?_toArray, List.getElem?_cons_zero, List.getElem?_cons_succ] at z2 z3 z4 z5 z6 z7 z8 z9
      go_upto_region 16 with fail
      go_cut [12, 13] from 118 to 121 (fun s12 s13 wx => NewP wc s12 s13 ⟨o0, o1, o2, o3⟩ ⟨x0, x1, x2, x3⟩ wx)
      case first => as_aux_lemma =>
        go_region_held3 (fun W => W.cell? ⟨g10, 2, none⟩ = some (.int .i64 o0) ∧ W.cell? ⟨g10, 3, none⟩ = some (.int .i64 o1) ∧ W.cell? ⟨g10, 4, none⟩ = some (.int .i64 o2) ∧ W.cell? ⟨g10, 5, none⟩ = some (.int .i64 o3) ∧ W.cell? ⟨g10, 6, none⟩ = some (.int .i64 x0) ∧ W.cell? ⟨g10, 7, none⟩ = some (.int .i64 x1) ∧ W.cell? ⟨g10, 8, none⟩ = some (.int .i64 x2) ∧ W.cell? ⟨g10, 9, none⟩ = some (.int .i64 x3)) (go_keep) (fail)
        · go_wp2_with fail
          go_meet
          have hb := ((Below.refl wc.heap.size wc).alloc (Nat.le_refl _) (.cells #[.int .i64 o0, .int .i64 o1, .int .i64 o2, .int .i64 o3] 78)).alloc (by simp) (.cells #[.int .i64 x0, .int .i64 x1, .int .i64 x2, .int .i64 x3] 78)
          have b2 := Blk.new (wc.alloc (.cells #[.int .i64 o0, .int .i64 o1, .int .i64 o2, .int .i64 o3] 78)) 78 #[.int .i64 x0, .int .i64 x1, .int .i64 x2, .int .i64 x3]
          rw [World.size_alloc] at b2
          exact ⟨_, _, rfl, rfl, by omega, by omega, by omega, ((Blk.new wc _ _).alloc _).drew, b2.drew, below_drewN hb 1⟩
        · go_wp2_with fail
          go_meet
          have hb := ((Below.refl wc.heap.size wc).alloc (Nat.le_refl _) (.cells #[.int .i64 x0, .int .i64 x1, .int .i64 x2, .int .i64 x3] 78)).alloc (by simp) (.cells #[.int .i64 o0, .int .i64 o1, .int .i64 o2, .int .i64 o3] 78)
          have b2 := Blk.new (wc.alloc (.cells #[.int .i64 x0, .int .i64 x1, .int .i64 x2, .int .i64 x3] 78)) 78 #[.int .i64 o0, .int .i64 o1, .int .i64 o2, .int .i64 o3]
          rw [World.size_alloc] at b2
          exact ⟨_, _, rfl, rfl, by omega, by omega, by omega, b2.drew, ((Blk.new wc _ _).alloc _).drew, below_drewN hb 1⟩
      case rest =>
        obtain ⟨g12, g13, rfl, rfl, hne, h12, h13, hb12, hb13, hbel⟩ := hcut
        have A12 := Lib.hid (A10.out.below hbel)
        have C10 := Lib.hid (B10.out.below hbel)
        have hq : g12 ≠ gp ∧ g12 ≠ gc ∧ g12 ≠ gn ∧ g12 ≠ gl ∧ g12 ≠ gk ∧ w.heap.size ≤ g12 ∧ g13 ≠ gp ∧ g13 ≠ gc ∧ g13 ≠ gn ∧ g13 ≠ gl ∧ g13 ≠ gk ∧ w.heap.size ≤ g13 ∧ g10 ≠ g12 ∧ g10 ≠ g13 := by
          have h1 := A10.out.pl.lt
          have h2 := A10.out.ltl
          have h3 := A10.out.ltk
          have h4 := A10.out.bel.size
          have h5 := B10.out.lt
          omega
        have B12 := Lib.hid hb12
        have B13 := Lib.hid hb13
        clear hb12 hb13 A10 B10 q0 q1 z2 z3 z4 z5 z6 z7 z8 z9 hbel h12 h13
        obtain ⟨kb, hkb⟩ : ∃ kb, decide ((IntKind.u64.wrap wh).tmod 4 < 2) = kb := ⟨_, rfl⟩
        have q0 : wc.cell? ⟨g10, 0, none⟩ = some (.int .i64 wh) := C10.out.cell 0
        go_upto_region 17 with fail
        go_cut [129] from 122 to 129 (fun s129 wx => s129 = .bool (kb && th) ∧ wx = wc)
        case first => as_aux_lemma =>
          cases kb with
          | true =>
            go_wp2_with fail
            go_meet
            exact ⟨rfl, rfl⟩
          | false =>
            go_wp2_with fail
            go_meet
            exact ⟨rfl, rfl⟩
        case rest =>
        obtain ⟨rfl, rfl⟩ := hcut
        obtain ⟨kt, hkt⟩ : ∃ kt, (kb && th) = kt := ⟨_, rfl⟩
        have HKT := Lib.hid hkt
        rw [hkt]
        clear hkt hkb
        go_upto_if 129 with fail
        go_cut [12, 13] from 130 to 180 (fun s12 s13 wx => s12 = .pointer (some ⟨g12, 0, none⟩) ∧ s13 = .pointer (some ⟨g13, 0, none⟩) ∧ NewQ wc g12 g13 wx)
        case first => as_aux_lemma =>
          cases kt with
          | false =>
            go_wp2_with fail
            go_meet
            exact ⟨rfl, rfl, _, _, B12.out, B13.out, Keep.refl _ _⟩
          | true =>
            obtain rfl : th = true := by have := HKT.out; cases th <;> simp at this ⊢
            obtain ⟨I, rfl, hI⟩ : ∃ I : Nat, ii = (I : Int) ∧ I < n := by
              have := HTH.out
              unfold inC at this
              simp at this
              exact ⟨ii.toNat, by omega, by omega⟩
            have q1 : wc.cell? ⟨g10, 1, none⟩ = some (.int .i64 I) := C10.out.cell 1
            have q6 : wc.cell? ⟨g10, 6, none⟩ = some (.int .i64 x0) := C10.out.cell 6
            have q7 : wc.cell? ⟨g10, 7, none⟩ = some (.int .i64 x1) := C10.out.cell 7
            have q8 : wc.cell? ⟨g10, 8, none⟩ = some (.int .i64 x2) := C10.out.cell 8
            have q9 : wc.cell? ⟨g10, 9, none⟩ = some (.int .i64 x3) := C10.out.cell 9
            obtain ⟨y0, y1, y2, y3⟩ := A12.out.cl I hI
            have i0 : (I : Int) < (n : Int) := by omega
            obtain ⟨wA, hwA⟩ : ∃ x, x = wc := ⟨_, rfl⟩
            have HWA := Lib.hid hwA
            have T := Lib.hid (show TwoW wA g10 g12 g13 _ ⟨o0, o1, o2, o3⟩ wc from ⟨C10.out, B12.out, ⟨_, B13.out⟩, by rw [hwA]; exact Keep.refl _ _⟩)
            have hqq : g10 ≠ g12 ∧ g10 ≠ g13 := by omega
            clear hwA
            clear B12 B13 q6 q7 q8 q9 HX HTH C10 hq hap HKT A12
            generalize ws I = x at *
            obtain ⟨e0, e1, e2, e3⟩ := T.out.w12.c4
            have f0 := T.out.w12.frozen 0
            have f1 := T.out.w12.frozen 1
            have f2 := T.out.w12.frozen 2
            have f3 := T.out.w12.frozen 3
            go_upto_region 18 with fail
            go_cut [12, 13] from 130 to 134 (fun s12 s13 wx => RTW wA g10 g12 g13 (Av.blk ⟨wh, (I : Int), ⟨o0, o1, o2, o3⟩, ⟨x0, x1, x2, x3⟩, kp, ka, ko⟩) x s12 s13 wx)
            case first => as_aux_lemma =>
              go_wp2_with fail
              go_meet
              exact ⟨rfl, rfl, T.out.st4 (by omega) (by omega) x⟩
            case rest =>
            obtain ⟨rfl, rfl, hT⟩ := hcut
            clear q0 q1 y0 y1 y2 y3 e0 e1 e2 e3 f0 f1 f2 f3 T
            have T := Lib.hid hT
            clear hT
            obtain ⟨z, hz⟩ := T.out.w13
            have b10 := T.out.b10
            have q6 : wc.cell? ⟨g10, 6, none⟩ = some (.int .i64 x0) := b10.cell 6
            have q7 : wc.cell? ⟨g10, 7, none⟩ = some (.int .i64 x1) := b10.cell 7
            have q8 : wc.cell? ⟨g10, 8, none⟩ = some (.int .i64 x2) := b10.cell 8
            have q9 : wc.cell? ⟨g10, 9, none⟩ = some (.int .i64 x3) := b10.cell 9
            obtain ⟨e0, e1, e2, e3⟩ := T.out.w12.c4
            obtain ⟨d0, d1, d2, d3⟩ := hz.c4
            have f0 := hz.frozen 0
            have f1 := hz.frozen 1
            have f2 := hz.frozen 2
            have f3 := hz.frozen 3
            clear b10 hz
            go_upto_region 19 with fail
            go_cut [12, 13] from 135 to 142 (fun s12 s13 wx => RTW wA g10 g12 g13 (Av.blk ⟨wh, (I : Int), ⟨o0, o1, o2, o3⟩, ⟨x0, x1, x2, x3⟩, kp, ka, ko⟩) x s12 s13 wx)
            case first => as_aux_lemma =>
              go_wp2_with fail
              go_meet
              exact ⟨rfl, rfl, T.out.st1 (by omega) (by omega) 1 (by omega) _⟩
            case rest =>
            obtain ⟨rfl, rfl, hT⟩ := hcut
            clear q6 q7 q8 q9 e0 e1 e2 e3 d0 d1 d2 d3 f0 f1 f2 f3 T
            have T := Lib.hid hT
            clear hT
            obtain ⟨z, hz⟩ := T.out.w13
            have b10 := T.out.b10
            have q6 : wc.cell? ⟨g10, 6, none⟩ = some (.int .i64 x0) := b10.cell 6
            have q7 : wc.cell? ⟨g10, 7, none⟩ = some (.int .i64 x1) := b10.cell 7
            have q8 : wc.cell? ⟨g10, 8, none⟩ = some (.int .i64 x2) := b10.cell 8
            have q9 : wc.cell? ⟨g10, 9, none⟩ = some (.int .i64 x3) := b10.cell 9
            obtain ⟨e0, e1, e2, e3⟩ := T.out.w12.c4
            obtain ⟨d0, d1, d2, d3⟩ := hz.c4
            have f0 := hz.frozen 0
            have f1 := hz.frozen 1
            have f2 := hz.frozen 2
            have f3 := hz.frozen 3
            clear b10 hz
            go_upto_region 20 with fail
            go_cut [12, 13] from 143 to 150 (fun s12 s13 wx => RTW wA g10 g12 g13 (Av.blk ⟨wh, (I : Int), ⟨o0, o1, o2, o3⟩, ⟨x0, x1, x2, x3⟩, kp, ka, ko⟩) x s12 s13 wx)
            case first => as_aux_lemma =>
              go_wp2_with fail
              go_meet
              exact ⟨rfl, rfl, T.out.st1 (by omega) (by omega) 3 (by omega) _⟩
            case rest =>
            obtain ⟨rfl, rfl, hT⟩ := hcut
            clear q6 q7 q8 q9 e0 e1 e2 e3 d0 d1 d2 d3 f0 f1 f2 f3 T
            have T := Lib.hid hT
            clear hT
            obtain ⟨z, hz⟩ := T.out.w13
            have b10 := T.out.b10
            have q6 : wc.cell? ⟨g10, 6, none⟩ = some (.int .i64 x0) := b10.cell 6
            have q7 : wc.cell? ⟨g10, 7, none⟩ = some (.int .i64 x1) := b10.cell 7
            have q8 : wc.cell? ⟨g10, 8, none⟩ = some (.int .i64 x2) := b10.cell 8
            have q9 : wc.cell? ⟨g10, 9, none⟩ = some (.int .i64 x3) := b10.cell 9
            obtain ⟨e0, e1, e2, e3⟩ := T.out.w12.c4
            obtain ⟨d0, d1, d2, d3⟩ := hz.c4
            have f0 := hz.frozen 0
            have f1 := hz.frozen 1
            have f2 := hz.frozen 2
            have f3 := hz.frozen 3
            clear b10 hz
            obtain ⟨pb, hpb⟩ : ∃ pb, (x2.tmod 2 == 0) = pb := ⟨_, rfl⟩
            have hpd : decide (x2.tmod 2 = 0) = pb := by rw [← hpb]; rfl
            go_upto_region 21 with fail
            go_upto_if 155 with fail
            clear hpb hpd
            go_cut [12, 13] from 156 to 164 (fun s12 s13 wx => RTW wA g10 g12 g13 (Av.blk ⟨wh, (I : Int), ⟨o0, o1, o2, o3⟩, ⟨x0, x1, x2, x3⟩, kp, ka, ko⟩) x s12 s13 wx)
            case first => as_aux_lemma =>
              cases pb with
              | true =>
                go_upto_region 22 with fail
                go_region_held3 (fun W => W.cell? ⟨g12, 1, none⟩ = some (.int .i64 x.gn) ∧ W.cell? ⟨g12, 2, none⟩ = some (.int .i64 x.tr) ∧ W.cell? ⟨g12, 3, none⟩ = some (.int .i64 x.sn)) (first | (refine ⟨?_, ?_, ?_⟩ <;> (repeat (first | assumption | (with_reducible refine keepd ?_) | (with_reducible refine keepc ?_ (by omega)))))) (fail)
                all_goals
                  go_wp2_with fail
                  go_meet
                  exact ⟨rfl, rfl, (((T.out.st1 hne hqq.2 _ (by omega) _).st1 hne hqq.2 _ (by omega) _).st1 hne hqq.2 _ (by omega) _).drewN 1⟩
              | false =>
                go_wp2_with fail
                go_meet
                exact ⟨rfl, rfl, T.out⟩
            case rest =>
            obtain ⟨rfl, rfl, hT⟩ := hcut
            clear q6 q7 q8 q9 e0 e1 e2 e3 d0 d1 d2 d3 f0 f1 f2 f3 T
            have T := Lib.hid hT
            clear hT
            obtain ⟨z, hz⟩ := T.out.w13
            have b10 := T.out.b10
            have q6 : wc.cell? ⟨g10, 6, none⟩ = some (.int .i64 x0) := b10.cell 6
            have q7 : wc.cell? ⟨g10, 7, none⟩ = some (.int .i64 x1) := b10.cell 7
            have q8 : wc.cell? ⟨g10, 8, none⟩ = some (.int .i64 x2) := b10.cell 8
            have q9 : wc.cell? ⟨g10, 9, none⟩ = some (.int .i64 x3) := b10.cell 9
            obtain ⟨e0, e1, e2, e3⟩ := T.out.w12.c4
            obtain ⟨d0, d1, d2, d3⟩ := hz.c4
            have f0 := hz.frozen 0
            have f1 := hz.frozen 1
            have f2 := hz.frozen 2
            have f3 := hz.frozen 3
            clear b10 hz
            go_upto_region 23 with fail
            go_cut [174] from 165 to 174 (fun s174 wx => (∃ b, s174 = .bool b) ∧ wx = wc)
            case first => as_aux_lemma =>
              by_cases hp : x.st = 0
              · have ep : decide (x.st = 0) = true := decide_eq_true hp
                have ep2 : (x.st == 0) = true := by simpa using hp
                have hp' := Lib.hid hp
                clear hp
                go_wp2_with fail
                go_meet
                exact ⟨⟨_, rfl⟩, rfl⟩
              · have ep : decide (x.st = 0) = false := decide_eq_false hp
                have ep2 : (x.st == 0) = false := by simpa using hp
                have hp' := Lib.hid hp
                clear hp
                go_wp2_with fail
                go_meet
                exact ⟨⟨_, rfl⟩, rfl⟩
            case rest =>
            obtain ⟨⟨b, rfl⟩, rfl⟩ := hcut
            cases b with
            | false =>
              go_wp2_with fail
              go_meet
              obtain ⟨z, hz⟩ := T.out.w13
              rw [← HWA.out]
              exact ⟨rfl, rfl, T.out.fin⟩
            | true =>
              go_upto_region 24 with fail
              go_region_held3 (fun W => W.cell? ⟨g12, 1, none⟩ = some (.int .i64 x.gn)) (first | (repeat (first | assumption | (with_reducible refine keepd ?_) | (with_reducible refine keepc ?_ (by omega))))) (fail)
              all_goals
                go_wp2_with fail
                go_meet
                rw [← HWA.out]
                exact ⟨rfl, rfl, (((T.out.st1 hne hqq.2 _ (by omega) _).st1 hne hqq.2 _ (by omega) _).drewN 1).fin⟩
        case rest =>
        obtain ⟨rfl, rfl, o, z, hb12, hb13, hkp⟩ := hcut
        have A13 := Lib.hid (A12.out.keep hkp (by intro y hy; simp at hy; omega))
        have D10 := Lib.hid (hkp.blk C10.out (by simp; omega))
        have D12 := Lib.hid hb12
        have D13 := Lib.hid hb13
        have hq2 : g10 ≠ g12 ∧ g10 ≠ g13 := by omega
        clear hb12 hb13 hkp A12 C10 B12 B13 q0 HKT
        obtain ⟨v, hv⟩ : ∃ v, v = (inC n ii && (o.may z && decide (ws ii.toNat = o))) := ⟨_, rfl⟩
        have HV := Lib.hid hv
        clear hv
        go_upto_region 25 with fail
        go_cut [14] from 181 to 199 (fun s14 wx => s14 = .bool v ∧ Below wc.heap.size wc wx)
        case first => as_aux_lemma =>
          cases th with
          | false =>
            obtain rfl : v = false := by rw [HV.out, ← HTH.out]; rfl
            refine wp_region_noPanic ?_
            refine wp_region_held_drew (S := (fun W => W = wc.drew)) (by kernel_rfl) (rfl) (fun hHeld => ?_)
            refine wpAnyH_take (i := 0) (oi := ⟨some 181, _, _, _, _, _⟩) (v := ?tva0) rfl (by kernel_rfl) (by kernel_rfl) (by kernel_rfl) (fun _ _ _ h => h) (Or.inl ⟨by kernel_rfl, ?tya0⟩) (by assumption) ?tra0
            case tya0 => (intro w hSw; first | (go_simp; done) | (go_simp; with_reducible rfl))
            case' tra0 => try simp only [Act.put, List.setIfInBounds_toArray, List.set_cons_zero, List.set_cons_succ]
            refine wpAnyH_take (i := 1) (oi := ⟨some 182, _, _, _, _, _⟩) (v := ?tva1) rfl (by kernel_rfl) (by kernel_rfl) (by kernel_rfl) (fun _ _ _ h => h) (Or.inl ⟨by kernel_rfl, ?tya1⟩) (by assumption) ?tra1
            case tya1 => (intro w hSw; first | (go_simp; done) | (go_simp; with_reducible rfl))
            case' tra1 => try simp only [Act.put, List.setIfInBounds_toArray, List.set_cons_zero, List.set_cons_succ]
            refine wpAnyH_take (i := 2) (oi := ⟨some 183, _, _, _, _, _⟩) (v := undef) rfl (by kernel_rfl) (by kernel_rfl) (by kernel_rfl) (fun _ _ _ h => h) (Or.inr ⟨by kernel_rfl, rfl⟩) (by assumption) ?_
            try simp only [Act.put, List.setIfInBounds_toArray, List.set_cons_zero, List.set_cons_succ]
            refine wpAnyH_take (i := 3) (oi := ⟨some 184, _, _, _, _, _⟩) (v := undef) rfl (by kernel_rfl) (by kernel_rfl) (by kernel_rfl) (fun _ _ _ h => h) (Or.inr ⟨by kernel_rfl, rfl⟩) (by assumption) ?_
            try simp only [Act.put, List.setIfInBounds_toArray, List.set_cons_zero, List.set_cons_succ]
            refine wpAnyH_take (i := 4) (oi := ⟨some 185, _, _, _, _, _⟩) (v := undef) rfl (by kernel_rfl) (by kernel_rfl) (by kernel_rfl) (fun _ _ _ h => h) (Or.inr ⟨by kernel_rfl, rfl⟩) (by assumption) ?_
            try simp only [Act.put, List.setIfInBounds_toArray, List.set_cons_zero, List.set_cons_succ]
            refine wpAnyH_take (i := 5) (oi := ⟨some 186, _, _, _, _, _⟩) (v := ?tva5) rfl (by kernel_rfl) (by kernel_rfl) (by kernel_rfl) (fun _ _ _ h => h) (Or.inl ⟨by kernel_rfl, ?tya5⟩) (by assumption) ?tra5
            case tya5 => (intro w hSw; first | (go_simp; done) | (go_simp; with_reducible rfl))
            case' tra5 => try simp only [Act.put, List.setIfInBounds_toArray, List.set_cons_zero, List.set_cons_succ]
            refine wpAnyH_take (i := 6) (oi := ⟨some 187, _, _, _, _, _⟩) (v := ?tva6) rfl (by kernel_rfl) (by kernel_rfl) (by kernel_rfl) (fun _ _ _ h => h) (Or.inl ⟨by kernel_rfl, ?tya6⟩) (by assumption) ?tra6
            case tya6 => (intro w hSw; first | (go_simp; done) | (go_simp; with_reducible rfl))
            case' tra6 => try simp only [Act.put, List.setIfInBounds_toArray, List.set_cons_zero, List.set_cons_succ]
            refine wpAnyH_take (i := 7) (oi := ⟨some 188, _, _, _, _, _⟩) (v := undef) rfl (by kernel_rfl) (by kernel_rfl) (by kernel_rfl) (fun _ _ _ h => h) (Or.inr ⟨by kernel_rfl, rfl⟩) (by assumption) ?_
            try simp only [Act.put, List.setIfInBounds_toArray, List.set_cons_zero, List.set_cons_succ]
            refine wpAnyH_take (i := 8) (oi := ⟨some 189, _, _, _, _, _⟩) (v := undef) rfl (by kernel_rfl) (by kernel_rfl) (by kernel_rfl) (fun _ _ _ h => h) (Or.inr ⟨by kernel_rfl, rfl⟩) (by assumption) ?_
            try simp only [Act.put, List.setIfInBounds_toArray, List.set_cons_zero, List.set_cons_succ]
            refine wpAnyH_take (i := 9) (oi := ⟨some 190, _, _, _, _, _⟩) (v := undef) rfl (by kernel_rfl) (by kernel_rfl) (by kernel_rfl) (fun _ _ _ h => h) (Or.inr ⟨by kernel_rfl, rfl⟩) (by assumption) ?_
            try simp only [Act.put, List.setIfInBounds_toArray, List.set_cons_zero, List.set_cons_succ]
            refine wpAnyH_take (i := 10) (oi := ⟨some 191, _, _, _, _, _⟩) (v := undef) rfl (by kernel_rfl) (by kernel_rfl) (by kernel_rfl) (fun _ _ _ h => h) (Or.inr ⟨by kernel_rfl, rfl⟩) (by assumption) ?_
            try simp only [Act.put, List.setIfInBounds_toArray, List.set_cons_zero, List.set_cons_succ]
            refine wpAnyH_take (i := 11) (oi := ⟨some 192, _, _, _, _, _⟩) (v := undef) rfl (by kernel_rfl) (by kernel_rfl) (by kernel_rfl) (fun _ _ _ h => h) (Or.inr ⟨by kernel_rfl, rfl⟩) (by assumption) ?_
            try simp only [Act.put, List.setIfInBounds_toArray, List.set_cons_zero, List.set_cons_succ]
            refine wpAnyH_take (i := 12) (oi := ⟨some 193, _, _, _, _, _⟩) (v := undef) rfl (by kernel_rfl) (by kernel_rfl) (by kernel_rfl) (fun _ _ _ h => h) (Or.inr ⟨by kernel_rfl, rfl⟩) (by assumption) ?_
            try simp only [Act.put, List.setIfInBounds_toArray, List.set_cons_zero, List.set_cons_succ]
            refine wpAnyH_take (i := 13) (oi := ⟨some 194, _, _, _, _, _⟩) (v := undef) rfl (by kernel_rfl) (by kernel_rfl) (by kernel_rfl) (fun _ _ _ h => h) (Or.inr ⟨by kernel_rfl, rfl⟩) (by assumption) ?_
            try simp only [Act.put, List.setIfInBounds_toArray, List.set_cons_zero, List.set_cons_succ]
            refine wpAnyH_take (i := 14) (oi := ⟨some 195, _, _, _, _, _⟩) (v := undef) rfl (by kernel_rfl) (by kernel_rfl) (by kernel_rfl) (fun _ _ _ h => h) (Or.inr ⟨by kernel_rfl, rfl⟩) (by assumption) ?_
            try simp only [Act.put, List.setIfInBounds_toArray, List.set_cons_zero, List.set_cons_succ]
            refine wpAnyH_take (i := 15) (oi := ⟨some 196, _, _, _, _, _⟩) (v := undef) rfl (by kernel_rfl) (by kernel_rfl) (by kernel_rfl) (fun _ _ _ h => h) (Or.inr ⟨by kernel_rfl, rfl⟩) (by assumption) ?_
            try simp only [Act.put, List.setIfInBounds_toArray, List.set_cons_zero, List.set_cons_succ]
            refine wpAnyH_take (i := 16) (oi := ⟨some 197, _, _, _, _, _⟩) (v := undef) rfl (by kernel_rfl) (by kernel_rfl) (by kernel_rfl) (fun _ _ _ h => h) (Or.inr ⟨by kernel_rfl, rfl⟩) (by assumption) ?_
            try simp only [Act.put, List.setIfInBounds_toArray, List.set_cons_zero, List.set_cons_succ]
            refine wpAnyH_take (i := 17) (oi := ⟨some 198, _, _, _, _, _⟩) (v := undef) rfl (by kernel_rfl) (by kernel_rfl) (by kernel_rfl) (fun _ _ _ h => h) (Or.inr ⟨by kernel_rfl, rfl⟩) (by assumption) ?_
            try simp only [Act.put, List.setIfInBounds_toArray, List.set_cons_zero, List.set_cons_succ]
            refine wpAnyH_take (i := 18) (oi := ⟨some 199, _, _, _, _, _⟩) (v := ?tva18) rfl (by kernel_rfl) (by kernel_rfl) (by kernel_rfl) (fun _ _ _ h => h) (Or.inl ⟨by kernel_rfl, ?tya18⟩) (by assumption) ?tra18
            case tya18 => (intro w hSw; first | (go_simp; done) | (go_simp; with_reducible rfl))
            case' tra18 => try simp only [Act.put, List.setIfInBounds_toArray, List.set_cons_zero, List.set_cons_succ]
            refine wpAnyH_take (i := 19) (oi := ⟨some 14, _, _, _, _, _⟩) (v := ?tva19) rfl (by kernel_rfl) (by kernel_rfl) (by kernel_rfl) (fun _ _ _ h => h) (Or.inl ⟨by kernel_rfl, ?tya19⟩) (by assumption) ?tra19
            case tya19 => (intro w hSw; first | (go_simp; done) | (go_simp; with_reducible rfl))
            case' tra19 => try simp only [Act.put, List.setIfInBounds_toArray, List.set_cons_zero, List.set_cons_succ]
            refine wpAnyH_done (by kernel_rfl) ?_ _
            refine NoPanic.normal ?_
            go_wp2_with fail
            go_meet
            exact ⟨rfl, bdrewN _ 1⟩
          | true =>
            obtain ⟨I, rfl, hI⟩ : ∃ I : Nat, ii = (I : Int) ∧ I < n := by
              have := HTH.out
              unfold inC at this
              simp at this
              exact ⟨ii.toNat, by omega, by omega⟩
            have h0 : S26 w gp gc gn gl gk n ws ks g10 g12 g13 (Av.blk ⟨wh, (I : Int), ⟨o0, o1, o2, o3⟩, ⟨x0, x1, x2, x3⟩, kp, ka, ko⟩) o z wc := ⟨⟨_, _, _, A13.out⟩, D10.out, D12.out, D13.out⟩
            have H0 := Lib.hid h0
            have i0 : (I : Int) < (n : Int) := by omega
            obtain ⟨m, hm⟩ : ∃ m, o.may z = m := ⟨_, rfl⟩
            have HM := Lib.hid (show ∀ W, Calls Try.prog 31 #[o.val, z.val] W fun e w' => e = .returned (.bool m) ∧ Below W.heap.size W w' from fun W => hm ▸ rmay_any o z W)
            clear h0 A13 D10 D12 D13 HX
            have r20 : ∀ W, S26 w gp gc gn gl gk n ws ks g10 g12 g13 (Av.blk ⟨wh, (I : Int), ⟨o0, o1, o2, o3⟩, ⟨x0, x1, x2, x3⟩, kp, ka, ko⟩) o z W → W.cell? ⟨g12, 0, none⟩ = some (.int .i64 o.st) := fun W h => h.b12.cell 0
            have r21 : ∀ W, S26 w gp gc gn gl gk n ws ks g10 g12 g13 (Av.blk ⟨wh, (I : Int), ⟨o0, o1, o2, o3⟩, ⟨x0, x1, x2, x3⟩, kp, ka, ko⟩) o z W → W.cell? ⟨g12, 1, none⟩ = some (.int .i64 o.gn) := fun W h => h.b12.cell 1
            have r22 : ∀ W, S26 w gp gc gn gl gk n ws ks g10 g12 g13 (Av.blk ⟨wh, (I : Int), ⟨o0, o1, o2, o3⟩, ⟨x0, x1, x2, x3⟩, kp, ka, ko⟩) o z W → W.cell? ⟨g12, 2, none⟩ = some (.int .i64 o.tr) := fun W h => h.b12.cell 2
            have r23 : ∀ W, S26 w gp gc gn gl gk n ws ks g10 g12 g13 (Av.blk ⟨wh, (I : Int), ⟨o0, o1, o2, o3⟩, ⟨x0, x1, x2, x3⟩, kp, ka, ko⟩) o z W → W.cell? ⟨g12, 3, none⟩ = some (.int .i64 o.sn) := fun W h => h.b12.cell 3
            have r30 : ∀ W, S26 w gp gc gn gl gk n ws ks g10 g12 g13 (Av.blk ⟨wh, (I : Int), ⟨o0, o1, o2, o3⟩, ⟨x0, x1, x2, x3⟩, kp, ka, ko⟩) o z W → W.cell? ⟨g13, 0, none⟩ = some (.int .i64 z.st) := fun W h => h.b13.cell 0
            have r31 : ∀ W, S26 w gp gc gn gl gk n ws ks g10 g12 g13 (Av.blk ⟨wh, (I : Int), ⟨o0, o1, o2, o3⟩, ⟨x0, x1, x2, x3⟩, kp, ka, ko⟩) o z W → W.cell? ⟨g13, 1, none⟩ = some (.int .i64 z.gn) := fun W h => h.b13.cell 1
            have r32 : ∀ W, S26 w gp gc gn gl gk n ws ks g10 g12 g13 (Av.blk ⟨wh, (I : Int), ⟨o0, o1, o2, o3⟩, ⟨x0, x1, x2, x3⟩, kp, ka, ko⟩) o z W → W.cell? ⟨g13, 2, none⟩ = some (.int .i64 z.tr) := fun W h => h.b13.cell 2
            have r33 : ∀ W, S26 w gp gc gn gl gk n ws ks g10 g12 g13 (Av.blk ⟨wh, (I : Int), ⟨o0, o1, o2, o3⟩, ⟨x0, x1, x2, x3⟩, kp, ka, ko⟩) o z W → W.cell? ⟨g13, 3, none⟩ = some (.int .i64 z.sn) := fun W h => h.b13.cell 3
            have r1 : ∀ W, S26 w gp gc gn gl gk n ws ks g10 g12 g13 (Av.blk ⟨wh, (I : Int), ⟨o0, o1, o2, o3⟩, ⟨x0, x1, x2, x3⟩, kp, ka, ko⟩) o z W → W.cell? ⟨g10, 1, none⟩ = some (.int .i64 I) := fun W h => h.b10.cell 1
            have r40 : ∀ W, S26 w gp gc gn gl gk n ws ks g10 g12 g13 (Av.blk ⟨wh, (I : Int), ⟨o0, o1, o2, o3⟩, ⟨x0, x1, x2, x3⟩, kp, ka, ko⟩) o z W → W.cell? ⟨gl, I * 4, none⟩ = some (.int .i64 (ws I).st) := fun W h => (h.cl I hI).1
            have r41 : ∀ W, S26 w gp gc gn gl gk n ws ks g10 g12 g13 (Av.blk ⟨wh, (I : Int), ⟨o0, o1, o2, o3⟩, ⟨x0, x1, x2, x3⟩, kp, ka, ko⟩) o z W → W.cell? ⟨gl, I * 4 + 1, none⟩ = some (.int .i64 (ws I).gn) := fun W h => (h.cl I hI).2.1
            have r42 : ∀ W, S26 w gp gc gn gl gk n ws ks g10 g12 g13 (Av.blk ⟨wh, (I : Int), ⟨o0, o1, o2, o3⟩, ⟨x0, x1, x2, x3⟩, kp, ka, ko⟩) o z W → W.cell? ⟨gl, I * 4 + 2, none⟩ = some (.int .i64 (ws I).tr) := fun W h => (h.cl I hI).2.2.1
            have r43 : ∀ W, S26 w gp gc gn gl gk n ws ks g10 g12 g13 (Av.blk ⟨wh, (I : Int), ⟨o0, o1, o2, o3⟩, ⟨x0, x1, x2, x3⟩, kp, ka, ko⟩) o z W → W.cell? ⟨gl, I * 4 + 3, none⟩ = some (.int .i64 (ws I).sn) := fun W h => (h.cl I hI).2.2.2
            cases m with
            | false =>
              obtain rfl : v = false := by rw [HV.out, hm]; simp
              clear hm
              refine wp_region_noPanic ?_
              refine wp_region_held_drew (S := (fun W => S26 w gp gc gn gl gk n ws ks g10 g12 g13 (Av.blk ⟨wh, (I : Int), ⟨o0, o1, o2, o3⟩, ⟨x0, x1, x2, x3⟩, kp, ka, ko⟩) o z W)) (by kernel_rfl) (H0.out.drew) (fun hHeld => ?_)
              refine wpAnyH_take (i := 0) (oi := ⟨some 181, _, _, _, _, _⟩) (v := ?tvb0) rfl (by kernel_rfl) (by kernel_rfl) (by kernel_rfl) (fun _ _ _ h => h) (Or.inl ⟨by kernel_rfl, ?tyb0⟩) (by assumption) ?trb0
              case tyb0 => (intro w hSw; first | (go_simp; done) | (go_simp; with_reducible rfl))
              case' trb0 => try simp only [Act.put, List.setIfInBounds_toArray, List.set_cons_zero, List.set_cons_succ]
              refine wpAnyH_take (i := 1) (oi := ⟨some 182, _, _, _, _, _⟩) (v := ?tvb1) rfl (by kernel_rfl) (by kernel_rfl) (by kernel_rfl) (fun _ _ _ h => h) (Or.inl ⟨by kernel_rfl, ?tyb1⟩) (by assumption) ?trb1
              case tyb1 => (intro w hSw; first | (go_simp; done) | (go_simp; with_reducible rfl))
              case' trb1 => try simp only [Act.put, List.setIfInBounds_toArray, List.set_cons_zero, List.set_cons_succ]
              refine wpAnyH_take (i := 2) (oi := ⟨some 183, _, _, _, _, _⟩) (v := ?tvb2) rfl (by kernel_rfl) (by kernel_rfl) (by kernel_rfl) (fun _ _ _ h => h) (Or.inl ⟨by kernel_rfl, ?tyb2⟩) (by assumption) ?trb2
              case tyb2 => (intro w hSw; first | (go_simp; done) | (go_simp; with_reducible rfl))
              case' trb2 => try simp only [Act.put, List.setIfInBounds_toArray, List.set_cons_zero, List.set_cons_succ]
              refine wpAnyH_take (i := 3) (oi := ⟨some 184, _, _, _, _, _⟩) (v := ?tvb3) rfl (by kernel_rfl) (by kernel_rfl) (by kernel_rfl) (fun _ _ _ h => h) (Or.inl ⟨by kernel_rfl, ?tyb3⟩) (by assumption) ?trb3
              case tyb3 => (intro w hSw; first | (go_simp; done) | (go_simp; with_reducible rfl))
              case' trb3 => try simp only [Act.put, List.setIfInBounds_toArray, List.set_cons_zero, List.set_cons_succ]
              refine wpAnyH_ready (rs := [4]) (by kernel_rfl) (by simp) ?_
              refine AllReadyH.cons (o := ⟨some 185, _, _, _, _, _⟩) rfl (fun K hK => ?_) AllReadyH.nil
              go_simp
              go_at_call 31
              refine (HM.out _).mono ?_
              rintro e w2 ⟨rfl, hb⟩
              have hSb4 : ((fun W => S26 w gp gc gn gl gk n ws ks g10 g12 g13 (Av.blk ⟨wh, (I : Int), ⟨o0, o1, o2, o3⟩, ⟨x0, x1, x2, x3⟩, kp, ka, ko⟩) o z W)) w2 := S26.below hHeld hb
              refine hK.out _ _ hSb4 (fun hHeld0 => ?_)
              clear hK K hHeld0 hHeld
              try simp only [Act.put, List.setIfInBounds_toArray, List.set_cons_zero, List.set_cons_succ]
              have hHeld : ((fun W => S26 w gp gc gn gl gk n ws ks g10 g12 g13 (Av.blk ⟨wh, (I : Int), ⟨o0, o1, o2, o3⟩, ⟨x0, x1, x2, x3⟩, kp, ka, ko⟩) o z W)) w2 := hSb4
              clear hSb4
              refine wpAnyH_take (i := 5) (oi := ⟨some 186, _, _, _, _, _⟩) (v := ?tvb5) rfl (by kernel_rfl) (by kernel_rfl) (by kernel_rfl) (fun _ _ _ h => h) (Or.inl ⟨by kernel_rfl, ?tyb5⟩) (by assumption) ?trb5
              case tyb5 => (intro w hSw; first | (go_simp; done) | (go_simp; with_reducible rfl))
              case' trb5 => try simp only [Act.put, List.setIfInBounds_toArray, List.set_cons_zero, List.set_cons_succ]
              refine wpAnyH_take (i := 6) (oi := ⟨some 187, _, _, _, _, _⟩) (v := ?tvb6) rfl (by kernel_rfl) (by kernel_rfl) (by kernel_rfl) (fun _ _ _ h => h) (Or.inl ⟨by kernel_rfl, ?tyb6⟩) (by assumption) ?trb6
              case tyb6 => (intro w hSw; first | (go_simp; done) | (go_simp; with_reducible rfl))
              case' trb6 => try simp only [Act.put, List.setIfInBounds_toArray, List.set_cons_zero, List.set_cons_succ]
              refine wpAnyH_take (i := 7) (oi := ⟨some 188, _, _, _, _, _⟩) (v := undef) rfl (by kernel_rfl) (by kernel_rfl) (by kernel_rfl) (fun _ _ _ h => h) (Or.inr ⟨by kernel_rfl, rfl⟩) (by assumption) ?_
              try simp only [Act.put, List.setIfInBounds_toArray, List.set_cons_zero, List.set_cons_succ]
              refine wpAnyH_take (i := 8) (oi := ⟨some 189, _, _, _, _, _⟩) (v := undef) rfl (by kernel_rfl) (by kernel_rfl) (by kernel_rfl) (fun _ _ _ h => h) (Or.inr ⟨by kernel_rfl, rfl⟩) (by assumption) ?_
              try simp only [Act.put, List.setIfInBounds_toArray, List.set_cons_zero, List.set_cons_succ]
              refine wpAnyH_take (i := 9) (oi := ⟨some 190, _, _, _, _, _⟩) (v := undef) rfl (by kernel_rfl) (by kernel_rfl) (by kernel_rfl) (fun _ _ _ h => h) (Or.inr ⟨by kernel_rfl, rfl⟩) (by assumption) ?_
              try simp only [Act.put, List.setIfInBounds_toArray, List.set_cons_zero, List.set_cons_succ]
              refine wpAnyH_take (i := 10) (oi := ⟨some 191, _, _, _, _, _⟩) (v := undef) rfl (by kernel_rfl) (by kernel_rfl) (by kernel_rfl) (fun _ _ _ h => h) (Or.inr ⟨by kernel_rfl, rfl⟩) (by assumption) ?_
              try simp only [Act.put, List.setIfInBounds_toArray, List.set_cons_zero, List.set_cons_succ]
              refine wpAnyH_take (i := 11) (oi := ⟨some 192, _, _, _, _, _⟩) (v := undef) rfl (by kernel_rfl) (by kernel_rfl) (by kernel_rfl) (fun _ _ _ h => h) (Or.inr ⟨by kernel_rfl, rfl⟩) (by assumption) ?_
              try simp only [Act.put, List.setIfInBounds_toArray, List.set_cons_zero, List.set_cons_succ]
              refine wpAnyH_take (i := 12) (oi := ⟨some 193, _, _, _, _, _⟩) (v := undef) rfl (by kernel_rfl) (by kernel_rfl) (by kernel_rfl) (fun _ _ _ h => h) (Or.inr ⟨by kernel_rfl, rfl⟩) (by assumption) ?_
              try simp only [Act.put, List.setIfInBounds_toArray, List.set_cons_zero, List.set_cons_succ]
              refine wpAnyH_take (i := 13) (oi := ⟨some 194, _, _, _, _, _⟩) (v := undef) rfl (by kernel_rfl) (by kernel_rfl) (by kernel_rfl) (fun _ _ _ h => h) (Or.inr ⟨by kernel_rfl, rfl⟩) (by assumption) ?_
              try simp only [Act.put, List.setIfInBounds_toArray, List.set_cons_zero, List.set_cons_succ]
              refine wpAnyH_take (i := 14) (oi := ⟨some 195, _, _, _, _, _⟩) (v := undef) rfl (by kernel_rfl) (by kernel_rfl) (by kernel_rfl) (fun _ _ _ h => h) (Or.inr ⟨by kernel_rfl, rfl⟩) (by assumption) ?_
              try simp only [Act.put, List.setIfInBounds_toArray, List.set_cons_zero, List.set_cons_succ]
              refine wpAnyH_take (i := 15) (oi := ⟨some 196, _, _, _, _, _⟩) (v := undef) rfl (by kernel_rfl) (by kernel_rfl) (by kernel_rfl) (fun _ _ _ h => h) (Or.inr ⟨by kernel_rfl, rfl⟩) (by assumption) ?_
              try simp only [Act.put, List.setIfInBounds_toArray, List.set_cons_zero, List.set_cons_succ]
              refine wpAnyH_take (i := 16) (oi := ⟨some 197, _, _, _, _, _⟩) (v := undef) rfl (by kernel_rfl) (by kernel_rfl) (by kernel_rfl) (fun _ _ _ h => h) (Or.inr ⟨by kernel_rfl, rfl⟩) (by assumption) ?_
              try simp only [Act.put, List.setIfInBounds_toArray, List.set_cons_zero, List.set_cons_succ]
              refine wpAnyH_take (i := 17) (oi := ⟨some 198, _, _, _, _, _⟩) (v := undef) rfl (by kernel_rfl) (by kernel_rfl) (by kernel_rfl) (fun _ _ _ h => h) (Or.inr ⟨by kernel_rfl, rfl⟩) (by assumption) ?_
              try simp only [Act.put, List.setIfInBounds_toArray, List.set_cons_zero, List.set_cons_succ]
              refine wpAnyH_take (i := 18) (oi := ⟨some 199, _, _, _, _, _⟩) (v := ?tvb18) rfl (by kernel_rfl) (by kernel_rfl) (by kernel_rfl) (fun _ _ _ h => h) (Or.inl ⟨by kernel_rfl, ?tyb18⟩) (by assumption) ?trb18
              case tyb18 => (intro w hSw; first | (go_simp; done) | (go_simp; with_reducible rfl))
              case' trb18 => try simp only [Act.put, List.setIfInBounds_toArray, List.set_cons_zero, List.set_cons_succ]
              refine wpAnyH_take (i := 19) (oi := ⟨some 14, _, _, _, _, _⟩) (v := ?tvb19) rfl (by kernel_rfl) (by kernel_rfl) (by kernel_rfl) (fun _ _ _ h => h) (Or.inl ⟨by kernel_rfl, ?tyb19⟩) (by assumption) ?trb19
              case tyb19 => (intro w hSw; first | (go_simp; done) | (go_simp; with_reducible rfl))
              case' trb19 => try simp only [Act.put, List.setIfInBounds_toArray, List.set_cons_zero, List.set_cons_succ]
              refine wpAnyH_done (by kernel_rfl) ?_ _
              refine NoPanic.normal ?_
              go_wp2_with fail
              go_meet
              exact ⟨rfl, bthen (bdrew _) hb⟩
            | true =>
              have HV3 := Lib.hid (show v = decide (ws I = o) by rw [HV.out, hm, ← HTH.out]; simp)
              clear hm
              have hw1 : IntKind.i64.wrap ((n : Int) - 1) = (n : Int) - 1 := IntWalk.i64_in _ (by omega)
              have hw2 : (if (n : Int) - 1 < (I : Int) then (n : Int) - 1 else (I : Int)) = (I : Int) := if_neg (by omega)
              have hw3 : (if (I : Int) < 0 then 0 else (I : Int)) = (I : Int) := if_neg (by omega)
              refine wp_region_noPanic ?_
              refine wp_region_held_drew (S := (fun W => S26 w gp gc gn gl gk n ws ks g10 g12 g13 (Av.blk ⟨wh, (I : Int), ⟨o0, o1, o2, o3⟩, ⟨x0, x1, x2, x3⟩, kp, ka, ko⟩) o z W)) (by kernel_rfl) (H0.out.drew) (fun hHeld => ?_)
              refine wpAnyH_take (i := 0) (oi := ⟨some 181, _, _, _, _, _⟩) (v := ?tvc0) rfl (by kernel_rfl) (by kernel_rfl) (by kernel_rfl) (fun _ _ _ h => h) (Or.inl ⟨by kernel_rfl, ?tyc0⟩) (by assumption) ?trc0
              case tyc0 => (intro w hSw; first | (go_simp; done) | (go_simp; with_reducible rfl))
              case' trc0 => try simp only [Act.put, List.setIfInBounds_toArray, List.set_cons_zero, List.set_cons_succ]
              refine wpAnyH_take (i := 1) (oi := ⟨some 182, _, _, _, _, _⟩) (v := ?tvc1) rfl (by kernel_rfl) (by kernel_rfl) (by kernel_rfl) (fun _ _ _ h => h) (Or.inl ⟨by kernel_rfl, ?tyc1⟩) (by assumption) ?trc1
              case tyc1 => (intro w hSw; first | (go_simp; done) | (go_simp; with_reducible rfl))
              case' trc1 => try simp only [Act.put, List.setIfInBounds_toArray, List.set_cons_zero, List.set_cons_succ]
              refine wpAnyH_take (i := 2) (oi := ⟨some 183, _, _, _, _, _⟩) (v := ?tvc2) rfl (by kernel_rfl) (by kernel_rfl) (by kernel_rfl) (fun _ _ _ h => h) (Or.inl ⟨by kernel_rfl, ?tyc2⟩) (by assumption) ?trc2
              case tyc2 => (intro w hSw; first | (go_simp; done) | (go_simp; with_reducible rfl))
              case' trc2 => try simp only [Act.put, List.setIfInBounds_toArray, List.set_cons_zero, List.set_cons_succ]
              refine wpAnyH_take (i := 3) (oi := ⟨some 184, _, _, _, _, _⟩) (v := ?tvc3) rfl (by kernel_rfl) (by kernel_rfl) (by kernel_rfl) (fun _ _ _ h => h) (Or.inl ⟨by kernel_rfl, ?tyc3⟩) (by assumption) ?trc3
              case tyc3 => (intro w hSw; first | (go_simp; done) | (go_simp; with_reducible rfl))
              case' trc3 => try simp only [Act.put, List.setIfInBounds_toArray, List.set_cons_zero, List.set_cons_succ]
              refine wpAnyH_ready (rs := [4]) (by kernel_rfl) (by simp) ?_
              refine AllReadyH.cons (o := ⟨some 185, _, _, _, _, _⟩) rfl (fun K hK => ?_) AllReadyH.nil
              go_simp
              go_at_call 31
              refine (HM.out _).mono ?_
              rintro e w2 ⟨rfl, hb⟩
              have hSc4 : ((fun W => S26 w gp gc gn gl gk n ws ks g10 g12 g13 (Av.blk ⟨wh, (I : Int), ⟨o0, o1, o2, o3⟩, ⟨x0, x1, x2, x3⟩, kp, ka, ko⟩) o z W)) w2 := S26.below hHeld hb
              refine hK.out _ _ hSc4 (fun hHeld0 => ?_)
              clear hK K hHeld0 hHeld
              try simp only [Act.put, List.setIfInBounds_toArray, List.set_cons_zero, List.set_cons_succ]
              have hHeld : ((fun W => S26 w gp gc gn gl gk n ws ks g10 g12 g13 (Av.blk ⟨wh, (I : Int), ⟨o0, o1, o2, o3⟩, ⟨x0, x1, x2, x3⟩, kp, ka, ko⟩) o z W)) w2 := hSc4
              clear hSc4
              refine wpAnyH_take (i := 5) (oi := ⟨some 186, _, _, _, _, _⟩) (v := ?tvc5) rfl (by kernel_rfl) (by kernel_rfl) (by kernel_rfl) (fun _ _ _ h => h) (Or.inl ⟨by kernel_rfl, ?tyc5⟩) (by assumption) ?trc5
              case tyc5 => (intro w hSw; first | (go_simp; done) | (go_simp; with_reducible rfl))
              case' trc5 => try simp only [Act.put, List.setIfInBounds_toArray, List.set_cons_zero, List.set_cons_succ]
              refine wpAnyH_take (i := 6) (oi := ⟨some 187, _, _, _, _, _⟩) (v := ?tvc6) rfl (by kernel_rfl) (by kernel_rfl) (by kernel_rfl) (fun _ _ _ h => h) (Or.inl ⟨by kernel_rfl, ?tyc6⟩) (by assumption) ?trc6
              case tyc6 => (intro w hSw; first | (go_simp; done) | (go_simp; with_reducible rfl))
              case' trc6 => try simp only [Act.put, List.setIfInBounds_toArray, List.set_cons_zero, List.set_cons_succ]
              refine wpAnyH_take (i := 7) (oi := ⟨some 188, _, _, _, _, _⟩) (v := ?tvc7) rfl (by kernel_rfl) (by kernel_rfl) (by kernel_rfl) (fun _ _ _ h => h) (Or.inl ⟨by kernel_rfl, ?tyc7⟩) (by assumption) ?trc7
              case tyc7 => (intro w hSw; first | (go_simp; done) | (go_simp; with_reducible rfl))
              case' trc7 => try simp only [Act.put, List.setIfInBounds_toArray, List.set_cons_zero, List.set_cons_succ]
              refine wpAnyH_take (i := 8) (oi := ⟨some 189, _, _, _, _, _⟩) (v := ?tvc8) rfl (by kernel_rfl) (by kernel_rfl) (by kernel_rfl) (fun _ _ _ h => h) (Or.inl ⟨by kernel_rfl, ?tyc8⟩) (by assumption) ?trc8
              case tyc8 => (intro w hSw; first | (go_simp; done) | (go_simp; with_reducible rfl))
              case' trc8 => try simp only [Act.put, List.setIfInBounds_toArray, List.set_cons_zero, List.set_cons_succ]
              refine wpAnyH_take (i := 9) (oi := ⟨some 190, _, _, _, _, _⟩) (v := ?tvc9) rfl (by kernel_rfl) (by kernel_rfl) (by kernel_rfl) (fun _ _ _ h => h) (Or.inl ⟨by kernel_rfl, ?tyc9⟩) (by assumption) ?trc9
              case tyc9 => (intro w hSw; first | (go_simp; done) | (go_simp; with_reducible rfl))
              case' trc9 => try simp only [Act.put, List.setIfInBounds_toArray, List.set_cons_zero, List.set_cons_succ]
              refine wpAnyH_take (i := 10) (oi := ⟨some 191, _, _, _, _, _⟩) (v := ?tvc10) rfl (by kernel_rfl) (by kernel_rfl) (by kernel_rfl) (fun _ _ _ h => h) (Or.inl ⟨by kernel_rfl, ?tyc10⟩) (by assumption) ?trc10
              case tyc10 => (intro w hSw; first | (go_simp; done) | (go_simp; with_reducible rfl))
              case' trc10 => try simp only [Act.put, List.setIfInBounds_toArray, List.set_cons_zero, List.set_cons_succ]
              refine wpAnyH_take (i := 11) (oi := ⟨some 192, _, _, _, _, _⟩) (v := ?tvc11) rfl (by kernel_rfl) (by kernel_rfl) (by kernel_rfl) (fun _ _ _ h => h) (Or.inl ⟨by kernel_rfl, ?tyc11⟩) (by assumption) ?trc11
              case tyc11 => (intro w hSw; first | (go_simp; done) | (go_simp; with_reducible rfl))
              case' trc11 => try simp only [Act.put, List.setIfInBounds_toArray, List.set_cons_zero, List.set_cons_succ]
              refine wpAnyH_take (i := 12) (oi := ⟨some 193, _, _, _, _, _⟩) (v := ?tvc12) rfl (by kernel_rfl) (by kernel_rfl) (by kernel_rfl) (fun _ _ _ h => h) (Or.inl ⟨by kernel_rfl, ?tyc12⟩) (by assumption) ?trc12
              case tyc12 => (intro w hSw; first | (go_simp; done) | (go_simp; with_reducible rfl))
              case' trc12 => try simp only [Act.put, List.setIfInBounds_toArray, List.set_cons_zero, List.set_cons_succ]
              refine wpAnyH_take (i := 13) (oi := ⟨some 194, _, _, _, _, _⟩) (v := ?tvc13) rfl (by kernel_rfl) (by kernel_rfl) (by kernel_rfl) (fun _ _ _ h => h) (Or.inl ⟨by kernel_rfl, ?tyc13⟩) (by assumption) ?trc13
              case tyc13 => (intro w hSw; first | (go_simp; done) | (go_simp; with_reducible rfl))
              case' trc13 => try simp only [Act.put, List.setIfInBounds_toArray, List.set_cons_zero, List.set_cons_succ]
              refine wpAnyH_take (i := 14) (oi := ⟨some 195, _, _, _, _, _⟩) (v := ?tvc14) rfl (by kernel_rfl) (by kernel_rfl) (by kernel_rfl) (fun _ _ _ h => h) (Or.inl ⟨by kernel_rfl, ?tyc14⟩) (by assumption) ?trc14
              case tyc14 => (intro w hSw; first | (go_simp; done) | (go_simp; with_reducible rfl))
              case' trc14 => try simp only [Act.put, List.setIfInBounds_toArray, List.set_cons_zero, List.set_cons_succ]
              refine wpAnyH_take (i := 15) (oi := ⟨some 196, _, _, _, _, _⟩) (v := ?tvc15) rfl (by kernel_rfl) (by kernel_rfl) (by kernel_rfl) (fun _ _ _ h => h) (Or.inl ⟨by kernel_rfl, ?tyc15⟩) (by assumption) ?trc15
              case tyc15 => (intro w hSw; first | (go_simp; done) | (go_simp; with_reducible rfl))
              case' trc15 => try simp only [Act.put, List.setIfInBounds_toArray, List.set_cons_zero, List.set_cons_succ]
              refine wpAnyH_take (i := 16) (oi := ⟨some 197, _, _, _, _, _⟩) (v := ?tvc16) rfl (by kernel_rfl) (by kernel_rfl) (by kernel_rfl) (fun _ _ _ h => h) (Or.inl ⟨by kernel_rfl, ?tyc16⟩) (by assumption) ?trc16
              case tyc16 => (intro w hSw; first | (go_simp; done) | (go_simp; with_reducible rfl))
              case' trc16 => try simp only [Act.put, List.setIfInBounds_toArray, List.set_cons_zero, List.set_cons_succ]
              refine wpAnyH_take (i := 17) (oi := ⟨some 198, _, _, _, _, _⟩) (v := .bool (decide (ws I = o))) rfl (by kernel_rfl) (by kernel_rfl) (by kernel_rfl) (fun _ _ _ h => h) (Or.inl ⟨by kernel_rfl, ?tyc17⟩) (by assumption) ?trc17
              case tyc17 => (intro w hSw; go_simp; exact eq4 _ _ w)
              case' trc17 => try simp only [Act.put, List.setIfInBounds_toArray, List.set_cons_zero, List.set_cons_succ]
              refine wpAnyH_take (i := 18) (oi := ⟨some 199, _, _, _, _, _⟩) (v := ?tvc18) rfl (by kernel_rfl) (by kernel_rfl) (by kernel_rfl) (fun _ _ _ h => h) (Or.inl ⟨by kernel_rfl, ?tyc18⟩) (by assumption) ?trc18
              case tyc18 => (intro w hSw; first | (go_simp; done) | (go_simp; with_reducible rfl))
              case' trc18 => try simp only [Act.put, List.setIfInBounds_toArray, List.set_cons_zero, List.set_cons_succ]
              refine wpAnyH_take (i := 19) (oi := ⟨some 14, _, _, _, _, _⟩) (v := ?tvc19) rfl (by kernel_rfl) (by kernel_rfl) (by kernel_rfl) (fun _ _ _ h => h) (Or.inl ⟨by kernel_rfl, ?tyc19⟩) (by assumption) ?trc19
              case tyc19 => (intro w hSw; first | (go_simp; done) | (go_simp; with_reducible rfl))
              case' trc19 => try simp only [Act.put, List.setIfInBounds_toArray, List.set_cons_zero, List.set_cons_succ]
              refine wpAnyH_done (by kernel_rfl) ?_ _
              refine NoPanic.normal ?_
              clear hw1 hw2 hw3
              go_wp2_with fail
              go_meet
              exact ⟨by rw [HV3.out], bthen (bdrew _) hb⟩
        case rest =>
        obtain ⟨rfl, hbel⟩ := hcut
        have A14 := Lib.hid (A13.out.below hbel)
        have E10 := Lib.hid (D10.out.below hbel)
        have E12 := Lib.hid (D12.out.below hbel)
        have E13 := Lib.hid (D13.out.below hbel)
        clear hbel A13 D10 D12 D13
        go_upto_region 26 with fail
        go_cut [209] from 200 to 209 (fun s209 wx => s209 = .bool false ∧ Blk wx g10 81 (Av.blk ⟨wh, ii, ⟨o0, o1, o2, o3⟩, ⟨x0, x1, x2, x3⟩, kp, ka, ko⟩) ∧ Blk wx g13 78 z.cs ∧ ∃ l', AS w gp gc gn gl gk n l' (if v then upd ws ii.toNat z else ws) ks ws ks wx)
        case first => as_aux_lemma =>
          have h0 : S26 w gp gc gn gl gk n ws ks g10 g12 g13 (Av.blk ⟨wh, ii, ⟨o0, o1, o2, o3⟩, ⟨x0, x1, x2, x3⟩, kp, ka, ko⟩) o z wc := ⟨⟨_, _, _, A14.out⟩, E10.out, E12.out, E13.out⟩
          have H0 := Lib.hid h0
          have hqn : gn ≠ g10 ∧ gn ≠ g12 ∧ gn ≠ g13 := by omega
          clear h0 E10 E12 E13 HX
          have r20 : ∀ W, S26 w gp gc gn gl gk n ws ks g10 g12 g13 (Av.blk ⟨wh, ii, ⟨o0, o1, o2, o3⟩, ⟨x0, x1, x2, x3⟩, kp, ka, ko⟩) o z W → W.cell? ⟨g12, 0, none⟩ = some (.int .i64 o.st) := fun W h => h.b12.cell 0
          have r21 : ∀ W, S26 w gp gc gn gl gk n ws ks g10 g12 g13 (Av.blk ⟨wh, ii, ⟨o0, o1, o2, o3⟩, ⟨x0, x1, x2, x3⟩, kp, ka, ko⟩) o z W → W.cell? ⟨g12, 1, none⟩ = some (.int .i64 o.gn) := fun W h => h.b12.cell 1
          have r22 : ∀ W, S26 w gp gc gn gl gk n ws ks g10 g12 g13 (Av.blk ⟨wh, ii, ⟨o0, o1, o2, o3⟩, ⟨x0, x1, x2, x3⟩, kp, ka, ko⟩) o z W → W.cell? ⟨g12, 2, none⟩ = some (.int .i64 o.tr) := fun W h => h.b12.cell 2
          have r23 : ∀ W, S26 w gp gc gn gl gk n ws ks g10 g12 g13 (Av.blk ⟨wh, ii, ⟨o0, o1, o2, o3⟩, ⟨x0, x1, x2, x3⟩, kp, ka, ko⟩) o z W → W.cell? ⟨g12, 3, none⟩ = some (.int .i64 o.sn) := fun W h => h.b12.cell 3
          have r30 : ∀ W, S26 w gp gc gn gl gk n ws ks g10 g12 g13 (Av.blk ⟨wh, ii, ⟨o0, o1, o2, o3⟩, ⟨x0, x1, x2, x3⟩, kp, ka, ko⟩) o z W → W.cell? ⟨g13, 0, none⟩ = some (.int .i64 z.st) := fun W h => h.b13.cell 0
          have r31 : ∀ W, S26 w gp gc gn gl gk n ws ks g10 g12 g13 (Av.blk ⟨wh, ii, ⟨o0, o1, o2, o3⟩, ⟨x0, x1, x2, x3⟩, kp, ka, ko⟩) o z W → W.cell? ⟨g13, 1, none⟩ = some (.int .i64 z.gn) := fun W h => h.b13.cell 1
          have r32 : ∀ W, S26 w gp gc gn gl gk n ws ks g10 g12 g13 (Av.blk ⟨wh, ii, ⟨o0, o1, o2, o3⟩, ⟨x0, x1, x2, x3⟩, kp, ka, ko⟩) o z W → W.cell? ⟨g13, 2, none⟩ = some (.int .i64 z.tr) := fun W h => h.b13.cell 2
          have r33 : ∀ W, S26 w gp gc gn gl gk n ws ks g10 g12 g13 (Av.blk ⟨wh, ii, ⟨o0, o1, o2, o3⟩, ⟨x0, x1, x2, x3⟩, kp, ka, ko⟩) o z W → W.cell? ⟨g13, 3, none⟩ = some (.int .i64 z.sn) := fun W h => h.b13.cell 3
          have r1 : ∀ W, S26 w gp gc gn gl gk n ws ks g10 g12 g13 (Av.blk ⟨wh, ii, ⟨o0, o1, o2, o3⟩, ⟨x0, x1, x2, x3⟩, kp, ka, ko⟩) o z W → W.cell? ⟨g10, 1, none⟩ = some (.int .i64 ii) := fun W h => h.b10.cell 1
          refine wp_region_noPanic ?_
          refine wp_region_held_drew (S := (fun W => S26 w gp gc gn gl gk n ws ks g10 g12 g13 (Av.blk ⟨wh, ii, ⟨o0, o1, o2, o3⟩, ⟨x0, x1, x2, x3⟩, kp, ka, ko⟩) o z W)) (by kernel_rfl) (H0.out.drew) (fun hHeld => ?_)
          refine wpAnyH_take (i := 0) (oi := ⟨some 200, _, _, _, _, _⟩) (v := ?tvd0) rfl (by kernel_rfl) (by kernel_rfl) (by kernel_rfl) (fun _ _ _ h => h) (Or.inl ⟨by kernel_rfl, ?tyd0⟩) (by assumption) ?trd0
          case tyd0 => (intro w hSw; first | (go_simp; done) | (go_simp; with_reducible rfl))
          case' trd0 => try simp only [Act.put, List.setIfInBounds_toArray, List.set_cons_zero, List.set_cons_succ]
          refine wpAnyH_take (i := 1) (oi := ⟨some 201, _, _, _, _, _⟩) (v := ?tvd1) rfl (by kernel_rfl) (by kernel_rfl) (by kernel_rfl) (fun _ _ _ h => h) (Or.inl ⟨by kernel_rfl, ?tyd1⟩) (by assumption) ?trd1
          case tyd1 => (intro w hSw; first | (go_simp; done) | (go_simp; with_reducible rfl))
          case' trd1 => try simp only [Act.put, List.setIfInBounds_toArray, List.set_cons_zero, List.set_cons_succ]
          refine wpAnyH_take (i := 2) (oi := ⟨some 202, _, _, _, _, _⟩) (v := ?tvd2) rfl (by kernel_rfl) (by kernel_rfl) (by kernel_rfl) (fun _ _ _ h => h) (Or.inl ⟨by kernel_rfl, ?tyd2⟩) (by assumption) ?trd2
          case tyd2 => (intro w hSw; first | (go_simp; done) | (go_simp; with_reducible rfl))
          case' trd2 => try simp only [Act.put, List.setIfInBounds_toArray, List.set_cons_zero, List.set_cons_succ]
          refine wpAnyH_take (i := 3) (oi := ⟨some 203, _, _, _, _, _⟩) (v := ?tvd3) rfl (by kernel_rfl) (by kernel_rfl) (by kernel_rfl) (fun _ _ _ h => h) (Or.inl ⟨by kernel_rfl, ?tyd3⟩) (by assumption) ?trd3
          case tyd3 => (intro w hSw; first | (go_simp; done) | (go_simp; with_reducible rfl))
          case' trd3 => try simp only [Act.put, List.setIfInBounds_toArray, List.set_cons_zero, List.set_cons_succ]
          refine wpAnyH_take (i := 5) (oi := ⟨some 205, _, _, _, _, _⟩) (v := ?tvd5) rfl (by kernel_rfl) (by kernel_rfl) (by kernel_rfl) (fun _ _ _ h => h) (Or.inl ⟨by kernel_rfl, ?tyd5⟩) (by assumption) ?trd5
          case tyd5 => (intro w hSw; first | (go_simp; done) | (go_simp; with_reducible rfl))
          case' trd5 => try simp only [Act.put, List.setIfInBounds_toArray, List.set_cons_zero, List.set_cons_succ]
          refine wpAnyH_take (i := 8) (oi := ⟨some 208, _, _, _, _, _⟩) (v := ?tvd8) rfl (by kernel_rfl) (by kernel_rfl) (by kernel_rfl) (fun _ _ _ h => h) (Or.inl ⟨by kernel_rfl, ?tyd8⟩) (by assumption) ?trd8
          case tyd8 => (intro w hSw; first | (go_simp; done) | (go_simp; with_reducible rfl))
          case' trd8 => try simp only [Act.put, List.setIfInBounds_toArray, List.set_cons_zero, List.set_cons_succ]
          refine wpAnyH_ready (rs := [4]) (by kernel_rfl) (by simp) ?_
          refine AllReadyH.cons (o := ⟨some 204, _, _, _, _, _⟩) rfl (fun K hK => ?_) AllReadyH.nil
          go_simp
          go_at_call 32
          refine (to_any o _).mono ?_
          rintro e w2 ⟨rfl, hb1⟩
          have hSd4 : ((fun W => S26 w gp gc gn gl gk n ws ks g10 g12 g13 (Av.blk ⟨wh, ii, ⟨o0, o1, o2, o3⟩, ⟨x0, x1, x2, x3⟩, kp, ka, ko⟩) o z W)) w2 := S26.below hHeld hb1
          refine hK.out _ _ hSd4 (fun hHeld0 => ?_)
          clear hK K hHeld0 hHeld
          try simp only [Act.put, List.setIfInBounds_toArray, List.set_cons_zero, List.set_cons_succ]
          have hHeld : ((fun W => S26 w gp gc gn gl gk n ws ks g10 g12 g13 (Av.blk ⟨wh, ii, ⟨o0, o1, o2, o3⟩, ⟨x0, x1, x2, x3⟩, kp, ka, ko⟩) o z W)) w2 := hSd4
          clear hSd4
          refine wpAnyH_ready (rs := [6]) (by kernel_rfl) (by simp) ?_
          refine AllReadyH.cons (o := ⟨some 206, _, _, _, _, _⟩) rfl (fun K hK => ?_) AllReadyH.nil
          go_simp
          go_at_call 32
          refine (to_any z _).mono ?_
          rintro e w3 ⟨rfl, hb2⟩
          have hSd6 : ((fun W => S26 w gp gc gn gl gk n ws ks g10 g12 g13 (Av.blk ⟨wh, ii, ⟨o0, o1, o2, o3⟩, ⟨x0, x1, x2, x3⟩, kp, ka, ko⟩) o z W)) w3 := S26.below hHeld hb2
          refine hK.out _ _ hSd6 (fun hHeld0 => ?_)
          clear hK K hHeld0 hHeld
          try simp only [Act.put, List.setIfInBounds_toArray, List.set_cons_zero, List.set_cons_succ]
          have hHeld : ((fun W => S26 w gp gc gn gl gk n ws ks g10 g12 g13 (Av.blk ⟨wh, ii, ⟨o0, o1, o2, o3⟩, ⟨x0, x1, x2, x3⟩, kp, ka, ko⟩) o z W)) w3 := hSd6
          clear hSd6
          refine wpAnyH_ready (rs := [7]) (by kernel_rfl) (by simp) ?_
          refine AllReadyH.cons (o := ⟨some 207, _, _, _, _, _⟩) rfl (fun K hK => ?_) AllReadyH.nil
          go_simp
          go_at_call 24
          refine (((A14.out.drew.below hb1).below hb2).casAny ii o z v HV.out).mono ?_
          rintro e w4 ⟨rfl, l2, hA2, hk2⟩
          have hSd7 : ((fun W => S26 w gp gc gn gl gk n ws ks g10 g12 g13 (Av.blk ⟨wh, ii, ⟨o0, o1, o2, o3⟩, ⟨x0, x1, x2, x3⟩, kp, ka, ko⟩) o z W)) w4 := S26.keep hHeld hk2 hA2 (by omega)
          refine hK.out _ _ hSd7 (fun hHeld0 => ?_)
          clear hK K hHeld0 hHeld
          try simp only [Act.put, List.setIfInBounds_toArray, List.set_cons_zero, List.set_cons_succ]
          have hHeld : ((fun W => S26 w gp gc gn gl gk n ws ks g10 g12 g13 (Av.blk ⟨wh, ii, ⟨o0, o1, o2, o3⟩, ⟨x0, x1, x2, x3⟩, kp, ka, ko⟩) o z W)) w4 := hSd7
          clear hSd7
          refine wpAnyH_take (i := 9) (oi := ⟨some 209, _, _, _, _, _⟩) (v := ?tvd9) rfl (by kernel_rfl) (by kernel_rfl) (by kernel_rfl) (fun _ _ _ h => h) (Or.inl ⟨by kernel_rfl, ?tyd9⟩) (by assumption) ?trd9
          case tyd9 => (intro w hSw; first | (go_simp; done) | (go_simp; with_reducible rfl))
          case' trd9 => try simp only [Act.put, List.setIfInBounds_toArray, List.set_cons_zero, List.set_cons_succ]
          refine wpAnyH_done (by kernel_rfl) ?_ _
          refine NoPanic.normal ?_
          go_wp2_with fail
          go_meet
          exact ⟨by cases v <;> rfl, hHeld.b10, hHeld.b13, l2, hA2⟩
        case rest =>
        obtain ⟨rfl, hb10, hb13, l', hA⟩ := hcut
        have A15 := Lib.hid hA
        have F10 := Lib.hid hb10
        have F13 := Lib.hid hb13
        clear hA hb10 hb13 A14 E10 E12 E13
        cases v with
        | false =>
          go_wp2_with fail
          go_meet
          exact ⟨F10.out, _, _, _, by simpa using A15.out⟩
        | true =>
          obtain ⟨I, rfl, hI⟩ : ∃ I : Nat, ii = (I : Int) ∧ I < n := by
            have := HV.out
            have h2 : inC n ii = true := by
              cases h : inC n ii
              · rw [h] at this; simp at this
              · rfl
            unfold inC at h2
            simp at h2
            exact ⟨ii.toNat, by omega, by omega⟩
          have i0 : (I : Int) < (n : Int) := by omega
          have q1 : wc.cell? ⟨g10, 1, none⟩ = some (.int .i64 I) := F10.out.cell 1
          obtain ⟨d0, d1, d2, d3⟩ := F13.out.c4
          obtain ⟨y0, y1, y2, y3⟩ := A15.out.cl I hI
          have f0 := A15.out.freel (I * 4)
          have f1 := A15.out.freel (I * 4 + 1)
          have f2 := A15.out.freel (I * 4 + 2)
          have f3 := A15.out.freel (I * 4 + 3)
          have HF := Lib.hid (A15.out.setw I hI z)
          have HG := Lib.hid (((((F10.out.ne (p := ⟨gl, I * 4, none⟩) (by simp; omega) (.int .i64 z.st)).ne (p := ⟨gl, I * 4 + 1, none⟩) (by simp; omega) (.int .i64 z.gn)).ne (p := ⟨gl, I * 4 + 2, none⟩) (by simp; omega) (.int .i64 z.tr)).ne (p := ⟨gl, I * 4 + 3, none⟩) (by simp; omega) (.int .i64 z.sn)))
          go_wp2_with fail
          go_meet
          exact ⟨HG.out, _, _, _, by simpa using HF.out⟩
    · have bK : decide (K < 3) = false := decide_eq_false hK3
      rw [bK]
      obtain rfl : K = 3 := by omega
      clear hK3 hK4 bK
      obtain ⟨v, hv⟩ : ∃ v, v = (inC n ii && wi kp 255) := ⟨_, rfl⟩
      have HV := Lib.hid hv
      clear hv
      have q10 : wc.cell? ⟨g10, 10, none⟩ = some (.int .i64 kp) := B10.out.cell 10
      go_upto_region 31 with fail
      go_cut [15] from 218 to 230 (fun s15 wx => s15 = .bool v ∧ wx = wc)
      case first => as_aux_lemma =>
        cases th with
        | false =>
          obtain rfl : v = false := by rw [HV.out, ← HTH.out]; rfl
          go_wp2_with fail
          go_meet
          exact ⟨rfl, rfl⟩
        | true =>
          by_cases h0 : 0 ≤ kp
          · have e0 : decide (0 ≤ kp) = true := by simpa using h0
            have E1 := Lib.hid (show decide (kp ≤ 255) = v by rw [HV.out, ← HTH.out]; unfold wi; simp [h0])
            go_wp2_with fail
            go_meet
            exact ⟨by rw [E1.out], rfl⟩
          · have e0 : decide (0 ≤ kp) = false := by simpa using h0
            have E1 := Lib.hid (show v = false by rw [HV.out]; unfold wi; simp; omega)
            clear h0
            go_wp2_with fail
            go_meet
            exact ⟨by rw [E1.out], rfl⟩
      case rest =>
      obtain ⟨rfl, rfl⟩ := hcut
      clear q10
      obtain ⟨fv, hfv⟩ : ∃ f : Int, f = if v then 0 else 1 := ⟨_, rfl⟩
      have HFV := Lib.hid hfv
      clear hfv
      go_upto_region 32 with fail
      go_cut [16] from 231 to 237 (fun s16 wx => s16 = .int .i64 fv ∧ KeyR w gp gc gn gl gk n ws ks g10 (Av.blk ⟨wh, ii, ⟨o0, o1, o2, o3⟩, ⟨x0, x1, x2, x3⟩, kp, ka, ko⟩) v ii.toNat ⟨kp, ka, ko⟩ wx)
      case first => as_aux_lemma =>
        have h0 : S32 w gp gc gn gl gk n ws ks g10 (Av.blk ⟨wh, ii, ⟨o0, o1, o2, o3⟩, ⟨x0, x1, x2, x3⟩, kp, ka, ko⟩) wc := ⟨⟨_, _, _, A10.out⟩, B10.out⟩
        have H0 := Lib.hid h0
        have hqn : gn ≠ g10 := by omega
        clear h0 B10
        have r1 : ∀ W, S32 w gp gc gn gl gk n ws ks g10 (Av.blk ⟨wh, ii, ⟨o0, o1, o2, o3⟩, ⟨x0, x1, x2, x3⟩, kp, ka, ko⟩) W → W.cell? ⟨g10, 1, none⟩ = some (.int .i64 ii) := fun W h => h.b10.cell 1
        have r10 : ∀ W, S32 w gp gc gn gl gk n ws ks g10 (Av.blk ⟨wh, ii, ⟨o0, o1, o2, o3⟩, ⟨x0, x1, x2, x3⟩, kp, ka, ko⟩) W → W.cell? ⟨g10, 10, none⟩ = some (.int .i64 kp) := fun W h => h.b10.cell 10
        have r11 : ∀ W, S32 w gp gc gn gl gk n ws ks g10 (Av.blk ⟨wh, ii, ⟨o0, o1, o2, o3⟩, ⟨x0, x1, x2, x3⟩, kp, ka, ko⟩) W → W.cell? ⟨g10, 11, none⟩ = some (.int .u32 ka) := fun W h => h.b10.cell 11
        have r12 : ∀ W, S32 w gp gc gn gl gk n ws ks g10 (Av.blk ⟨wh, ii, ⟨o0, o1, o2, o3⟩, ⟨x0, x1, x2, x3⟩, kp, ka, ko⟩) W → W.cell? ⟨g10, 12, none⟩ = some (.int .u16 ko) := fun W h => h.b10.cell 12
        refine wp_region_noPanic ?_
        refine wp_region_held_drew (S := (fun W => S32 w gp gc gn gl gk n ws ks g10 (Av.blk ⟨wh, ii, ⟨o0, o1, o2, o3⟩, ⟨x0, x1, x2, x3⟩, kp, ka, ko⟩) W)) (by kernel_rfl) (H0.out.drew) (fun hHeld => ?_)
        refine wpAnyH_take (i := 0) (oi := ⟨some 231, _, _, _, _, _⟩) (v := ?tve0) rfl (by kernel_rfl) (by kernel_rfl) (by kernel_rfl) (fun _ _ _ h => h) (Or.inl ⟨by kernel_rfl, ?tye0⟩) (by assumption) ?tre0
        case tye0 => (intro w hSw; first | (go_simp; done) | (go_simp; with_reducible rfl))
        case' tre0 => try simp only [Act.put, List.setIfInBounds_toArray, List.set_cons_zero, List.set_cons_succ]
        refine wpAnyH_take (i := 1) (oi := ⟨some 232, _, _, _, _, _⟩) (v := ?tve1) rfl (by kernel_rfl) (by kernel_rfl) (by kernel_rfl) (fun _ _ _ h => h) (Or.inl ⟨by kernel_rfl, ?tye1⟩) (by assumption) ?tre1
        case tye1 => (intro w hSw; first | (go_simp; done) | (go_simp; with_reducible rfl))
        case' tre1 => try simp only [Act.put, List.setIfInBounds_toArray, List.set_cons_zero, List.set_cons_succ]
        refine wpAnyH_take (i := 2) (oi := ⟨some 233, _, _, _, _, _⟩) (v := ?tve2) rfl (by kernel_rfl) (by kernel_rfl) (by kernel_rfl) (fun _ _ _ h => h) (Or.inl ⟨by kernel_rfl, ?tye2⟩) (by assumption) ?tre2
        case tye2 => (intro w hSw; first | (go_simp; done) | (go_simp; with_reducible rfl))
        case' tre2 => try simp only [Act.put, List.setIfInBounds_toArray, List.set_cons_zero, List.set_cons_succ]
        refine wpAnyH_take (i := 3) (oi := ⟨some 234, _, _, _, _, _⟩) (v := ?tve3) rfl (by kernel_rfl) (by kernel_rfl) (by kernel_rfl) (fun _ _ _ h => h) (Or.inl ⟨by kernel_rfl, ?tye3⟩) (by assumption) ?tre3
        case tye3 => (intro w hSw; first | (go_simp; done) | (go_simp; with_reducible rfl))
        case' tre3 => try simp only [Act.put, List.setIfInBounds_toArray, List.set_cons_zero, List.set_cons_succ]
        refine wpAnyH_take (i := 4) (oi := ⟨some 235, _, _, _, _, _⟩) (v := ?tve4) rfl (by kernel_rfl) (by kernel_rfl) (by kernel_rfl) (fun _ _ _ h => h) (Or.inl ⟨by kernel_rfl, ?tye4⟩) (by assumption) ?tre4
        case tye4 => (intro w hSw; first | (go_simp; done) | (go_simp; with_reducible rfl))
        case' tre4 => try simp only [Act.put, List.setIfInBounds_toArray, List.set_cons_zero, List.set_cons_succ]
        refine wpAnyH_ready (rs := [5]) (by kernel_rfl) (by simp) ?_
        refine AllReadyH.cons (o := ⟨some 236, _, _, _, _, _⟩) rfl (fun K hK => ?_) AllReadyH.nil
        go_simp
        go_at_call 33
        refine (lkey_any ⟨kp, ka, ko⟩ _).mono ?_
        rintro e w2 ⟨rfl, hb1⟩
        have hSe5 : ((fun W => S32 w gp gc gn gl gk n ws ks g10 (Av.blk ⟨wh, ii, ⟨o0, o1, o2, o3⟩, ⟨x0, x1, x2, x3⟩, kp, ka, ko⟩) W)) w2 := S32.below hHeld hb1
        refine hK.out _ _ hSe5 (fun hHeld0 => ?_)
        clear hK K hHeld0 hHeld
        try simp only [Act.put, List.setIfInBounds_toArray, List.set_cons_zero, List.set_cons_succ]
        have hHeld : ((fun W => S32 w gp gc gn gl gk n ws ks g10 (Av.blk ⟨wh, ii, ⟨o0, o1, o2, o3⟩, ⟨x0, x1, x2, x3⟩, kp, ka, ko⟩) W)) w2 := hSe5
        clear hSe5
        refine wpAnyH_ready (rs := [6]) (by kernel_rfl) (by simp) ?_
        refine AllReadyH.cons (o := ⟨some 237, _, _, _, _, _⟩) rfl (fun K hK => ?_) AllReadyH.nil
        go_simp
        go_at_call 26
        refine ((A10.out.drew.below hb1).setF ii ⟨kp, ka, ko⟩ HX.out.2.2.2.2.2 v HV.out fv HFV.out).mono ?_
        rintro e w3 ⟨rfl, l2, hA2, hk2⟩
        have hSe6 : ((fun W => S32 w gp gc gn gl gk n ws ks g10 (Av.blk ⟨wh, ii, ⟨o0, o1, o2, o3⟩, ⟨x0, x1, x2, x3⟩, kp, ka, ko⟩) W)) w3 := S32.keep hHeld hk2 hA2 (by omega)
        refine hK.out _ _ hSe6 (fun hHeld0 => ?_)
        clear hK K hHeld0 hHeld
        try simp only [Act.put, List.setIfInBounds_toArray, List.set_cons_zero, List.set_cons_succ]
        have hHeld : ((fun W => S32 w gp gc gn gl gk n ws ks g10 (Av.blk ⟨wh, ii, ⟨o0, o1, o2, o3⟩, ⟨x0, x1, x2, x3⟩, kp, ka, ko⟩) W)) w3 := hSe6
        clear hSe6
        refine wpAnyH_take (i := 7) (oi := ⟨some 16, _, _, _, _, _⟩) (v := ?tve7) rfl (by kernel_rfl) (by kernel_rfl) (by kernel_rfl) (fun _ _ _ h => h) (Or.inl ⟨by kernel_rfl, ?tye7⟩) (by assumption) ?tre7
        case tye7 => (intro w hSw; first | (go_simp; done) | (go_simp; with_reducible rfl))
        case' tre7 => try simp only [Act.put, List.setIfInBounds_toArray, List.set_cons_zero, List.set_cons_succ]
        refine wpAnyH_done (by kernel_rfl) ?_ _
        refine NoPanic.normal ?_
        go_wp2_with fail
        go_meet
        exact ⟨rfl, hHeld.b10, l2, hA2⟩
      case rest =>
      obtain ⟨rfl, hb10, l', hA⟩ := hcut
      have A15 := Lib.hid hA
      have F10 := Lib.hid hb10
      clear hA hb10 A10 B10
      cases v with
      | false =>
        obtain rfl : fv = 1 := by rw [HFV.out]; rfl
        have A15' := Lib.hid (show AS w gp gc gn gl gk n l' ws ks ws ks wc from A15.out)
        clear A15 HFV
        go_wp2_with fail
        go_meet
        exact ⟨F10.out, _, _, _, A15'.out⟩
      | true =>
        obtain rfl : fv = 0 := by rw [HFV.out]; rfl
        have A15' := Lib.hid (show AS w gp gc gn gl gk n l' ws (upd ks ii.toNat ⟨kp, ka, ko⟩) ws ks wc from A15.out)
        clear A15 HFV
        have A15 := A15'
        clear A15'
        obtain ⟨I, rfl, hI⟩ : ∃ I : Nat, ii = (I : Int) ∧ I < n := by
          have := HV.out
          have h2 : inC n ii = true := by
            cases h : inC n ii
            · rw [h] at this; simp at this
            · rfl
          unfold inC at h2
          simp at h2
          exact ⟨ii.toNat, by omega, by omega⟩
        have i0 : (I : Int) < (n : Int) := by omega
        have q1 : wc.cell? ⟨g10, 1, none⟩ = some (.int .i64 I) := F10.out.cell 1
        have q10 : wc.cell? ⟨g10, 10, none⟩ = some (.int .i64 kp) := F10.out.cell 10
        have q11 : wc.cell? ⟨g10, 11, none⟩ = some (.int .u32 ka) := F10.out.cell 11
        have q12 : wc.cell? ⟨g10, 12, none⟩ = some (.int .u16 ko) := F10.out.cell 12
        obtain ⟨y0, y1, y2⟩ := A15.out.cf I hI
        have f0 := A15.out.freek (I * 3)
        have f1 := A15.out.freek (I * 3 + 1)
        have f2 := A15.out.freek (I * 3 + 2)
        have HF := Lib.hid (A15.out.setk I hI ⟨kp, ka, ko⟩)
        have HG := Lib.hid ((((F10.out.ne (p := ⟨gk, I * 3, none⟩) (by simp; omega) (.int .i64 kp)).ne (p := ⟨gk, I * 3 + 1, none⟩) (by simp; omega) (.int .u32 ka)).ne (p := ⟨gk, I * 3 + 2, none⟩) (by simp; omega) (.int .u16 ko)))
        go_wp2_with fail
        go_meet
        exact ⟨HG.out, _, _, _, by simpa using HF.out⟩
  case rest =>
    obtain ⟨hb10, l2, ws2, ks2, hA⟩ := hcut
    have A16 := Lib.hid hA
    have G10 := Lib.hid hb10
    clear hA hb10 A10 B10
    go_upto_region 37 with fail
    go_cut [303] from 257 to 303 (fun s303 wx => s303 = .bool false ∧ Below wc.heap.size wc wx)
    case first => as_aux_lemma =>
      have h0 : S32 w gp gc gn gl gk n ws2 ks2 g10 (Av.blk ⟨wh, ii, ⟨o0, o1, o2, o3⟩, ⟨x0, x1, x2, x3⟩, kp, ka, ko⟩) wc := ⟨⟨_, _, _, A16.out⟩, G10.out⟩
      have H0 := Lib.hid h0
      clear h0 G10
      cases th with
      | false =>
        have r1 : ∀ W, S32 w gp gc gn gl gk n ws2 ks2 g10 (Av.blk ⟨wh, ii, ⟨o0, o1, o2, o3⟩, ⟨x0, x1, x2, x3⟩, kp, ka, ko⟩) W → W.cell? ⟨g10, 1, none⟩ = some (.int .i64 ii) := fun W h => h.b10.cell 1
        refine wp_region_noPanic ?_
        refine wp_region_held_drew (S := (fun W => S32 w gp gc gn gl gk n ws2 ks2 g10 (Av.blk ⟨wh, ii, ⟨o0, o1, o2, o3⟩, ⟨x0, x1, x2, x3⟩, kp, ka, ko⟩) W)) (by kernel_rfl) (H0.out.drew) (fun hHeld => ?_)
        refine wpAnyH_take (i := 0) (oi := ⟨some 257, _, _, _, _, _⟩) (v := ?tvf0) rfl (by kernel_rfl) (by kernel_rfl) (by kernel_rfl) (fun _ _ _ h => h) (Or.inl ⟨by kernel_rfl, ?tyf0⟩) (by assumption) ?trf0
        case tyf0 => (intro w hSw; first | (go_simp; done) | (go_simp; with_reducible rfl))
        case' trf0 => try simp only [Act.put, List.setIfInBounds_toArray, List.set_cons_zero, List.set_cons_succ]
        refine wpAnyH_take (i := 1) (oi := ⟨some 258, _, _, _, _, _⟩) (v := ?tvf1) rfl (by kernel_rfl) (by kernel_rfl) (by kernel_rfl) (fun _ _ _ h => h) (Or.inl ⟨by kernel_rfl, ?tyf1⟩) (by assumption) ?trf1
        case tyf1 => (intro w hSw; first | (go_simp; done) | (go_simp; with_reducible rfl))
        case' trf1 => try simp only [Act.put, List.setIfInBounds_toArray, List.set_cons_zero, List.set_cons_succ]
        refine wpAnyH_take (i := 2) (oi := ⟨some 259, _, _, _, _, _⟩) (v := undef) rfl (by kernel_rfl) (by kernel_rfl) (by kernel_rfl) (fun _ _ _ h => h) (Or.inr ⟨by kernel_rfl, rfl⟩) (by assumption) ?_
        try simp only [Act.put, List.setIfInBounds_toArray, List.set_cons_zero, List.set_cons_succ]
        refine wpAnyH_take (i := 3) (oi := ⟨some 260, _, _, _, _, _⟩) (v := undef) rfl (by kernel_rfl) (by kernel_rfl) (by kernel_rfl) (fun _ _ _ h => h) (Or.inr ⟨by kernel_rfl, rfl⟩) (by assumption) ?_
        try simp only [Act.put, List.setIfInBounds_toArray, List.set_cons_zero, List.set_cons_succ]
        refine wpAnyH_take (i := 4) (oi := ⟨some 261, _, _, _, _, _⟩) (v := undef) rfl (by kernel_rfl) (by kernel_rfl) (by kernel_rfl) (fun _ _ _ h => h) (Or.inr ⟨by kernel_rfl, rfl⟩) (by assumption) ?_
        try simp only [Act.put, List.setIfInBounds_toArray, List.set_cons_zero, List.set_cons_succ]
        refine wpAnyH_take (i := 5) (oi := ⟨some 262, _, _, _, _, _⟩) (v := undef) rfl (by kernel_rfl) (by kernel_rfl) (by kernel_rfl) (fun _ _ _ h => h) (Or.inr ⟨by kernel_rfl, rfl⟩) (by assumption) ?_
        try simp only [Act.put, List.setIfInBounds_toArray, List.set_cons_zero, List.set_cons_succ]
        refine wpAnyH_take (i := 6) (oi := ⟨some 263, _, _, _, _, _⟩) (v := undef) rfl (by kernel_rfl) (by kernel_rfl) (by kernel_rfl) (fun _ _ _ h => h) (Or.inr ⟨by kernel_rfl, rfl⟩) (by assumption) ?_
        try simp only [Act.put, List.setIfInBounds_toArray, List.set_cons_zero, List.set_cons_succ]
        refine wpAnyH_take (i := 7) (oi := ⟨some 264, _, _, _, _, _⟩) (v := undef) rfl (by kernel_rfl) (by kernel_rfl) (by kernel_rfl) (fun _ _ _ h => h) (Or.inr ⟨by kernel_rfl, rfl⟩) (by assumption) ?_
        try simp only [Act.put, List.setIfInBounds_toArray, List.set_cons_zero, List.set_cons_succ]
        refine wpAnyH_take (i := 8) (oi := ⟨some 265, _, _, _, _, _⟩) (v := undef) rfl (by kernel_rfl) (by kernel_rfl) (by kernel_rfl) (fun _ _ _ h => h) (Or.inr ⟨by kernel_rfl, rfl⟩) (by assumption) ?_
        try simp only [Act.put, List.setIfInBounds_toArray, List.set_cons_zero, List.set_cons_succ]
        refine wpAnyH_take (i := 9) (oi := ⟨some 266, _, _, _, _, _⟩) (v := undef) rfl (by kernel_rfl) (by kernel_rfl) (by kernel_rfl) (fun _ _ _ h => h) (Or.inr ⟨by kernel_rfl, rfl⟩) (by assumption) ?_
        try simp only [Act.put, List.setIfInBounds_toArray, List.set_cons_zero, List.set_cons_succ]
        refine wpAnyH_take (i := 10) (oi := ⟨some 267, _, _, _, _, _⟩) (v := undef) rfl (by kernel_rfl) (by kernel_rfl) (by kernel_rfl) (fun _ _ _ h => h) (Or.inr ⟨by kernel_rfl, rfl⟩) (by assumption) ?_
        try simp only [Act.put, List.setIfInBounds_toArray, List.set_cons_zero, List.set_cons_succ]
        refine wpAnyH_take (i := 11) (oi := ⟨some 268, _, _, _, _, _⟩) (v := undef) rfl (by kernel_rfl) (by kernel_rfl) (by kernel_rfl) (fun _ _ _ h => h) (Or.inr ⟨by kernel_rfl, rfl⟩) (by assumption) ?_
        try simp only [Act.put, List.setIfInBounds_toArray, List.set_cons_zero, List.set_cons_succ]
        refine wpAnyH_take (i := 12) (oi := ⟨some 269, _, _, _, _, _⟩) (v := undef) rfl (by kernel_rfl) (by kernel_rfl) (by kernel_rfl) (fun _ _ _ h => h) (Or.inr ⟨by kernel_rfl, rfl⟩) (by assumption) ?_
        try simp only [Act.put, List.setIfInBounds_toArray, List.set_cons_zero, List.set_cons_succ]
        refine wpAnyH_take (i := 13) (oi := ⟨some 270, _, _, _, _, _⟩) (v := undef) rfl (by kernel_rfl) (by kernel_rfl) (by kernel_rfl) (fun _ _ _ h => h) (Or.inr ⟨by kernel_rfl, rfl⟩) (by assumption) ?_
        try simp only [Act.put, List.setIfInBounds_toArray, List.set_cons_zero, List.set_cons_succ]
        refine wpAnyH_take (i := 14) (oi := ⟨some 271, _, _, _, _, _⟩) (v := undef) rfl (by kernel_rfl) (by kernel_rfl) (by kernel_rfl) (fun _ _ _ h => h) (Or.inr ⟨by kernel_rfl, rfl⟩) (by assumption) ?_
        try simp only [Act.put, List.setIfInBounds_toArray, List.set_cons_zero, List.set_cons_succ]
        refine wpAnyH_take (i := 15) (oi := ⟨some 272, _, _, _, _, _⟩) (v := undef) rfl (by kernel_rfl) (by kernel_rfl) (by kernel_rfl) (fun _ _ _ h => h) (Or.inr ⟨by kernel_rfl, rfl⟩) (by assumption) ?_
        try simp only [Act.put, List.setIfInBounds_toArray, List.set_cons_zero, List.set_cons_succ]
        refine wpAnyH_take (i := 16) (oi := ⟨some 273, _, _, _, _, _⟩) (v := undef) rfl (by kernel_rfl) (by kernel_rfl) (by kernel_rfl) (fun _ _ _ h => h) (Or.inr ⟨by kernel_rfl, rfl⟩) (by assumption) ?_
        try simp only [Act.put, List.setIfInBounds_toArray, List.set_cons_zero, List.set_cons_succ]
        refine wpAnyH_take (i := 17) (oi := ⟨some 274, _, _, _, _, _⟩) (v := undef) rfl (by kernel_rfl) (by kernel_rfl) (by kernel_rfl) (fun _ _ _ h => h) (Or.inr ⟨by kernel_rfl, rfl⟩) (by assumption) ?_
        try simp only [Act.put, List.setIfInBounds_toArray, List.set_cons_zero, List.set_cons_succ]
        refine wpAnyH_take (i := 18) (oi := ⟨some 275, _, _, _, _, _⟩) (v := undef) rfl (by kernel_rfl) (by kernel_rfl) (by kernel_rfl) (fun _ _ _ h => h) (Or.inr ⟨by kernel_rfl, rfl⟩) (by assumption) ?_
        try simp only [Act.put, List.setIfInBounds_toArray, List.set_cons_zero, List.set_cons_succ]
        refine wpAnyH_take (i := 19) (oi := ⟨some 276, _, _, _, _, _⟩) (v := undef) rfl (by kernel_rfl) (by kernel_rfl) (by kernel_rfl) (fun _ _ _ h => h) (Or.inr ⟨by kernel_rfl, rfl⟩) (by assumption) ?_
        try simp only [Act.put, List.setIfInBounds_toArray, List.set_cons_zero, List.set_cons_succ]
        refine wpAnyH_take (i := 20) (oi := ⟨some 277, _, _, _, _, _⟩) (v := undef) rfl (by kernel_rfl) (by kernel_rfl) (by kernel_rfl) (fun _ _ _ h => h) (Or.inr ⟨by kernel_rfl, rfl⟩) (by assumption) ?_
        try simp only [Act.put, List.setIfInBounds_toArray, List.set_cons_zero, List.set_cons_succ]
        refine wpAnyH_take (i := 21) (oi := ⟨some 278, _, _, _, _, _⟩) (v := undef) rfl (by kernel_rfl) (by kernel_rfl) (by kernel_rfl) (fun _ _ _ h => h) (Or.inr ⟨by kernel_rfl, rfl⟩) (by assumption) ?_
        try simp only [Act.put, List.setIfInBounds_toArray, List.set_cons_zero, List.set_cons_succ]
        refine wpAnyH_take (i := 22) (oi := ⟨some 279, _, _, _, _, _⟩) (v := undef) rfl (by kernel_rfl) (by kernel_rfl) (by kernel_rfl) (fun _ _ _ h => h) (Or.inr ⟨by kernel_rfl, rfl⟩) (by assumption) ?_
        try simp only [Act.put, List.setIfInBounds_toArray, List.set_cons_zero, List.set_cons_succ]
        refine wpAnyH_take (i := 23) (oi := ⟨some 280, _, _, _, _, _⟩) (v := undef) rfl (by kernel_rfl) (by kernel_rfl) (by kernel_rfl) (fun _ _ _ h => h) (Or.inr ⟨by kernel_rfl, rfl⟩) (by assumption) ?_
        try simp only [Act.put, List.setIfInBounds_toArray, List.set_cons_zero, List.set_cons_succ]
        refine wpAnyH_take (i := 24) (oi := ⟨some 281, _, _, _, _, _⟩) (v := undef) rfl (by kernel_rfl) (by kernel_rfl) (by kernel_rfl) (fun _ _ _ h => h) (Or.inr ⟨by kernel_rfl, rfl⟩) (by assumption) ?_
        try simp only [Act.put, List.setIfInBounds_toArray, List.set_cons_zero, List.set_cons_succ]
        refine wpAnyH_take (i := 25) (oi := ⟨some 282, _, _, _, _, _⟩) (v := undef) rfl (by kernel_rfl) (by kernel_rfl) (by kernel_rfl) (fun _ _ _ h => h) (Or.inr ⟨by kernel_rfl, rfl⟩) (by assumption) ?_
        try simp only [Act.put, List.setIfInBounds_toArray, List.set_cons_zero, List.set_cons_succ]
        refine wpAnyH_take (i := 26) (oi := ⟨some 283, _, _, _, _, _⟩) (v := ?tvf26) rfl (by kernel_rfl) (by kernel_rfl) (by kernel_rfl) (fun _ _ _ h => h) (Or.inl ⟨by kernel_rfl, ?tyf26⟩) (by assumption) ?trf26
        case tyf26 => (intro w hSw; first | (go_simp; done) | (go_simp; with_reducible rfl))
        case' trf26 => try simp only [Act.put, List.setIfInBounds_toArray, List.set_cons_zero, List.set_cons_succ]
        refine wpAnyH_take (i := 27) (oi := ⟨some 284, _, _, _, _, _⟩) (v := ?tvf27) rfl (by kernel_rfl) (by kernel_rfl) (by kernel_rfl) (fun _ _ _ h => h) (Or.inl ⟨by kernel_rfl, ?tyf27⟩) (by assumption) ?trf27
        case tyf27 => (intro w hSw; first | (go_simp; done) | (go_simp; with_reducible rfl))
        case' trf27 => try simp only [Act.put, List.setIfInBounds_toArray, List.set_cons_zero, List.set_cons_succ]
        refine wpAnyH_take (i := 28) (oi := ⟨some 285, _, _, _, _, _⟩) (v := ?tvf28) rfl (by kernel_rfl) (by kernel_rfl) (by kernel_rfl) (fun _ _ _ h => h) (Or.inl ⟨by kernel_rfl, ?tyf28⟩) (by assumption) ?trf28
        case tyf28 => (intro w hSw; first | (go_simp; done) | (go_simp; with_reducible rfl))
        case' trf28 => try simp only [Act.put, List.setIfInBounds_toArray, List.set_cons_zero, List.set_cons_succ]
        refine wpAnyH_take (i := 29) (oi := ⟨some 286, _, _, _, _, _⟩) (v := ?tvf29) rfl (by kernel_rfl) (by kernel_rfl) (by kernel_rfl) (fun _ _ _ h => h) (Or.inl ⟨by kernel_rfl, ?tyf29⟩) (by assumption) ?trf29
        case tyf29 => (intro w hSw; first | (go_simp; done) | (go_simp; with_reducible rfl))
        case' trf29 => try simp only [Act.put, List.setIfInBounds_toArray, List.set_cons_zero, List.set_cons_succ]
        refine wpAnyH_take (i := 30) (oi := ⟨some 287, _, _, _, _, _⟩) (v := ?tvf30) rfl (by kernel_rfl) (by kernel_rfl) (by kernel_rfl) (fun _ _ _ h => h) (Or.inl ⟨by kernel_rfl, ?tyf30⟩) (by assumption) ?trf30
        case tyf30 => (intro w hSw; first | (go_simp; done) | (go_simp; with_reducible rfl))
        case' trf30 => try simp only [Act.put, List.setIfInBounds_toArray, List.set_cons_zero, List.set_cons_succ]
        refine wpAnyH_take (i := 31) (oi := ⟨some 288, _, _, _, _, _⟩) (v := ?tvf31) rfl (by kernel_rfl) (by kernel_rfl) (by kernel_rfl) (fun _ _ _ h => h) (Or.inl ⟨by kernel_rfl, ?tyf31⟩) (by assumption) ?trf31
        case tyf31 => (intro w hSw; first | (go_simp; done) | (go_simp; with_reducible rfl))
        case' trf31 => try simp only [Act.put, List.setIfInBounds_toArray, List.set_cons_zero, List.set_cons_succ]
        refine wpAnyH_take (i := 32) (oi := ⟨some 289, _, _, _, _, _⟩) (v := ?tvf32) rfl (by kernel_rfl) (by kernel_rfl) (by kernel_rfl) (fun _ _ _ h => h) (Or.inl ⟨by kernel_rfl, ?tyf32⟩) (by assumption) ?trf32
        case tyf32 => (intro w hSw; first | (go_simp; done) | (go_simp; with_reducible rfl))
        case' trf32 => try simp only [Act.put, List.setIfInBounds_toArray, List.set_cons_zero, List.set_cons_succ]
        refine wpAnyH_take (i := 33) (oi := ⟨some 290, _, _, _, _, _⟩) (v := ?tvf33) rfl (by kernel_rfl) (by kernel_rfl) (by kernel_rfl) (fun _ _ _ h => h) (Or.inl ⟨by kernel_rfl, ?tyf33⟩) (by assumption) ?trf33
        case tyf33 => (intro w hSw; first | (go_simp; done) | (go_simp; with_reducible rfl))
        case' trf33 => try simp only [Act.put, List.setIfInBounds_toArray, List.set_cons_zero, List.set_cons_succ]
        refine wpAnyH_take (i := 35) (oi := ⟨some 292, _, _, _, _, _⟩) (v := ?tvf35) rfl (by kernel_rfl) (by kernel_rfl) (by kernel_rfl) (fun _ _ _ h => h) (Or.inl ⟨by kernel_rfl, ?tyf35⟩) (by assumption) ?trf35
        case tyf35 => (intro w hSw; first | (go_simp; done) | (go_simp; with_reducible rfl))
        case' trf35 => try simp only [Act.put, List.setIfInBounds_toArray, List.set_cons_zero, List.set_cons_succ]
        refine wpAnyH_ready (rs := [34]) (by kernel_rfl) (by simp) ?_
        refine AllReadyH.cons (o := ⟨some 291, _, _, _, _, _⟩) rfl (fun K hK => ?_) AllReadyH.nil
        go_simp
        go_at_call 23
        refine (ploadE A16.out.drew.pl ii HTH.out.symm).mono ?_
        rintro e w2 ⟨rfl, hb1⟩
        have hSf34 : ((fun W => S32 w gp gc gn gl gk n ws2 ks2 g10 (Av.blk ⟨wh, ii, ⟨o0, o1, o2, o3⟩, ⟨x0, x1, x2, x3⟩, kp, ka, ko⟩) W)) w2 := S32.below hHeld hb1
        refine hK.out _ _ hSf34 (fun hHeld0 => ?_)
        clear hK K hHeld0 hHeld
        try simp only [Act.put, List.setIfInBounds_toArray, List.set_cons_zero, List.set_cons_succ]
        have hHeld : ((fun W => S32 w gp gc gn gl gk n ws2 ks2 g10 (Av.blk ⟨wh, ii, ⟨o0, o1, o2, o3⟩, ⟨x0, x1, x2, x3⟩, kp, ka, ko⟩) W)) w2 := hSf34
        clear hSf34
        refine wpAnyH_take (i := 36) (oi := ⟨some 293, _, _, _, _, _⟩) (v := ?tvf36) rfl (by kernel_rfl) (by kernel_rfl) (by kernel_rfl) (fun _ _ _ h => h) (Or.inl ⟨by kernel_rfl, ?tyf36⟩) (by assumption) ?trf36
        case tyf36 => (intro w hSw; first | (go_simp; done) | (go_simp; with_reducible rfl))
        case' trf36 => try simp only [Act.put, List.setIfInBounds_toArray, List.set_cons_zero, List.set_cons_succ]
        refine wpAnyH_take (i := 37) (oi := ⟨some 294, _, _, _, _, _⟩) (v := ?tvf37) rfl (by kernel_rfl) (by kernel_rfl) (by kernel_rfl) (fun _ _ _ h => h) (Or.inl ⟨by kernel_rfl, ?tyf37⟩) (by assumption) ?trf37
        case tyf37 => (intro w hSw; first | (go_simp; done) | (go_simp; with_reducible rfl))
        case' trf37 => try simp only [Act.put, List.setIfInBounds_toArray, List.set_cons_zero, List.set_cons_succ]
        refine wpAnyH_take (i := 38) (oi := ⟨some 295, _, _, _, _, _⟩) (v := ?tvf38) rfl (by kernel_rfl) (by kernel_rfl) (by kernel_rfl) (fun _ _ _ h => h) (Or.inl ⟨by kernel_rfl, ?tyf38⟩) (by assumption) ?trf38
        case tyf38 => (intro w hSw; first | (go_simp; done) | (go_simp; with_reducible rfl))
        case' trf38 => try simp only [Act.put, List.setIfInBounds_toArray, List.set_cons_zero, List.set_cons_succ]
        refine wpAnyH_take (i := 39) (oi := ⟨some 296, _, _, _, _, _⟩) (v := ?tvf39) rfl (by kernel_rfl) (by kernel_rfl) (by kernel_rfl) (fun _ _ _ h => h) (Or.inl ⟨by kernel_rfl, ?tyf39⟩) (by assumption) ?trf39
        case tyf39 => (intro w hSw; first | (go_simp; done) | (go_simp; with_reducible rfl))
        case' trf39 => try simp only [Act.put, List.setIfInBounds_toArray, List.set_cons_zero, List.set_cons_succ]
        refine wpAnyH_take (i := 40) (oi := ⟨some 297, _, _, _, _, _⟩) (v := ?tvf40) rfl (by kernel_rfl) (by kernel_rfl) (by kernel_rfl) (fun _ _ _ h => h) (Or.inl ⟨by kernel_rfl, ?tyf40⟩) (by assumption) ?trf40
        case tyf40 => (intro w hSw; first | (go_simp; done) | (go_simp; with_reducible rfl))
        case' trf40 => try simp only [Act.put, List.setIfInBounds_toArray, List.set_cons_zero, List.set_cons_succ]
        refine wpAnyH_take (i := 42) (oi := ⟨some 299, _, _, _, _, _⟩) (v := ?tvf42) rfl (by kernel_rfl) (by kernel_rfl) (by kernel_rfl) (fun _ _ _ h => h) (Or.inl ⟨by kernel_rfl, ?tyf42⟩) (by assumption) ?trf42
        case tyf42 => (intro w hSw; first | (go_simp; done) | (go_simp; with_reducible rfl))
        case' trf42 => try simp only [Act.put, List.setIfInBounds_toArray, List.set_cons_zero, List.set_cons_succ]
        refine wpAnyH_ready (rs := [41]) (by kernel_rfl) (by simp) ?_
        refine AllReadyH.cons (o := ⟨some 298, _, _, _, _, _⟩) rfl (fun K hK => ?_) AllReadyH.nil
        go_simp
        go_at_call 25
        refine (pkeyE (A16.out.drew.below hb1).pl ii HTH.out.symm).mono ?_
        rintro e w3 ⟨rfl, hb2⟩
        have hSf41 : ((fun W => S32 w gp gc gn gl gk n ws2 ks2 g10 (Av.blk ⟨wh, ii, ⟨o0, o1, o2, o3⟩, ⟨x0, x1, x2, x3⟩, kp, ka, ko⟩) W)) w3 := S32.below hHeld hb2
        refine hK.out _ _ hSf41 (fun hHeld0 => ?_)
        clear hK K hHeld0 hHeld
        try simp only [Act.put, List.setIfInBounds_toArray, List.set_cons_zero, List.set_cons_succ]
        have hHeld : ((fun W => S32 w gp gc gn gl gk n ws2 ks2 g10 (Av.blk ⟨wh, ii, ⟨o0, o1, o2, o3⟩, ⟨x0, x1, x2, x3⟩, kp, ka, ko⟩) W)) w3 := hSf41
        clear hSf41
        refine wpAnyH_take (i := 43) (oi := ⟨some 300, _, _, _, _, _⟩) (v := ?tvf43) rfl (by kernel_rfl) (by kernel_rfl) (by kernel_rfl) (fun _ _ _ h => h) (Or.inl ⟨by kernel_rfl, ?tyf43⟩) (by assumption) ?trf43
        case tyf43 => (intro w hSw; first | (go_simp; done) | (go_simp; with_reducible rfl))
        case' trf43 => try simp only [Act.put, List.setIfInBounds_toArray, List.set_cons_zero, List.set_cons_succ]
        refine wpAnyH_take (i := 44) (oi := ⟨some 301, _, _, _, _, _⟩) (v := ?tvf44) rfl (by kernel_rfl) (by kernel_rfl) (by kernel_rfl) (fun _ _ _ h => h) (Or.inl ⟨by kernel_rfl, ?tyf44⟩) (by assumption) ?trf44
        case tyf44 => (intro w hSw; first | (go_simp; done) | (go_simp; with_reducible rfl))
        case' trf44 => try simp only [Act.put, List.setIfInBounds_toArray, List.set_cons_zero, List.set_cons_succ]
        refine wpAnyH_take (i := 45) (oi := ⟨some 302, _, _, _, _, _⟩) (v := ?tvf45) rfl (by kernel_rfl) (by kernel_rfl) (by kernel_rfl) (fun _ _ _ h => h) (Or.inl ⟨by kernel_rfl, ?tyf45⟩) (by assumption) ?trf45
        case tyf45 => (intro w hSw; first | (go_simp; done) | (go_simp; with_reducible rfl))
        case' trf45 => try simp only [Act.put, List.setIfInBounds_toArray, List.set_cons_zero, List.set_cons_succ]
        refine wpAnyH_take (i := 46) (oi := ⟨some 303, _, _, _, _, _⟩) (v := ?tvf46) rfl (by kernel_rfl) (by kernel_rfl) (by kernel_rfl) (fun _ _ _ h => h) (Or.inl ⟨by kernel_rfl, ?tyf46⟩) (by assumption) ?trf46
        case tyf46 => (intro w hSw; first | (go_simp; done) | (go_simp; with_reducible rfl))
        case' trf46 => try simp only [Act.put, List.setIfInBounds_toArray, List.set_cons_zero, List.set_cons_succ]
        refine wpAnyH_done (by kernel_rfl) ?_ _
        refine NoPanic.normal ?_
        go_wp2_with fail
        go_meet
        exact ⟨rfl, bthen (bdrew _) (bthen hb1 hb2)⟩
      | true =>
        obtain ⟨I, rfl, hI⟩ : ∃ I : Nat, ii = (I : Int) ∧ I < n := by
          have := HTH.out
          unfold inC at this
          simp at this
          exact ⟨ii.toNat, by omega, by omega⟩
        have i0 : (I : Int) < (n : Int) := by omega
        have r1 : ∀ W, S32 w gp gc gn gl gk n ws2 ks2 g10 (Av.blk ⟨wh, (I : Int), ⟨o0, o1, o2, o3⟩, ⟨x0, x1, x2, x3⟩, kp, ka, ko⟩) W → W.cell? ⟨g10, 1, none⟩ = some (.int .i64 (I : Int)) := fun W h => h.b10.cell 1
        have r40 : ∀ W, S32 w gp gc gn gl gk n ws2 ks2 g10 (Av.blk ⟨wh, (I : Int), ⟨o0, o1, o2, o3⟩, ⟨x0, x1, x2, x3⟩, kp, ka, ko⟩) W → W.cell? ⟨gl, I * 4, none⟩ = some (.int .i64 (ws2 I).st) := fun W h => (h.cl I hI).1
        have r41 : ∀ W, S32 w gp gc gn gl gk n ws2 ks2 g10 (Av.blk ⟨wh, (I : Int), ⟨o0, o1, o2, o3⟩, ⟨x0, x1, x2, x3⟩, kp, ka, ko⟩) W → W.cell? ⟨gl, I * 4 + 1, none⟩ = some (.int .i64 (ws2 I).gn) := fun W h => (h.cl I hI).2.1
        have r42 : ∀ W, S32 w gp gc gn gl gk n ws2 ks2 g10 (Av.blk ⟨wh, (I : Int), ⟨o0, o1, o2, o3⟩, ⟨x0, x1, x2, x3⟩, kp, ka, ko⟩) W → W.cell? ⟨gl, I * 4 + 2, none⟩ = some (.int .i64 (ws2 I).tr) := fun W h => (h.cl I hI).2.2.1
        have r43 : ∀ W, S32 w gp gc gn gl gk n ws2 ks2 g10 (Av.blk ⟨wh, (I : Int), ⟨o0, o1, o2, o3⟩, ⟨x0, x1, x2, x3⟩, kp, ka, ko⟩) W → W.cell? ⟨gl, I * 4 + 3, none⟩ = some (.int .i64 (ws2 I).sn) := fun W h => (h.cl I hI).2.2.2
        have r50 : ∀ W, S32 w gp gc gn gl gk n ws2 ks2 g10 (Av.blk ⟨wh, (I : Int), ⟨o0, o1, o2, o3⟩, ⟨x0, x1, x2, x3⟩, kp, ka, ko⟩) W → W.cell? ⟨gk, I * 3, none⟩ = some (.int .i64 (ks2 I).p) := fun W h => (h.cf I hI).1
        have r51 : ∀ W, S32 w gp gc gn gl gk n ws2 ks2 g10 (Av.blk ⟨wh, (I : Int), ⟨o0, o1, o2, o3⟩, ⟨x0, x1, x2, x3⟩, kp, ka, ko⟩) W → W.cell? ⟨gk, I * 3 + 1, none⟩ = some (.int .u32 (ks2 I).a) := fun W h => (h.cf I hI).2.1
        have r52 : ∀ W, S32 w gp gc gn gl gk n ws2 ks2 g10 (Av.blk ⟨wh, (I : Int), ⟨o0, o1, o2, o3⟩, ⟨x0, x1, x2, x3⟩, kp, ka, ko⟩) W → W.cell? ⟨gk, I * 3 + 2, none⟩ = some (.int .u16 (ks2 I).o) := fun W h => (h.cf I hI).2.2
        refine wp_region_noPanic ?_
        refine wp_region_held_drew (S := (fun W => S32 w gp gc gn gl gk n ws2 ks2 g10 (Av.blk ⟨wh, (I : Int), ⟨o0, o1, o2, o3⟩, ⟨x0, x1, x2, x3⟩, kp, ka, ko⟩) W)) (by kernel_rfl) (H0.out.drew) (fun hHeld => ?_)
        refine wpAnyH_take (i := 0) (oi := ⟨some 257, _, _, _, _, _⟩) (v := ?tvg0) rfl (by kernel_rfl) (by kernel_rfl) (by kernel_rfl) (fun _ _ _ h => h) (Or.inl ⟨by kernel_rfl, ?tyg0⟩) (by assumption) ?trg0
        case tyg0 => (intro w hSw; first | (go_simp; done) | (go_simp; with_reducible rfl))
        case' trg0 => try simp only [Act.put, List.setIfInBounds_toArray, List.set_cons_zero, List.set_cons_succ]
        refine wpAnyH_take (i := 1) (oi := ⟨some 258, _, _, _, _, _⟩) (v := ?tvg1) rfl (by kernel_rfl) (by kernel_rfl) (by kernel_rfl) (fun _ _ _ h => h) (Or.inl ⟨by kernel_rfl, ?tyg1⟩) (by assumption) ?trg1
        case tyg1 => (intro w hSw; first | (go_simp; done) | (go_simp; with_reducible rfl))
        case' trg1 => try simp only [Act.put, List.setIfInBounds_toArray, List.set_cons_zero, List.set_cons_succ]
        refine wpAnyH_take (i := 2) (oi := ⟨some 259, _, _, _, _, _⟩) (v := ?tvg2) rfl (by kernel_rfl) (by kernel_rfl) (by kernel_rfl) (fun _ _ _ h => h) (Or.inl ⟨by kernel_rfl, ?tyg2⟩) (by assumption) ?trg2
        case tyg2 => (intro w hSw; first | (go_simp; done) | (go_simp; with_reducible rfl))
        case' trg2 => try simp only [Act.put, List.setIfInBounds_toArray, List.set_cons_zero, List.set_cons_succ]
        refine wpAnyH_take (i := 3) (oi := ⟨some 260, _, _, _, _, _⟩) (v := ?tvg3) rfl (by kernel_rfl) (by kernel_rfl) (by kernel_rfl) (fun _ _ _ h => h) (Or.inl ⟨by kernel_rfl, ?tyg3⟩) (by assumption) ?trg3
        case tyg3 => (intro w hSw; first | (go_simp; done) | (go_simp; with_reducible rfl))
        case' trg3 => try simp only [Act.put, List.setIfInBounds_toArray, List.set_cons_zero, List.set_cons_succ]
        refine wpAnyH_take (i := 4) (oi := ⟨some 261, _, _, _, _, _⟩) (v := ?tvg4) rfl (by kernel_rfl) (by kernel_rfl) (by kernel_rfl) (fun _ _ _ h => h) (Or.inl ⟨by kernel_rfl, ?tyg4⟩) (by assumption) ?trg4
        case tyg4 => (intro w hSw; first | (go_simp; done) | (go_simp; with_reducible rfl))
        case' trg4 => try simp only [Act.put, List.setIfInBounds_toArray, List.set_cons_zero, List.set_cons_succ]
        refine wpAnyH_take (i := 7) (oi := ⟨some 264, _, _, _, _, _⟩) (v := ?tvg7) rfl (by kernel_rfl) (by kernel_rfl) (by kernel_rfl) (fun _ _ _ h => h) (Or.inl ⟨by kernel_rfl, ?tyg7⟩) (by assumption) ?trg7
        case tyg7 => (intro w hSw; first | (go_simp; done) | (go_simp; with_reducible rfl))
        case' trg7 => try simp only [Act.put, List.setIfInBounds_toArray, List.set_cons_zero, List.set_cons_succ]
        refine wpAnyH_take (i := 8) (oi := ⟨some 265, _, _, _, _, _⟩) (v := ?tvg8) rfl (by kernel_rfl) (by kernel_rfl) (by kernel_rfl) (fun _ _ _ h => h) (Or.inl ⟨by kernel_rfl, ?tyg8⟩) (by assumption) ?trg8
        case tyg8 => (intro w hSw; first | (go_simp; done) | (go_simp; with_reducible rfl))
        case' trg8 => try simp only [Act.put, List.setIfInBounds_toArray, List.set_cons_zero, List.set_cons_succ]
        refine wpAnyH_take (i := 9) (oi := ⟨some 266, _, _, _, _, _⟩) (v := ?tvg9) rfl (by kernel_rfl) (by kernel_rfl) (by kernel_rfl) (fun _ _ _ h => h) (Or.inl ⟨by kernel_rfl, ?tyg9⟩) (by assumption) ?trg9
        case tyg9 => (intro w hSw; first | (go_simp; done) | (go_simp; with_reducible rfl))
        case' trg9 => try simp only [Act.put, List.setIfInBounds_toArray, List.set_cons_zero, List.set_cons_succ]
        refine wpAnyH_take (i := 10) (oi := ⟨some 267, _, _, _, _, _⟩) (v := ?tvg10) rfl (by kernel_rfl) (by kernel_rfl) (by kernel_rfl) (fun _ _ _ h => h) (Or.inl ⟨by kernel_rfl, ?tyg10⟩) (by assumption) ?trg10
        case tyg10 => (intro w hSw; first | (go_simp; done) | (go_simp; with_reducible rfl))
        case' trg10 => try simp only [Act.put, List.setIfInBounds_toArray, List.set_cons_zero, List.set_cons_succ]
        refine wpAnyH_take (i := 11) (oi := ⟨some 268, _, _, _, _, _⟩) (v := ?tvg11) rfl (by kernel_rfl) (by kernel_rfl) (by kernel_rfl) (fun _ _ _ h => h) (Or.inl ⟨by kernel_rfl, ?tyg11⟩) (by assumption) ?trg11
        case tyg11 => (intro w hSw; first | (go_simp; done) | (go_simp; with_reducible rfl))
        case' trg11 => try simp only [Act.put, List.setIfInBounds_toArray, List.set_cons_zero, List.set_cons_succ]
        refine wpAnyH_ready (rs := [5]) (by kernel_rfl) (by simp) ?_
        refine AllReadyH.cons (o := ⟨some 262, _, _, _, _, _⟩) rfl (fun K hK => ?_) AllReadyH.nil
        go_simp
        go_at_call 23
        refine (A16.out.drew.loadE I hI).mono ?_
        rintro e w2 ⟨rfl, hb1⟩
        have hSg5 : ((fun W => S32 w gp gc gn gl gk n ws2 ks2 g10 (Av.blk ⟨wh, (I : Int), ⟨o0, o1, o2, o3⟩, ⟨x0, x1, x2, x3⟩, kp, ka, ko⟩) W)) w2 := S32.below hHeld hb1
        refine hK.out _ _ hSg5 (fun hHeld0 => ?_)
        clear hK K hHeld0 hHeld
        try simp only [Act.put, List.setIfInBounds_toArray, List.set_cons_zero, List.set_cons_succ]
        have hHeld : ((fun W => S32 w gp gc gn gl gk n ws2 ks2 g10 (Av.blk ⟨wh, (I : Int), ⟨o0, o1, o2, o3⟩, ⟨x0, x1, x2, x3⟩, kp, ka, ko⟩) W)) w2 := hSg5
        clear hSg5
        refine wpAnyH_ready (rs := [6]) (by kernel_rfl) (by simp) ?_
        refine AllReadyH.cons (o := ⟨some 263, _, _, _, _, _⟩) rfl (fun K hK => ?_) AllReadyH.nil
        go_simp
        go_at_call 34
        refine (wfromE (ws2 I) _).mono ?_
        rintro e w3 ⟨rfl, hb2⟩
        have hSg6 : ((fun W => S32 w gp gc gn gl gk n ws2 ks2 g10 (Av.blk ⟨wh, (I : Int), ⟨o0, o1, o2, o3⟩, ⟨x0, x1, x2, x3⟩, kp, ka, ko⟩) W)) w3 := S32.below hHeld hb2
        refine hK.out _ _ hSg6 (fun hHeld0 => ?_)
        clear hK K hHeld0 hHeld
        try simp only [Act.put, List.setIfInBounds_toArray, List.set_cons_zero, List.set_cons_succ]
        have hHeld : ((fun W => S32 w gp gc gn gl gk n ws2 ks2 g10 (Av.blk ⟨wh, (I : Int), ⟨o0, o1, o2, o3⟩, ⟨x0, x1, x2, x3⟩, kp, ka, ko⟩) W)) w3 := hSg6
        clear hSg6
        refine wpAnyH_take (i := 12) (oi := ⟨some 269, _, _, _, _, _⟩) (v := ?tvg12) rfl (by kernel_rfl) (by kernel_rfl) (by kernel_rfl) (fun _ _ _ h => h) (Or.inl ⟨by kernel_rfl, ?tyg12⟩) (by assumption) ?trg12
        case tyg12 => (intro w hSw; first | (go_simp; done) | (go_simp; with_reducible rfl))
        case' trg12 => try simp only [Act.put, List.setIfInBounds_toArray, List.set_cons_zero, List.set_cons_succ]
        refine wpAnyH_take (i := 13) (oi := ⟨some 270, _, _, _, _, _⟩) (v := ?tvg13) rfl (by kernel_rfl) (by kernel_rfl) (by kernel_rfl) (fun _ _ _ h => h) (Or.inl ⟨by kernel_rfl, ?tyg13⟩) (by assumption) ?trg13
        case tyg13 => (intro w hSw; first | (go_simp; done) | (go_simp; with_reducible rfl))
        case' trg13 => try simp only [Act.put, List.setIfInBounds_toArray, List.set_cons_zero, List.set_cons_succ]
        refine wpAnyH_take (i := 14) (oi := ⟨some 271, _, _, _, _, _⟩) (v := ?tvg14) rfl (by kernel_rfl) (by kernel_rfl) (by kernel_rfl) (fun _ _ _ h => h) (Or.inl ⟨by kernel_rfl, ?tyg14⟩) (by assumption) ?trg14
        case tyg14 => (intro w hSw; first | (go_simp; done) | (go_simp; with_reducible rfl))
        case' trg14 => try simp only [Act.put, List.setIfInBounds_toArray, List.set_cons_zero, List.set_cons_succ]
        refine wpAnyH_take (i := 15) (oi := ⟨some 272, _, _, _, _, _⟩) (v := ?tvg15) rfl (by kernel_rfl) (by kernel_rfl) (by kernel_rfl) (fun _ _ _ h => h) (Or.inl ⟨by kernel_rfl, ?tyg15⟩) (by assumption) ?trg15
        case tyg15 => (intro w hSw; first | (go_simp; done) | (go_simp; with_reducible rfl))
        case' trg15 => try simp only [Act.put, List.setIfInBounds_toArray, List.set_cons_zero, List.set_cons_succ]
        refine wpAnyH_take (i := 16) (oi := ⟨some 273, _, _, _, _, _⟩) (v := ?tvg16) rfl (by kernel_rfl) (by kernel_rfl) (by kernel_rfl) (fun _ _ _ h => h) (Or.inl ⟨by kernel_rfl, ?tyg16⟩) (by assumption) ?trg16
        case tyg16 => (intro w hSw; first | (go_simp; done) | (go_simp; with_reducible rfl))
        case' trg16 => try simp only [Act.put, List.setIfInBounds_toArray, List.set_cons_zero, List.set_cons_succ]
        refine wpAnyH_take (i := 19) (oi := ⟨some 276, _, _, _, _, _⟩) (v := ?tvg19) rfl (by kernel_rfl) (by kernel_rfl) (by kernel_rfl) (fun _ _ _ h => h) (Or.inl ⟨by kernel_rfl, ?tyg19⟩) (by assumption) ?trg19
        case tyg19 => (intro w hSw; first | (go_simp; done) | (go_simp; with_reducible rfl))
        case' trg19 => try simp only [Act.put, List.setIfInBounds_toArray, List.set_cons_zero, List.set_cons_succ]
        refine wpAnyH_take (i := 20) (oi := ⟨some 277, _, _, _, _, _⟩) (v := ?tvg20) rfl (by kernel_rfl) (by kernel_rfl) (by kernel_rfl) (fun _ _ _ h => h) (Or.inl ⟨by kernel_rfl, ?tyg20⟩) (by assumption) ?trg20
        case tyg20 => (intro w hSw; first | (go_simp; done) | (go_simp; with_reducible rfl))
        case' trg20 => try simp only [Act.put, List.setIfInBounds_toArray, List.set_cons_zero, List.set_cons_succ]
        refine wpAnyH_take (i := 21) (oi := ⟨some 278, _, _, _, _, _⟩) (v := ?tvg21) rfl (by kernel_rfl) (by kernel_rfl) (by kernel_rfl) (fun _ _ _ h => h) (Or.inl ⟨by kernel_rfl, ?tyg21⟩) (by assumption) ?trg21
        case tyg21 => (intro w hSw; first | (go_simp; done) | (go_simp; with_reducible rfl))
        case' trg21 => try simp only [Act.put, List.setIfInBounds_toArray, List.set_cons_zero, List.set_cons_succ]
        refine wpAnyH_take (i := 22) (oi := ⟨some 279, _, _, _, _, _⟩) (v := ?tvg22) rfl (by kernel_rfl) (by kernel_rfl) (by kernel_rfl) (fun _ _ _ h => h) (Or.inl ⟨by kernel_rfl, ?tyg22⟩) (by assumption) ?trg22
        case tyg22 => (intro w hSw; first | (go_simp; done) | (go_simp; with_reducible rfl))
        case' trg22 => try simp only [Act.put, List.setIfInBounds_toArray, List.set_cons_zero, List.set_cons_succ]
        refine wpAnyH_take (i := 23) (oi := ⟨some 280, _, _, _, _, _⟩) (v := ?tvg23) rfl (by kernel_rfl) (by kernel_rfl) (by kernel_rfl) (fun _ _ _ h => h) (Or.inl ⟨by kernel_rfl, ?tyg23⟩) (by assumption) ?trg23
        case tyg23 => (intro w hSw; first | (go_simp; done) | (go_simp; with_reducible rfl))
        case' trg23 => try simp only [Act.put, List.setIfInBounds_toArray, List.set_cons_zero, List.set_cons_succ]
        refine wpAnyH_ready (rs := [17]) (by kernel_rfl) (by simp) ?_
        refine AllReadyH.cons (o := ⟨some 274, _, _, _, _, _⟩) rfl (fun K hK => ?_) AllReadyH.nil
        go_simp
        go_at_call 25
        refine (((A16.out.drew.below hb1).below hb2).keyE I hI).mono ?_
        rintro e w4 ⟨rfl, hb3⟩
        have hSg17 : ((fun W => S32 w gp gc gn gl gk n ws2 ks2 g10 (Av.blk ⟨wh, (I : Int), ⟨o0, o1, o2, o3⟩, ⟨x0, x1, x2, x3⟩, kp, ka, ko⟩) W)) w4 := S32.below hHeld hb3
        refine hK.out _ _ hSg17 (fun hHeld0 => ?_)
        clear hK K hHeld0 hHeld
        try simp only [Act.put, List.setIfInBounds_toArray, List.set_cons_zero, List.set_cons_succ]
        have hHeld : ((fun W => S32 w gp gc gn gl gk n ws2 ks2 g10 (Av.blk ⟨wh, (I : Int), ⟨o0, o1, o2, o3⟩, ⟨x0, x1, x2, x3⟩, kp, ka, ko⟩) W)) w4 := hSg17
        clear hSg17
        refine wpAnyH_ready (rs := [18]) (by kernel_rfl) (by simp) ?_
        refine AllReadyH.cons (o := ⟨some 275, _, _, _, _, _⟩) rfl (fun K hK => ?_) AllReadyH.nil
        go_simp
        go_at_call 35
        refine (lfromE (ks2 I) _).mono ?_
        rintro e w5 ⟨rfl, hb4⟩
        have hSg18 : ((fun W => S32 w gp gc gn gl gk n ws2 ks2 g10 (Av.blk ⟨wh, (I : Int), ⟨o0, o1, o2, o3⟩, ⟨x0, x1, x2, x3⟩, kp, ka, ko⟩) W)) w5 := S32.below hHeld hb4
        refine hK.out _ _ hSg18 (fun hHeld0 => ?_)
        clear hK K hHeld0 hHeld
        try simp only [Act.put, List.setIfInBounds_toArray, List.set_cons_zero, List.set_cons_succ]
        have hHeld : ((fun W => S32 w gp gc gn gl gk n ws2 ks2 g10 (Av.blk ⟨wh, (I : Int), ⟨o0, o1, o2, o3⟩, ⟨x0, x1, x2, x3⟩, kp, ka, ko⟩) W)) w5 := hSg18
        clear hSg18
        refine wpAnyH_take (i := 24) (oi := ⟨some 281, _, _, _, _, _⟩) (v := ?tvg24) rfl (by kernel_rfl) (by kernel_rfl) (by kernel_rfl) (fun _ _ _ h => h) (Or.inl ⟨by kernel_rfl, ?tyg24⟩) (by assumption) ?trg24
        case tyg24 => (intro w hSw; first | (go_simp; done) | (go_simp; with_reducible rfl))
        case' trg24 => try simp only [Act.put, List.setIfInBounds_toArray, List.set_cons_zero, List.set_cons_succ]
        refine wpAnyH_take (i := 25) (oi := ⟨some 282, _, _, _, _, _⟩) (v := ?tvg25) rfl (by kernel_rfl) (by kernel_rfl) (by kernel_rfl) (fun _ _ _ h => h) (Or.inl ⟨by kernel_rfl, ?tyg25⟩) (by assumption) ?trg25
        case tyg25 => (intro w hSw; first | (go_simp; done) | (go_simp; with_reducible rfl))
        case' trg25 => try simp only [Act.put, List.setIfInBounds_toArray, List.set_cons_zero, List.set_cons_succ]
        refine wpAnyH_take (i := 26) (oi := ⟨some 283, _, _, _, _, _⟩) (v := ?tvg26) rfl (by kernel_rfl) (by kernel_rfl) (by kernel_rfl) (fun _ _ _ h => h) (Or.inl ⟨by kernel_rfl, ?tyg26⟩) (by assumption) ?trg26
        case tyg26 => (intro w hSw; first | (go_simp; done) | (go_simp; with_reducible rfl))
        case' trg26 => try simp only [Act.put, List.setIfInBounds_toArray, List.set_cons_zero, List.set_cons_succ]
        refine wpAnyH_take (i := 27) (oi := ⟨some 284, _, _, _, _, _⟩) (v := ?tvg27) rfl (by kernel_rfl) (by kernel_rfl) (by kernel_rfl) (fun _ _ _ h => h) (Or.inl ⟨by kernel_rfl, ?tyg27⟩) (by assumption) ?trg27
        case tyg27 => (intro w hSw; first | (go_simp; done) | (go_simp; with_reducible rfl))
        case' trg27 => try simp only [Act.put, List.setIfInBounds_toArray, List.set_cons_zero, List.set_cons_succ]
        refine wpAnyH_take (i := 28) (oi := ⟨some 285, _, _, _, _, _⟩) (v := ?tvg28) rfl (by kernel_rfl) (by kernel_rfl) (by kernel_rfl) (fun _ _ _ h => h) (Or.inl ⟨by kernel_rfl, ?tyg28⟩) (by assumption) ?trg28
        case tyg28 => (intro w hSw; first | (go_simp; done) | (go_simp; with_reducible rfl))
        case' trg28 => try simp only [Act.put, List.setIfInBounds_toArray, List.set_cons_zero, List.set_cons_succ]
        refine wpAnyH_take (i := 29) (oi := ⟨some 286, _, _, _, _, _⟩) (v := ?tvg29) rfl (by kernel_rfl) (by kernel_rfl) (by kernel_rfl) (fun _ _ _ h => h) (Or.inl ⟨by kernel_rfl, ?tyg29⟩) (by assumption) ?trg29
        case tyg29 => (intro w hSw; first | (go_simp; done) | (go_simp; with_reducible rfl))
        case' trg29 => try simp only [Act.put, List.setIfInBounds_toArray, List.set_cons_zero, List.set_cons_succ]
        refine wpAnyH_take (i := 30) (oi := ⟨some 287, _, _, _, _, _⟩) (v := ?tvg30) rfl (by kernel_rfl) (by kernel_rfl) (by kernel_rfl) (fun _ _ _ h => h) (Or.inl ⟨by kernel_rfl, ?tyg30⟩) (by assumption) ?trg30
        case tyg30 => (intro w hSw; first | (go_simp; done) | (go_simp; with_reducible rfl))
        case' trg30 => try simp only [Act.put, List.setIfInBounds_toArray, List.set_cons_zero, List.set_cons_succ]
        refine wpAnyH_take (i := 31) (oi := ⟨some 288, _, _, _, _, _⟩) (v := undef) rfl (by kernel_rfl) (by kernel_rfl) (by kernel_rfl) (fun _ _ _ h => h) (Or.inr ⟨by kernel_rfl, rfl⟩) (by assumption) ?_
        try simp only [Act.put, List.setIfInBounds_toArray, List.set_cons_zero, List.set_cons_succ]
        refine wpAnyH_take (i := 32) (oi := ⟨some 289, _, _, _, _, _⟩) (v := undef) rfl (by kernel_rfl) (by kernel_rfl) (by kernel_rfl) (fun _ _ _ h => h) (Or.inr ⟨by kernel_rfl, rfl⟩) (by assumption) ?_
        try simp only [Act.put, List.setIfInBounds_toArray, List.set_cons_zero, List.set_cons_succ]
        refine wpAnyH_take (i := 33) (oi := ⟨some 290, _, _, _, _, _⟩) (v := undef) rfl (by kernel_rfl) (by kernel_rfl) (by kernel_rfl) (fun _ _ _ h => h) (Or.inr ⟨by kernel_rfl, rfl⟩) (by assumption) ?_
        try simp only [Act.put, List.setIfInBounds_toArray, List.set_cons_zero, List.set_cons_succ]
        refine wpAnyH_take (i := 34) (oi := ⟨some 291, _, _, _, _, _⟩) (v := undef) rfl (by kernel_rfl) (by kernel_rfl) (by kernel_rfl) (fun _ _ _ h => h) (Or.inr ⟨by kernel_rfl, rfl⟩) (by assumption) ?_
        try simp only [Act.put, List.setIfInBounds_toArray, List.set_cons_zero, List.set_cons_succ]
        refine wpAnyH_take (i := 35) (oi := ⟨some 292, _, _, _, _, _⟩) (v := undef) rfl (by kernel_rfl) (by kernel_rfl) (by kernel_rfl) (fun _ _ _ h => h) (Or.inr ⟨by kernel_rfl, rfl⟩) (by assumption) ?_
        try simp only [Act.put, List.setIfInBounds_toArray, List.set_cons_zero, List.set_cons_succ]
        refine wpAnyH_take (i := 36) (oi := ⟨some 293, _, _, _, _, _⟩) (v := undef) rfl (by kernel_rfl) (by kernel_rfl) (by kernel_rfl) (fun _ _ _ h => h) (Or.inr ⟨by kernel_rfl, rfl⟩) (by assumption) ?_
        try simp only [Act.put, List.setIfInBounds_toArray, List.set_cons_zero, List.set_cons_succ]
        refine wpAnyH_take (i := 37) (oi := ⟨some 294, _, _, _, _, _⟩) (v := undef) rfl (by kernel_rfl) (by kernel_rfl) (by kernel_rfl) (fun _ _ _ h => h) (Or.inr ⟨by kernel_rfl, rfl⟩) (by assumption) ?_
        try simp only [Act.put, List.setIfInBounds_toArray, List.set_cons_zero, List.set_cons_succ]
        refine wpAnyH_take (i := 38) (oi := ⟨some 295, _, _, _, _, _⟩) (v := undef) rfl (by kernel_rfl) (by kernel_rfl) (by kernel_rfl) (fun _ _ _ h => h) (Or.inr ⟨by kernel_rfl, rfl⟩) (by assumption) ?_
        try simp only [Act.put, List.setIfInBounds_toArray, List.set_cons_zero, List.set_cons_succ]
        refine wpAnyH_take (i := 39) (oi := ⟨some 296, _, _, _, _, _⟩) (v := undef) rfl (by kernel_rfl) (by kernel_rfl) (by kernel_rfl) (fun _ _ _ h => h) (Or.inr ⟨by kernel_rfl, rfl⟩) (by assumption) ?_
        try simp only [Act.put, List.setIfInBounds_toArray, List.set_cons_zero, List.set_cons_succ]
        refine wpAnyH_take (i := 40) (oi := ⟨some 297, _, _, _, _, _⟩) (v := undef) rfl (by kernel_rfl) (by kernel_rfl) (by kernel_rfl) (fun _ _ _ h => h) (Or.inr ⟨by kernel_rfl, rfl⟩) (by assumption) ?_
        try simp only [Act.put, List.setIfInBounds_toArray, List.set_cons_zero, List.set_cons_succ]
        refine wpAnyH_take (i := 41) (oi := ⟨some 298, _, _, _, _, _⟩) (v := undef) rfl (by kernel_rfl) (by kernel_rfl) (by kernel_rfl) (fun _ _ _ h => h) (Or.inr ⟨by kernel_rfl, rfl⟩) (by assumption) ?_
        try simp only [Act.put, List.setIfInBounds_toArray, List.set_cons_zero, List.set_cons_succ]
        refine wpAnyH_take (i := 42) (oi := ⟨some 299, _, _, _, _, _⟩) (v := undef) rfl (by kernel_rfl) (by kernel_rfl) (by kernel_rfl) (fun _ _ _ h => h) (Or.inr ⟨by kernel_rfl, rfl⟩) (by assumption) ?_
        try simp only [Act.put, List.setIfInBounds_toArray, List.set_cons_zero, List.set_cons_succ]
        refine wpAnyH_take (i := 43) (oi := ⟨some 300, _, _, _, _, _⟩) (v := undef) rfl (by kernel_rfl) (by kernel_rfl) (by kernel_rfl) (fun _ _ _ h => h) (Or.inr ⟨by kernel_rfl, rfl⟩) (by assumption) ?_
        try simp only [Act.put, List.setIfInBounds_toArray, List.set_cons_zero, List.set_cons_succ]
        refine wpAnyH_take (i := 44) (oi := ⟨some 301, _, _, _, _, _⟩) (v := undef) rfl (by kernel_rfl) (by kernel_rfl) (by kernel_rfl) (fun _ _ _ h => h) (Or.inr ⟨by kernel_rfl, rfl⟩) (by assumption) ?_
        try simp only [Act.put, List.setIfInBounds_toArray, List.set_cons_zero, List.set_cons_succ]
        refine wpAnyH_take (i := 45) (oi := ⟨some 302, _, _, _, _, _⟩) (v := ?tvg45) rfl (by kernel_rfl) (by kernel_rfl) (by kernel_rfl) (fun _ _ _ h => h) (Or.inl ⟨by kernel_rfl, ?tyg45⟩) (by assumption) ?trg45
        case tyg45 => (intro w hSw; first | (go_simp; done) | (go_simp; with_reducible rfl))
        case' trg45 => try simp only [Act.put, List.setIfInBounds_toArray, List.set_cons_zero, List.set_cons_succ]
        refine wpAnyH_take (i := 46) (oi := ⟨some 303, _, _, _, _, _⟩) (v := ?tvg46) rfl (by kernel_rfl) (by kernel_rfl) (by kernel_rfl) (fun _ _ _ h => h) (Or.inl ⟨by kernel_rfl, ?tyg46⟩) (by assumption) ?trg46
        case tyg46 => (intro w hSw; first | (go_simp; done) | (go_simp; with_reducible rfl))
        case' trg46 => try simp only [Act.put, List.setIfInBounds_toArray, List.set_cons_zero, List.set_cons_succ]
        refine wpAnyH_done (by kernel_rfl) ?_ _
        refine NoPanic.normal ?_
        go_wp2_with fail
        go_meet
        exact ⟨rfl, bthen (bdrew _) (bthen hb1 (bthen hb2 (bthen hb3 hb4)))⟩
    case rest =>
    obtain ⟨rfl, hb⟩ := hcut
    have A17 := Lib.hid (A16.out.below hb)
    clear hb A16 G10
    go_wp2_with fail
    refine ⟨?_, by simp [WmuP, intOf]; omega⟩
    unfold WIP
    exact ⟨i + 1, _, _, _, _, _, _, _, _, _, _, _, _, _, _, _, _, _, _, _, _, _, _, _, _, _, _, _, _, _, _, _, _, _, _, _, _, _, _, _, _, _, _, _, _, _, _, _, _, _, _, _, _, _, _, _, _, _, _, _, _, _, _, _, _, _, _, _, _, _, _, _, _, _, _, _, _, _, _, _, _, _, _, _, _, _, _, _, _, _, _, _, _, _, _, _, _, _, _, _, _, _, _, _, _, _, _, _, _, _, _, _, _, _, _, _, _, _, _, _, _, _, _, _, _, _, _, _, _, _, _, _, _, _, _, _, _, _, _, _, _, _, _, _, _, _, _, _, _, _, _, _, _, _, _, _, _, _, _, _, _, _, _, _, _, _, _, _, _, _, _, _, _, _, _, _, _, _, _, _, _, _, _, _, _, _, _, _, _, _, _, _, _, _, _, _, _, _, _, _, _, _, _, _, _, _, _, _, _, _, _, _, _, _, _, _, _, _, _, _, _, _, _, _, _, _, _, ⟨by omega, by omega, _, _, _, A17.out⟩, rfl⟩
end Go.Proofs.Ytpiobdbaljkkpaa
