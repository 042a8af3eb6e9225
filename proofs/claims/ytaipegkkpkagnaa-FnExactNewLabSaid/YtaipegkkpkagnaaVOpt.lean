/-
  Kinds of optimisers: the program's map of kinds, and whether an optimiser is valid. Conditions: the kind is an int64.
-/
import Derived.Test.YtaipegkkpkagnaaOp5
import Derived.Maps.OwnSet
import Derived.Maps.Views
import Derived.Lib.SmallJoins
namespace Go.Proofs.Ytaipegkkpkagnaa
open Go.RowKit Go.Deep Go.WideShapes Go.ChangeShapes Go.Maps
set_option linter.unusedVariables false

/-- an element as it is -/
def Raw (v : Value) : Option (DataW Value × List MemPlace) := some (.held v, [])
theorem tbo5 {w : World} {g : Nat} {t : TypeId} {a b c d e : Value} (h : Blk w g t #[a, b, c, d, e]) : w.cell? ⟨g, 0, none⟩ = some a ∧ w.cell? ⟨g, 1, none⟩ = some b ∧ w.cell? ⟨g, 2, none⟩ = some c ∧ w.cell? ⟨g, 3, none⟩ = some d ∧ w.cell? ⟨g, 4, none⟩ = some e ∧ g < w.heap.size := ⟨h.cell 0, h.cell 1, h.cell 2, h.cell 3, h.cell 4, h.lt⟩
def optV (k : Int) (r b1 b2 ep : Nat) : Value := .agg #[.int .i64 k, .float .f32 r, .float .f32 b1, .float .f32 b2, .float .f32 ep]
def isKind (k : Int) : Bool := decide (0 ≤ k) && decide (k ≤ 4)
theorem zero_kind (w : World) : (zeroValue 186).run Try.prog w = .ok .nilIface w := by kernel_rfl
theorem keyLaw : Keyed Try.prog 2 := int_keyed Try.underlying2
def kindD (o : Value) : DataW Value :=
  (((((DataW.map []).put (.int .i64 0) (.held (.iface 230 o))).put (.int .i64 1) (.held (.iface 233 o))).put (.int .i64 2) (.held (.iface 234 o))).put (.int .i64 3) (.held (.iface 235 o))).put (.int .i64 4) (.held (.iface 238 o))
def kindV (k : Int) (o : Value) : Value :=
  if k = 0 then .iface 230 o else if k = 1 then .iface 233 o else if k = 2 then .iface 234 o else if k = 3 then .iface 235 o else if k = 4 then .iface 238 o else .nilIface
theorem lit_ne {k j : Int} (h : k ≠ j) : (Lit.int .i64 k) ≠ (Lit.int .i64 j) := fun e => h (by injection e)
theorem has_kind (k : Int) (o : Value) : Maps.has (kindD o) (.int .i64 k) = isKind k := by
  by_cases h0 : k = 0
  · subst h0; rfl
  by_cases h1 : k = 1
  · subst h1; rfl
  by_cases h2 : k = 2
  · subst h2; rfl
  by_cases h3 : k = 3
  · subst h3; rfl
  by_cases h4 : k = 4
  · subst h4; rfl
  unfold kindD
  rw [Maps.has_put_other (lit_ne h4), Maps.has_put_other (lit_ne h3), Maps.has_put_other (lit_ne h2), Maps.has_put_other (lit_ne h1), Maps.has_put_other (lit_ne h0)]
  have e : isKind k = false := by
    unfold isKind
    rw [Bool.and_eq_false_iff]
    simp only [decide_eq_false_iff_not]
    omega
  rw [e]; rfl
theorem at_kind (k : Int) (o : Value) : (kindD o).atKey (.int .i64 k) (.held .nilIface) = .held (kindV k o) := by
  by_cases h0 : k = 0
  · subst h0; rfl
  by_cases h1 : k = 1
  · subst h1; rfl
  by_cases h2 : k = 2
  · subst h2; rfl
  by_cases h3 : k = 3
  · subst h3; rfl
  by_cases h4 : k = 4
  · subst h4; rfl
  unfold kindD kindV
  rw [Maps.atKey_put_other (lit_ne h4), Maps.atKey_put_other (lit_ne h3), Maps.atKey_put_other (lit_ne h2), Maps.atKey_put_other (lit_ne h1), Maps.atKey_put_other (lit_ne h0), if_neg h0, if_neg h1, if_neg h2, if_neg h3, if_neg h4]
  rfl
theorem kind_at (k : Int) (o : Value) : (kindD o).atKey (.int .i64 k) (.held .nilIface) = .held (kindV k o) ∧ Maps.has (kindD o) (.int .i64 k) = isKind k := ⟨at_kind k o, has_kind k o⟩
set_option maxRecDepth 20000 in
set_option maxHeartbeats 1000000 in
theorem c_stepKindOf (k : Int) (r b1 b2 ep : Nat) (w : World) (hk : (Lit.int .i64 k).wf = true) : Calls Try.prog 129 #[optV k r b1 b2 ep] w fun e w' => e = .returned (.tuple #[kindV k (optV k r b1 b2 ep), .bool (isKind k)]) ∧ Below w.heap.size w w' := by
  have hmm := @run_makeMap Try.prog
  unfold optV
  have K0 := Lib.hid ((Blk.new w 40 #[.int .i64 k, .float .f32 r, .float .f32 b1, .float .f32 b2, .float .f32 ep]).below ((Below.refl _ _).alloc (Nat.le_refl _) (.map #[] 0)))
  have B0 := Lib.hid (((Below.refl w.heap.size w).alloc (Nat.le_refl _) (.cells #[.int .i64 k, .float .f32 r, .float .f32 b1, .float .f32 b2, .float .f32 ep] 40)).alloc (by simp) (.map #[] 0))
  have h0 : ((w.alloc (.cells #[.int .i64 k, .float .f32 r, .float .f32 b1, .float .f32 b2, .float .f32 ep] 40)).alloc (.map #[] 0)).ownsMap Try.prog 2 Raw (w.heap.size + 1) 0 (.map []) := by
    have h := World.ownsMap_made (w.alloc (.cells #[.int .i64 k, .float .f32 r, .float .f32 b1, .float .f32 b2, .float .f32 ep] 40)) Try.prog 2 Raw
    rw [World.size_alloc] at h
    exact h
  have hne : w.heap.size ≠ w.heap.size + 1 := by omega
  obtain ⟨w1, r1, h1, g1⟩ := h0.update keyLaw Try.underlying239 (by unfold maxLen; omega) (key := .int .i64 0) (val := .iface 230 (.agg #[.int .i64 k, .float .f32 r, .float .f32 b1, .float .f32 b2, .float .f32 ep])) (keyOf_int_mk Try.underlying2 (by decide)) (show Raw _ = some (.held _, []) from rfl)
  have K1 := Lib.hid (K0.out.off g1 hne)
  have B1 := Lib.hid (B0.out.grown g1 B0.out.size (fun j hj => by cases hj; exact Nat.le_succ _))
  obtain ⟨p10, p11, p12, p13, p14, p1l⟩ := tbo5 K1.out
  obtain ⟨w2, r2, h2, g2⟩ := h1.update keyLaw Try.underlying239 (by unfold maxLen; omega) (key := .int .i64 1) (val := .iface 233 (.agg #[.int .i64 k, .float .f32 r, .float .f32 b1, .float .f32 b2, .float .f32 ep])) (keyOf_int_mk Try.underlying2 (by decide)) (show Raw _ = some (.held _, []) from rfl)
  have K2 := Lib.hid (K1.out.off g2 hne)
  have B2 := Lib.hid (B1.out.grown g2 B1.out.size (fun j hj => by cases hj; exact Nat.le_succ _))
  obtain ⟨p20, p21, p22, p23, p24, p2l⟩ := tbo5 K2.out
  obtain ⟨w3, r3, h3, g3⟩ := h2.update keyLaw Try.underlying239 (by unfold maxLen; omega) (key := .int .i64 2) (val := .iface 234 (.agg #[.int .i64 k, .float .f32 r, .float .f32 b1, .float .f32 b2, .float .f32 ep])) (keyOf_int_mk Try.underlying2 (by decide)) (show Raw _ = some (.held _, []) from rfl)
  have K3 := Lib.hid (K2.out.off g3 hne)
  have B3 := Lib.hid (B2.out.grown g3 B2.out.size (fun j hj => by cases hj; exact Nat.le_succ _))
  obtain ⟨p30, p31, p32, p33, p34, p3l⟩ := tbo5 K3.out
  obtain ⟨w4, r4, h4, g4⟩ := h3.update keyLaw Try.underlying239 (by unfold maxLen; omega) (key := .int .i64 3) (val := .iface 235 (.agg #[.int .i64 k, .float .f32 r, .float .f32 b1, .float .f32 b2, .float .f32 ep])) (keyOf_int_mk Try.underlying2 (by decide)) (show Raw _ = some (.held _, []) from rfl)
  have K4 := Lib.hid (K3.out.off g4 hne)
  have B4 := Lib.hid (B3.out.grown g4 B3.out.size (fun j hj => by cases hj; exact Nat.le_succ _))
  obtain ⟨p40, p41, p42, p43, p44, p4l⟩ := tbo5 K4.out
  obtain ⟨w5, r5, h5, g5⟩ := h4.update keyLaw Try.underlying239 (by unfold maxLen; omega) (key := .int .i64 4) (val := .iface 238 (.agg #[.int .i64 k, .float .f32 r, .float .f32 b1, .float .f32 b2, .float .f32 ep])) (keyOf_int_mk Try.underlying2 (by decide)) (show Raw _ = some (.held _, []) from rfl)
  have K5 := Lib.hid (K4.out.off g5 hne)
  have B5 := Lib.hid (B4.out.grown g5 B4.out.size (fun j hj => by cases hj; exact Nat.le_succ _))
  obtain ⟨p50, p51, p52, p53, p54, p5l⟩ := tbo5 K5.out
  obtain ⟨v, ps, rl, hv⟩ := h5.look_ok keyLaw Try.underlying239 (zero_kind w5) (show Raw _ = some (.held _, []) from rfl) (key := .int .i64 k) (keyOf_int_mk Try.underlying2 hk)
  obtain ⟨e1, e2⟩ := kind_at k (.agg #[.int .i64 k, .float .f32 r, .float .f32 b1, .float .f32 b2, .float .f32 ep])
  have hv2 : v = kindV k (.agg #[.int .i64 k, .float .f32 r, .float .f32 b1, .float .f32 b2, .float .f32 ep]) := by
    have h : Raw v = some (.held (kindV k (.agg #[.int .i64 k, .float .f32 r, .float .f32 b1, .float .f32 b2, .float .f32 ep])), ps) := hv.trans (congrArg (fun d => some (d, ps)) e1)
    simpa [Raw] using congrArg (fun x => x.map (·.1)) h
  have e2' : Maps.has (kindD (.agg #[.int .i64 k, .float .f32 r, .float .f32 b1, .float .f32 b2, .float .f32 ep])) (.int .i64 k) = isKind k := e2
  have rl' : (Instr.lookup 239 (.map (some (w.heap.size + 1))) (.int .i64 k) true).run Try.prog w5 = .ok (.tuple #[kindV k (.agg #[.int .i64 k, .float .f32 r, .float .f32 b1, .float .f32 b2, .float .f32 ep]), .bool (isKind k)]) w5 := by rw [← hv2, ← e2']; exact rl
  obtain ⟨u, hu⟩ : ∃ u, kindV k (.agg #[.int .i64 k, .float .f32 r, .float .f32 b1, .float .f32 b2, .float .f32 ep]) = u := ⟨_, rfl⟩
  obtain ⟨q, hq⟩ : ∃ u, isKind k = u := ⟨_, rfl⟩
  rw [hu, hq] at rl'
  rw [hu, hq]
  clear h0 h1 h2 h3 h4 h5 g1 g2 g3 g4 g5 hv rl e1 e2 e2' hv2 hu hq
  go_enter Try.func129, Try.ntmps129
  go_wp2_with fail
  go_ret2
  exact ⟨rfl, B5.out⟩
section
open Go.WideElems
variable {H : Type} {enc : TypeId × Value → H} {P : Program} {w : World} {base : Nat} {held : Bool} {spare : Nat → Bool}
theorem array5 {α : Type} {cs : Array α} (h : cs.size = 5) : ∃ a b c d e, cs = #[a, b, c, d, e] := by
  obtain ⟨l⟩ := cs
  match l, h with
  | [a, b, c, d, e], _ => exact ⟨a, b, c, d, e, rfl⟩
theorem open_agg5 {r : Reach} {b0 : Nat} {t : TypeId} {f0 f1 f2 f3 f4 : Field} {v : Value} {d : DataW H} {p : List MemPlace} (hs : P.underlying t = some (.struct #[f0, f1, f2, f3, f4])) (hone : oneCellFields P #[f0, f1, f2, f3, f4] = true) (hC : P.cellsOf t = 5)
    (hv : Value.okWide P w r b0 t v) (h : DataW.Trod enc P w base spare held t v d p) :
    ∃ (v0 v1 v2 v3 v4 : Value) (y0 y1 y2 y3 y4 : DataW H × List MemPlace) (n : Nat), v = .agg #[v0, v1, v2, v3, v4] ∧
      DataW.trod enc P w base spare held n f0.type [v0] = some y0 ∧ DataW.trod enc P w base spare held n f1.type [v1] = some y1 ∧ DataW.trod enc P w base spare held n f2.type [v2] = some y2 ∧ DataW.trod enc P w base spare held n f3.type [v3] = some y3 ∧ DataW.trod enc P w base spare held n f4.type [v4] = some y4 := by
  obtain ⟨cs, rfl, hsz⟩ := okWide_struct hs hv
  obtain ⟨c0, c1, c2, c3, c4, rfl⟩ := array5 (hsz.trans hC)
  obtain ⟨fuel, hf⟩ := h
  obtain ⟨xs, n, _, _, hl, hlen, hx⟩ := DataW.trod_struct hs hf
  match xs, hlen with
  | [y0, y1, y2, y3, y4], _ =>
    obtain ⟨o0, k0⟩ := hone_of hone 0 f0 rfl
    obtain ⟨o1, k1⟩ := hone_of hone 1 f1 rfl
    obtain ⟨o2, k2⟩ := hone_of hone 2 f2 rfl
    obtain ⟨o3, k3⟩ := hone_of hone 3 f3 rfl
    obtain ⟨o4, k4⟩ := hone_of hone 4 f4 rfl
    exact ⟨c0, c1, c2, c3, c4, y0, y1, y2, y3, y4, n, rfl, by simpa [Value.cells, o0, k0] using hx 0 f0 rfl, by simpa [Value.cells, o1, k1] using hx 1 f1 rfl, by simpa [Value.cells, o2, k2] using hx 2 f2 rfl, by simpa [Value.cells, o3, k3] using hx 3 f3 rfl, by simpa [Value.cells, o4, k4] using hx 4 f4 rfl⟩
end
set_option maxRecDepth 100000 in
theorem open_Opt {H : Type} {enc : TypeId × Value → H} {W : World} {base b0 : Nat} {re : Reach} {held : Bool} {v : Value} {d : DataW H} {p : List MemPlace}
    (hv : Value.okWide Try.prog W re b0 24 v) (h : DataW.Trod enc Try.prog W base (fun _ => true) held 24 v d p) :
    ∃ (k : Int) (r b1 b2 ep : Nat), v = optV k r b1 b2 ep ∧ (Lit.int .i64 k).wf = true ∧ r < 2 ^ 32 ∧ b1 < 2 ^ 32 ∧ b2 < 2 ^ 32 ∧ ep < 2 ^ 32 := by
  obtain ⟨v0, v1, v2, v3, v4, y0, y1, y2, y3, y4, n, rfl, h0, h1, h2, h3, h4⟩ := open_agg5 Try.underlying24 (by kernel_rfl) (by kernel_rfl) hv h
  obtain ⟨k, e0, _, wk⟩ := DataW.trod_int Try.underlying2 h0
  simp only [List.cons.injEq, and_true] at e0
  subst e0
  obtain ⟨r, rfl, hr⟩ := trod_float Try.underlying22 h1
  obtain ⟨b1, rfl, hb1⟩ := trod_float Try.underlying22 h2
  obtain ⟨b2, rfl, hb2⟩ := trod_float Try.underlying22 h3
  obtain ⟨ep, rfl, hep⟩ := trod_float Try.underlying22 h4
  exact ⟨k, r, b1, b2, ep, rfl, wk, hr, hb1, hb2, hep⟩
set_option maxRecDepth 20000 in
set_option maxHeartbeats 1000000 in
theorem c_toOpt (k : Int) (r b1 b2 ep : Nat) (w : World) : Calls Try.prog 61 #[optV k r b1 b2 ep] w fun e w' => e = .returned (optV k r b1 b2 ep) ∧ Below w.heap.size w w' := by
  unfold optV
  go_enter Try.func61, Try.ntmps61
  go_wp2
  refine bodyPost_ret (v := .agg #[.int .i64 k, .float .f32 r, .float .f32 b1, .float .f32 b2, .float .f32 ep]) (by simp [results, Try.results61, go_sem]) rfl ⟨rfl, ?_⟩
  repeat first | exact Below.refl _ _ | refine Below.setCell ?_ (by simp <;> omega) _ | refine Below.alloc ?_ (by simp <;> omega) _
theorem c_l05Is (g : Nat) (k : Int) (w : World) (h : w.cell? ⟨g, 0, none⟩ = some (.int .i64 k)) : Calls Try.prog 174 #[.pointer (some ⟨g, 0, none⟩)] w fun e w' => e = .returned (.bool (isKind k)) ∧ w = w' := by
  go_enter Try.func174, Try.ntmps174
  go_wp2_with (go_at_call 83; refine (c_l00In k 0 4 (isKind k) rfl _).mono ?_; rintro e w' ⟨rfl, rfl⟩)
  go_ret
  exact ⟨rfl, rfl⟩
end Go.Proofs.Ytaipegkkpkagnaa
