/-
  RunModel: values, and what the program answers. Conditions: the cells can be read.
-/
import Derived.Test.YtpdgpoonblldgaaSgo
import Derived.Test.YtpdgpoonblldgaaLists
import Derived.Test.YtpdgpoonblldgaaRow
import Derived.Test.YtpdgpoonblldgaaVal
namespace Go.Proofs.Ytpdgpoonblldgaa
open Go.RowKit Go.Deep Go.WideShapes Go.ChangeShapes
set_option linter.unusedVariables false
set_option linter.unusedSimpArgs false

def rowAt (z : List Nat) (c i : Nat) : List Nat := (z.drop (i * c)).take c
def lastO (ps : List LayP) : Int := match ps[ps.length - 1]? with
  | some p => p.o
  | none => 0
def vRunModel (ps : List LayP) (r c : Int) (z : List Nat) : Int × Int × Bool × List Nat :=
  if (vMod ps && (vokB r c z.length && goesIn ps c.toNat)) = true then (r, lastO ps, true, (List.range r.toNat).flatMap fun i => stageV ps (rowAt z c.toNat i) ps.length) else (0, 0, false, [])
theorem vRun_no {ps : List LayP} {r c : Int} {z : List Nat} (h : (vMod ps && (vokB r c z.length && goesIn ps c.toNat)) = false) : vRunModel ps r c z = (0, 0, false, []) := by
  unfold vRunModel
  rw [h]
  rfl
theorem vRun_yes {ps : List LayP} {R C : Nat} {z : List Nat} (h1 : vMod ps = true) (h2 : vokB R C z.length = true) (h3 : goesIn ps C = true) :
    vRunModel ps R C z = ((R : Int), lastO ps, true, (List.range R).flatMap fun i => stageV ps (rowAt z C i) ps.length) := by
  unfold vRunModel
  rw [h1, h2, show ((C : Int)).toNat = C from rfl, show ((R : Int)).toNat = R from rfl, h3]
  rfl
theorem rowAt_len {z : List Nat} {R C i : Nat} (hz : z.length = R * C) (hi : i < R) : (rowAt z C i).length = C := by
  have e1 : (i + 1) * C ≤ R * C := Nat.mul_le_mul_right C hi
  rw [Nat.add_mul, Nat.one_mul] at e1
  simp only [rowAt, List.length_take, List.length_drop]
  omega
theorem last_at {ps : List LayP} (h : vMod ps = true) : ∃ (p : LayP) (O : Nat), ps[ps.length - 1]? = some p ∧ p.o = (O : Int) ∧ 1 ≤ O ∧ O ≤ 8 ∧ lastO ps = (O : Int) := by
  have h6 := mod_len h
  have hx : ps[ps.length - 1]? = some ps[ps.length - 1] := List.getElem?_eq_getElem (by omega)
  obtain ⟨p, hp⟩ : ∃ p, ps[ps.length - 1] = p := ⟨_, rfl⟩
  rw [hp] at hx
  obtain ⟨i', o', hi, ho, h1, h2, _⟩ := lay_nat (mod_one h hx)
  exact ⟨p, o', hx, ho, h2.1, h2.2, by unfold lastO; rw [hx]; exact ho⟩
theorem outs_len {ps : List LayP} {x : List Nat} {O : Nat} (h1 : vMod ps = true) (h2 : goesIn ps x.length = true) (hO : lastO ps = (O : Int)) : (stageV ps x ps.length).length = O := by
  have h6 := mod_len h1
  have h0 : ps[0]? = some ps[0] := List.getElem?_eq_getElem (by omega)
  obtain ⟨p0, hp0⟩ : ∃ p, ps[0] = p := ⟨_, rfl⟩
  rw [hp0] at h0
  rw [goesIn_at h0, decide_eq_true_eq] at h2
  obtain ⟨p, O', hp, hpo, _, _, hl⟩ := last_at h1
  have := stage_last h1 h0 h2 hp
  rw [show ps.length - 1 + 1 = ps.length by omega] at this
  omega
theorem flat_len {f : Nat → List Nat} {K : Nat} : ∀ n, (∀ i, i < n → (f i).length = K) → ((List.range n).flatMap f).length = n * K := by
  intro n
  induction n with
  | zero => intro _; simp
  | succ n ih =>
    intro h
    rw [List.range_succ, List.flatMap_append, List.length_append, ih (fun i hi => h i (by omega)), Nat.add_mul, Nat.one_mul]
    simp [h n (by omega)]
theorem vRunModel_len (ps : List LayP) (r c : Int) (z : List Nat) : (vRunModel ps r c z).2.2.2.length ≤ 1048576 := by
  cases h : (vMod ps && (vokB r c z.length && goesIn ps c.toNat)) with
  | false => rw [vRun_no h]; simp
  | true =>
    rw [Bool.and_eq_true, Bool.and_eq_true] at h
    obtain ⟨h1, h2, h3⟩ := h
    obtain ⟨R, C, rfl, rfl, r1, r2, c1, c2, hz⟩ := vok_nat h2
    obtain ⟨p, O, _, _, o1, o2, hO⟩ := last_at h1
    rw [vRun_yes h1 h2 h3]
    dsimp only
    rw [flat_len (K := O) R (fun i hi => outs_len h1 (by rw [rowAt_len hz hi]; exact h3) hO)]
    have := Nat.mul_le_mul r2 o2
    omega
set_option maxRecDepth 20000 in
set_option maxHeartbeats 1000000 in
/-- the lines of a tensor, taken by a method value -/
theorem c_takeRowsM (L F : FuncId) (rv : Value) (lineOf : Nat → List Nat) (rowOf : Nat → List Nat) (R C : Int) (a : Option Addr) (m cap n : Nat) (w : World) (hn : n ≤ 256)
    (hEL : ∀ (xs : Array Value) (wr : World), (callFunc L xs).run Try.prog wr = .ok (.enter L xs) wr) (hE : ∀ (xs : Array Value) (wr : World), (callFunc F xs).run Try.prog wr = .ok (.enter F xs) wr)
    (hL : ∀ (i : Nat) (wr : World), i < n → Below w.heap.size w wr → Calls Try.prog L #[.agg #[.int .i64 R, .int .i64 C, .slice a m cap], .int .i64 i] wr (RetRow (lineOf i) wr))
    (hF : ∀ (i : Nat) (b : Option Addr) (c : Nat) (wr : World), i < n → Below w.heap.size w wr → IsFloats .f32 wr b (lineOf i).length c (lineOf i) → Calls Try.prog F #[rv, .slice b (lineOf i).length c] wr (RetLs (rowOf i) wr)) :
    Calls Try.prog 109 #[.agg #[.int .i64 R, .int .i64 C, .slice a m cap], .int .i64 n, .func (.func L) #[] #[], .func (.func F) #[rv] #[]] w (RetRows rowOf n w) := by
  have HG := Lib.hid hL
  have HC := Lib.hid hF
  obtain ⟨i0, hi, hz0, hz1, hz2⟩ := info_parts info_fl
  have HI := Lib.hid hi
  have HZ0 := Lib.hid hz0
  have HZ1 := Lib.hid hz1
  have HZ2 := Lib.hid hz2
  clear hL hF hi hz0 hz1 hz2
  go_enter Try.func109, Try.ntmps109
  go_wp2_with (at_make; refine wpList_make_full _ rfl _ _ 51 rfl w.heap.size 25 i0 (.slice none 0 0) 1 Try.underlying51 HI.out HZ0.out HZ1.out _ _ _ _ n rfl rfl rfl rfl ?c1 ?c2 ?c3 ?_)
  case c1 => rw [HZ2.out]; omega
  case c2 => unfold maxLen; omega
  case c3 => simp
  intro w1 hown hgrow
  have hb0 : Below w.heap.size w (w.alloc (.cells #[.int .i64 R, .int .i64 C, .slice a m cap] 38)) := (Below.refl _ _).alloc (Nat.le_refl _) _
  have hb1 := hb0.grown hgrow hb0.size (fun k h => by cases h)
  have k1 := Blk.new w 38 #[.int .i64 R, .int .i64 C, .slice a m cap]
  have k1 : Blk w1 w.heap.size 38 #[.int .i64 R, .int .i64 C, .slice a m cap] := (hgrow.block _ k1.lt (by simp)).trans k1
  have K1 := Lib.hid k1
  rw [toList_madeCells_one] at hown
  have HO := Lib.hid hown
  have HB := Lib.hid hb1
  clear hown hb0 hb1 hgrow k1
  go_wp2_with fail
  go_loopw [14] (fun i wr => RowsRel rowOf n (w.heap.size + 1) w i wr ∧ Blk wr w.heap.size 38 #[.int .i64 R, .int .i64 C, .slice a m cap]) (fun i _ => n - (intOf i).toNat)
  case atStart => exact ⟨⟨0, [], Nat.zero_le _, rfl, rfl, by simpa [partL] using HO.out, (fun i r h => by simp at h), HB.out⟩, K1.out⟩
  case round =>
    obtain ⟨⟨k, rs, hk, rfl, hy, ho, hr, hbl⟩, k1⟩ := hrel
    have K1' := Lib.hid k1
    obtain ⟨p0, p1, p2, p3⟩ := tb k1
    have HY := Lib.hid hy
    have HO' := Lib.hid ho
    have HRS := Lib.hid hr
    have HL := Lib.hid hbl
    have hk0 : (0 : Int) ≤ (k : Int) := by omega
    clear hy ho hr hbl k1
    by_cases hlt : k < n
    · have hlt' : (k : Int) < (n : Int) := by omega
      go_wp2_with fail
      clear p0 p1 p2 p3
      refine (HG.out k _ hlt HL.out).mono ?_
      rintro e w2 ⟨b2, c2, rfl, hf, hb⟩
      have HQ := Lib.hid hf.isFloats
      have HBa := Lib.hid hb
      have HL2 := Lib.hid (HL.out.trans (hb.mono HL.out.size))
      clear hf hb
      go_wp2_with fail
      refine (HC.out k b2 c2 _ hlt HL2.out HQ.out).mono ?_
      rintro e w3 ⟨b3, c3, ys, rfl, hf, hm, hb⟩
      have HB2 := Lib.hid (HBa.out.trans (hb.mono HBa.out.size))
      have HRW := Lib.hid (show (LRow.mk b3 c3 ys).ok w3 (w.heap.size + 1 + 1) (rowOf k) from ⟨hf.base (by
        have h1 := HO'.out.lt (w.heap.size + 1) rfl
        have h2 := HBa.out.size
        omega), hm⟩)
      clear hf hm hb
      obtain ⟨hfz, v0, hv0⟩ := rows_cell hlt HO'.out HB2.out
      go_wp2_with fail
      go_roundw
      case rel =>
        have kk := K1'.out.below HB2.out
        exact ⟨rows_step (r := ⟨b3, c3, ys⟩) (Nat.le_succ _) HY.out hlt HO'.out HRS.out HL.out HB2.out HRW.out, kk.off (g' := w.heap.size + 1) ⟨rfl, rfl, rfl, by simp, fun k _ hk => Below.heap_setCell _ _ _ k (fun e => hk (by simp [e]))⟩ (by omega)⟩
      case measure => simp [intOf]; omega
    · obtain rfl : k = n := by omega
      go_wp2_with fail
      go_ret
      have ho := HO'.out
      have e : partL rs k = rs.map LRow.val := by rw [← HY.out]; exact partL_all rs
      rw [e] at ho
      exact ⟨w.heap.size + 1, rs, rfl, HY.out, ho, fun i r hr => ⟨(HRS.out i r hr).1.base (by omega), (HRS.out i r hr).2⟩, HL.out⟩
set_option maxRecDepth 20000 in
set_option maxHeartbeats 1000000 in
theorem c_lastStage (g : Option Addr) (c n : Nat) (y : List LayA) (xa : Option Addr) (xc : Nat) (z : List Nat) (w : World) (hv : vMod (y.map LayA.p) = true) (hg0 : goesIn (y.map LayA.p) z.length = true) (h : LaysAt w g n c y) (hx : IsFloats .f32 w xa z.length xc z) :
    Calls Try.prog 110 #[.agg #[.slice g n c], .slice xa z.length xc] w (RetLs (stageV (y.map LayA.p) z n) w) := by
  have h6 := mod_len hv
  rw [List.length_map, h.1] at h6
  obtain ⟨m, hm⟩ : ∃ m, n = m + 1 := ⟨n - 1, by omega⟩
  have kN : IntKind.i64.wrap ((n : Int) - 1) = (m : Int) := (IntWalk.i64_in _ (by omega)).trans (by omega)
  have k1 : (m : Int) < (n : Int) := by omega
  have k0 : (0 : Int) ≤ (m : Int) := by omega
  have kM : ((n : Int) - 1) = (m : Int) := by omega
  have m6 : (m : Int) ≤ 6 := by omega
  have bal := (Below.refl w.heap.size w).alloc (Nat.le_refl _) (.cells #[.slice g n c] 36)
  have B0 := Lib.hid bal
  have H0 := Lib.hid (h.kept bal)
  have HX := Lib.hid (hx.kept bal)
  have K0 := Lib.hid (Blk.new w 36 #[.slice g n c])
  have HV := Lib.hid hv
  have HG := Lib.hid hg0
  have HM := Lib.hid hm
  clear hv hg0 h hx h6 hm bal
  go_enter Try.func110, Try.ntmps110
  go_upto_region 1 with fail
  generalize w.alloc (.cells #[.slice g n c] 36) = w0 at B0 H0 HX K0 ⊢
  obtain ⟨p0, pl⟩ := tb1 K0.out
  go_wp2_with fail
  refine (c_stages g c n y xa xc z _ HV.out HG.out H0.out HX.out).mono ?_
  rintro e w2 ⟨gs, cp, ys, rfl, hyl, ho, hnd, hyz, hb⟩
  obtain ⟨b, off, zz, a4, c4, rfl, hbk, hxx, q0, hf⟩ := (ssAt_own ho).one (i := m) (by have := HM.out; omega)
  have HO := Lib.hid (show OwnF w2 w.heap.size a4 c4 zz from (show OwnF w2 w0.heap.size a4 c4 zz from ssC_own.1 (by simp only [OwnL, Cl.Own, and_true] at ho; exact ho.2) ⟨zz, a4, c4⟩ (List.mem_of_getElem? hxx)).base B0.out.size)
  have HZ := Lib.hid (show zz.map (canon .f32) = stageV (y.map LayA.p) z n by
    have e := congrArg (fun l => l[m]?) hyz
    have hmn := HM.out
    simp only [List.getElem?_map, hxx, Option.map_some, List.getElem?_range (show m < n by omega), Option.some.injEq] at e
    rw [e, hmn])
  have B2 := Lib.hid (Below.next B0.out hb)
  rw [hyl]
  clear ho hnd hyz hb hf hxx hyl p0 pl
  go_wp2_with fail
  go_ret
  exact ⟨a4, c4, zz, rfl, HO.out, HZ.out, B2.out⟩
set_option maxRecDepth 20000 in
set_option maxHeartbeats 1000000 in
theorem c_lastLayer (g : Option Addr) (c n : Nat) (y : List LayA) (w : World) (hv : vMod (y.map LayA.p) = true) (h : LaysAt w g n c y) :
    Calls Try.prog 111 #[.agg #[.slice g n c]] w fun e w' => ∃ (k i : Int) (a0 : Option Addr) (m0 c0 : Nat) (a1 : Option Addr) (m1 c1 : Nat), e = .returned (.agg #[.int .i64 k, .int .i64 i, .int .i64 (lastO (y.map LayA.p)), .slice a0 m0 c0, .slice a1 m1 c1]) ∧ Below w.heap.size w w' := by
  have h6 := mod_len hv
  rw [List.length_map, h.1] at h6
  obtain ⟨m, hm⟩ : ∃ m, n = m + 1 := ⟨n - 1, by omega⟩
  obtain ⟨b, off, k, ii, oo, ws, bs, a0, c0, a1, c1, rfl, hbk, hx, q0, q1, q2, q3, q4, f0, f1⟩ := h.one (show m < n by omega)
  have hx' := at_map hx
  have hlo : lastO (y.map LayA.p) = oo := by
    unfold lastO
    rw [List.length_map, h.1, show n - 1 = m by omega, hx']
  rw [hlo]
  have kN : IntKind.i64.wrap ((n : Int) - 1) = (m : Int) := (IntWalk.i64_in _ (by omega)).trans (by omega)
  have kM : ((n : Int) - 1) = (m : Int) := by omega
  have m6 : (m : Int) ≤ 6 := by omega
  have k1 : (m : Int) < (n : Int) := by omega
  have k0 : (0 : Int) ≤ (m : Int) := by omega
  have b1 := (Below.refl w.heap.size w).alloc (Nat.le_refl _) (.cells #[.slice (some ⟨b, off, none⟩) n c] 36)
  have kb := Blk.new w 36 #[.slice (some ⟨b, off, none⟩) n c]
  have hn := Blk.new (w.alloc (.cells #[.slice (some ⟨b, off, none⟩) n c] 36)) 132 #[.int .i64 0, .int .i64 0, .int .i64 0, .slice none 0 0, .slice none 0 0]
  simp only [World.size_alloc] at hn
  have b2 := (Below.refl (w.alloc (.cells #[.slice (some ⟨b, off, none⟩) n c] 36)).heap.size (w.alloc (.cells #[.slice (some ⟨b, off, none⟩) n c] 36))).alloc (Nat.le_refl _) (.cells #[.int .i64 0, .int .i64 0, .int .i64 0, .slice none 0 0, .slice none 0 0] 132)
  have B2 := Lib.hid (Below.next b1 b2)
  have KM := Lib.hid (kb.below b2)
  have KL := Lib.hid hn
  have HBK := Lib.hid hbk
  have Q0 := Lib.hid q0
  have Q1 := Lib.hid q1
  have Q2 := Lib.hid q2
  have Q3 := Lib.hid q3
  have Q4 := Lib.hid q4
  clear hv h h6 hm hx hx' hlo b1 kb hn b2 q0 q1 q2 q3 q4 f0 f1
  go_enter Try.func111, Try.ntmps111
  go_upto_region 1 with fail
  generalize (w.alloc (.cells #[.slice (some ⟨b, off, none⟩) n c] 36)).alloc (.cells #[.int .i64 0, .int .i64 0, .int .i64 0, .slice none 0 0, .slice none 0 0] 132) = w2 at B2 KM KL ⊢
  obtain ⟨p0, pl⟩ := tb1 KM.out
  have q0 := (B2.out.cell (p := ⟨b, off + m * 5, none⟩) HBK.out).trans Q0.out
  have q1 := (B2.out.cell (p := ⟨b, off + m * 5 + 1, none⟩) HBK.out).trans Q1.out
  have q2 := (B2.out.cell (p := ⟨b, off + m * 5 + 2, none⟩) HBK.out).trans Q2.out
  have q3 := (B2.out.cell (p := ⟨b, off + m * 5 + 3, none⟩) HBK.out).trans Q3.out
  have q4 := (B2.out.cell (p := ⟨b, off + m * 5 + 4, none⟩) HBK.out).trans Q4.out
  have l0 := KL.out.cell 0
  have l1 := KL.out.cell 1
  have l2 := KL.out.cell 2
  have l3 := KL.out.cell 3
  have l4 := KL.out.cell 4
  have g0 := KL.out.frozen 0
  have g1 := KL.out.frozen 1
  have g2 := KL.out.frozen 2
  have g3 := KL.out.frozen 3
  have g4 := KL.out.frozen 4
  have gl := KL.out.lt
  clear hbk
  go_wp2_with fail
  exact bodyPost_ret (v := .agg #[.int .i64 k, .int .i64 ii, .int .i64 oo, .slice a0 ws.length c0, .slice a1 bs.length c1]) (by simp [results, Try.results111, go_sem, l0, l1, l2, l3, l4]) rfl ⟨k, ii, _, _, _, _, _, _, rfl, ((((B2.out.setCell (by simp) _).setCell (by simp) _).setCell (by simp) _).setCell (by simp) _).setCell (by simp) _⟩
theorem run_boxes (w : World) (v t0 t1 t2 : Value) :
    Blk (((w.alloc (.cells #[v] 36)).alloc (.cells #[t0, t1, t2] 38)).alloc (.cells #[.int .i64 0, .int .i64 0, .slice none 0 0] 38)) w.heap.size 36 #[v] ∧
    Blk (((w.alloc (.cells #[v] 36)).alloc (.cells #[t0, t1, t2] 38)).alloc (.cells #[.int .i64 0, .int .i64 0, .slice none 0 0] 38)) (w.heap.size + 1) 38 #[t0, t1, t2] ∧
    Blk (((w.alloc (.cells #[v] 36)).alloc (.cells #[t0, t1, t2] 38)).alloc (.cells #[.int .i64 0, .int .i64 0, .slice none 0 0] 38)) (w.heap.size + 1 + 1) 38 #[.int .i64 0, .int .i64 0, .slice none 0 0] ∧
    Below w.heap.size w (((w.alloc (.cells #[v] 36)).alloc (.cells #[t0, t1, t2] 38)).alloc (.cells #[.int .i64 0, .int .i64 0, .slice none 0 0] 38)) := by
  obtain ⟨w1, hw1⟩ : ∃ w1, w.alloc (.cells #[v] 36) = w1 := ⟨_, rfl⟩
  have s1 : w1.heap.size = w.heap.size + 1 := by rw [← hw1]; simp
  have b1 : Below w.heap.size w w1 := by rw [← hw1]; exact (Below.refl _ _).alloc (Nat.le_refl _) _
  have k1 : Blk w1 w.heap.size 36 #[v] := by rw [← hw1]; exact Blk.new w _ _
  rw [hw1]
  obtain ⟨w2, hw2⟩ : ∃ w2, w1.alloc (.cells #[t0, t1, t2] 38) = w2 := ⟨_, rfl⟩
  have s2 : w2.heap.size = w.heap.size + 1 + 1 := by rw [← hw2, World.size_alloc, s1]
  have b2 : Below w1.heap.size w1 w2 := by rw [← hw2]; exact (Below.refl _ _).alloc (Nat.le_refl _) _
  have k2 : Blk w2 (w.heap.size + 1) 38 #[t0, t1, t2] := by rw [← hw2, ← s1]; exact Blk.new w1 _ _
  rw [hw2]
  have b3 := (Below.refl w2.heap.size w2).alloc (Nat.le_refl _) (.cells #[.int .i64 0, .int .i64 0, .slice none 0 0] 38)
  have k3 := Blk.new w2 38 #[.int .i64 0, .int .i64 0, .slice none 0 0]
  rw [s2] at k3
  exact ⟨(k1.below b2).below b3, k2.below b3, k3, Below.next (Below.next b1 b2) b3⟩
theorem run_fieldO (w : World) (k i o : Int) (a0 a1 : Option Addr) (m0 c0 m1 c1 : Nat) : (Instr.field 132 (.agg #[.int .i64 k, .int .i64 i, .int .i64 o, .slice a0 m0 c0, .slice a1 m1 c1]) 2).run Try.prog w = .ok (.int .i64 o) w := by kernel_rfl
set_option maxRecDepth 20000 in
set_option maxHeartbeats 2000000 in
theorem c_iRunA (ps : List LayP) (n : Nat) (g : Option Addr) (c : Nat) (y : List LayA) (r cc : Int) (z : List Nat) (a : Option Addr) (ca : Nat) (w : World) (hp : y.map LayA.p = ps) (h : LaysAt w g n c y) (hx : IsFloats .f32 w a z.length ca z) (hv : vokB r cc z.length = false) :
    Calls Try.prog 56 #[.agg #[.slice g n c], .agg #[.int .i64 r, .int .i64 cc, .slice a z.length ca]] w (RetT (vRunModel ps r cc z).1 (vRunModel ps r cc z).2.1 (vRunModel ps r cc z).2.2.1 (vRunModel ps r cc z).2.2.2 w) := by
  have hln : y.length = n := h.1
  have hlp : ps.length = n := by rw [← hp, List.length_map]; exact hln
  obtain ⟨k0, l0, q0, b0⟩ := run_boxes w (.slice g n c) (.int .i64 r) (.int .i64 cc) (.slice a z.length ca)
  have B0 := Lib.hid b0
  have H0 := Lib.hid (h.kept b0)
  have HX := Lib.hid (hx.kept b0)
  have K0 := Lib.hid k0
  have L0 := Lib.hid l0
  have Q0 := Lib.hid q0
  have HP := Lib.hid hp
  have HLP := Lib.hid hlp
  have HV := Lib.hid hv
  rw [vRun_no (by rw [hv]; simp)]
  clear b0 k0 l0 q0 h hx hp hv hln hlp
  go_enter Try.func56, Try.ntmps56
  go_upto_region 1 with fail
  generalize ((w.alloc (.cells #[.slice g n c] 36)).alloc (.cells #[.int .i64 r, .int .i64 cc, .slice a z.length ca] 38)).alloc (.cells #[.int .i64 0, .int .i64 0, .slice none 0 0] 38) = w3 at B0 H0 HX K0 L0 Q0 ⊢
  obtain ⟨p0, pl⟩ := tb1 K0.out
  obtain ⟨t0, t1, t2, tl⟩ := tb L0.out
  go_wp2_with (go_at_call 107; refine (c_iValid r cc a z.length ca false HV.out _).mono ?_; rintro e w4 ⟨rfl, bl⟩; have B4 := Lib.hid (Below.next B0.out bl); have Q4 := Lib.hid (Q0.out.below bl); clear bl p0 pl t0 t1 t2 tl; obtain ⟨s0, s1, s2, sl⟩ := tb Q4.out; obtain ⟨fq0, fq1, fq2⟩ := tbf Q4.out)
  exact bodyPost_ret (v := .tuple #[.agg #[.int .i64 0, .int .i64 0, .slice none 0 0], .bool false]) (by simp [results, Try.results56, go_sem, s0, s1, s2]) rfl ⟨none, 0, [], rfl, nil_own _ _, rfl, ((B4.out.setCell (by simp; omega) _).setCell (by simp; omega) _).setCell (by simp; omega) _⟩
set_option maxRecDepth 20000 in
set_option maxHeartbeats 2000000 in
theorem c_iRunB (ps : List LayP) (n : Nat) (g : Option Addr) (c : Nat) (y : List LayA) (R C : Nat) (z : List Nat) (a : Option Addr) (ca : Nat) (w : World) (hp : y.map LayA.p = ps) (h : LaysAt w g n c y) (hx : IsFloats .f32 w a z.length ca z) (r1 : 1 ≤ R) (r2 : R ≤ 16) (c1 : 1 ≤ C) (c2 : C ≤ 16) (hz : z.length = R * C) (hv : vokB R C z.length = true) (ht : (vMod ps && goesIn ps C) = false) :
    Calls Try.prog 56 #[.agg #[.slice g n c], .agg #[.int .i64 (R : Int), .int .i64 (C : Int), .slice a z.length ca]] w (RetT (vRunModel ps R C z).1 (vRunModel ps R C z).2.1 (vRunModel ps R C z).2.2.1 (vRunModel ps R C z).2.2.2 w) := by
  have hln : y.length = n := h.1
  have hlp : ps.length = n := by rw [← hp, List.length_map]; exact hln
  obtain ⟨k0, l0, q0, b0⟩ := run_boxes w (.slice g n c) (.int .i64 (R : Int)) (.int .i64 (C : Int)) (.slice a z.length ca)
  have B0 := Lib.hid b0
  have H0 := Lib.hid (h.kept b0)
  have HX := Lib.hid (hx.kept b0)
  have K0 := Lib.hid k0
  have L0 := Lib.hid l0
  have Q0 := Lib.hid q0
  have HP := Lib.hid hp
  have HLP := Lib.hid hlp
  have HV := Lib.hid hv
  have HZ := Lib.hid hz
  have HT := Lib.hid ht
  rw [vRun_no (by rw [hv, Bool.true_and]; exact ht)]
  clear b0 k0 l0 q0 h hx hp hv hln hlp ht hz
  go_enter Try.func56, Try.ntmps56
  go_upto_region 1 with fail
  generalize ((w.alloc (.cells #[.slice g n c] 36)).alloc (.cells #[.int .i64 (R : Int), .int .i64 (C : Int), .slice a z.length ca] 38)).alloc (.cells #[.int .i64 0, .int .i64 0, .slice none 0 0] 38) = w3 at B0 H0 HX K0 L0 Q0 ⊢
  obtain ⟨p0, pl⟩ := tb1 K0.out
  obtain ⟨t0, t1, t2, tl⟩ := tb L0.out
  go_wp2_with (first | (go_at_call 107; refine (c_iValid R C a z.length ca true HV.out _).mono ?_; rintro e w4 ⟨rfl, bl⟩; have B4 := Lib.hid (Below.next B0.out bl); have H4 := Lib.hid (H0.out.kept bl); have K4 := Lib.hid (K0.out.below bl); have L4 := Lib.hid (L0.out.below bl); have Q4 := Lib.hid (Q0.out.below bl); clear bl p0 pl t0 t1 t2 tl; obtain ⟨p0, pl⟩ := tb1 K4.out; obtain ⟨t0, t1, t2, tl⟩ := tb L4.out) | (go_at_call 108; have hc := c_takes g c n y C _ H4.out; rw [HP.out, HT.out] at hc; refine hc.mono ?_; clear hc; rintro e w5 ⟨rfl, bl⟩; have B5 := Lib.hid (Below.next B4.out bl); have Q5 := Lib.hid (Q4.out.below bl); clear bl p0 pl t0 t1 t2 tl; obtain ⟨s0, s1, s2, sl⟩ := tb Q5.out; obtain ⟨fq0, fq1, fq2⟩ := tbf Q5.out))
  exact bodyPost_ret (v := .tuple #[.agg #[.int .i64 0, .int .i64 0, .slice none 0 0], .bool false]) (by simp [results, Try.results56, go_sem, s0, s1, s2]) rfl ⟨none, 0, [], rfl, nil_own _ _, rfl, ((B5.out.setCell (by simp; omega) _).setCell (by simp; omega) _).setCell (by simp; omega) _⟩
set_option maxRecDepth 20000 in
set_option maxHeartbeats 2000000 in
theorem c_iRunC (ps : List LayP) (n : Nat) (g : Option Addr) (c : Nat) (y : List LayA) (R C : Nat) (z : List Nat) (a : Option Addr) (ca : Nat) (w : World) (hp : y.map LayA.p = ps) (h : LaysAt w g n c y) (hx : IsFloats .f32 w a z.length ca z) (r1 : 1 ≤ R) (r2 : R ≤ 16) (c1 : 1 ≤ C) (c2 : C ≤ 16) (hz : z.length = R * C) (hv : vokB R C z.length = true) (ht : (vMod ps && goesIn ps C) = true) :
    Calls Try.prog 56 #[.agg #[.slice g n c], .agg #[.int .i64 (R : Int), .int .i64 (C : Int), .slice a z.length ca]] w (RetT (vRunModel ps R C z).1 (vRunModel ps R C z).2.1 (vRunModel ps R C z).2.2.1 (vRunModel ps R C z).2.2.2 w) := by
  have hln : y.length = n := h.1
  have hlp : ps.length = n := by rw [← hp, List.length_map]; exact hln
  obtain ⟨k0, l0, q0, b0⟩ := run_boxes w (.slice g n c) (.int .i64 (R : Int)) (.int .i64 (C : Int)) (.slice a z.length ca)
  have B0 := Lib.hid b0
  have H0 := Lib.hid (h.kept b0)
  have HX := Lib.hid (hx.kept b0)
  have K0 := Lib.hid k0
  have L0 := Lib.hid l0
  have Q0 := Lib.hid q0
  have HP := Lib.hid hp
  have HLP := Lib.hid hlp
  have HV := Lib.hid hv
  have HZ := Lib.hid hz
  have ht2 := ht
  rw [Bool.and_eq_true] at ht2
  obtain ⟨p, O, hpl, hpo, o1, o2, hO⟩ := last_at ht2.1
  have HT := Lib.hid ht
  have HT1 := Lib.hid ht2.1
  have HROW := Lib.hid (fun i (hi : i < R) => show (rowAt z C i).length = C from rowAt_len hz hi)
  have HIN := Lib.hid (fun i (hi : i < R) => show goesIn ps (rowAt z C i).length = true by rw [rowAt_len hz hi]; exact ht2.2)
  have HOUT := Lib.hid (fun i (hi : i < R) => show (stageV ps (rowAt z C i) n).length = O by rw [← hlp]; exact outs_len ht2.1 (by rw [rowAt_len hz hi]; exact ht2.2) hO)
  have HRO := Lib.hid (show R * O ≤ 256 by have := Nat.mul_le_mul r2 o2; omega)
  rw [vRun_yes ht2.1 hv ht2.2, hlp, hO]
  dsimp only
  obtain ⟨vals, hvals⟩ : ∃ vals, ((List.range R).flatMap fun i => stageV ps (rowAt z C i) n) = vals := ⟨_, rfl⟩
  have HVAL := Lib.hid hvals
  rw [hvals]
  have HLO := Lib.hid hO
  clear b0 k0 l0 q0 h hx hp hv hln hlp ht ht2 hpl hpo hO hvals hz
  go_enter Try.func56, Try.ntmps56
  go_upto_region 1 with fail
  generalize ((w.alloc (.cells #[.slice g n c] 36)).alloc (.cells #[.int .i64 (R : Int), .int .i64 (C : Int), .slice a z.length ca] 38)).alloc (.cells #[.int .i64 0, .int .i64 0, .slice none 0 0] 38) = w3 at B0 H0 HX K0 L0 Q0 ⊢
  obtain ⟨p0, pl⟩ := tb1 K0.out
  obtain ⟨t0, t1, t2, tl⟩ := tb L0.out
  go_wp2_with (first | (go_at_call 107; refine (c_iValid R C a z.length ca true HV.out _).mono ?_; rintro e w4 ⟨rfl, bl⟩; have B4 := Lib.hid (Below.next B0.out bl); have H4 := Lib.hid (H0.out.kept bl); have X4 := Lib.hid (HX.out.kept bl); have K4 := Lib.hid (K0.out.below bl); have L4 := Lib.hid (L0.out.below bl); have Q4 := Lib.hid (Q0.out.below bl); clear bl p0 pl t0 t1 t2 tl; obtain ⟨p0, pl⟩ := tb1 K4.out; obtain ⟨t0, t1, t2, tl⟩ := tb L4.out) | (go_at_call 108; have hc := c_takes g c n y C _ H4.out; rw [HP.out, HT.out] at hc; refine hc.mono ?_; clear hc; rintro e w5 ⟨rfl, bl⟩; have B5 := Lib.hid (Below.next B4.out bl); have H5 := Lib.hid (H4.out.kept bl); have X5 := Lib.hid (X4.out.kept bl); have K5 := Lib.hid (K4.out.below bl); have L5 := Lib.hid (L4.out.below bl); have Q5 := Lib.hid (Q4.out.below bl); clear bl p0 pl t0 t1 t2 tl; obtain ⟨p0, pl⟩ := tb1 K5.out; obtain ⟨t0, t1, t2, tl⟩ := tb L5.out))
  refine (c_takeRowsM 59 110 (.agg #[.slice g n c]) (fun i => rowAt z C i) (fun i => stageV ps (rowAt z C i) n) R C a z.length ca R _ (by omega)
    (enters_of Try.func59 (by kernel_rfl) (by kernel_rfl)) (enters_of Try.func110 (by kernel_rfl) (by kernel_rfl))
    (fun i wr hi hb => c_iRow R C i a z.length ca z wr (X5.out.kept hb) r2 c1 c2 hi HZ.out (rowAt z C i) rfl)
    (fun i b2 c2 wr hi hb hf => by
      have e := c_lastStage g c n y b2 c2 (rowAt z C i) wr (by rw [HP.out]; exact HT1.out) (by rw [HP.out]; exact HIN.out i hi) (H5.out.kept hb) hf
      rw [HP.out] at e
      exact e)).mono ?_
  rintro e w6 ⟨gR, rs, rfl, hlen, ho, hok, bl⟩
  have HO := Lib.hid ho
  have HOK := Lib.hid hok
  have HLEN := Lib.hid hlen
  have B6 := Lib.hid (Below.next B5.out bl)
  have H6 := Lib.hid (H5.out.kept bl)
  have K6 := Lib.hid (K5.out.below bl)
  have L6 := Lib.hid (L5.out.below bl)
  have Q6 := Lib.hid (Q5.out.below bl)
  clear ho hok hlen bl p0 pl t0 t1 t2 tl
  obtain ⟨p0, pl⟩ := tb1 K6.out
  obtain ⟨t0, t1, t2, tl⟩ := tb L6.out
  go_wp2_with fail
  obtain ⟨gq, hgq⟩ : ∃ gq, w.heap.size + 1 + 1 = gq := ⟨_, rfl⟩
  obtain ⟨gt, hgt⟩ : ∃ gt, w.heap.size + 1 = gt := ⟨_, rfl⟩
  have n1 : w.heap.size ≠ gq := by omega
  have n2 : gt ≠ gq := by omega
  have n3 : gq ≠ w.heap.size := by omega
  have n4 : gq ≠ gt := by omega
  have n5 : w.heap.size ≠ gt := by omega
  have n6 : gt ≠ w.heap.size := by omega
  have NQ := Lib.hid (show w.heap.size ≤ gq by omega)
  rw [hgq] at Q6
  rw [hgt] at L6 t0 t1 t2 tl
  simp only [hgq]
  simp only [hgt]
  clear hgq hgt
  have CL := c_lastLayer g c n y w6.drew (by rw [HP.out]; exact HT1.out) (H6.out.kept ((Below.refl w6.heap.size w6).drew))
  rw [HP.out, HLO.out] at CL
  have HCL := Lib.hid CL
  have CC := fun W (hb : Below w6.heap.size w6 W) => c_concat gR R O w5.heap.size rs (fun i => stageV ps (rowAt z C i) n) W HLEN.out r1 o1 HRO.out HOUT.out (HO.out.kept (row := none) ⟨hb.os, hb.tape, hb.output, hb.size, fun j hj _ => hb.block j hj⟩ (.inr (by simp [Value.ownBlock]))) (HOK.out.kept hb)
  have HCC := Lib.hid CC
  clear CL CC t1 t2
  have hfd := run_fieldO
  go_region_held3 (fun w' => w'.cell? ⟨w.heap.size, 0, none⟩ = some (.slice g n c) ∧ w'.cell? ⟨gt, 0, none⟩ = some (.int .i64 (R : Int))) (go_keep)
    (first
      | (go_at_call 111
         refine HCL.out.mono ?_
         rintro e w7 ⟨kk, ii, u0, um, uc, u1, vm, vc, rfl, bl⟩
         have hb1 : Below w6.heap.size w6 w7 := ((Below.refl w6.heap.size w6).drew).trans bl
         have BB := Lib.hid hb1
         have B7 := Lib.hid (Below.next B6.out hb1)
         have K7 := Lib.hid (K6.out.below hb1)
         have L7 := Lib.hid (L6.out.below hb1)
         have Q7 := Lib.hid (Q6.out.below hb1)
         clear bl hb1 p0 pl t0 tl
         obtain ⟨p0, pl⟩ := tb1 K7.out
         have t0 := L7.out.cell 0)
      | (go_at_call 112
         refine (HCC.out _ BB.out).mono ?_
         rintro e w8 ⟨b, cc, ys, rfl, hf, hy, bl⟩
         have HW := Lib.hid (hf.base (B' := w.heap.size) B7.out.size)
         have HY := Lib.hid (hy.trans HVAL.out)
         have B8 := Lib.hid (Below.next B7.out bl)
         have K8 := Lib.hid (K7.out.below bl)
         have L8 := Lib.hid (L7.out.below bl)
         have Q8 := Lib.hid (Q7.out.below bl)
         clear hf hy bl p0 pl t0
         obtain ⟨p0, pl⟩ := tb1 K8.out
         have t0 := L8.out.cell 0
         obtain ⟨s0, s1, s2, sl⟩ := tb Q8.out
         obtain ⟨fq0, fq1, fq2⟩ := tbf Q8.out))
  go_wp2_with fail
  exact bodyPost_ret (v := .tuple #[.agg #[.int .i64 R, .int .i64 O, .slice b ys.length cc], .bool true]) (by simp [results, Try.results56, go_sem, s0, s1, s2]) rfl ⟨b, cc, ys, rfl, HW.out.off (store3 Q8.out).2 Q8.out (by decide), HY.out, ((B8.out.setCell NQ.out _).setCell NQ.out _).setCell NQ.out _⟩
theorem t_iRunModel (ps : List LayP) (n : Nat) (g : Option Addr) (c : Nat) (y : List LayA) (r cc : Int) (z : List Nat) (a : Option Addr) (ca : Nat) (w : World) (hp : y.map LayA.p = ps) (h : LaysAt w g n c y) (hx : IsFloats .f32 w a z.length ca z) :
    Calls Try.prog 56 #[.agg #[.slice g n c], .agg #[.int .i64 r, .int .i64 cc, .slice a z.length ca]] w (RetT (vRunModel ps r cc z).1 (vRunModel ps r cc z).2.1 (vRunModel ps r cc z).2.2.1 (vRunModel ps r cc z).2.2.2 w) := by
  cases hv : vokB r cc z.length with
  | false => exact c_iRunA ps n g c y r cc z a ca w hp h hx hv
  | true =>
    obtain ⟨R, C, rfl, rfl, r1, r2, c1, c2, hz⟩ := vok_nat hv
    cases ht : (vMod ps && goesIn ps C) with
    | false => exact c_iRunB ps n g c y R C z a ca w hp h hx r1 r2 c1 c2 hz hv ht
    | true => exact c_iRunC ps n g c y R C z a ca w hp h hx r1 r2 c1 c2 hz hv ht
end Go.Proofs.Ytpdgpoonblldgaa
