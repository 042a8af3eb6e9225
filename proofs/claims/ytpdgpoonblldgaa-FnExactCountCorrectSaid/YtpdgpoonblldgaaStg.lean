/-
  What each layer of a model makes: values; lists of lists that grow; the program's stages. Conditions: the numbers can be read.
-/
import Derived.Test.YtpdgpoonblldgaaRml
import Derived.Test.YtpdgpoonblldgaaVMod
import Derived.Test.YtpdgpoonblldgaaSSk
namespace Go.Proofs.Ytpdgpoonblldgaa
open Go.RowKit Go.Deep Go.WideShapes Go.ChangeShapes
set_option linter.unusedVariables false
set_option linter.unusedSimpArgs false

def stageV (ps : List LayP) (z : List Nat) : Nat → List Nat
  | 0 => z.map (canon .f32)
  | j + 1 => match ps[j]? with
    | some p => runV p.k p.i.toNat p.o.toNat p.ws p.bs (stageV ps z j)
    | none => stageV ps z j
theorem stageV_succ {ps : List LayP} {z : List Nat} {j : Nat} {p : LayP} (h : ps[j]? = some p) : stageV ps z (j + 1) = runV p.k p.i.toNat p.o.toNat p.ws p.bs (stageV ps z j) := by simp [stageV, h]
theorem stageV_can (ps : List LayP) (z : List Nat) : ∀ j, stageV ps (z.map (canon .f32)) j = stageV ps z j := by
  intro j
  induction j with
  | zero => exact canL z
  | succ j ih => simp only [stageV, ih]
theorem mod_test {ps : List LayP} (h : vMod ps = true) {j : Nat} (hj : j < ps.length) : testAt ps j = true := by
  cases ht : testAt ps j with
  | true => rfl
  | false => rw [vMod_no ht hj] at h; exact h
theorem mod_one {ps : List LayP} (h : vMod ps = true) {j : Nat} {p : LayP} (hx : ps[j]? = some p) : vOne p = true := by
  have ht := mod_test h (List.getElem?_eq_some_iff.1 hx).1
  cases hv : vOne p with
  | true => rfl
  | false => rw [testAt_no hx hv] at ht; exact ht
theorem mod_link {ps : List LayP} (h : vMod ps = true) {j : Nat} {p q : LayP} (hx : ps[j]? = some p) (hy : ps[j + 1]? = some q) : p.o = q.i := by
  have ht := mod_test h (List.getElem?_eq_some_iff.1 hy).1
  rw [testAt_succ hy hx, Bool.and_eq_true] at ht
  simpa using ht.2
theorem mod_len {ps : List LayP} (h : vMod ps = true) : 1 ≤ ps.length ∧ ps.length ≤ 6 := by
  simp only [vMod, Bool.and_eq_true, decide_eq_true_eq] at h
  exact h.1
theorem stage_len {ps : List LayP} {z : List Nat} {p0 : LayP} (h : vMod ps = true) (h0 : ps[0]? = some p0) (hz : (z.length : Int) = p0.i) : ∀ j p, ps[j]? = some p → ((stageV ps z j).length : Int) = p.i := by
  intro j
  induction j with
  | zero => intro p hp; rw [h0] at hp; cases hp; simpa [stageV] using hz
  | succ j ih =>
    intro p hp
    obtain ⟨q, hq⟩ : ∃ q, ps[j]? = some q := ⟨_, List.getElem?_eq_getElem (by have := (List.getElem?_eq_some_iff.1 hp).1; omega)⟩
    have hl := ih q hq
    rw [stageV_succ hq]
    obtain ⟨i', o', hi, ho, h1, h2, _⟩ := lay_nat (mod_one h hq)
    have hv := mod_one h hq
    unfold vOne at hv
    rw [hi, ho] at hv ⊢
    rw [show ((i' : Int)).toNat = i' from rfl, show ((o' : Int)).toNat = o' from rfl, runV_len hv (by omega), ← mod_link h hq hp, ho]
theorem stage_last {ps : List LayP} {z : List Nat} {p0 : LayP} (h : vMod ps = true) (h0 : ps[0]? = some p0) (hz : (z.length : Int) = p0.i) {j : Nat} {p : LayP} (hp : ps[j]? = some p) : ((stageV ps z (j + 1)).length : Int) = p.o := by
  have hl := stage_len h h0 hz j p hp
  rw [stageV_succ hp]
  obtain ⟨i', o', hi, ho, h1, h2, _⟩ := lay_nat (mod_one h hp)
  have hv := mod_one h hp
  unfold vOne at hv
  rw [hi, ho] at hv ⊢
  rw [show ((i' : Int)).toNat = i' from rfl, show ((o' : Int)).toNat = o' from rfl, runV_len hv (by omega)]
/-- the numbers go in -/
def goesIn (ps : List LayP) (n : Nat) : Bool := match ps[0]? with
  | some p => decide ((n : Int) = p.i)
  | none => false
def vStagesOf (ps : List LayP) (z : List Nat) : Bool × List (List Nat) := if (vMod ps && goesIn ps z.length) = true then (true, (List.range ps.length).map fun j => stageV ps z (j + 1)) else (false, [])
/-! a list of lists that grows -/
theorem ss_push {w wr w1 w' : World} {gs a' : Option Addr} {cp cp' : Nat} {ys : List FlA} {x : FlA} (ho : OwnL wr w.heap.size [.sl 25 1 ys.length gs cp (ssC ys)]) (hnd : (blL [.sl 25 1 ys.length gs cp (ssC ys)]).Nodup) (hl : Below w.heap.size w wr)
    (hb : Below wr.heap.size wr w1) (hm : OwnF w1 wr.heap.size x.a x.c x.z)
    (hown : w'.ownsRow w.heap.size 25 1 (.slice a' (ys.length + 1) cp') (ys.length + 1) (ys.map FlA.v ++ [x.v])) (hg : (w1.alloc (.cells #[x.v] 25)).grownBy w' (Value.ownBlock (.slice gs ys.length cp)))
    (hat : Value.ownBlock (.slice a' (ys.length + 1) cp') = Value.ownBlock (.slice gs ys.length cp) ∨ Value.ownBlock (.slice a' (ys.length + 1) cp') = some (w1.alloc (.cells #[x.v] 25)).heap.size) :
    OwnL w' w.heap.size [.sl 25 1 (ys ++ [x]).length a' cp' (ssC (ys ++ [x]))] ∧ (blL [.sl 25 1 (ys ++ [x]).length a' cp' (ssC (ys ++ [x]))]).Nodup ∧ Below w.heap.size w w' ∧ OwnF w' w.heap.size x.a x.c x.z := by
  rw [ownBlock_slice] at hg
  rw [ownBlock_slice, ownBlock_slice] at hat
  simp only [OwnL, Cl.Own, and_true] at ho
  simp only [blL, Cl.bl, List.append_nil] at hnd
  have hlt := ownsRow_lt ho.1
  have hlt2 := OwnL.lt _ ho.2
  have ba : Below w1.heap.size w1 (w1.alloc (.cells #[x.v] 25)) := (Below.refl _ _).alloc (Nat.le_refl _) _
  have bw := Below.next hb ba
  have hs1 := hb.size
  have hgi := GrownIn.of_grown hg
  have hnew := hm.lt
  have o2 : OwnL w' w.heap.size (ssC ys) := OwnL.apart hgi _ (OwnL.kept ho.2 bw) (fun q h1 h2 => (List.nodup_append.1 hnd).2.2 q h2 q h1 rfl)
  have m2 : OwnF w' w.heap.size x.a x.c x.z := by
    refine ((hm.kept ba).apart hg (fun q h1 h2 => ?_)).base hl.size
    have e := hlt q (by rw [h2]; simp)
    have e2 := hnew q h1
    omega
  refine ⟨?_, ?_, ?_, m2⟩
  · simp only [OwnL, Cl.Own, and_true, vs_ssC, List.map_append, List.length_append, List.length_singleton]
    refine ⟨by simpa [FlA.v] using hown, ?_⟩
    rw [ssC_own] at o2 ⊢
    intro y hy
    rcases List.mem_append.1 hy with h | h
    · exact o2 y h
    · simp only [List.mem_singleton] at h; subst h; exact m2
  · simp only [blL, Cl.bl, List.append_nil]
    rw [ssC_append, blL_append, blL_cl]
    simp only [ssC, List.map_nil, blL, List.append_nil]
    have hn2 := (List.nodup_append.1 hnd)
    refine List.nodup_append.2 ⟨by cases a' <;> simp [blk], List.nodup_append.2 ⟨hn2.2.1, by cases blk x.a <;> simp, ?_⟩, ?_⟩
    · intro u hu y hy' e
      subst e
      have h1 := (hlt2 u hu).2
      have h2 := hnew u (by cases hq : blk x.a <;> simp_all)
      omega
    · intro u hu y hy' e
      subst e
      have hx' : blk a' = some u := by cases h : blk a' <;> simp_all
      rcases hat with hat | hat
      · rw [hat] at hx'
        rcases List.mem_append.1 hy' with h | h
        · exact hn2.2.2 u (by rw [hx']; simp) u h rfl
        · have h2 := hnew u (by cases hq : blk x.a <;> simp_all)
          have := (hlt u (by rw [hx']; simp)).2
          omega
      · rw [hat, World.size_alloc] at hx'
        injection hx' with hx'
        rcases List.mem_append.1 hy' with h | h
        · have := (hlt2 u h).2
          omega
        · have h2 := hnew u (by cases hq : blk x.a <;> simp_all)
          omega
  · exact (hl.trans (bw.mono hl.size)).grown hg (Nat.le_trans hl.size bw.size) (fun q h => (hlt q (by rw [h]; simp)).1)
theorem ss_reads {w1 : World} {v : Value} : Reads (w1.alloc (.cells #[v] 25)) (w1.heap.size + 1) 1 (some ⟨w1.heap.size, 0, none⟩) 1 [v] := by
  refine ⟨rfl, fun _ => ⟨_, rfl, by simp, fun j u hu => ?_⟩⟩
  rw [add_plain]
  have := (Blk.new w1 25 #[v]).cell (0 + j)
  rw [this, Nat.zero_add]
  simpa using hu
theorem one_ss (a : Option Addr) (n c : Nat) : ∀ u ∈ [Value.slice a n c], u.oneCell' = true := by intro u hu; simp at hu; subst hu; rfl
theorem info_ssP : (Try.prog.info? 25).map (fun i => (i.zero, i.size, i.bytes)) = some (some (.slice none 0 0), 1, 24) := by kernel_rfl
theorem ss_row {w wr w1 : World} {gs : Option Addr} {cp : Nat} {ys : List FlA} (ho : OwnL wr w.heap.size [.sl 25 1 ys.length gs cp (ssC ys)]) (hb : Below wr.heap.size wr w1) (v : Value) :
    (w1.alloc (.cells #[v] 25)).ownsRow w.heap.size 25 1 (.slice gs ys.length cp) ys.length (ys.map FlA.v) := by
  have h := ho.1.1
  rw [vs_ssC] at h
  exact ownsRow_in h (GrownIn.of_below (Below.next hb ((Below.refl _ _).alloc (Nat.le_refl _) _)) []) (fun _ _ h => by cases h)
theorem ss_base {w wr w1 : World} (hl : Below w.heap.size w wr) (hb : Below wr.heap.size wr w1) (v : Value) : w.heap.size ≤ (w1.alloc (.cells #[v] 25)).heap.size := by
  rw [World.size_alloc]; have := hl.size; have := hb.size; omega
/-- j layers have run -/
def StgRel (ps : List LayP) (z : List Nat) (n : Nat) (w : World) (xv sv iv : Value) (wr : World) : Prop :=
  ∃ (j : Nat) (xa : Option Addr) (xc : Nat) (xz : List Nat) (gs : Option Addr) (cp : Nat) (ys : List FlA), j ≤ n ∧ iv = .int .i64 j ∧ xv = .slice xa xz.length xc ∧ IsFloats .f32 wr xa xz.length xc xz ∧ xz.map (canon .f32) = stageV ps z j ∧
    sv = .slice gs ys.length cp ∧ ys.length = j ∧ OwnL wr w.heap.size [.sl 25 1 ys.length gs cp (ssC ys)] ∧ (blL [.sl 25 1 ys.length gs cp (ssC ys)]).Nodup ∧ ys.map (fun x => x.z.map (canon .f32)) = (List.range j).map (fun i => stageV ps z (i + 1)) ∧ (∀ x, ys.getLast? = some x → x.z = xz) ∧ Below w.heap.size w wr
/-- all stages -/
def RetStg (ps : List LayP) (z : List Nat) (n : Nat) (w : World) (e : Ending) (w' : World) : Prop :=
  ∃ gs cp ys, e = .returned (.slice gs (List.length ys) cp) ∧ ys.length = n ∧ OwnL w' w.heap.size [.sl 25 1 ys.length gs cp (ssC ys)] ∧ (blL [.sl 25 1 ys.length gs cp (ssC ys)]).Nodup ∧ ys.map (fun x => x.z.map (canon .f32)) = (List.range n).map (fun i => stageV ps z (i + 1)) ∧ Below w.heap.size w w'
theorem ss_nil (w : World) (B : Nat) : OwnL w B [.sl 25 1 0 none 0 (ssC [])] ∧ (blL [.sl 25 1 0 none 0 (ssC [])]).Nodup := ⟨by simp [OwnL, Cl.Own, ssC, vs, World.ownsRow_nil], by simp [blL, Cl.bl, ssC, blk]⟩
set_option maxRecDepth 20000 in
set_option maxHeartbeats 4000000 in
theorem c_stages (g : Option Addr) (c n : Nat) (y : List LayA) (xa : Option Addr) (xc : Nat) (z : List Nat) (w : World) (hv : vMod (y.map LayA.p) = true) (hg0 : goesIn (y.map LayA.p) z.length = true) (h : LaysAt w g n c y) (hx : IsFloats .f32 w xa z.length xc z) :
    Calls Try.prog 150 #[.agg #[.slice g n c], .slice xa z.length xc] w (RetStg (y.map LayA.p) z n w) := by
  have hln : y.length = n := h.1
  have hm6 := mod_len hv
  rw [List.length_map, hln] at hm6
  obtain ⟨p0, hp0, hz0⟩ : ∃ p0, (y.map LayA.p)[0]? = some p0 ∧ (z.length : Int) = p0.i := by
    unfold goesIn at hg0
    cases hq : (y.map LayA.p)[0]? with
    | none => rw [hq] at hg0; cases hg0
    | some p => rw [hq] at hg0; exact ⟨p, rfl, by simpa using hg0⟩
  have HSL := Lib.hid (fun j p hp => stage_len hv hp0 hz0 j p hp)
  have HV := Lib.hid hv
  have bal := (Below.refl w.heap.size w).alloc (Nat.le_refl _) (.cells #[.slice g n c] 36)
  have B0 := Lib.hid bal
  have HW := Lib.hid h
  have HX := Lib.hid (hx.kept bal)
  have K0 := Lib.hid (Blk.new w 36 #[.slice g n c])
  have n6 : (n : Int) ≤ 6 := by omega
  obtain ⟨j0, ji, jz0, jz1, jz2⟩ := info_parts info_ssP
  have JI := Lib.hid ji
  have JZ0 := Lib.hid jz0
  have JZ1 := Lib.hid jz1
  have JZ2 := Lib.hid jz2
  obtain ⟨ps, hps⟩ : ∃ ps, y.map LayA.p = ps := ⟨_, rfl⟩
  have HPS := Lib.hid hps
  rw [hps] at HSL HV ⊢
  clear hv hg0 h hx hm6 hp0 hz0 bal ji jz0 jz1 jz2 hps hln
  go_enter Try.func150, Try.ntmps150
  go_upto_region 1 with fail
  generalize w.alloc (.cells #[.slice g n c] 36) = w0 at B0 HX K0 ⊢
  obtain ⟨q0, ql⟩ := tb1 K0.out
  go_wp2_with fail
  clear q0 ql
  go_loopw [1, 5, 11] (fun xv sv iv wr => StgRel ps z n w xv sv iv wr) (fun _ _ iv _ => n - (intOf iv).toNat)
  case atStart => exact ⟨0, xa, xc, z, none, 0, [], Nat.zero_le _, rfl, rfl, HX.out, rfl, rfl, rfl, (ss_nil w0 w.heap.size).1, (ss_nil w0 w.heap.size).2, rfl, (fun _ h => by cases h), B0.out⟩
  case round =>
    obtain ⟨j, xa, xc, xz, gs, cp, ys, hj, rfl, rfl, hxf, hxz, rfl, hyl, ho, hnd, hyz, hlast, hb⟩ := hrel
    have HXF := Lib.hid hxf
    have HXZ := Lib.hid hxz
    have HYL := Lib.hid hyl
    have HO := Lib.hid ho
    have HND := Lib.hid hnd
    have HYZ := Lib.hid hyz
    have HB := Lib.hid hb
    have hj0 : (0 : Int) ≤ (j : Int) := by omega
    have HLA := Lib.hid hlast
    clear hxf hxz hyl ho hnd hyz hb hlast
    by_cases hlt : j < n
    · have hlt' : (j : Int) < (n : Int) := by omega
      obtain ⟨b, off, k, ii, oo, ws, bs, a0, c0, a1, c1, rfl, hbk, hx, q0, q1, q2, q3, q4, f0, f1⟩ := (HW.out.kept HB.out).one hlt
      have hx' := at_map hx
      rw [HPS.out] at hx'
      have hone := mod_one HV.out hx'
      have hsl := HSL.out j _ hx'
      have HSV := Lib.hid (stageV_succ (z := z) hx')
      unfold vOne at hone
      dsimp only at hone hsl
      obtain ⟨i', o', hi, ho', h1, h2, _⟩ := lay_nat hone
      subst hi; subst ho'
      have bal := (Below.refl wr.heap.size wr).alloc (Nat.le_refl _) (.cells #[.int .i64 k, .int .i64 i', .int .i64 o', .slice a0 ws.length c0, .slice a1 bs.length c1] 132)
      have B1 := Lib.hid (Below.next HB.out bal)
      have F0 := Lib.hid (f0.kept bal)
      have F1 := Lib.hid (f1.kept bal)
      have HX1 := Lib.hid (HXF.out.kept bal)
      have K1 := Lib.hid (Blk.new wr 132 #[.int .i64 k, .int .i64 i', .int .i64 o', .slice a0 ws.length c0, .slice a1 bs.length c1])
      have BW := Lib.hid bal
      have HONE := Lib.hid hone
      have HXL := Lib.hid (show xz.length = i' by have e := congrArg List.length HXZ.out; rw [List.length_map] at e; omega)
      have A1 := Lib.hid (show ys.length + 1 ≤ maxLen by have := HYL.out; unfold maxLen; omega)
      have A2 := Lib.hid (show (ys.length + 1) * 24 ≤ 140737488355328 by have := HYL.out; omega)
      clear f0 f1 hx hx' hone hsl bal
      go_upto_region 5 with fail
      generalize wr.alloc (.cells #[.int .i64 k, .int .i64 i', .int .i64 o', .slice a0 ws.length c0, .slice a1 bs.length c1] 132) = w1 at B1 F0 F1 HX1 K1 BW ⊢
      clear q0 q1 q2 q3 q4
      obtain ⟨q0, q1, q2, q3, q4, ql⟩ := tb5 K1.out
      go_wp2_with fail
      refine (c_runnerOf k i' o' a0 a1 c0 c1 ws bs _ HONE.out F0.out F1.out).mono ?_
      rintro e w2 ⟨R, rfl, ⟨T, v, v', F, rfl, hm, hE, hc⟩, hb2⟩
      have B2 := Lib.hid (Below.next B1.out hb2)
      have BW2 := Lib.hid (Below.next BW.out hb2)
      have HX2 := Lib.hid (HX1.out.kept hb2)
      have HC := Lib.hid hc
      clear hc hb2 q0 q1 q2 q3 q4 ql
      go_wp2_with fail
      refine (HC.out xa xc xz _ (Below.refl _ _) HX2.out HXL.out).mono ?_
      rintro e w3 ⟨a4, c4, zs, rfl, ho4, he4, hb4⟩
      have B3 := Lib.hid (Below.next B2.out hb4)
      have BW3 := Lib.hid (Below.next BW2.out hb4)
      have O4 := Lib.hid (show OwnF w3 wr.heap.size a4 c4 zs from ho4.base BW2.out.size)
      have HE4 := Lib.hid (show zs.map (canon .f32) = stageV ps z (j + 1) by
        rw [he4, HSV.out, ← HXZ.out, runV_can]
        rfl)
      have HRA := Lib.hid (ss_row HO.out BW3.out (.slice a4 zs.length c4))
      have A3 := Lib.hid (ss_base HB.out BW3.out (.slice a4 zs.length c4))
      clear ho4 he4 hb4 hm hE
      go_wp2_with (at_builtin; refine wpList_append_any _ rfl (.tmp 19) (.tmp 21) 51 rfl w.heap.size 25 j0 (.slice none 0 0) 1 24 Try.underlying51 JI.out JZ0.out JZ1.out JZ2.out rfl Nat.one_pos (.slice gs ys.length cp) ys.length (ys.map FlA.v) rfl HRA.out (w3.heap.size + 1) (some ⟨w3.heap.size, 0, none⟩) 1 1 [.slice a4 zs.length c4] rfl ss_reads (one_ss _ _ _) A1.out A2.out A3.out ?_; intro v' w' hown hgr hat; obtain ⟨a', c', rfl⟩ := ownsRow_slice hown; have HMD := Lib.hid (ss_push (x := ⟨zs, a4, c4⟩) HO.out HND.out HB.out BW3.out O4.out hown hgr hat); clear hown hgr hat)
      go_roundw
      case rel =>
        obtain ⟨m1, m2, m3, m4⟩ := HMD.out
        refine ⟨j + 1, a4, c4, zs, a', c', ys ++ [⟨zs, a4, c4⟩], hlt, by go_num, rfl, m4.isFloats, HE4.out, by simp, by simp [HYL.out], m1, m2, ?_, ?_, m3⟩
        · rw [List.map_append, HYZ.out, List.range_succ, List.map_append]
          simp [HE4.out]
        · intro x hx
          simp at hx
          subst hx
          rfl
      case measure => simp [intOf]; omega
    · obtain rfl : j = n := by omega
      go_wp2_with fail
      go_ret
      exact ⟨gs, cp, ys, rfl, HYL.out, HO.out, HND.out, HYZ.out, HB.out⟩
end Go.Proofs.Ytpdgpoonblldgaa
