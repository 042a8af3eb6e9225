/-
  WithParams: the values and both sides. Conditions: the cells can be read.
-/
import Derived.Test.YtaipegkkpkagnaaWith
import Derived.Test.YtaipegkkpkagnaaTPar
import Derived.Deep.RegionHeld3
namespace Go.Proofs.Ytaipegkkpkagnaa
open Go.RowKit
set_option linter.unusedVariables false

theorem laySum_withP_le (ps : List LayP) (zs : List Nat) : laySum (withP ps zs) ≤ laySum ps := by
  induction ps generalizing zs with
  | nil => exact Nat.le_refl _
  | cons p ps ih =>
    have h := ih (zs.drop (p.ws.length + p.bs.length))
    simp only [withP, laySum, List.map_cons, List.sum_cons, LayP.n, List.length_take, List.length_drop] at h ⊢
    omega
theorem laySum_canP (ps : List LayP) : laySum (ps.map LayP.can) = laySum ps := by
  unfold laySum
  rw [List.map_map]
  congr 1
  refine List.map_congr_left fun x _ => ?_
  simp [LayP.n, LayP.can]
def okWith (ps : List LayP) (zs : List Nat) : Bool := vMod ps && decide (zs.length = (parOf ps).length)
def vWithParams (ps : List LayP) (zs : List Nat) : Bool × List LayP := if okWith ps zs = true then (true, (withP ps zs).map LayP.can) else (false, [])
theorem vWithParams_len (ps : List LayP) (zs : List Nat) : 3 * (vWithParams ps zs).2.length + laySum (vWithParams ps zs).2 ≤ 1048576 := by
  unfold vWithParams
  split
  · rename_i h
    simp only [okWith, Bool.and_eq_true] at h
    have h1 := vMod_parts h.1
    have h2 := laySum_withP_le ps zs
    have h3 := laySum_canP (withP ps zs)
    have h4 := withP_length ps zs
    simp only [List.length_map]
    omega
  · simp [laySum]
theorem retM_no {w w' : World} (h : Below w.heap.size w w') : RetM false [] w (.returned (.tuple #[.agg #[.slice none 0 0], .bool false])) w' :=
  ⟨none, 0, [], rfl, by simp [OwnL, Cl.Own, laysC, vs, World.ownsRow_nil], by simp [blL, Cl.bl, laysC, blk], rfl, h⟩

open Go.RowKit Go.Deep Go.WideShapes Go.ChangeShapes

/-- layers that came in, as cells that may be read -/
theorem LaysAt.reads {w : World} {g : Option Addr} {n cap : Nat} {ls : List LayA} (h : LaysAt w g n cap ls) : Reads w w.heap.size 5 g n (vs (laysC ls)) := by
  obtain ⟨hl, h1, h2, h3, h4⟩ := h
  refine ⟨by rw [vs_length, laysC_length, hl], fun hn => ?_⟩
  rcases h4 with h4 | ⟨b, off, rfl, hb, hc⟩
  · omega
  · refine ⟨_, rfl, hb, fun j u hu => ?_⟩
    have hj : j < n * 5 := by
      have := (List.getElem?_eq_some_iff.1 hu).1
      rw [vs_length, laysC_length, hl] at this
      exact this
    rw [add_plain, hc j hj]
    exact hu
theorem ones_lays (ls : List LayA) : ∀ u ∈ vs (laysC ls), u.oneCell' = true := by
  intro u hu
  simp only [vs, laysC, List.mem_map, List.mem_flatMap] at hu
  obtain ⟨c, ⟨x, hx, hc⟩, rfl⟩ := hu
  have : c.v ∈ vs x.cs := List.mem_map.2 ⟨c, hc, rfl⟩
  rw [LayA.vs_cs] at this
  exact ones5 _ _ _ _ _ _ (by simpa [LayA.cells] using this)
theorem row_form {w : World} {B : Nat} {e : TypeId} {size n cs : Nat} {gs : Option Addr} {xs : List Value} (h : w.ownsRow B e size (.slice gs n cs) n xs) (hn : 0 < n) : ∃ g, gs = some ⟨g, 0, none⟩ := by
  rcases h.2 with ⟨_, h0⟩ | ⟨g, cap, cur, h1, _⟩
  · omega
  · simp only [Value.slice.injEq] at h1
    exact ⟨g, h1.1⟩
theorem row_mono {w : World} {B B' : Nat} {e : TypeId} {size n : Nat} {v : Value} {xs : List Value} (h : w.ownsRow B e size v n xs) (hb : B' ≤ B) : w.ownsRow B' e size v n xs :=
  ⟨h.1, h.2.imp_right fun ⟨g, cap, cur, he, hg, r⟩ => ⟨g, cap, cur, he, Nat.le_trans hb hg, r⟩⟩
/-- two cells of one layer of a row are set -/
theorem row_set2 (ys rest : List LayA) (x : LayA) (v3 v4 : Value) (j : Nat) (hj : ys.length = j) :
    ((vs (laysC (ys ++ x :: rest))).set (j * 5 + 3) v3).set (j * 5 + 4) v4 = vs (laysC ys) ++ ([.int .i64 x.p.k, .int .i64 x.p.i, .int .i64 x.p.o, v3, v4] ++ vs (laysC rest)) := by
  have hl : (vs (laysC ys)).length = j * 5 := by rw [vs_length, laysC_length, hj]
  rw [laysC_append, laysC_cons, vs_append, vs_append, LayA.vs_cs]
  rw [List.set_append_right _ _ (by omega), List.set_append_right _ _ (by omega), hl]
  simp [LayA.cells]
/-- the world behind the next part -/
theorem with_part {w wb x : World} {gd n cs gx base d0 : Nat} {b0 : Option Addr} {l0 : List Nat} {t t2 t5 : TypeId} {v v2 u : Value} {c5 : Array Value} {xs : List Value} {l : List Cl}
    (hf : OwnF x base b0 d0 l0) (bx : Below wb.heap.size wb x) (hbase : w.heap.size + 1 < base) (kl : Blk wb (w.heap.size + 1) t #[v]) (kr : Blk wb (w.heap.size + 2) t2 #[v2]) (kx : Blk wb gx t5 c5) (hgx : w.heap.size + 1 < gx)
    (ho : wb.ownsRow (w.heap.size + 3) 113 5 (.slice (some ⟨gd, 0, none⟩) n cs) n xs) (hgd : w.heap.size + 3 ≤ gd) (how : OwnL wb (gd + 1) l) (hb : Below w.heap.size w wb) :
    Blk (x.setCell ⟨w.heap.size + 1, 0, none⟩ u) (w.heap.size + 1) t #[u] ∧ Blk (x.setCell ⟨w.heap.size + 1, 0, none⟩ u) (w.heap.size + 2) t2 #[v2] ∧ Blk (x.setCell ⟨w.heap.size + 1, 0, none⟩ u) gx t5 c5 ∧
    (x.setCell ⟨w.heap.size + 1, 0, none⟩ u).ownsRow (w.heap.size + 3) 113 5 (.slice (some ⟨gd, 0, none⟩) n cs) n xs ∧ OwnL (x.setCell ⟨w.heap.size + 1, 0, none⟩ u) (gd + 1) l ∧ Below w.heap.size w (x.setCell ⟨w.heap.size + 1, 0, none⟩ u) ∧ OwnF (x.setCell ⟨w.heap.size + 1, 0, none⟩ u) base b0 d0 l0 := by
  have hg : GrownIn x (x.setCell ⟨w.heap.size + 1, 0, none⟩ u) [w.heap.size + 1] := (GrownIn.refl x [w.heap.size + 1]).setCell (p := ⟨w.heap.size + 1, 0, none⟩) (by simp) _
  have hk := Joins.block_setCell (i := 0) (kl.below bx) u
  refine ⟨by simpa [Blk] using hk, (kr.below bx).inn hg (by simp), (kx.below bx).inn hg (by simp; omega), ownsRow_in (row_kept ho bx) hg (fun g h => by simp [blk] at h; simp; omega), (OwnL.kept how bx).far (p := ⟨w.heap.size + 1, 0, none⟩) (by simp; omega) u, (Below.next hb bx).setCell (p := ⟨w.heap.size + 1, 0, none⟩) (by simp) u, hf.far (p := ⟨w.heap.size + 1, 0, none⟩) hbase u⟩
/-- the world behind a store into the row -/
theorem with_set {w x : World} {gd n cs gx base d0 q : Nat} {b0 : Option Addr} {l0 : List Nat} {t t2 t5 : TypeId} {v v2 u : Value} {c5 : Array Value} {xs : List Value} {l : List Cl}
    (hf : OwnF x base b0 d0 l0) (hbase : gd < base) (kl : Blk x (w.heap.size + 1) t #[v]) (kr : Blk x (w.heap.size + 2) t2 #[v2]) (kx : Blk x gx t5 c5) (hgx : gd < gx)
    (ho : x.ownsRow (w.heap.size + 3) 113 5 (.slice (some ⟨gd, 0, none⟩) n cs) n xs) (hgd : w.heap.size + 3 ≤ gd) (how : OwnL x (gd + 1) l) (hb : Below w.heap.size w x) :
    Blk (x.setCell ⟨gd, q, none⟩ u) (w.heap.size + 1) t #[v] ∧ Blk (x.setCell ⟨gd, q, none⟩ u) (w.heap.size + 2) t2 #[v2] ∧ Blk (x.setCell ⟨gd, q, none⟩ u) gx t5 c5 ∧
    (x.setCell ⟨gd, q, none⟩ u).ownsRow (w.heap.size + 3) 113 5 (.slice (some ⟨gd, 0, none⟩) n cs) n (xs.set q u) ∧ OwnL (x.setCell ⟨gd, q, none⟩ u) (gd + 1) l ∧ Below w.heap.size w (x.setCell ⟨gd, q, none⟩ u) ∧ OwnF (x.setCell ⟨gd, q, none⟩ u) base b0 d0 l0 := by
  have hg : GrownIn x (x.setCell ⟨gd, q, none⟩ u) [gd] := (GrownIn.refl x [gd]).setCell (p := ⟨gd, q, none⟩) (by simp) _
  exact ⟨kl.inn hg (by simp; omega), kr.inn hg (by simp; omega), kx.inn hg (by simp; omega), (ho.stored q u).1, how.far (p := ⟨gd, q, none⟩) (by simp) u, hb.setCell (p := ⟨gd, q, none⟩) (by simp; omega) u, hf.far (p := ⟨gd, q, none⟩) hbase u⟩
/-- the cells of the program's loop -/
def WRel (y : List LayA) (z : List Nat) (n gd cp : Nat) (w : World) (iv : Value) (wr : World) : Prop :=
  ∃ (j : Nat) (a' : Option Addr) (c' : Nat) (ys : List LayA), j ≤ n ∧ iv = .int .i64 j ∧ ys.length = j ∧ ys.map LayA.p = withP ((y.take j).map LayA.p) z ∧ wr.ownsRow (w.heap.size + 3) 113 5 (.slice (some ⟨gd, 0, none⟩) n cp) n (vs (laysC (ys ++ y.drop j))) ∧ OwnL wr (gd + 1) (laysC ys) ∧ (blL (laysC ys)).Nodup ∧
    Blk wr (w.heap.size + 1) 25 #[.slice a' (z.length - laySum ((y.take j).map LayA.p)) c'] ∧ IsFloats .f32 w a' (z.length - laySum ((y.take j).map LayA.p)) c' (z.drop (laySum ((y.take j).map LayA.p))) ∧ Blk wr (w.heap.size + 2) 46 #[.slice none 0 0] ∧ Below w.heap.size w wr
set_option maxRecDepth 20000 in
theorem c_cloneLays (g : Option Addr) (cap n : Nat) (ls : List LayA) (w : World) (h : LaysAt w g n cap ls) (h1 : 1 ≤ n) (h6 : n ≤ 6) :
    Calls Try.prog 215 #[.slice g n cap] w fun e w' => ∃ b c, e = .returned (.slice b n c) ∧ w'.ownsRow w.heap.size 113 5 (.slice b n c) n (vs (laysC ls)) ∧ Below w.heap.size w w' := by
  obtain ⟨i0, hi, hz0, hz1, hz2⟩ := info_parts info_lay
  have HI := Lib.hid hi
  have HZ0 := Lib.hid hz0
  have HZ1 := Lib.hid hz1
  have HZ2 := Lib.hid hz2
  have H := Lib.hid h
  obtain ⟨b, off, rfl, hb⟩ : ∃ b off, g = some ⟨b, off, none⟩ ∧ b < w.heap.size := by
    rcases h.2.2.2.2 with h0 | ⟨b, off, rfl, hb, _⟩
    · omega
    · exact ⟨b, off, rfl, hb⟩
  have hrun : (binOp BinOp.eql 44 (.slice (some ⟨b, off, none⟩) n cap) (.slice none 0 0)).run Try.prog w = .ok (.bool false) w := by
    have he : (Op.equalIn 10000 44 (.slice (some ⟨b, off, none⟩) n cap) (.slice none 0 0)).run Try.prog w = .ok false w := by
      rw [show (10000 : Nat) = 9999 + 1 from rfl, Op.equalIn]
      simp only [Sem.run_bind, run_underlying Try.underlying44, Result.andThen_ok]
      rfl
    simp only [binOp, Op.equal, Op.maxDepth, Sem.run_bind, he, Result.andThen_ok]
    rfl
  clear h hi hz0 hz1 hz2
  go_enter Try.func215, Try.ntmps215
  go_wp2_with (at_builtin; refine wpList_append_any _ rfl (.tmp 5) (.tmp 6) 44 rfl w.heap.size 113 i0 _ 5 72 Try.underlying44 HI.out HZ0.out HZ1.out HZ2.out rfl (by omega) (.slice (some ⟨w.heap.size, 0, none⟩) 0 0) 0 [] rfl (World.ownsRow_made w #[] 0 (Nat.le_refl _) (by decide) rfl) _ _ n cap _ rfl ((H.out.kept ((Below.refl _ _).alloc (Nat.le_refl _) _)).reads) (ones_lays _) (by simp only [maxLen]; omega) (by omega) (by simp) ?_; intro v1 w1 hown1 hg1 hat1; simp only [Nat.zero_add, List.nil_append] at hown1; have HO := Lib.hid hown1; have HG := Lib.hid hg1; clear hown1 hg1 hat1)
  go_ret
  obtain ⟨b, c, rfl⟩ := ownsRow_slice HO.out
  refine ⟨b, c, rfl, HO.out, ((Below.refl _ _).alloc (Nat.le_refl _) _).grown HG.out (by simp) (fun k hk => ?_)⟩
  simp [Value.ownBlock] at hk
  omega

set_option maxRecDepth 20000 in
theorem c_part (gb : Nat) (len m c : Nat) (a : Option Addr) (zs : List Nat) (w : World) (hq : Blk w gb 25 #[.slice a m c]) (hz : IsFloats .f32 w a m c zs) (hl : len ≤ m) (hm : m ≤ 1048576) :
    Calls Try.prog 214 #[.int .i64 len, .pointer (some ⟨gb, 0, none⟩)] w fun e w' => ∃ b cp w2, e = .returned (.slice b len cp) ∧ OwnF w2 w.heap.size b cp (zs.take len) ∧ Below w.heap.size w w2 ∧ w' = w2.setCell ⟨gb, 0, none⟩ (.slice (if c = len then a else a.map (·.add len)) (m - len) (c - len)) := by
  have hmc := hz.1
  have hcm : c ≤ 9223372036854775807 := by have h2 := hz.2.1; unfold maxLen at h2; omega
  have HZ := Lib.hid hz
  have HQ := Lib.hid hq
  obtain ⟨p0, pl⟩ := tb1 hq
  clear hz hq
  go_enter Try.func214, Try.ntmps214
  go_wp2_with fail
  clear p0 pl
  refine (c_copyOf a len c (zs.take len) w ?_ (by omega)).mono ?_
  · have hp := part_at HZ.out 0 len (by omega)
    rw [List.drop_zero, Nat.sub_zero] at hp
    by_cases hc : c = 0
    · subst hc
      rw [if_pos rfl] at hp
      exact hp
    · rw [if_neg hc] at hp
      cases a with
      | none => exact hp
      | some ad =>
        have e0 : ad.add 0 = ad := by cases ad; simp [Addr.add]
        simpa [e0] using hp
  rintro e w2 ⟨b, cp, rfl, ho, hb⟩
  have hl2 : (zs.take len).length = len := by rw [List.length_take, HZ.out.2.2.1]; omega
  rw [hl2]
  have HO := Lib.hid ho
  have HB := Lib.hid hb
  have K2 := Lib.hid (HQ.out.below hb)
  clear ho hb hl2
  obtain ⟨p0, pl⟩ := tb1 K2.out
  have f0 := K2.out.frozen 0
  by_cases hc : c = len
  · subst hc
    obtain rfl : m = c := by omega
    go_wp2_with fail
    go_ret
    exact ⟨b, cp, rfl, w2, HO.out, HB.out, rfl⟩
  · go_wp2_with fail
    go_ret
    exact ⟨b, cp, rfl, w2, HO.out, HB.out, rfl⟩

open Go.RowKit Go.Deep Go.WideShapes Go.ChangeShapes Go.Sort
set_option maxRecDepth 20000 in
set_option maxHeartbeats 4000000 in
theorem t_iWithParams (ps : List LayP) (n : Nat) (g : Option Addr) (c : Nat) (y : List LayA) (z : List Nat) (a : Option Addr) (cz : Nat) (w : World) (hp : y.map LayA.p = ps) (h : LaysAt w g n c y) (hz : IsFloats .f32 w a z.length cz z) :
    Calls Try.prog 206 #[.agg #[.slice g n c], .slice a z.length cz] w (RetM (vWithParams ps z).1 (vWithParams ps z).2 w) := by
  subst hp
  have H := Lib.hid h
  have HZ := Lib.hid hz
  have hn : n = (y.map LayA.p).length := by simpa using h.1.symm
  have b0 := Lib.hid ((((Below.refl w.heap.size w).alloc (Nat.le_refl _) (.cells #[.slice g n c] 46)).alloc (by simp) (.cells #[.slice a z.length cz] 25)).alloc (by simp; omega) (.cells #[.slice none 0 0] 46))
  have k0 : Blk (((w.alloc (.cells #[.slice g n c] 46)).alloc (.cells #[.slice a z.length cz] 25)).alloc (.cells #[.slice none 0 0] 46)) w.heap.size 46 #[.slice g n c] := ((Blk.new w 46 #[.slice g n c]).below ((Below.refl (w.alloc (.cells #[.slice g n c] 46)).heap.size _).alloc (Nat.le_refl _) (.cells #[.slice a z.length cz] 25))).below ((Below.refl ((w.alloc (.cells #[.slice g n c] 46)).alloc (.cells #[.slice a z.length cz] 25)).heap.size _).alloc (Nat.le_refl _) (.cells #[.slice none 0 0] 46))
  have k1 : Blk (((w.alloc (.cells #[.slice g n c] 46)).alloc (.cells #[.slice a z.length cz] 25)).alloc (.cells #[.slice none 0 0] 46)) (w.heap.size + 1) 25 #[.slice a z.length cz] := by
    have e := (Blk.new (w.alloc (.cells #[.slice g n c] 46)) 25 #[.slice a z.length cz]).below ((Below.refl ((w.alloc (.cells #[.slice g n c] 46)).alloc (.cells #[.slice a z.length cz] 25)).heap.size _).alloc (Nat.le_refl _) (.cells #[.slice none 0 0] 46))
    simpa using e
  have k2 : Blk (((w.alloc (.cells #[.slice g n c] 46)).alloc (.cells #[.slice a z.length cz] 25)).alloc (.cells #[.slice none 0 0] 46)) (w.heap.size + 2) 46 #[.slice none 0 0] := by
    have e := Blk.new ((w.alloc (.cells #[.slice g n c] 46)).alloc (.cells #[.slice a z.length cz] 25)) 46 #[.slice none 0 0]
    simpa [Nat.add_assoc] using e
  have K0 := Lib.hid k0
  have K1 := Lib.hid k1
  have K2 := Lib.hid k2
  clear k0 k1 k2
  cases hv : vMod (y.map LayA.p) with
  | false =>
    have HV := Lib.hid hv
    rw [show vWithParams (y.map LayA.p) z = (false, []) by simp [vWithParams, okWith, hv]]
    clear h hz hv hn
    go_enter Try.func206, Try.ntmps206
    go_wp2_with fail
    have wa0 := K0.out
    have hba := b0.out
    have HK2 := Lib.hid K2.out
    generalize (((w.alloc (.cells #[.slice g n c] 46)).alloc (.cells #[.slice a z.length cz] 25)).alloc (.cells #[.slice none 0 0] 46)) = wa at wa0 hba HK2 ⊢
    have HBA := Lib.hid hba
    obtain ⟨p0, pl⟩ := tb1 wa0
    have e5 := cell_regrown p0
    have HM := Lib.hid (H.out.kept hba)
    clear wa0 hba p0 pl
    refine wp_region_quiet_below (by kernel_rfl) (by kernel_rfl) ?_
    repeat (go_big_quiet_step ((go_at_call 89; exact Calls.regrown_of (c_iValidModel g c n y false HV.out _ (HM.out.kept (below_regrown wa _ _))))))
    refine wpQuiet_nil ?_
    intro _ hw'
    obtain ⟨⟨dq, osq⟩, hw''⟩ := hw'
    subst hw''
    have hb2 := below_regrown wa dq osq
    have HB2 := Lib.hid (HBA.out.trans (hb2.mono HBA.out.size))
    have KM2 := Lib.hid (HK2.out.below hb2)
    clear e5
    generalize grow (redrawn wa dq) osq = w2 at hb2 HB2 KM2 ⊢
    clear hb2
    obtain ⟨s0, sl⟩ := tb1 KM2.out
    have f0 := KM2.out.frozen 0
    go_wp2_with fail
    refine bodyPost_ret (v := .tuple #[.agg #[.slice none 0 0], .bool false]) (by simp [results, Try.results206, go_sem, s0]; try rfl) rfl ?_
    exact retM_no (HB2.out.setCell (p := ⟨w.heap.size + 2, 0, none⟩) (by simp) _)
  | true =>
    have HV := Lib.hid hv
    have HP := Lib.hid (vMod_parts hv)
    have h6 : n ≤ 6 := by have := HP.out; omega
    have H6 := Lib.hid h6
    have H1 := Lib.hid (show 1 ≤ n by have := HP.out; omega)
    have hm : (parOf (y.map LayA.p)).length ≤ 432 := by rw [parOf_length]; exact HP.out.2.2
    have HM := Lib.hid hm
    have hzl : z.length ≤ 9223372036854775807 := by have h1 := hz.1; have h2 := hz.2.1; unfold maxLen at h2; omega
    obtain ⟨M, hM⟩ : ∃ M, (parOf (y.map LayA.p)).length = M := ⟨_, rfl⟩
    cases hl : decide (z.length = M) with
    | false =>
      rw [show vWithParams (y.map LayA.p) z = (false, []) by simp only [vWithParams, okWith, hv, hM, hl]; rfl]
      have hl' : ¬ ((z.length : Nat) : Int) = ((M : Nat) : Int) := fun e => of_decide_eq_false hl (by omega)
      have HM2 := Lib.hid hM
      rw [hM] at hm
      clear h hz hv hn h6 hl hM
      go_enter Try.func206, Try.ntmps206
      go_wp2_with fail
      have wa0 := K0.out
      have wa1 := K1.out
      have hba := b0.out
      have HK2 := Lib.hid K2.out
      generalize (((w.alloc (.cells #[.slice g n c] 46)).alloc (.cells #[.slice a z.length cz] 25)).alloc (.cells #[.slice none 0 0] 46)) = wa at wa0 wa1 hba HK2 ⊢
      have HBA := Lib.hid hba
      have HL := Lib.hid (H.out.kept hba)
      have W0 := Lib.hid wa0
      have W1 := Lib.hid wa1
      obtain ⟨p0, pl⟩ := tb1 wa0
      obtain ⟨q0, ql⟩ := tb1 wa1
      clear wa0 wa1 hba
      go_region_held3 (fun w' => w'.cell? ⟨w.heap.size, 0, none⟩ = some (.slice g n c) ∧ w'.cell? ⟨w.heap.size + 1, 0, none⟩ = some (.slice a z.length cz)) (go_keep)
        (first
          | (go_at_call 89
             refine (c_iValidModel g c n y true HV.out _ (HL.out.kept ((Below.refl wa.heap.size wa).drew))).mono ?_
             rintro e w1 ⟨rfl, bl⟩
             have hb1 : Below wa.heap.size wa w1 := ((Below.refl wa.heap.size wa).drew).trans bl
             have HB1 := Lib.hid hb1
             have HBB := Lib.hid (Below.next HBA.out hb1)
             have HLL := Lib.hid (HL.out.kept hb1)
             have W0' := Lib.hid (W0.out.below hb1)
             have W1' := Lib.hid (W1.out.below hb1)
             clear bl hb1 p0 pl q0 ql
             obtain ⟨p0, pl⟩ := tb1 W0'.out
             obtain ⟨q0, ql⟩ := tb1 W1'.out)
          | (go_at_call 177
             refine (c_params g c n y _ HLL.out HP.out.2.2 H6.out).mono ?_
             rintro e w2 ⟨b, cp, rfl, hf, bl⟩
             rw [HM2.out]
             have HB2 := Lib.hid (Below.next HBB.out bl)
             have K22 := Lib.hid ((HK2.out.below HB1.out).below bl)
             have W02 := Lib.hid (W0'.out.below bl)
             have W12 := Lib.hid (W1'.out.below bl)
             clear hf bl p0 pl q0 ql
             obtain ⟨p0, pl⟩ := tb1 W02.out
             obtain ⟨q0, ql⟩ := tb1 W12.out
             obtain ⟨s0, sl⟩ := tb1 K22.out
             have f0 := K22.out.frozen 0))
      go_wp2_with fail
      refine bodyPost_ret (v := .tuple #[.agg #[.slice none 0 0], .bool false]) (by simp [results, Try.results206, go_sem, s0]; try rfl) rfl ?_
      exact retM_no (HB2.out.setCell (p := ⟨w.heap.size + 2, 0, none⟩) (by simp) _)
    | true =>
      rw [show vWithParams (y.map LayA.p) z = (true, (withP (y.map LayA.p) z).map LayP.can) by simp only [vWithParams, okWith, hv, hM, hl]; rfl]
      obtain rfl : z.length = M := of_decide_eq_true hl
      have HM2 := Lib.hid hM
      clear h hz hv hn h6 hl hM hm
      go_enter Try.func206, Try.ntmps206
      go_wp2_with fail
      have wa0 := K0.out
      have wa1 := K1.out
      have hba := b0.out
      have HK2 := Lib.hid K2.out
      generalize (((w.alloc (.cells #[.slice g n c] 46)).alloc (.cells #[.slice a z.length cz] 25)).alloc (.cells #[.slice none 0 0] 46)) = wa at wa0 wa1 hba HK2 ⊢
      have HBA := Lib.hid hba
      have HL := Lib.hid (H.out.kept hba)
      have W0 := Lib.hid wa0
      have W1 := Lib.hid wa1
      obtain ⟨p0, pl⟩ := tb1 wa0
      obtain ⟨q0, ql⟩ := tb1 wa1
      clear wa0 wa1 hba
      go_region_held3 (fun w' => w'.cell? ⟨w.heap.size, 0, none⟩ = some (.slice g n c) ∧ w'.cell? ⟨w.heap.size + 1, 0, none⟩ = some (.slice a z.length cz)) (go_keep)
        (first
          | (go_at_call 89
             refine (c_iValidModel g c n y true HV.out _ (HL.out.kept ((Below.refl wa.heap.size wa).drew))).mono ?_
             rintro e w1 ⟨rfl, bl⟩
             have hb1 : Below wa.heap.size wa w1 := ((Below.refl wa.heap.size wa).drew).trans bl
             have HB1 := Lib.hid hb1
             have HBB := Lib.hid (Below.next HBA.out hb1)
             have HLL := Lib.hid (HL.out.kept hb1)
             have W0' := Lib.hid (W0.out.below hb1)
             have W1' := Lib.hid (W1.out.below hb1)
             clear bl hb1 p0 pl q0 ql
             obtain ⟨p0, pl⟩ := tb1 W0'.out
             obtain ⟨q0, ql⟩ := tb1 W1'.out)
          | (go_at_call 177
             refine (c_params g c n y _ HLL.out HP.out.2.2 H6.out).mono ?_
             rintro e w2 ⟨b, cp, rfl, hf, bl⟩
             rw [HM2.out]
             have HB2 := Lib.hid (Below.next HBB.out bl)
             have K22 := Lib.hid ((HK2.out.below HB1.out).below bl)
             have W02 := Lib.hid (W0'.out.below bl)
             have W12 := Lib.hid (W1'.out.below bl)
             clear hf bl p0 pl q0 ql
             obtain ⟨p0, pl⟩ := tb1 W02.out
             obtain ⟨q0, ql⟩ := tb1 W12.out
             obtain ⟨s0, sl⟩ := tb1 K22.out
             have f0 := K22.out.frozen 0))
      clear b0 K0 K1 K2 HBA W0 W1 HL W0' W1' HB1 HBB HK2
      go_wp2_with fail
      refine (c_cloneLays g c n y w2 (H.out.kept HB2.out) H1.out H6.out).mono ?_
      rintro e w3 ⟨gs, cs, rfl, hr, bl⟩
      obtain ⟨gd, rfl⟩ := row_form hr (Nat.lt_of_lt_of_le Nat.zero_lt_one H1.out)
      have SZ := Lib.hid (show w.heap.size + 3 ≤ w2.heap.size by have := K22.out.lt; omega)
      have HR3 := Lib.hid (row_mono hr SZ.out)
      have HB3 := Lib.hid (Below.next HB2.out bl)
      have K23 := Lib.hid (K22.out.below bl)
      have K03 := Lib.hid (W02.out.below bl)
      have K13 := Lib.hid (W12.out.below bl)
      clear hr bl p0 pl q0 ql s0 sl f0 W02 W12 K22 HB2
      obtain ⟨p0, pl⟩ := tb1 K03.out
      go_wp2_with fail
      clear p0 pl
      have hn6 : (n : Int) ≤ 6 := by have := H6.out; omega
      go_loopw [29] (fun iv wr => WRel y z n gd cs w iv wr) (fun iv _ => n - (intOf iv).toNat)
      case atStart =>
        refine ⟨0, a, cz, [], Nat.zero_le _, rfl, rfl, rfl, ?_, by simp [laysC, OwnL], by simp [laysC, blL], ?_, ?_, K23.out, HB3.out⟩
        · simpa using HR3.out
        · simpa [laySum] using K13.out
        · simpa [laySum] using HZ.out
      case round =>
        obtain ⟨j, a', c', ys, hj, rfl, hyl, hyp, ho, how, hnd, hk1, hza, hk2, hb⟩ := hrel
        obtain ⟨s, hs⟩ : ∃ s, laySum ((y.take j).map LayA.p) = s := ⟨_, rfl⟩
        rw [hs] at hk1 hza
        have HYL := Lib.hid hyl
        have HYP := Lib.hid hyp
        have HO := Lib.hid ho
        have HOW := Lib.hid how
        have HND := Lib.hid hnd
        have KL := Lib.hid hk1
        have KR := Lib.hid hk2
        have HZA := Lib.hid hza
        have HB := Lib.hid hb
        have HSS := Lib.hid hs
        clear hyl hyp ho how hnd hk1 hza hk2 hb
        by_cases hlt : j < n
        · have hlt' : (j : Int) < (n : Int) := by omega
          obtain ⟨b, off, k, i, o, ws, bs, a0, c0, a1, c1, rfl, hbk, hx, q0, q1, q2, q3, q4, f0, f1⟩ := (H.out.kept HB.out).one hlt
          have hst := laySum_take hx
          have htl := laySum_le (ls := y) (j + 1)
          dsimp only at hst
          rw [hs] at hst
          have hfit : s + (ws.length + bs.length) ≤ z.length := by have := HM2.out; rw [parOf_length] at this; omega
          have HST := Lib.hid hst
          have HX := Lib.hid hx
          have HFT := Lib.hid hfit
          clear f0 f1 hs hst htl hx hfit
          have bal := (Below.refl wr.heap.size wr).alloc (Nat.le_refl _) (.cells #[.int .i64 k, .int .i64 i, .int .i64 o, .slice a0 ws.length c0, .slice a1 bs.length c1] 113)
          have KX := Lib.hid (Blk.new wr 113 #[.int .i64 k, .int .i64 i, .int .i64 o, .slice a0 ws.length c0, .slice a1 bs.length c1])
          have LS := Lib.hid (show wr.heap.size < (wr.alloc (.cells #[.int .i64 k, .int .i64 i, .int .i64 o, .slice a0 ws.length c0, .slice a1 bs.length c1] 113)).heap.size by simp)
          have BAL := Lib.hid bal
          have NB := Lib.hid (HB.out.size)
          clear bal
          go_wp2_with fail
          clear q0 q1 q2 q3 q4
          generalize wr.alloc (.cells #[.int .i64 k, .int .i64 i, .int .i64 o, .slice a0 ws.length c0, .slice a1 bs.length c1] 113) = wb at KX LS BAL ⊢
          have HB4 := Lib.hid (HB.out.trans (BAL.out.mono HB.out.size))
          refine (c_part (w.heap.size + 1) ws.length (z.length - s) c' a' (z.drop s) wb (KL.out.below BAL.out) (HZA.out.kept HB4.out) (by have := HFT.out; omega) (by have := HM2.out; have := HM.out; omega)).mono ?_
          rintro e x1 ⟨b0, d0, x, rfl, hf, bx, rfl⟩
          have hl0 : ((z.drop s).take ws.length).length = ws.length := by rw [List.length_take, List.length_drop]; have := HFT.out; omega
          obtain ⟨A1, hA1⟩ : ∃ q, (if c' = ws.length then a' else a'.map (·.add ws.length)) = q := ⟨_, rfl⟩
          have hgd : w.heap.size + 3 ≤ gd ∧ gd < wr.heap.size := HO.out.lt _ rfl
          have HGD := Lib.hid hgd
          have P1 := Lib.hid (with_part (u := .slice (if c' = ws.length then a' else a'.map (·.add ws.length)) (z.length - s - ws.length) (c' - ws.length)) (hf.base (Nat.le_refl _)) bx (by have := LS.out; omega) (KL.out.below BAL.out) (KR.out.below BAL.out) KX.out (by omega) (row_kept HO.out BAL.out) hgd.1 (OwnL.kept HOW.out BAL.out) HB4.out)
          have HL0 := Lib.hid hl0
          have HZ2 := Lib.hid (part_at HZA.out ws.length (z.length - s - ws.length) (by have := HFT.out; omega))
          clear hf bx hl0 hgd
          have pq := P1.out
          have hz2 : ((z.drop s).drop ws.length).take (z.length - s - ws.length) = z.drop (s + ws.length) := by rw [List.drop_drop, List.take_of_length_le (by rw [List.length_drop]; omega)]
          rw [hA1, hz2] at HZ2
          rw [hA1] at pq
          rw [show (if c' = ws.length then a' else Option.map (fun x => x.add ws.length) a') = A1 from hA1]
          generalize x.setCell ⟨w.heap.size + 1, 0, none⟩ (.slice A1 (z.length - s - ws.length) (c' - ws.length)) = x4 at pq ⊢
          have Q1 := Lib.hid pq
          clear pq P1 hA1 hz2
          obtain ⟨p0, p1, p2, p3, p4, pl⟩ := tb5 Q1.out.2.2.1
          obtain ⟨r0, r1, r2⟩ := row_cell Q1.out.2.2.2.1 (j * 5 + 3) (by omega)
          go_wp2_with fail
          clear p0 p1 p2 p3 p4 pl r0 r1 r2
          have GB := Lib.hid (show gd < wb.heap.size by have := HGD.out.2; have := LS.out; omega)
          have ps1 := with_set (q := j * 5 + 3) (u := .slice b0 ws.length d0) Q1.out.2.2.2.2.2.2 GB.out Q1.out.1 Q1.out.2.1 Q1.out.2.2.1 HGD.out.2 Q1.out.2.2.2.1 HGD.out.1 Q1.out.2.2.2.2.1 Q1.out.2.2.2.2.2.1
          have hsz5 : (x4.setCell ⟨gd, j * 5 + 3, none⟩ (.slice b0 ws.length d0)).heap.size = x4.heap.size := by simp
          have WX := Lib.hid (show wr.heap.size < (x4.setCell ⟨gd, j * 5 + 3, none⟩ (.slice b0 ws.length d0)).heap.size by rw [hsz5]; exact Q1.out.2.2.1.lt)
          clear hsz5
          generalize x4.setCell ⟨gd, j * 5 + 3, none⟩ (.slice b0 ws.length d0) = x5 at ps1 WX ⊢
          have Q2 := Lib.hid ps1
          clear ps1 Q1
          refine (c_part (w.heap.size + 1) bs.length (z.length - s - ws.length) (c' - ws.length) A1 (z.drop (s + ws.length)) x5 Q2.out.1 (HZ2.out.kept Q2.out.2.2.2.2.2.1) (by have := HFT.out; omega) (by have := HM2.out; have := HM.out; omega)).mono ?_
          rintro e x6 ⟨b1, d1, x7, rfl, hf, bx, rfl⟩
          have hl1 : ((z.drop (s + ws.length)).take bs.length).length = bs.length := by rw [List.length_take, List.length_drop]; have := HFT.out; omega
          have HL1 := Lib.hid hl1
          obtain ⟨A2, hA2⟩ : ∃ q, (if c' - ws.length = bs.length then A1 else A1.map (·.add bs.length)) = q := ⟨_, rfl⟩
          have pq := with_part (u := .slice (if c' - ws.length = bs.length then A1 else A1.map (·.add bs.length)) (z.length - s - ws.length - bs.length) (c' - ws.length - bs.length)) hf bx (by have := WX.out; have := HGD.out; omega) Q2.out.1 Q2.out.2.1 Q2.out.2.2.1 (by have := HGD.out; omega) Q2.out.2.2.2.1 HGD.out.1 Q2.out.2.2.2.2.1 Q2.out.2.2.2.2.2.1
          have po := (Q2.out.2.2.2.2.2.2.kept bx).far (p := ⟨w.heap.size + 1, 0, none⟩) (by have := GB.out; have := HGD.out; simp; omega) (.slice (if c' - ws.length = bs.length then A1 else A1.map (·.add bs.length)) (z.length - s - ws.length - bs.length) (c' - ws.length - bs.length))
          have HAP := Lib.hid (Q2.out.2.2.2.2.2.2.new_apart hf)
          have HZ3 := Lib.hid (part_at HZ2.out bs.length (z.length - s - ws.length - bs.length) (by have := HFT.out; omega))
          have hz3 : ((z.drop (s + ws.length)).drop bs.length).take (z.length - s - ws.length - bs.length) = z.drop (s + ws.length + bs.length) := by rw [List.drop_drop, List.take_of_length_le (by rw [List.length_drop]; omega)]
          rw [hA2, hz3] at HZ3
          rw [hA2] at pq po
          rw [show (if c' - ws.length = bs.length then A1 else Option.map (fun x => x.add bs.length) A1) = A2 from hA2]
          clear hf bx hl1
          generalize x7.setCell ⟨w.heap.size + 1, 0, none⟩ (.slice A2 (z.length - s - ws.length - bs.length) (c' - ws.length - bs.length)) = x8 at pq po ⊢
          have Q3 := Lib.hid pq
          have O3 := Lib.hid po
          clear pq po hA2 hz3
          obtain ⟨r0, r1, r2⟩ := row_cell Q3.out.2.2.2.1 (j * 5 + 4) (by omega)
          go_wp2_with fail
          clear r0 r1 r2
          have S4 := Lib.hid (with_set (q := j * 5 + 4) (u := .slice b1 bs.length d1) Q3.out.2.2.2.2.2.2 (by have := WX.out; have := HGD.out; omega) Q3.out.1 Q3.out.2.1 Q3.out.2.2.1 HGD.out.2 Q3.out.2.2.2.1 HGD.out.1 Q3.out.2.2.2.2.1 Q3.out.2.2.2.2.2.1)
          have O4 := Lib.hid (O3.out.far (p := ⟨gd, j * 5 + 4, none⟩) GB.out (.slice b1 bs.length d1))
          generalize x8.setCell ⟨gd, j * 5 + 4, none⟩ (.slice b1 bs.length d1) = x9 at S4 O4 ⊢
          have hnx := withP_next (zs := z) HX.out
          rw [HSS.out] at hnx
          dsimp only at hnx
          have hd : y.drop j = ⟨⟨k, i, o, ws, bs⟩, a0, c0, a1, c1⟩ :: y.drop (j + 1) := by
            obtain ⟨h1, h2⟩ := List.getElem?_eq_some_iff.1 HX.out
            rw [← h2]
            exact List.drop_eq_getElem_cons h1
          have hsum : laySum ((y.take (j + 1)).map LayA.p) = s + ws.length + bs.length := by rw [HST.out]; omega
          have hrow := S4.out.2.2.2.1
          rw [hd, row_set2 _ _ _ _ _ _ HYL.out] at hrow
          have hb0 : OwnF x9 wr.heap.size b0 d0 ((z.drop s).take ws.length) := O4.out.base (by have := LS.out; omega)
          have hb1 : OwnF x9 wr.heap.size b1 d1 ((z.drop (s + ws.length)).take bs.length) := S4.out.2.2.2.2.2.2.base (by have := WX.out; omega)
          have hnew := LayA.own_iff (x := ⟨⟨k, i, o, (z.drop s).take ws.length, (z.drop (s + ws.length)).take bs.length⟩, b0, d0, b1, d1⟩) |>.2 ⟨hb0, hb1⟩
          refine ⟨⟨j + 1, A2, c' - ws.length - bs.length, ys ++ [⟨⟨k, i, o, (z.drop s).take ws.length, (z.drop (s + ws.length)).take bs.length⟩, b0, d0, b1, d1⟩], by omega, by go_num, by simp [HYL.out], ?_, ?_, ?_, ?_, ?_, ?_, S4.out.2.1, S4.out.2.2.2.2.2.1⟩, by simp [intOf]; omega⟩
          · rw [hnx, List.map_append, HYP.out]; rfl
          · rw [laysC_append, laysC_snoc, vs_append, vs_append, List.append_assoc, LayA.vs_cs]
            simp only [LayA.cells, HL0.out, HL1.out]
            exact hrow
          · rw [laysC_snoc, OwnL_append]
            exact ⟨S4.out.2.2.2.2.1, OwnL.base (by have := HGD.out.2; omega) _ hnew⟩
          · rw [laysC_snoc, blL_append]
            refine List.nodup_append.2 ⟨HND.out, LayA.nodup HAP.out, ?_⟩
            intro q hq r hr e
            subst e
            exact apart_new HOW.out hnew q hq hr
          · rw [hsum, show z.length - (s + ws.length + bs.length) = z.length - s - ws.length - bs.length by omega]
            exact S4.out.1
          · rw [hsum, show z.length - (s + ws.length + bs.length) = z.length - s - ws.length - bs.length by omega]
            exact HZ3.out
        · obtain rfl : j = n := by omega
          obtain ⟨s0, sl0⟩ := tb1 KR.out
          have f0 := KR.out.frozen 0
          have hall : ys.map LayA.p = withP (y.map LayA.p) z := by rw [HYP.out, ← H.out.1, List.take_length]
          have HA := Lib.hid hall
          have hdrop : y.drop j = [] := List.drop_eq_nil_of_le (by rw [H.out.1]; exact Nat.le_refl _)
          have hrow := HO.out
          rw [hdrop, List.append_nil] at hrow
          have HRW := Lib.hid hrow
          clear hall hdrop hrow
          go_wp2_with fail
          refine bodyPost_ret (v := .tuple #[.agg #[.slice (some ⟨gd, 0, none⟩) j cs], .bool true]) (by simp [results, Try.results206, go_sem, s0]; try rfl) rfl ?_
          have hlt : w.heap.size + 3 ≤ gd ∧ gd < wr.heap.size := HO.out.lt _ rfl
          refine ⟨some ⟨gd, 0, none⟩, cs, ys, by rw [HYL.out], ?_, ?_, by rw [← HA.out, List.map_map]; rfl, HB.out.setCell (p := ⟨w.heap.size + 2, 0, none⟩) (by simp) _⟩
          · simp only [OwnL, Cl.Own, and_true]
            rw [HYL.out]
            exact ⟨row_mono (ownsRow_setCell_below HRW.out (a := ⟨w.heap.size + 2, 0, none⟩) (by simp) _) (by omega), OwnL.base (by omega) _ (HOW.out.far (p := ⟨w.heap.size + 2, 0, none⟩) (by simp; omega) _)⟩
          · simp only [blL, Cl.bl, List.append_nil]
            refine List.nodup_append.2 ⟨by simp [blk], HND.out, ?_⟩
            intro q hq r hr e
            subst e
            simp [blk] at hq
            have := (OwnL.lt _ HOW.out q hr).1
            omega
end Go.Proofs.Ytaipegkkpkagnaa
