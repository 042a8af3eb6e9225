/-
  StackRows: what the model and the program answer. Conditions: the cells can be read.
-/
import Derived.Test.YtappcbijhfghlaaTns
import Derived.Test.YtappcbijhfghlaaApp
import Derived.BigQuiet
import Derived.Deep.RegionLaw
import Derived.RegionTactic
namespace Go.Proofs.Ytappcbijhfghlaa
open Go.RowKit Go.Deep Go.WideShapes Go.ChangeShapes
set_option linter.unusedVariables false

def stCo (ps : List TnP) : Int := (ps[0]?.map TnP.co).getD 0
def stTest (ps : List TnP) (j : Nat) : Bool := match ps[j]? with
  | some p => vokB p.ro p.co p.da.length && (p.co == stCo ps)
  | none => true
def stUp (ps : List TnP) : Nat → Bool
  | 0 => true
  | j + 1 => stUp ps j && stTest ps j
def stRows (ps : List TnP) (j : Nat) : Int := ((ps.take j).map TnP.ro).sum
def stData (ps : List TnP) (j : Nat) : List Nat := (ps.take j).flatMap TnP.da
def stOk (ps : List TnP) : Bool := ((decide (1 ≤ ps.length) && decide (ps.length ≤ 16)) && stUp ps ps.length) && vokB (stRows ps ps.length) (stCo ps) (stData ps ps.length).length
def vStackRows (ps : List TnP) : Int × Int × Bool × List Nat := if stOk ps = true then (stRows ps ps.length, stCo ps, true, (stData ps ps.length).map (canon .f32)) else (0, 0, false, [])
theorem stUp_no {ps : List TnP} {j : Nat} (h : stTest ps j = false) : ∀ n, j < n → stUp ps n = false := by
  intro n
  induction n with
  | zero => intro hn; omega
  | succ n ih =>
    intro hn
    simp only [stUp]
    by_cases hj : j < n
    · rw [ih hj]; rfl
    · obtain rfl : j = n := by omega
      rw [h]; simp
theorem stOk_no {ps : List TnP} {j : Nat} (h : stTest ps j = false) (hj : j < ps.length) : stOk ps = false := by
  rw [stOk, stUp_no h _ hj]; simp
theorem stRows_succ {ps : List TnP} {j : Nat} {p : TnP} (h : ps[j]? = some p) : stRows ps (j + 1) = stRows ps j + p.ro := by
  unfold stRows
  rw [List.take_add_one, h, List.map_append, List.sum_append]
  simp
theorem stData_succ {ps : List TnP} {j : Nat} {p : TnP} (h : ps[j]? = some p) : stData ps (j + 1) = stData ps j ++ p.da := by
  unfold stData
  rw [List.take_add_one, h, List.flatMap_append]
  simp
theorem stTest_iff {ps : List TnP} {j : Nat} {p : TnP} (h : ps[j]? = some p) : stTest ps j = (vokB p.ro p.co p.da.length && (p.co == stCo ps)) := by simp [stTest, h]
theorem st_bounds {ps : List TnP} : ∀ j, j ≤ ps.length → stUp ps j = true → 0 ≤ stRows ps j ∧ stRows ps j ≤ 16 * j ∧ (stData ps j).length ≤ 256 * j := by
  intro j
  induction j with
  | zero => intro _ _; simp [stRows, stData]
  | succ j ih =>
    intro hj h
    simp only [stUp, Bool.and_eq_true] at h
    have hp : ps[j]? = some ps[j] := List.getElem?_eq_getElem (by omega)
    obtain ⟨p, hp'⟩ : ∃ p, ps[j] = p := ⟨_, rfl⟩
    rw [hp'] at hp
    have ht := h.2
    rw [stTest_iff hp, Bool.and_eq_true] at ht
    obtain ⟨⟨r1, r2⟩, ⟨c1, c2⟩, hl⟩ := (vokB_iff _ _ _).1 ht.1
    obtain ⟨i1, i2, i3⟩ := ih (by omega) h.1
    have hm := mul_small r1 r2 c1 c2
    rw [stRows_succ hp, stData_succ hp, List.length_append]
    refine ⟨by omega, by omega, by omega⟩
def ImRel (ps : List TnP) (n : Nat) (w : World) (iv : Value) (wr : World) : Prop :=
  ∃ (j : Nat) (b : Option Addr) (cp : Nat), j ≤ n ∧ iv = .int .i64 j ∧ stUp ps j = true ∧ Blk wr (w.heap.size + 1) 26 #[.int .i64 (stRows ps j), .int .i64 (stCo ps), .slice b (stData ps j).length cp] ∧
    Blk wr w.heap.size 26 #[.int .i64 0, .int .i64 0, .slice none 0 0] ∧ OwnF wr (w.heap.size + 2) b cp (stData ps j) ∧ Below w.heap.size w wr
theorem blk_far {w : World} {g g' i : Nat} {t : TypeId} {cs : Array Value} (h : Blk w g t cs) (hne : g ≠ g') (u : Value) : Blk (w.setCell ⟨g', i, none⟩ u) g t cs :=
  (Below.heap_setCell w ⟨g', i, none⟩ u g (fun e => hne (by simpa using e))).trans h
theorem blk_set {w : World} {g i : Nat} {t : TypeId} {cs : Array Value} (h : Blk w g t cs) (u : Value) : Blk (w.setCell ⟨g, i, none⟩ u) g t (cs.setIfInBounds i u) := Joins.block_setCell h u
theorem st_next {w wr w5 : World} {B : Nat} {b a' : Option Addr} {cp c' : Nat} {tl cl : List Nat} (ho : OwnF wr B b cp tl) (hc : ∀ y ∈ cl, y < 2 ^ 32)
    (hown : w5.ownsRow B 104 1 (.slice a' (tl.length + cl.length) c') (tl.length + cl.length) (tl.map (Value.float .f32) ++ cl.map (Value.float .f32))) (hgr : wr.grownBy w5 (Value.ownBlock (.slice b tl.length cp)))
    (hB : w.heap.size ≤ B) (hl : Below w.heap.size w wr) : OwnF w5 B a' c' (tl ++ cl) ∧ Below w.heap.size w w5 := by
  rw [ownBlock_slice] at hgr
  refine ⟨⟨by simpa using hown, fun y hy => ?_⟩, hl.grown hgr hl.size (fun g h => Nat.le_trans hB (ho.lt g h).1)⟩
  rcases List.mem_append.1 hy with h | h
  · exact ho.2 y h
  · exact hc y h
theorem st_blk {wr w5 : World} {B ad : Nat} {t : TypeId} {cs : Array Value} {b : Option Addr} {cp : Nat} {tl : List Nat} (hk : Blk wr ad t cs) (ho : OwnF wr B b cp tl) (hgr : wr.grownBy w5 (Value.ownBlock (.slice b tl.length cp))) (hne : ad < B) : Blk w5 ad t cs := by
  rw [ownBlock_slice] at hgr
  refine (hgr.block ad hk.lt (fun e => ?_)).trans hk
  have := (ho.lt ad e.symm).1
  omega
set_option maxRecDepth 20000 in
set_option maxHeartbeats 4000000 in
theorem t_iStackRows (ps : List TnP) (n : Nat) (g : Option Addr) (cap : Nat) (ls : List TnA) (w : World) (hp : ls.map TnA.p = ps) (h : TnsAt w g n cap ls) :
    Calls Try.prog 18 #[.slice g n cap] w (RetT (vStackRows ps).1 (vStackRows ps).2.1 (vStackRows ps).2.2.1 (vStackRows ps).2.2.2 w) := by
  have hnm : n ≤ 9223372036854775807 := by have h1 := h.2.1; have h2 := h.2.2.1; unfold maxLen at h2; omega
  have hln : ps.length = n := by rw [← hp, List.length_map]; exact h.1
  have no : stOk ps = false → vStackRows ps = (0, 0, false, []) := fun h => by simp [vStackRows, h]
  have NO := Lib.hid no
  have H := Lib.hid h
  have HN := Lib.hid hln
  have HP := Lib.hid hp
  have b0 := Lib.hid ((Below.refl w.heap.size w).alloc (Nat.le_refl _) (.cells #[.int .i64 0, .int .i64 0, .slice none 0 0] 26))
  by_cases h1 : 1 ≤ n
  case neg =>
    have e : stOk ps = false := by rw [stOk, hln]; simp [h1]
    rw [NO.out e]
    obtain rfl : n = 0 := by omega
    clear h hln no hp h1 e
    go_enter Try.func18, Try.ntmps18
    go_wp2
    refine bodyPost_ret (v := .tuple #[.agg #[.int .i64 0, .int .i64 0, .slice none 0 0], .bool false]) (by simp [results, Try.results18, go_sem]; try rfl) rfl ⟨none, 0, [], rfl, ⟨World.ownsRow_nil _ _ _ _, fun _ h => by cases h⟩, rfl, b0.out⟩
  case pos =>
  by_cases h16 : n ≤ 16
  case neg =>
    have e : stOk ps = false := by rw [stOk, hln]; simp [h16]
    rw [NO.out e]
    have g1 : (17 : Int) ≤ (n : Int) := by omega
    clear h hln no hp h1 h16 e
    go_enter Try.func18, Try.ntmps18
    go_wp2
    refine bodyPost_ret (v := .tuple #[.agg #[.int .i64 0, .int .i64 0, .slice none 0 0], .bool false]) (by simp [results, Try.results18, go_sem]; try rfl) rfl ⟨none, 0, [], rfl, ⟨World.ownsRow_nil _ _ _ _, fun _ h => by cases h⟩, rfl, b0.out⟩
  case pos =>
  have g1 : (1 : Int) ≤ (n : Int) := by omega
  have g16 : (n : Int) ≤ 16 := by omega
  obtain ⟨b, off, ro0, co0, da0, a00, c00, rfl, hbk, hx0, q0, q1, q2, f0⟩ := h.one (i := 0) (by omega)
  simp only [Nat.zero_mul, Nat.add_zero] at q0 q1 q2
  have hco : stCo ps = co0 := by
    have e0 : ps[0]? = some (⟨ro0, co0, da0⟩ : TnP) := by rw [← hp]; simp [hx0]
    simp [stCo, e0]
  have HCO := Lib.hid hco
  obtain ⟨i0, hi, hz0, hz1, hz2⟩ := info_parts info_f32
  have HI := Lib.hid hi
  have HZ0 := Lib.hid hz0
  have HZ1 := Lib.hid hz1
  have HZ2 := Lib.hid hz2
  have g0 : (0 : Int) < (n : Int) := by omega
  clear h hln no hp h1 h16 f0 hx0 hi hz0 hz1 hz2 hco q0 q2
  go_enter Try.func18, Try.ntmps18
  go_wp2
  have b1 := Lib.hid (b0.out.alloc (by simp) (.cells #[.int .i64 0, .int .i64 co0, .slice none 0 0] 26))
  have k1 := Lib.hid (show Blk ((w.alloc (.cells #[.int .i64 0, .int .i64 0, .slice none 0 0] 26)).alloc (.cells #[.int .i64 0, .int .i64 co0, .slice none 0 0] 26)) (w.heap.size + 1) 26 #[.int .i64 0, .int .i64 co0, .slice none 0 0] by
    have := Blk.new (w.alloc (.cells #[.int .i64 0, .int .i64 0, .slice none 0 0] 26)) 26 #[.int .i64 0, .int .i64 co0, .slice none 0 0]
    simpa using this)
  have k0 := Lib.hid ((Blk.new w 26 #[.int .i64 0, .int .i64 0, .slice none 0 0]).below ((Below.refl _ _).alloc (Nat.le_refl _) (.cells #[.int .i64 0, .int .i64 co0, .slice none 0 0] 26)))
  go_loopw [23] (fun iv wr => ImRel ps n w iv wr) (fun iv _ => n - (intOf iv).toNat)
  case atStart => exact ⟨0, none, 0, Nat.zero_le _, rfl, rfl, by rw [HCO.out]; exact k1.out, k0.out, ⟨World.ownsRow_nil _ _ _ _, fun _ h => by cases h⟩, b1.out⟩
  case round =>
    obtain ⟨j, rb, cp, hj, rfl, hst, hk1, hk0, ho, hb⟩ := hrel
    have HST := Lib.hid hst
    have K1 := Lib.hid hk1
    have K0 := Lib.hid hk0
    have HO := Lib.hid ho
    have HB := Lib.hid hb
    have hbd := st_bounds j (by rw [HN.out]; exact hj) hst
    obtain ⟨RJ, hRJ⟩ : ∃ R, stRows ps j = R := ⟨_, rfl⟩
    obtain ⟨DJ, hDJ⟩ : ∃ D, stData ps j = D := ⟨_, rfl⟩
    rw [HCO.out, hRJ, hDJ] at K1
    rw [hDJ] at HO
    rw [hRJ, hDJ] at hbd
    obtain ⟨r1, r2, r3⟩ := hbd
    have HRJ := Lib.hid hRJ
    have HDJ := Lib.hid hDJ
    have HD3 := Lib.hid r3
    clear hst hk1 hk0 ho hb hRJ hDJ r3
    by_cases hlt : j < n
    · have hlt' : (j : Int) < (n : Int) := by omega
      obtain ⟨b', off', ro, co, da, a0, c0, hgg, hbk', hx, q0, q1, q2, f0⟩ := (H.out.kept HB.out).one hlt
      simp only [Option.some.injEq, Addr.mk.injEq, and_true] at hgg
      obtain ⟨rfl, rfl⟩ := hgg
      have hpx : ps[j]? = some (⟨ro, co, da⟩ : TnP) := by rw [← HP.out]; simp [hx]
      have HX := Lib.hid hpx
      have HTI := Lib.hid (stTest_iff hpx)
      have HF := Lib.hid (H.out.floats hx)
      have bal := (Below.refl wr.heap.size wr).alloc (Nat.le_refl _) (.cells #[.int .i64 ro, .int .i64 co, .slice a0 da.length c0] 26)
      have K1a := Lib.hid (K1.out.below bal)
      have K0a := Lib.hid (K0.out.below bal)
      have KLa := Lib.hid (Blk.new wr 26 #[.int .i64 ro, .int .i64 co, .slice a0 da.length c0])
      have HOa := Lib.hid (HO.out.kept bal)
      have HBa := Lib.hid (HB.out.trans (bal.mono HB.out.size))
      have r0' : (0 : Int) ≤ RJ := r1
      have r2' : RJ ≤ 256 := by omega
      clear hpx bal hx f0
      cases hv : vokB ro co da.length with
      | false =>
        have HV := Lib.hid hv
        have e : stOk ps = false := stOk_no (j := j) (by rw [HTI.out]; simp [hv]) (by rw [HN.out]; exact hlt)
        rw [NO.out e]
        clear hv e r1 r2
        go_wp2_with fail
        refine (c_iValid ro co a0 da.length c0 false HV.out _).mono ?_
        rintro e w2 ⟨rfl, bl⟩
        have KL := Lib.hid (KLa.out.below bl)
        have K1' := Lib.hid (K1a.out.below bl)
        have K0' := Lib.hid (K0a.out.below bl)
        have HB2 := Lib.hid (Below.next HBa.out bl)
        clear bl
        obtain ⟨s0, s1, s2, sl⟩ := tb3 K0'.out
        obtain ⟨e0, e1, e2⟩ := tbf K0'.out
        go_wp2_with fail
        refine bodyPost_ret (v := .tuple #[.agg #[.int .i64 0, .int .i64 0, .slice none 0 0], .bool false]) (by simp [results, Try.results18, go_sem, s0, s1, s2]; try rfl) rfl ⟨none, 0, [], rfl, ⟨World.ownsRow_nil _ _ _ _, fun _ h => by cases h⟩, rfl, ((HB2.out.setCell (p := ⟨w.heap.size, 0, none⟩) (Nat.le_refl _) _).setCell (p := ⟨w.heap.size, 1, none⟩) (Nat.le_refl _) _).setCell (p := ⟨w.heap.size, 2, none⟩) (Nat.le_refl _) _⟩
      | true =>
        have HV := Lib.hid hv
        by_cases hc : co = co0
        · subst hc
          have ht : stTest ps j = true := by rw [HTI.out]; simp [hv, HCO.out]
          have HT := Lib.hid ht
          obtain ⟨⟨o1, o2⟩, ⟨c1, c2⟩, hl⟩ := (vokB_iff _ _ _).1 hv
          have hm := mul_small o1 o2 c1 c2
          have hdl : da.length ≤ 256 := by omega
          have HDL := Lib.hid hdl
          have hD4 : DJ.length ≤ 3840 := by have := HD3.out; omega
          have A1 := Lib.hid (show DJ.length + da.length ≤ 4096 by omega)
          clear hv ht hm hl c1 c2 hdl hD4 r1 r2
          go_wp2_with fail
          refine (c_iValid ro co a0 da.length c0 true HV.out _).mono ?_
          rintro e w2 ⟨rfl, bl⟩
          have KL := Lib.hid (KLa.out.below bl)
          have K1' := Lib.hid (K1a.out.below bl)
          have K0' := Lib.hid (K0a.out.below bl)
          have HO2 := Lib.hid (HOa.out.kept bl)
          have HB2 := Lib.hid (Below.next HBa.out bl)
          clear bl q0 q1 q2
          obtain ⟨s0, s1, s2, sl⟩ := tb3 K1'.out
          obtain ⟨e0, e1, e2⟩ := tbf K1'.out
          obtain ⟨t0, t1, t2, tl⟩ := tb3 KL.out
          have hwl : w.heap.size + 1 ≠ wr.heap.size := Nat.ne_of_lt K1.out.lt
          have hwl' : wr.heap.size ≠ w.heap.size + 1 := Nat.ne_of_gt K1.out.lt
          have HS1 := Lib.hid (HO2.out.far (p := ⟨w.heap.size + 1, 0, none⟩) (by simp) (.int .i64 (RJ + ro)))
          have HS2 := Lib.hid (HB2.out.setCell (p := ⟨w.heap.size + 1, 0, none⟩) (by simp) (.int .i64 (RJ + ro)))
          have HSZ := Lib.hid (show w.heap.size + 2 ≤ (w2.setCell ⟨w.heap.size + 1, 0, none⟩ (.int .i64 (RJ + ro))).heap.size by simp; omega)
          have HF2 := Lib.hid (HF.out.kept HS2.out)
          have K1s := Lib.hid (blk_set (i := 0) K1'.out (.int .i64 (RJ + ro)))
          have K0s := Lib.hid (blk_far (i := 0) K0'.out (by omega) (.int .i64 (RJ + ro)) (g' := w.heap.size + 1))
          go_wp2_with (at_builtin; refine wpList_append_any _ rfl (.tmp 45) (.tmp 47) _ rfl (w.heap.size + 2) 104 i0 _ 1 4 Try.underlying24 HI.out HZ0.out HZ1.out HZ2.out rfl (by omega) (.slice rb DJ.length cp) DJ.length _ rfl HS1.out.1 _ a0 da.length c0 _ rfl HF2.out.reads (ones_f32 _) ?c1 ?c2 HSZ.out ?_)
          case c1 => have := A1.out; unfold maxLen; omega
          case c2 => have := A1.out; omega
          intro v' w5 hown hgr hat
          obtain ⟨a', c', rfl⟩ := ownsRow_slice hown
          have HNX := Lib.hid (st_next HS1.out HF2.out.2.2.2.1 hown hgr (by omega) HS2.out)
          have K15 := Lib.hid (st_blk K1s.out HS1.out hgr (by omega))
          have K05 := Lib.hid (st_blk K0s.out HS1.out hgr (by omega))
          clear hown hgr hat s0 s1 s2 sl e0 e1 e2 t0 t1 t2 tl hwl hwl'
          have k15 := K15.out
          simp only [List.setIfInBounds_toArray, List.set_cons_zero] at k15
          have K15' := Lib.hid k15
          obtain ⟨s0, s1, s2, sl⟩ := tb3 k15
          obtain ⟨e0, e1, e2⟩ := tbf k15
          clear k15
          go_wp2_with fail
          clear s0 s1 s2 sl e0 e1 e2
          go_roundw
          case rel =>
            have h1 := stRows_succ HX.out
            have h2 := stData_succ HX.out
            rw [HRJ.out] at h1
            rw [HDJ.out] at h2
            have hk := blk_set (i := 2) K15'.out (.slice a' (DJ.length + da.length) c')
            simp only [List.setIfInBounds_toArray, List.set_cons_zero, List.set_cons_succ] at hk
            refine ⟨j + 1, a', c', by omega, by go_num, ?_, ?_, blk_far (i := 2) K05.out (by omega) _, ?_, HNX.out.2.setCell (p := ⟨w.heap.size + 1, 2, none⟩) (by simp) _⟩
            · simp only [stUp]
              rw [HST.out, HT.out]; rfl
            · rw [h1, h2, HCO.out, List.length_append]; exact hk
            · rw [h2]; exact HNX.out.1.far (p := ⟨w.heap.size + 1, 2, none⟩) (by simp) _
          case measure => simp [intOf]; omega
        · have hc' : (co != co0) = true := by simp [hc]
          have e : stOk ps = false := stOk_no (j := j) (by rw [HTI.out]; simp [HCO.out, hc]) (by rw [HN.out]; exact hlt)
          rw [NO.out e]
          clear hv e hc r1 r2
          go_wp2_with fail
          refine (c_iValid ro co a0 da.length c0 true HV.out _).mono ?_
          rintro e w2 ⟨rfl, bl⟩
          have KL := Lib.hid (KLa.out.below bl)
          have K1' := Lib.hid (K1a.out.below bl)
          have K0' := Lib.hid (K0a.out.below bl)
          have HB2 := Lib.hid (Below.next HBa.out bl)
          clear bl
          obtain ⟨s0, s1, s2, sl⟩ := tb3 K0'.out
          obtain ⟨e0, e1, e2⟩ := tbf K0'.out
          obtain ⟨u0, u1, u2, ul⟩ := tb3 K1'.out
          obtain ⟨t0, t1, t2, tl⟩ := tb3 KL.out
          go_wp2_with fail
          refine bodyPost_ret (v := .tuple #[.agg #[.int .i64 0, .int .i64 0, .slice none 0 0], .bool false]) (by simp [results, Try.results18, go_sem, s0, s1, s2]; try rfl) rfl ⟨none, 0, [], rfl, ⟨World.ownsRow_nil _ _ _ _, fun _ h => by cases h⟩, rfl, ((HB2.out.setCell (p := ⟨w.heap.size, 0, none⟩) (Nat.le_refl _) _).setCell (p := ⟨w.heap.size, 1, none⟩) (Nat.le_refl _) _).setCell (p := ⟨w.heap.size, 2, none⟩) (Nat.le_refl _) _⟩
    · obtain rfl : j = n := by omega
      have hOK : stOk ps = vokB RJ co0 DJ.length := by
        rw [stOk, HN.out, HST.out, HRJ.out, HDJ.out, HCO.out]
        have h1 : 1 ≤ j := by omega
        have h16 : j ≤ 16 := by omega
        simp [h1, h16]
      cases hv : vokB RJ co0 DJ.length with
      | false =>
        have HV := Lib.hid hv
        have HVL := Lib.hid (NO.out (hOK.trans hv))
        clear hOK hv r1 r2
        obtain ⟨s0, s1, s2, sl⟩ := tb3 K1.out
        go_wp2_with fail
        clear s0 s1 s2 sl
        refine (c_iValid RJ co0 rb DJ.length cp false HV.out _).mono ?_
        rintro e w2 ⟨rfl, bl⟩
        have K0' := Lib.hid (K0.out.below bl)
        have HB2 := Lib.hid (Below.next HB.out bl)
        clear bl
        obtain ⟨s0, s1, s2, sl⟩ := tb3 K0'.out
        obtain ⟨e0, e1, e2⟩ := tbf K0'.out
        go_wp2_with fail
        refine bodyPost_ret (v := .tuple #[.agg #[.int .i64 0, .int .i64 0, .slice none 0 0], .bool false]) (by simp [results, Try.results18, go_sem, s0, s1, s2]; try rfl) rfl ?_
        rw [HVL.out]
        exact ⟨none, 0, [], rfl, ⟨World.ownsRow_nil _ _ _ _, fun _ h => by cases h⟩, rfl, ((HB2.out.setCell (p := ⟨w.heap.size, 0, none⟩) (Nat.le_refl _) _).setCell (p := ⟨w.heap.size, 1, none⟩) (Nat.le_refl _) _).setCell (p := ⟨w.heap.size, 2, none⟩) (Nat.le_refl _) _⟩
      | true =>
        have HV := Lib.hid hv
        have hval : vStackRows ps = (RJ, co0, true, DJ.map (canon .f32)) := by
          rw [vStackRows, if_pos (hOK.trans hv), HN.out, HRJ.out, HDJ.out, HCO.out]
        have HVL := Lib.hid hval
        clear hOK hv hval r1 r2
        obtain ⟨s0, s1, s2, sl⟩ := tb3 K1.out
        go_wp2_with fail
        clear s0 s1 s2 sl
        refine (c_iValid RJ co0 rb DJ.length cp true HV.out _).mono ?_
        rintro e w2 ⟨rfl, bl⟩
        have K1' := Lib.hid (K1.out.below bl)
        have K0' := Lib.hid (K0.out.below bl)
        have HO2 := Lib.hid (HO.out.kept bl)
        have HB2 := Lib.hid (Below.next HB.out bl)
        clear bl
        obtain ⟨u0, u1, u2, ul⟩ := tb3 K1'.out
        obtain ⟨s0, s1, s2, sl⟩ := tb3 K0'.out
        obtain ⟨e0, e1, e2⟩ := tbf K0'.out
        go_wp2_with fail
        refine bodyPost_ret (v := .tuple #[.agg #[.int .i64 RJ, .int .i64 co0, .slice rb DJ.length cp], .bool true]) (by simp [results, Try.results18, go_sem, s0, s1, s2]; try rfl) rfl ?_
        rw [HVL.out]
        refine ⟨rb, cp, DJ, rfl, ?_, rfl, ((HB2.out.setCell (p := ⟨w.heap.size, 0, none⟩) (Nat.le_refl _) _).setCell (p := ⟨w.heap.size, 1, none⟩) (Nat.le_refl _) _).setCell (p := ⟨w.heap.size, 2, none⟩) (Nat.le_refl _) _⟩
        exact (((HO2.out.far (p := ⟨w.heap.size, 0, none⟩) (by simp) _).far (p := ⟨w.heap.size, 1, none⟩) (by simp) _).far (p := ⟨w.heap.size, 2, none⟩) (by simp) _).base (by omega)
def SmRel (ps : List TnP) (n : Nat) (w : World) (iv : Value) (wr : World) : Prop :=
  ∃ (j : Nat) (b : Option Addr) (cp : Nat), j ≤ n ∧ iv = .int .i64 j ∧ stUp ps j = true ∧ Blk wr (w.heap.size + 2) 26 #[.int .i64 (stRows ps j), .int .i64 (stCo ps), .slice b (stData ps j).length cp] ∧
    Blk wr w.heap.size 26 #[.int .i64 0, .int .i64 0, .slice none 0 0] ∧ OwnF wr (w.heap.size + 1) b cp (stData ps j) ∧ (∀ g, blk b = some g → g ≠ w.heap.size + 2) ∧ Below w.heap.size w wr
theorem st_blk' {wr w5 : World} {ad : Nat} {t : TypeId} {cs : Array Value} {b : Option Addr} {cp n : Nat} (hk : Blk wr ad t cs) (hgr : wr.grownBy w5 (Value.ownBlock (.slice b n cp))) (hne : ∀ g, blk b = some g → g ≠ ad) : Blk w5 ad t cs := by
  rw [ownBlock_slice] at hgr
  exact (hgr.block ad hk.lt (fun e => hne ad e.symm rfl)).trans hk
theorem st_ne {w : World} {b a' : Option Addr} {n n' cp c' ad : Nat} (hat : Value.ownBlock (.slice a' n' c') = Value.ownBlock (.slice b n cp) ∨ Value.ownBlock (.slice a' n' c') = some w.heap.size) (hne : ∀ g, blk b = some g → g ≠ ad) (hlt : ad < w.heap.size) : ∀ g, blk a' = some g → g ≠ ad := by
  intro g hg
  rw [ownBlock_slice, ownBlock_slice] at hat
  rcases hat with h | h
  · exact hne g (h ▸ hg)
  · rw [h] at hg
    simp only [Option.some.injEq] at hg
    omega
theorem st_far' {w : World} {B : Nat} {a : Option Addr} {cap : Nat} {ys : List Nat} (h : OwnF w B a cap ys) {g i : Nat} (hne : ∀ x, blk a = some x → x ≠ g) (u : Value) : OwnF (w.setCell ⟨g, i, none⟩ u) B a cap ys := by
  have hg : GrownIn w (w.setCell ⟨g, i, none⟩ u) [g] := (GrownIn.refl w [g]).setCell (p := ⟨g, i, none⟩) (by simp) u
  refine ⟨ownsRow_in h.1 hg (fun x hx hm => ?_), h.2⟩
  simp only [List.mem_singleton] at hm
  exact hne x (by simpa using hx) hm
set_option maxRecDepth 20000 in
set_option maxHeartbeats 4000000 in
theorem t_sStackRows (ps : List TnP) (n : Nat) (g : Option Addr) (cap : Nat) (ls : List TnA) (w : World) (hp : ls.map TnA.p = ps) (h : TnsAt w g n cap ls) :
    Calls Try.prog 16 #[.slice g n cap] w (RetT (vStackRows ps).1 (vStackRows ps).2.1 (vStackRows ps).2.2.1 (vStackRows ps).2.2.2 w) := by
  have hnm : n ≤ 9223372036854775807 := by have h1 := h.2.1; have h2 := h.2.2.1; unfold maxLen at h2; omega
  have hln : ps.length = n := by rw [← hp, List.length_map]; exact h.1
  have no : stOk ps = false → vStackRows ps = (0, 0, false, []) := fun h => by simp [vStackRows, h]
  have NO := Lib.hid no
  have H := Lib.hid h
  have HN := Lib.hid hln
  have HP := Lib.hid hp
  have b0 := Lib.hid ((Below.refl w.heap.size w).alloc (Nat.le_refl _) (.cells #[.int .i64 0, .int .i64 0, .slice none 0 0] 26))
  cases h1 : sideB n with
  | false =>
    have e : stOk ps = false := by rw [stOk, hln]; unfold sideB at h1; simp at h1; by_cases hq : 1 ≤ n <;> simp_all; omega
    have HE := Lib.hid e
    have HS := Lib.hid h1
    clear h hln no hp h1 e
    go_enter Try.func16, Try.ntmps16
    go_wp2_with fail
    refine (c_l00In _ _ _ false HS.out _).mono ?_
    rintro e w' ⟨rfl, rfl⟩
    go_wp2_with fail
    refine bodyPost_ret (v := .tuple #[.agg #[.int .i64 0, .int .i64 0, .slice none 0 0], .bool false]) (by simp [results, Try.results16, go_sem]; try rfl) rfl ?_
    rw [NO.out HE.out]
    exact ⟨none, 0, [], rfl, ⟨World.ownsRow_nil _ _ _ _, fun _ h => by cases h⟩, rfl, b0.out⟩
  | true =>
  have HS := Lib.hid h1
  obtain ⟨g1, g16⟩ := (sideB_iff _).1 h1
  obtain ⟨b, off, ro0, co0, da0, a00, c00, rfl, hbk, hx0, q0, q1, q2, f0⟩ := h.one (i := 0) (by omega)
  simp only [Nat.zero_mul, Nat.add_zero] at q0 q1 q2
  have hco : stCo ps = co0 := by
    have e0 : ps[0]? = some (⟨ro0, co0, da0⟩ : TnP) := by rw [← hp]; simp [hx0]
    simp [stCo, e0]
  have HCO := Lib.hid hco
  obtain ⟨i0, hi, hz0, hz1, hz2⟩ := info_parts info_f32
  have HI := Lib.hid hi
  have HZ0 := Lib.hid hz0
  have HZ1 := Lib.hid hz1
  have HZ2 := Lib.hid hz2
  have g0 : (0 : Int) < (n : Int) := by omega
  clear h hln no hp h1 f0 hx0 hi hz0 hz1 hz2 hco q0 q2
  go_enter Try.func16, Try.ntmps16
  go_wp2_with fail
  refine (c_l00In _ _ _ true HS.out _).mono ?_
  rintro e w' ⟨rfl, rfl⟩
  go_wp2_with fail
  go_loopw [5] (fun iv wr => SmRel ps n w iv wr) (fun iv _ => n - (intOf iv).toNat)
  case atStart =>
    have b1 := b0.out.alloc (by simp) (.cells #[] 104)
    have b2 := b1.alloc (by simp; omega) (.cells #[.int .i64 0, .int .i64 co0, .slice (some ⟨w.heap.size + 1, 0, none⟩) 0 0] 26)
    have k1 := Blk.new ((w.alloc (.cells #[.int .i64 0, .int .i64 0, .slice none 0 0] 26)).alloc (.cells #[] 104)) 26 #[.int .i64 0, .int .i64 co0, .slice (some ⟨w.heap.size + 1, 0, none⟩) 0 0]
    have k0 := ((Blk.new w 26 #[.int .i64 0, .int .i64 0, .slice none 0 0]).below ((Below.refl _ _).alloc (Nat.le_refl _) (.cells #[] 104))).below ((Below.refl _ _).alloc (Nat.le_refl _) (.cells #[.int .i64 0, .int .i64 co0, .slice (some ⟨w.heap.size + 1, 0, none⟩) 0 0] 26))
    have hr := (World.ownsRow_made (base := w.heap.size + 1) (e := 104) (size := 1) (w.alloc (.cells #[.int .i64 0, .int .i64 0, .slice none 0 0] 26)) #[] 0 (by simp) (by unfold maxLen; omega) rfl).alloc (.cells #[.int .i64 0, .int .i64 co0, .slice (some ⟨w.heap.size + 1, 0, none⟩) 0 0] 26)
    simp only [World.size_alloc] at k1 hr
    refine ⟨0, some ⟨w.heap.size + 1, 0, none⟩, 0, Nat.zero_le _, rfl, rfl, by rw [HCO.out]; exact k1, k0, ⟨hr, fun _ h => by cases h⟩, ?_, b2⟩
    intro x hx
    simp [blk] at hx
    omega
  case round =>
    obtain ⟨j, rb, cp, hj, rfl, hst, hk1, hk0, ho, hne, hb⟩ := hrel
    have HST := Lib.hid hst
    have K1 := Lib.hid hk1
    have K0 := Lib.hid hk0
    have HO := Lib.hid ho
    have HNE := Lib.hid hne
    have HB := Lib.hid hb
    have hbd := st_bounds j (by rw [HN.out]; exact hj) hst
    obtain ⟨RJ, hRJ⟩ : ∃ R, stRows ps j = R := ⟨_, rfl⟩
    obtain ⟨DJ, hDJ⟩ : ∃ D, stData ps j = D := ⟨_, rfl⟩
    rw [HCO.out, hRJ, hDJ] at K1
    rw [hDJ] at HO
    rw [hRJ, hDJ] at hbd
    obtain ⟨r1, r2, r3⟩ := hbd
    have HRJ := Lib.hid hRJ
    have HDJ := Lib.hid hDJ
    have HD3 := Lib.hid r3
    clear hst hk1 hk0 ho hne hb hRJ hDJ r3
    by_cases hlt : j < n
    · have hlt' : (j : Int) < (n : Int) := by omega
      have hj0 : (0 : Int) ≤ (j : Int) := by omega
      obtain ⟨b', off', ro, co, da, a0, c0, hgg, hbk0, hx, q0, q1, q2, f0⟩ := H.out.one hlt
      simp only [Option.some.injEq, Addr.mk.injEq, and_true] at hgg
      obtain ⟨rfl, rfl⟩ := hgg
      have hbk' : b < wr.heap.size := Nat.lt_of_lt_of_le hbk0 HB.out.size
      have HQ2 := Lib.hid q2
      have HBK := Lib.hid hbk0
      replace q0 := (HB.out.cell (p := ⟨b, off + j * 3, none⟩) hbk0).trans q0
      replace q1 := (HB.out.cell (p := ⟨b, off + j * 3 + 1, none⟩) hbk0).trans q1
      replace q2 := (HB.out.cell (p := ⟨b, off + j * 3 + 2, none⟩) hbk0).trans q2
      have hpx : ps[j]? = some (⟨ro, co, da⟩ : TnP) := by rw [← HP.out]; simp [hx]
      have HX := Lib.hid hpx
      have HTI := Lib.hid (stTest_iff hpx)
      have HF := Lib.hid (H.out.floats hx)
      have HMX := Lib.hid (show da.length ≤ 9223372036854775807 by have h1 := f0.1; have h2 := f0.2.1; unfold maxLen at h2; omega)
      have r0' : (0 : Int) ≤ RJ := r1
      have r2' : RJ ≤ 256 := by omega
      have hnb : b ≠ w.heap.size + 2 := by omega
      have hnb' : w.heap.size + 2 ≠ b := by omega
      clear hpx hx f0
      obtain ⟨s0, s1, s2, sl⟩ := tb3 K1.out
      cases hv : vokB ro co da.length with
      | false =>
        have HV := Lib.hid hv
        have HE := Lib.hid (stOk_no (j := j) (by rw [HTI.out]; simp [hv]) (by rw [HN.out]; exact hlt))
        clear hv r1 r2
        go_wp2_with fail
        go_quiet ((go_at_call 72; exact quiet_drawn (c_l02Is _ _ ro co a0 da.length c0 false HV.out HMX.out _ q0 q1 q2)))
        have bd := below_drewN (Below.refl wr.heap.size wr) nq
        have K1' := Lib.hid (K1.out.below bd)
        have K0' := Lib.hid (K0.out.below bd)
        have HO2 := Lib.hid (HO.out.kept bd)
        have HB2 := Lib.hid (HB.out.trans (bd.mono HB.out.size))
        have z0 := (bd.cell (p := ⟨b, off + j * 3, none⟩) hbk').trans q0
        have z2 := (bd.cell (p := ⟨b, off + j * 3 + 2, none⟩) hbk').trans q2
        clear bd q0 q1 q2 s0 s1 s2 sl
        generalize wr.drewN nq = w2 at K1' K0' HO2 HB2 z0 z2 ⊢
        obtain ⟨s0, s1, s2, sl⟩ := tb3 K0'.out
        obtain ⟨e0, e1, e2⟩ := tbf K0'.out
        go_wp2_with fail
        refine bodyPost_ret (v := .tuple #[.agg #[.int .i64 0, .int .i64 0, .slice none 0 0], .bool false]) (by simp [results, Try.results16, go_sem, s0, s1, s2]; try rfl) rfl ?_
        rw [NO.out HE.out]
        exact ⟨none, 0, [], rfl, ⟨World.ownsRow_nil _ _ _ _, fun _ h => by cases h⟩, rfl, ((HB2.out.setCell (p := ⟨w.heap.size, 0, none⟩) (Nat.le_refl _) _).setCell (p := ⟨w.heap.size, 1, none⟩) (Nat.le_refl _) _).setCell (p := ⟨w.heap.size, 2, none⟩) (Nat.le_refl _) _⟩
      | true =>
        have HV := Lib.hid hv
        by_cases hc : co = co0
        · have ht : stTest ps j = true := by rw [HTI.out, hv, HCO.out, hc]; simp
          have hc' : (co != co0) = false := by simp [hc]
          have HT := Lib.hid ht
          obtain ⟨⟨o1, o2⟩, ⟨c1, c2⟩, hl⟩ := (vokB_iff _ _ _).1 hv
          have hm := mul_small o1 o2 c1 c2
          have hdl : da.length ≤ 256 := by omega
          have hD4 : DJ.length ≤ 3840 := by have := HD3.out; omega
          have A1 := Lib.hid (show DJ.length + da.length ≤ 4096 by omega)
          clear hv ht hm hl c1 c2 hdl hD4 r1 r2 hc
          go_wp2_with fail
          go_quiet ((go_at_call 72; exact quiet_drawn (c_l02Is _ _ ro co a0 da.length c0 true HV.out HMX.out _ q0 q1 q2)))
          have bd := below_drewN (Below.refl wr.heap.size wr) nq
          have K1' := Lib.hid (K1.out.below bd)
          have K0' := Lib.hid (K0.out.below bd)
          have HO2 := Lib.hid (HO.out.kept bd)
          have HB2 := Lib.hid (HB.out.trans (bd.mono HB.out.size))
          have z0 := (bd.cell (p := ⟨b, off + j * 3, none⟩) hbk').trans q0
          have z2 := (bd.cell (p := ⟨b, off + j * 3 + 2, none⟩) hbk').trans q2
          clear bd q0 q1 q2 s0 s1 s2 sl
          generalize wr.drewN nq = w2 at K1' K0' HO2 HB2 z0 z2 ⊢
          obtain ⟨s0, s1, s2, sl⟩ := tb3 K1'.out
          obtain ⟨e0, e1, e2⟩ := tbf K1'.out
          go_wp2_with fail
          go_region
          clear s0 s1 s2 sl e0 e1 e2 z0 z2
          have ks := blk_set (i := 0) K1'.out (.int .i64 (RJ + ro))
          simp only [List.setIfInBounds_toArray, List.set_cons_zero] at ks
          have ks3 : Blk (w2.setCell ⟨w.heap.size + 1 + 1, 0, none⟩ (.int .i64 (RJ + ro))).drew (w.heap.size + 2) 26 #[.int .i64 (RJ + ro), .int .i64 co0, .slice rb DJ.length cp] := ks
          have k03 : Blk (w2.setCell ⟨w.heap.size + 1 + 1, 0, none⟩ (.int .i64 (RJ + ro))).drew w.heap.size 26 #[.int .i64 0, .int .i64 0, .slice none 0 0] := blk_far (i := 0) K0'.out (by omega) (.int .i64 (RJ + ro))
          have ho3 : OwnF (w2.setCell ⟨w.heap.size + 1 + 1, 0, none⟩ (.int .i64 (RJ + ro))).drew (w.heap.size + 1) rb cp DJ := (st_far' (i := 0) HO2.out HNE.out (.int .i64 (RJ + ro))).kept ((Below.refl _ _).drew)
          have hb3 : Below w.heap.size w (w2.setCell ⟨w.heap.size + 1 + 1, 0, none⟩ (.int .i64 (RJ + ro))).drew := (HB2.out.setCell (p := ⟨w.heap.size + 1 + 1, 0, none⟩) (by simp; omega) (.int .i64 (RJ + ro))).drew
          generalize (w2.setCell ⟨w.heap.size + 1 + 1, 0, none⟩ (.int .i64 (RJ + ro))).drew = w3 at ks3 k03 ho3 hb3 ⊢
          have z2 := (hb3.cell (p := ⟨b, off + j * 3 + 2, none⟩) HBK.out).trans HQ2.out
          have K3 := Lib.hid (show Blk w3.drew (w.heap.size + 2) 26 #[.int .i64 (RJ + ro), .int .i64 co0, .slice rb DJ.length cp] from ks3)
          have K03 := Lib.hid (show Blk w3.drew w.heap.size 26 #[.int .i64 0, .int .i64 0, .slice none 0 0] from k03)
          have HO3 := Lib.hid (ho3.kept ((Below.refl w3.heap.size w3).drew))
          have HB3 := Lib.hid hb3.drew
          have HSZ := Lib.hid (show w.heap.size + 1 ≤ w3.drew.heap.size from Nat.le_of_lt (Nat.lt_of_succ_lt ks3.lt))
          have HF3 := Lib.hid (HF.out.kept hb3.drew)
          have A2 := Lib.hid (show DJ.length + da.length ≤ maxLen by have := A1.out; unfold maxLen; omega)
          have A3 := Lib.hid (show (DJ.length + da.length) * 4 ≤ 140737488355328 by have := A1.out; omega)
          obtain ⟨s0, s1, s2, sl⟩ := tb3 ks3
          obtain ⟨e0, e1, e2⟩ := tbf ks3
          clear ks ks3 k03 ho3 hb3
          go_wp2_with fail
          go_region_law (
              refine step_append_any _ rfl (.tmp 49) (.tmp 54) 24 rfl (w.heap.size + 1) 104 i0 (.float .f32 0) 1 4 Try.underlying24 HI.out HZ0.out HZ1.out HZ2.out rfl Nat.one_pos (.slice rb DJ.length cp) DJ.length (DJ.map (Value.float .f32)) rfl HO3.out.1 _ a0 da.length c0 _ rfl HF3.out.reads (ones_f32 _) A2.out A3.out HSZ.out ?_
              intro v' w5 hown hgr hat
              obtain ⟨a', c', rfl⟩ := ownsRow_slice hown
              have HNX := Lib.hid (st_next HO3.out HF3.out.2.2.2.1 hown hgr (by omega) HB3.out)
              have K15 := Lib.hid (st_blk' K3.out hgr HNE.out)
              have K05 := Lib.hid (st_blk K03.out HO3.out hgr (by omega))
              have HNE5 := Lib.hid (st_ne hat HNE.out K3.out.lt)
              clear hown hgr hat s0 s1 s2 sl e0 e1 e2 z2
              obtain ⟨s0, s1, s2, sl⟩ := tb3 K15.out
              obtain ⟨e0, e1, e2⟩ := tbf K15.out)
          all_goals
            go_wp2_with fail
            clear s0 s1 s2 sl e0 e1 e2
            go_roundw
            case rel =>
              have h1 := stRows_succ HX.out
              have h2 := stData_succ HX.out
              rw [HRJ.out] at h1
              rw [HDJ.out] at h2
              have hk := blk_set (i := 2) K15.out (.slice a' (DJ.length + da.length) c')
              simp only [List.setIfInBounds_toArray, List.set_cons_zero, List.set_cons_succ] at hk
              refine ⟨j + 1, a', c', by omega, by go_num, ?_, ?_, blk_far (i := 2) K05.out (by omega) _, ?_, HNE5.out, HNX.out.2.setCell (p := ⟨w.heap.size + 1 + 1, 2, none⟩) (by simp; omega) _⟩
              · simp only [stUp]
                rw [HST.out, HT.out]; rfl
              · rw [h1, h2, HCO.out, List.length_append]; exact hk
              · rw [h2]; exact st_far' (i := 2) HNX.out.1 HNE5.out _
            case measure => simp [intOf]; omega
        · have hc' : (co != co0) = true := by simp [hc]
          have HE := Lib.hid (stOk_no (j := j) (by rw [HTI.out]; simp [HCO.out, hc]) (by rw [HN.out]; exact hlt))
          clear hv hc r1 r2
          go_wp2_with fail
          go_quiet ((go_at_call 72; exact quiet_drawn (c_l02Is _ _ ro co a0 da.length c0 true HV.out HMX.out _ q0 q1 q2)))
          have bd := below_drewN (Below.refl wr.heap.size wr) nq
          have K1' := Lib.hid (K1.out.below bd)
          have K0' := Lib.hid (K0.out.below bd)
          have HO2 := Lib.hid (HO.out.kept bd)
          have HB2 := Lib.hid (HB.out.trans (bd.mono HB.out.size))
          have z0 := (bd.cell (p := ⟨b, off + j * 3, none⟩) hbk').trans q0
          have z2 := (bd.cell (p := ⟨b, off + j * 3 + 2, none⟩) hbk').trans q2
          clear bd q0 q1 q2 s0 s1 s2 sl
          generalize wr.drewN nq = w2 at K1' K0' HO2 HB2 z0 z2 ⊢
          obtain ⟨s0, s1, s2, sl⟩ := tb3 K0'.out
          obtain ⟨e0, e1, e2⟩ := tbf K0'.out
          go_wp2_with fail
          refine bodyPost_ret (v := .tuple #[.agg #[.int .i64 0, .int .i64 0, .slice none 0 0], .bool false]) (by simp [results, Try.results16, go_sem, s0, s1, s2]; try rfl) rfl ?_
          rw [NO.out HE.out]
          exact ⟨none, 0, [], rfl, ⟨World.ownsRow_nil _ _ _ _, fun _ h => by cases h⟩, rfl, ((HB2.out.setCell (p := ⟨w.heap.size, 0, none⟩) (Nat.le_refl _) _).setCell (p := ⟨w.heap.size, 1, none⟩) (Nat.le_refl _) _).setCell (p := ⟨w.heap.size, 2, none⟩) (Nat.le_refl _) _⟩
    · obtain rfl : j = n := by omega
      have hOK : stOk ps = vokB RJ co0 DJ.length := by
        rw [stOk, HN.out, HST.out, HRJ.out, HDJ.out, HCO.out]
        have h1 : 1 ≤ j := by omega
        have h16 : j ≤ 16 := by omega
        simp [h1, h16]
      have HMX := Lib.hid (show DJ.length ≤ 9223372036854775807 by have := HD3.out; omega)
      cases hv : vokB RJ co0 DJ.length with
      | false =>
        have HV := Lib.hid hv
        have HVL := Lib.hid (NO.out (hOK.trans hv))
        clear hOK hv r1 r2
        obtain ⟨s0, s1, s2, sl⟩ := tb3 K1.out
        go_wp2_with fail
        refine (c_l02Is _ 0 RJ co0 rb DJ.length cp false HV.out HMX.out _ s0 s1 s2).mono ?_
        rintro e w2 ⟨rfl, d, rfl⟩
        clear s0 s1 s2 sl
        have K0' := Lib.hid (K0.out.below (below_drewN (Below.refl wr.heap.size wr) d))
        have HB2 := Lib.hid (below_drewN HB.out d)
        obtain ⟨s0, s1, s2, sl⟩ := tb3 K0'.out
        obtain ⟨e0, e1, e2⟩ := tbf K0'.out
        go_wp2_with fail
        refine bodyPost_ret (v := .tuple #[.agg #[.int .i64 0, .int .i64 0, .slice none 0 0], .bool false]) (by simp [results, Try.results16, go_sem, s0, s1, s2]; try rfl) rfl ?_
        rw [HVL.out]
        exact ⟨none, 0, [], rfl, ⟨World.ownsRow_nil _ _ _ _, fun _ h => by cases h⟩, rfl, ((HB2.out.setCell (p := ⟨w.heap.size, 0, none⟩) (Nat.le_refl _) _).setCell (p := ⟨w.heap.size, 1, none⟩) (Nat.le_refl _) _).setCell (p := ⟨w.heap.size, 2, none⟩) (Nat.le_refl _) _⟩
      | true =>
        have HV := Lib.hid hv
        have hval : vStackRows ps = (RJ, co0, true, DJ.map (canon .f32)) := by
          rw [vStackRows, if_pos (hOK.trans hv), HN.out, HRJ.out, HDJ.out, HCO.out]
        have HVL := Lib.hid hval
        clear hOK hv hval r1 r2
        obtain ⟨s0, s1, s2, sl⟩ := tb3 K1.out
        go_wp2_with fail
        refine (c_l02Is _ 0 RJ co0 rb DJ.length cp true HV.out HMX.out _ s0 s1 s2).mono ?_
        rintro e w2 ⟨rfl, d, rfl⟩
        clear s0 s1 s2 sl
        have bd := below_drewN (Below.refl wr.heap.size wr) d
        have K1' := Lib.hid (K1.out.below bd)
        have K0' := Lib.hid (K0.out.below bd)
        have HO2 := Lib.hid (HO.out.kept bd)
        have HB2 := Lib.hid (below_drewN HB.out d)
        clear bd
        obtain ⟨u0, u1, u2, ul⟩ := tb3 K1'.out
        obtain ⟨s0, s1, s2, sl⟩ := tb3 K0'.out
        obtain ⟨e0, e1, e2⟩ := tbf K0'.out
        go_wp2_with fail
        refine bodyPost_ret (v := .tuple #[.agg #[.int .i64 RJ, .int .i64 co0, .slice rb DJ.length cp], .bool true]) (by simp [results, Try.results16, go_sem, s0, s1, s2]; try rfl) rfl ?_
        rw [HVL.out]
        refine ⟨rb, cp, DJ, rfl, ?_, rfl, ((HB2.out.setCell (p := ⟨w.heap.size, 0, none⟩) (Nat.le_refl _) _).setCell (p := ⟨w.heap.size, 1, none⟩) (Nat.le_refl _) _).setCell (p := ⟨w.heap.size, 2, none⟩) (Nat.le_refl _) _⟩
        exact (((HO2.out.far (p := ⟨w.heap.size, 0, none⟩) (by simp) _).far (p := ⟨w.heap.size, 1, none⟩) (by simp) _).far (p := ⟨w.heap.size, 2, none⟩) (by simp) _).base (by omega)
theorem vStackRows_len (ps : List TnP) : (vStackRows ps).2.2.2.length ≤ 1048576 := by
  unfold vStackRows
  split
  · rename_i h
    simp only [stOk, Bool.and_eq_true, decide_eq_true_eq] at h
    have := st_bounds ps.length (Nat.le_refl _) h.1.2
    simp
    omega
  · simp
end Go.Proofs.Ytappcbijhfghlaa
