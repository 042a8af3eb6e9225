/-
  CountCorrect: values, the program's, the model's, both in one value. Conditions: the cells can be read.
-/
import Derived.Test.YtpdgpoonblldgaaRmo
import Derived.Test.YtpdgpoonblldgaaExa
import Derived.Test.YtpdgpoonblldgaaLike
import Derived.Test.YtpdgpoonblldgaaGix
import Derived.Test.YtpdgpoonblldgaaRms
import Derived.Test.YtpdgpoonblldgaaGof
namespace Go.Proofs.Ytpdgpoonblldgaa
open Go.RowKit
set_option linter.unusedVariables false
set_option linter.unusedSimpArgs false

/-- the index of the greatest number -/
def gx (z : List Nat) : Nat := gixF (fun j => z.getD j 0) z.length
theorem canon_0 : canon .f32 0 = 0 := by decide
theorem gx_can (z : List Nat) : gx (z.map (canon .f32)) = gx z := by
  unfold gx
  rw [List.length_map, ← gixF_can (fun j => z.getD j 0)]
  congr 1
  funext j
  simp only [List.getD, List.getElem?_map]
  cases z[j]? with
  | none => simp [canon_0]
  | some x => rfl
theorem gx_eq {ys zs : List Nat} (h : ys.map (canon .f32) = zs) : gx ys = gx zs := by rw [← h, gx_can]
theorem gx_le (z : List Nat) (h : 1 ≤ z.length) : gx z < z.length := gixF_lt _ h
def hitB (ps : List LayP) (x : List Nat) (C : Nat) (y : List Nat) (C' : Nat) (i : Nat) : Bool := decide (gx (stageV ps (rowAt x C i) ps.length) = gx (rowAt y C' i))
def cntB (f : Nat → Bool) : Nat → Nat
  | 0 => 0
  | k + 1 => cntB f k + (if f k = true then 1 else 0)
theorem cntB_le (f : Nat → Bool) : ∀ k, cntB f k ≤ k
  | 0 => Nat.le_refl _
  | k + 1 => by
    have := cntB_le f k
    show cntB f k + (if f k = true then 1 else 0) ≤ k + 1
    split <;> omega
theorem cntB_yes {f : Nat → Bool} {k : Nat} (h : f k = true) : cntB f (k + 1) = cntB f k + 1 := by show cntB f k + (if f k = true then 1 else 0) = _; rw [if_pos h]
theorem cntB_no {f : Nat → Bool} {k : Nat} (h : f k = false) : cntB f (k + 1) = cntB f k := by show cntB f k + (if f k = true then 1 else 0) = _; rw [if_neg (by rw [h]; simp)]; rfl
def okCC (ps : List LayP) (r c r' c' : Int) (n m : Nat) : Bool := ((vMod ps && exaB r c r' c' n m) && (goesIn ps c.toNat && decide (c' = lastO ps)))
def vCountCorrect (ps : List LayP) (r c r' c' : Int) (x y : List Nat) : Int × Bool := if okCC ps r c r' c' x.length y.length = true then (((cntB (hitB ps x c.toNat y c'.toNat) r.toNat : Nat) : Int), true) else (0, false)
theorem vCC_no {ps : List LayP} {r c r' c' : Int} {x y : List Nat} (h : okCC ps r c r' c' x.length y.length = false) : vCountCorrect ps r c r' c' x y = (0, false) := by
  unfold vCountCorrect
  rw [h]
  rfl
theorem vCC_yes {ps : List LayP} {R C O : Nat} {x y : List Nat} (h : okCC ps R C R O x.length y.length = true) : vCountCorrect ps R C R O x y = (((cntB (hitB ps x C y O) R : Nat) : Int), true) := by
  unfold vCountCorrect
  rw [if_pos h]
  rfl
/-- rows of one length, one after another -/
theorem rowAt_flat {f : Nat → List Nat} {K : Nat} : ∀ (n i : Nat), (∀ j, j < n → (f j).length = K) → i < n → rowAt ((List.range n).flatMap f) K i = f i := by
  intro n
  induction n with
  | zero => intro i _ hi; omega
  | succ n ih =>
    intro i h hi
    have hl : ((List.range n).flatMap f).length = n * K := flat_len n (fun j hj => h j (by omega))
    rw [List.range_succ, List.flatMap_append]
    simp only [List.flatMap_cons, List.flatMap_nil, List.append_nil, rowAt]
    by_cases hin : i < n
    · have e1 : (i + 1) * K ≤ n * K := Nat.mul_le_mul_right K hin
      rw [Nat.add_mul, Nat.one_mul] at e1
      rw [List.drop_append_of_le_length (by omega), List.take_append_of_le_length (by rw [List.length_drop]; omega)]
      exact ih i (fun j hj => h j (by omega)) hin
    · obtain rfl : i = n := by omega
      rw [← hl, List.drop_left, List.take_of_length_le (by rw [h i (by omega)]; exact Nat.le_refl _)]
theorem rowAt_map (z : List Nat) (K i : Nat) : (rowAt z K i).map (canon .f32) = rowAt (z.map (canon .f32)) K i := by
  simp [rowAt, List.map_take, List.map_drop]
/-- the row of what a model has made -/
theorem cc_row {ps : List LayP} {x ys : List Nat} {R C O i : Nat} (hm : vMod ps = true) (hg : goesIn ps C = true) (hO : lastO ps = (O : Int)) (hx : x.length = R * C) (he : ys.map (canon .f32) = (List.range R).flatMap fun i => stageV ps (rowAt x C i) ps.length) (hi : i < R) :
    (rowAt ys O i).length = O ∧ gx (rowAt ys O i) = gx (stageV ps (rowAt x C i) ps.length) := by
  have hl : ∀ j, j < R → (stageV ps (rowAt x C j) ps.length).length = O := fun j hj => outs_len hm (by rw [rowAt_len hx hj]; exact hg) hO
  have e : (rowAt ys O i).map (canon .f32) = stageV ps (rowAt x C i) ps.length := by rw [rowAt_map, he, rowAt_flat R i hl hi]
  refine ⟨?_, gx_eq e⟩
  have := congrArg List.length e
  rw [List.length_map, hl i hi] at this
  exact this

open Go.RowKit Go.Deep Go.WideShapes Go.ChangeShapes

theorem cc_boxes (w : World) (v : Value) (x : Array Value) : Blk ((w.alloc (.cells #[v] 36)).alloc (.cells x 40)) w.heap.size 36 #[v] ∧ Blk ((w.alloc (.cells #[v] 36)).alloc (.cells x 40)) (w.heap.size + 1) 40 x ∧ Below w.heap.size w ((w.alloc (.cells #[v] 36)).alloc (.cells x 40)) := by
  refine ⟨(Blk.new w _ _).below ((Below.refl _ _).alloc (Nat.le_refl _) _), ?_, ((Below.refl w.heap.size w).alloc (Nat.le_refl _) _).alloc (by simp) _⟩
  have h := Blk.new (w.alloc (.cells #[v] 36)) 40 x
  simpa only [World.size_alloc] using h
def CcRel (f : Nat → Bool) (R : Nat) (w : World) (s i : Value) (wr : World) : Prop := ∃ k q : Nat, k ≤ R ∧ i = .int .i64 k ∧ s = .int .i64 (q : Int) ∧ q = cntB f k ∧ Below w.heap.size w wr
set_option maxRecDepth 20000 in
set_option maxHeartbeats 2000000 in
theorem c_iCCno (ps : List LayP) (n : Nat) (g : Option Addr) (c : Nat) (y : List LayA) (r cc r' c' : Int) (x z : List Nat) (a b : Option Addr) (ca cb : Nat) (w : World) (hp : y.map LayA.p = ps) (h : LaysAt w g n c y) (hx : IsFloats .f32 w a x.length ca x) (hz : IsFloats .f32 w b z.length cb z)
    (hv : (vMod ps && (vokB r cc x.length && goesIn ps cc.toNat)) = false) :
    Calls Try.prog 14 #[.agg #[.slice g n c], .agg #[.int .i64 r, .int .i64 cc, .slice a x.length ca, .int .i64 r', .int .i64 c', .slice b z.length cb]] w (RetNb 0 false w) := by
  obtain ⟨k0, k1, b0⟩ := cc_boxes w (.slice g n c) #[.int .i64 r, .int .i64 cc, .slice a x.length ca, .int .i64 r', .int .i64 c', .slice b z.length cb]
  have B0 := Lib.hid b0
  have K0 := Lib.hid k0
  have K1 := Lib.hid k1
  have HR := Lib.hid (t_iRunModel ps n g c y r cc x a ca _ hp (h.kept b0) (hx.kept b0))
  rw [vRun_no hv] at HR
  clear b0 k0 k1 h hx hz hp hv
  go_enter Try.func14, Try.ntmps14
  go_upto_region 1 with fail
  generalize (w.alloc (.cells #[.slice g n c] 36)).alloc (.cells #[.int .i64 r, .int .i64 cc, .slice a x.length ca, .int .i64 r', .int .i64 c', .slice b z.length cb] 40) = w2 at B0 K0 K1 HR ⊢
  obtain ⟨p0, pl⟩ := tb1 K0.out
  obtain ⟨e0, e1, e2, e3, e4, e5, el⟩ := tb6 K1.out
  go_wp2_with fail
  refine HR.out.mono ?_
  rintro e w3 ⟨a3, c3, ys, rfl, ho, he, hb⟩
  have B3 := Lib.hid (Below.next B0.out hb)
  clear ho he hb p0 pl e0 e1 e2 e3 e4 e5 el
  go_wp2_with fail
  go_ret2
  exact ⟨rfl, B3.out.alloc B3.out.size _⟩
set_option maxRecDepth 20000 in
set_option maxHeartbeats 4000000 in
theorem c_iCCyes (ps : List LayP) (n : Nat) (g : Option Addr) (c : Nat) (y : List LayA) (R C O : Nat) (r' c' : Int) (x z : List Nat) (a b : Option Addr) (ca cb : Nat) (w : World) (hp : y.map LayA.p = ps) (h : LaysAt w g n c y) (hx : IsFloats .f32 w a x.length ca x) (hz : IsFloats .f32 w b z.length cb z)
    (r1 : 1 ≤ R) (r2 : R ≤ 16) (c1 : 1 ≤ C) (c2 : C ≤ 16) (hxl : x.length = R * C) (hv : vokB R C x.length = true) (hm : vMod ps = true) (hg : goesIn ps C = true) (hO : lastO ps = (O : Int)) (o1 : 1 ≤ O) (o8 : O ≤ 8) :
    Calls Try.prog 14 #[.agg #[.slice g n c], .agg #[.int .i64 R, .int .i64 C, .slice a x.length ca, .int .i64 r', .int .i64 c', .slice b z.length cb]] w (RetNb (if (vokB r' c' z.length && decide ((R : Int) = r') && decide (c' = (O : Int))) = true then ((cntB (hitB ps x C z O) R : Nat) : Int) else 0) (vokB r' c' z.length && decide ((R : Int) = r') && decide (c' = (O : Int))) w) := by
  obtain ⟨k0, k1, b0⟩ := cc_boxes w (.slice g n c) #[.int .i64 R, .int .i64 C, .slice a x.length ca, .int .i64 r', .int .i64 c', .slice b z.length cb]
  have B0 := Lib.hid b0
  have K0 := Lib.hid k0
  have K1 := Lib.hid k1
  have HR := Lib.hid (t_iRunModel ps n g c y R C x a ca _ hp (h.kept b0) (hx.kept b0))
  rw [vRun_yes hm hv hg, hO] at HR
  have HZ := Lib.hid (hz.kept b0)
  have HROW := Lib.hid (fun (ys : List Nat) he i hi => cc_row (i := i) (ys := ys) hm hg hO hxl he hi)
  have HYL := Lib.hid (fun (ys : List Nat) (he : ys.map (canon .f32) = (List.range R).flatMap fun i => stageV ps (rowAt x C i) ps.length) => show ys.length = R * O by
    have e := congrArg List.length he
    rw [List.length_map, flat_len R (fun j hj => outs_len hm (by rw [rowAt_len hxl hj]; exact hg) hO)] at e
    exact e)
  obtain ⟨L, hL⟩ : ∃ L, (vokB r' c' z.length && decide ((R : Int) = r') && decide (c' = (O : Int))) = L := ⟨_, rfl⟩
  have HL := Lib.hid hL
  rw [hL]
  obtain ⟨V, hV⟩ : ∃ V : Int, (if L = true then ((cntB (hitB ps x C z O) R : Nat) : Int) else 0) = V := ⟨_, rfl⟩
  have HVV := Lib.hid hV
  rw [hV]
  clear hV
  have HLK := Lib.hid (fun (ys : List Nat) (hl : ys.length = R * O) => show likeB R O r' c' ys.length z.length = L by
    rw [← HL.out]
    have e : vokB R O ys.length = true := by
      rw [hl]
      rw [vokB_iff]
      exact ⟨by omega, by omega, by simp⟩
    unfold likeB
    rw [e, Bool.true_and]
    have t1 : ((R : Int) == r') = decide ((R : Int) = r') := by by_cases h : (R : Int) = r' <;> simp [h]
    have t2 : ((O : Int) == c') = decide (c' = (O : Int)) := by by_cases h : c' = (O : Int) <;> simp [h]; intro e; exact h e.symm
    rw [t1, t2])
  clear b0 k0 k1 h hx hz hp hv hm hg hO hxl hL
  go_enter Try.func14, Try.ntmps14
  go_upto_region 1 with fail
  generalize (w.alloc (.cells #[.slice g n c] 36)).alloc (.cells #[.int .i64 R, .int .i64 C, .slice a x.length ca, .int .i64 r', .int .i64 c', .slice b z.length cb] 40) = w2 at B0 K0 K1 HR HZ ⊢
  obtain ⟨p0, pl⟩ := tb1 K0.out
  obtain ⟨e0, e1, e2, e3, e4, e5, el⟩ := tb6 K1.out
  go_wp2_with fail
  refine HR.out.mono ?_
  rintro e w3 ⟨a3, c3, ys, rfl, ho, he, hb⟩
  have HO3 := Lib.hid (ho.isFloats.kept ((Below.refl w3.heap.size w3).alloc (Nat.le_refl _) (.cells #[.int .i64 R, .int .i64 O, .slice a3 ys.length c3] 38)))
  have HE := Lib.hid he
  have hyl := HYL.out ys he
  have HYL2 := Lib.hid hyl
  have ba := (Below.refl w3.heap.size w3).alloc (Nat.le_refl _) (.cells #[.int .i64 R, .int .i64 O, .slice a3 ys.length c3] 38)
  have B4 := Lib.hid (Below.next (Below.next B0.out hb) ba)
  have K14 := Lib.hid ((K1.out.below hb).below ba)
  have K34 := Lib.hid (Blk.new w3 38 #[.int .i64 R, .int .i64 O, .slice a3 ys.length c3])
  have HZ4 := Lib.hid ((HZ.out.kept hb).kept ba)
  have HLK2 := HLK.out ys hyl
  have HLK3 := Lib.hid HLK2
  clear ho he hb p0 pl e0 e1 e2 e3 e4 e5 el hyl ba HLK2
  obtain ⟨e0, e1, e2, e3, e4, e5, el⟩ := tb6 K14.out
  obtain ⟨s0, s1, s2, sl⟩ := tb K34.out
  have D1 := Lib.hid (fun W => c_haveSameShape R O r' c' a3 b ys.length z.length c3 cb W)
  rw [HLK3.out] at D1
  go_upto_region 2 with fail
  generalize w3.alloc (.cells #[.int .i64 R, .int .i64 O, .slice a3 ys.length c3] 38) = w4 at B4 K14 K34 HZ4 HO3 e0 e1 e2 e3 e4 e5 el s0 s1 s2 sl ⊢
  cases L with
  | false =>
    go_wp2_with (go_at_call 57; refine (D1.out _).mono ?_; rintro e w5 ⟨rfl, hb5⟩; have B5 := Lib.hid (Below.next B4.out hb5); have K15 := Lib.hid (K14.out.below hb5); have K35 := Lib.hid (K34.out.below hb5); have HZ5 := Lib.hid (HZ4.out.kept hb5); have HO5 := Lib.hid (HO3.out.kept hb5); clear hb5; clear e0 e1 e2 e3 e4 e5 el s0 s1 s2 sl; obtain ⟨s0, s1, s2, sl⟩ := tb K35.out)
    go_ret2
    have hV := HVV.out
    simp at hV
    subst hV
    exact ⟨rfl, B5.out⟩
  | true =>
    have hV := HVV.out
    rw [if_pos rfl] at hV
    subst hV
    clear HVV
    have hl := HL.out
    simp only [Bool.and_eq_true, decide_eq_true_eq] at hl
    obtain ⟨⟨hvz, rfl⟩, rfl⟩ := hl
    have hzl : z.length = R * O := by
      have h := ((vokB_iff _ _ _).1 hvz).2.2
      have e : ((R * O : Nat) : Int) = (R : Int) * (O : Int) := by simp
      omega
    have HZL := Lib.hid hzl
    clear hvz hzl
    have hR : (R : Int) ≤ 16 := by omega
    go_wp2_with (go_at_call 57; refine (D1.out _).mono ?_; rintro e w5 ⟨rfl, hb5⟩; have B5 := Lib.hid (Below.next B4.out hb5); have K15 := Lib.hid (K14.out.below hb5); have K35 := Lib.hid (K34.out.below hb5); have HZ5 := Lib.hid (HZ4.out.kept hb5); have HO5 := Lib.hid (HO3.out.kept hb5); clear hb5; clear e0 e1 e2 e3 e4 e5 el s0 s1 s2 sl; obtain ⟨s0, s1, s2, sl⟩ := tb K35.out)
    clear s0 s1 s2 sl
    go_loopw [8, 28] (fun s i wr => CcRel (hitB ps x C z O) R w5 s i wr) (fun _ i _ => R - (intOf i).toNat)
    case atStart => exact ⟨0, 0, Nat.zero_le _, rfl, rfl, rfl, Below.refl _ _⟩
    case round =>
      obtain ⟨k, q, hk, rfl, rfl, hq, hb⟩ := hrel
      have HQ := Lib.hid hq
      have HB := Lib.hid hb
      have hq8 : (q : Int) ≤ 16 := by have := cntB_le (hitB ps x C z O) k; omega
      have hk0 : (0 : Int) ≤ (k : Int) := by omega
      have K1r := Lib.hid (K15.out.below hb)
      have K3r := Lib.hid (K35.out.below hb)
      have HZr := Lib.hid (HZ5.out.kept hb)
      have HOr := Lib.hid (HO5.out.kept hb)
      clear hq hb
      by_cases hlt : k < R
      · have hlt' : (k : Int) < (R : Int) := by omega
        have hrow := HROW.out ys HE.out k hlt
        have HRW := Lib.hid hrow
        have C1 := Lib.hid (fun W (hb : Below wr.heap.size wr W) => c_iRow R O k a3 ys.length c3 ys W (HOr.out.kept hb) r2 o1 (by omega) hlt HYL2.out (rowAt ys O k) rfl)
        have C2 := Lib.hid (fun W (hb : Below wr.heap.size wr W) => c_iRow R O k b z.length cb z W (HZr.out.kept hb) r2 o1 (by omega) hlt HZL.out (rowAt z O k) rfl)
        have hrz : (rowAt z O k).length = O := rowAt_len HZL.out hlt
        have HRZ := Lib.hid hrz
        have HGX := Lib.hid (fun (p : Option Addr) (pc : Nat) (l : List Nat) (W : World) (hf : IsFloats .f32 W p l.length pc l) (h1 : l.length = O) => (show Calls Try.prog 58 #[.slice p l.length pc] W (fun e w' => e = .returned (.int .i64 ((gx l : Nat) : Int)) ∧ W = w') from c_greatestIndex p l.length pc l W hf (by omega) (by omega)))
        cases hh : hitB ps x C z O k with
        | true =>
          have HN := Lib.hid (cntB_yes hh)
          have HHH := Lib.hid (show ∀ l, gx l = gx (stageV ps (rowAt x C k) ps.length) → (((gx l : Nat) : Int) == ((gx (rowAt z O k) : Nat) : Int)) = true from fun l h => by
            have h2 := hh
            simp only [hitB, decide_eq_true_eq] at h2
            rw [h, h2]
            simp)
          clear hh hrow hrz
          obtain ⟨e0, e1, e2, e3, e4, e5, el⟩ := tb6 K1r.out
          obtain ⟨s0, s1, s2, sl⟩ := tb K3r.out
          go_wp2_with fail
          have bd : Below wr.heap.size wr wr.drew := (Below.refl _ _).drew
          have BD := Lib.hid bd
          have K1d := Lib.hid (K1r.out.below bd)
          have K3d := Lib.hid (K3r.out.below bd)
          clear e0 e1 e2 e3 e4 e5 el s0 s1 s2 sl bd
          obtain ⟨e0, e1, e2, e3, e4, e5, el⟩ := tb6 K1d.out
          obtain ⟨s0, s1, s2, sl⟩ := tb K3d.out
          go_region_held3 (fun w' => (w'.cell? ⟨w3.heap.size, 0, none⟩ = some (.int .i64 R) ∧ w'.cell? ⟨w3.heap.size, 1, none⟩ = some (.int .i64 O) ∧ w'.cell? ⟨w3.heap.size, 2, none⟩ = some (.slice a3 ys.length c3)) ∧ (w'.cell? ⟨w.heap.size + 1, 3, none⟩ = some (.int .i64 R) ∧ w'.cell? ⟨w.heap.size + 1, 4, none⟩ = some (.int .i64 O) ∧ w'.cell? ⟨w.heap.size + 1, 5, none⟩ = some (.slice b z.length cb))) (go_keep)
            (first
              | (have hx := B7.out
                 clear hx
                 go_at_call 58
                 refine (HGX.out _ _ _ _ HF7.out HRZ.out).mono ?_
                 rintro e w8 ⟨rfl, rfl⟩
                 have hEQ := HHH.out _ HRW.out.2)
              | (have hx := HF6.out
                 clear hx
                 go_at_call 59
                 refine (C2.out _ B6.out).mono ?_
                 rintro e w7 ⟨a7, c7, rfl, ho7, hb7⟩
                 have HF7 := Lib.hid ho7.isFloats
                 have B7 := Lib.hid (Below.next B6.out hb7)
                 have K17 := Lib.hid (K16.out.below hb7)
                 have K37 := Lib.hid (K36.out.below hb7)
                 clear ho7 hb7 e0 e1 e2 e3 e4 e5 el s0 s1 s2 sl
                 obtain ⟨e0, e1, e2, e3, e4, e5, el⟩ := tb6 K17.out
                 obtain ⟨s0, s1, s2, sl⟩ := tb K37.out)
              | (have hx := B6.out
                 clear hx
                 go_at_call 58
                 refine (HGX.out _ _ _ _ HF6.out HRW.out.1).mono ?_
                 rintro e w8 ⟨rfl, rfl⟩)
              | (go_at_call 59
                 refine (C1.out _ BD.out).mono ?_
                 rintro e w6 ⟨a6, c6, rfl, ho6, hb6⟩
                 have HF6 := Lib.hid ho6.isFloats
                 have B6 := Lib.hid (Below.next BD.out hb6)
                 have K16 := Lib.hid (K1d.out.below hb6)
                 have K36 := Lib.hid (K3d.out.below hb6)
                 clear ho6 hb6 e0 e1 e2 e3 e4 e5 el s0 s1 s2 sl
                 obtain ⟨e0, e1, e2, e3, e4, e5, el⟩ := tb6 K16.out
                 obtain ⟨s0, s1, s2, sl⟩ := tb K36.out))
          clear e0 e1 e2 e3 e4 e5 el s0 s1 s2 sl
          go_wp2_with fail
          go_roundw
          case rel => exact ⟨k + 1, q + 1, by omega, by go_num, by go_num, by rw [HN.out, HQ.out], Below.next HB.out B7.out⟩
          case measure => simp [intOf]; omega
        | false =>
          have HN := Lib.hid (cntB_no hh)
          have HHH := Lib.hid (show ∀ l, gx l = gx (stageV ps (rowAt x C k) ps.length) → (((gx l : Nat) : Int) == ((gx (rowAt z O k) : Nat) : Int)) = false from fun l h => by
            have h2 := hh
            simp only [hitB, decide_eq_false_iff_not] at h2
            rw [h]
            simp only [beq_eq_false_iff_ne, ne_eq]
            omega)
          clear hh hrow hrz
          obtain ⟨e0, e1, e2, e3, e4, e5, el⟩ := tb6 K1r.out
          obtain ⟨s0, s1, s2, sl⟩ := tb K3r.out
          go_wp2_with fail
          have bd : Below wr.heap.size wr wr.drew := (Below.refl _ _).drew
          have BD := Lib.hid bd
          have K1d := Lib.hid (K1r.out.below bd)
          have K3d := Lib.hid (K3r.out.below bd)
          clear e0 e1 e2 e3 e4 e5 el s0 s1 s2 sl bd
          obtain ⟨e0, e1, e2, e3, e4, e5, el⟩ := tb6 K1d.out
          obtain ⟨s0, s1, s2, sl⟩ := tb K3d.out
          go_region_held3 (fun w' => (w'.cell? ⟨w3.heap.size, 0, none⟩ = some (.int .i64 R) ∧ w'.cell? ⟨w3.heap.size, 1, none⟩ = some (.int .i64 O) ∧ w'.cell? ⟨w3.heap.size, 2, none⟩ = some (.slice a3 ys.length c3)) ∧ (w'.cell? ⟨w.heap.size + 1, 3, none⟩ = some (.int .i64 R) ∧ w'.cell? ⟨w.heap.size + 1, 4, none⟩ = some (.int .i64 O) ∧ w'.cell? ⟨w.heap.size + 1, 5, none⟩ = some (.slice b z.length cb))) (go_keep)
            (first
              | (have hx := B7.out
                 clear hx
                 go_at_call 58
                 refine (HGX.out _ _ _ _ HF7.out HRZ.out).mono ?_
                 rintro e w8 ⟨rfl, rfl⟩
                 have hEQ := HHH.out _ HRW.out.2)
              | (have hx := HF6.out
                 clear hx
                 go_at_call 59
                 refine (C2.out _ B6.out).mono ?_
                 rintro e w7 ⟨a7, c7, rfl, ho7, hb7⟩
                 have HF7 := Lib.hid ho7.isFloats
                 have B7 := Lib.hid (Below.next B6.out hb7)
                 have K17 := Lib.hid (K16.out.below hb7)
                 have K37 := Lib.hid (K36.out.below hb7)
                 clear ho7 hb7 e0 e1 e2 e3 e4 e5 el s0 s1 s2 sl
                 obtain ⟨e0, e1, e2, e3, e4, e5, el⟩ := tb6 K17.out
                 obtain ⟨s0, s1, s2, sl⟩ := tb K37.out)
              | (have hx := B6.out
                 clear hx
                 go_at_call 58
                 refine (HGX.out _ _ _ _ HF6.out HRW.out.1).mono ?_
                 rintro e w8 ⟨rfl, rfl⟩)
              | (go_at_call 59
                 refine (C1.out _ BD.out).mono ?_
                 rintro e w6 ⟨a6, c6, rfl, ho6, hb6⟩
                 have HF6 := Lib.hid ho6.isFloats
                 have B6 := Lib.hid (Below.next BD.out hb6)
                 have K16 := Lib.hid (K1d.out.below hb6)
                 have K36 := Lib.hid (K3d.out.below hb6)
                 clear ho6 hb6 e0 e1 e2 e3 e4 e5 el s0 s1 s2 sl
                 obtain ⟨e0, e1, e2, e3, e4, e5, el⟩ := tb6 K16.out
                 obtain ⟨s0, s1, s2, sl⟩ := tb K36.out))
          clear e0 e1 e2 e3 e4 e5 el s0 s1 s2 sl
          go_wp2_with fail
          go_roundw
          case rel => exact ⟨k + 1, q, by omega, by go_num, by go_num, by rw [HN.out, HQ.out], Below.next HB.out B7.out⟩
          case measure => simp [intOf]; omega
      · obtain rfl : k = R := by omega
        go_wp2_with fail
        go_ret2
        exact ⟨by rw [HQ.out]; rfl, Below.next B5.out HB.out⟩


set_option linter.unusedVariables false in
set_option maxHeartbeats 1000000 in
theorem c_l02RowT (g : Nat) (R C A : Nat) (a : Option Addr) (n cap : Nat) (zs : List Nat) (w : World) (h : IsFloats .f32 w a n cap zs) (hR : R ≤ 16) (hC0 : 1 ≤ C) (hC : C ≤ 16) (hA : A < R) (hn : n = R * C) (zr : List Nat) (hr : (zs.drop (A * C)).take C = zr)
    (h0 : w.cell? ⟨g, 3, none⟩ = some (.int .i64 R)) (h1 : w.cell? ⟨g, 4, none⟩ = some (.int .i64 C)) (h2 : w.cell? ⟨g, 5, none⟩ = some (.slice a n cap)) :
    Calls Try.prog 53 #[.pointer (some ⟨g, 3, none⟩), .int .i64 A] w (RetRow zr w) := by
  have e1 : (A + 1) * C ≤ R * C := Nat.mul_le_mul_right C hA
  have e2 : (A + 1) * C = A * C + C := by rw [Nat.add_mul, Nat.one_mul]
  have e3 : R * C ≤ 16 * 16 := Nat.mul_le_mul hR hC
  obtain ⟨b, off, rfl⟩ : ∃ b off, a = some ⟨b, off, none⟩ := by
    rcases h.2.2.2.2 with h' | ⟨b, off, rfl, _⟩
    · omega
    · exact ⟨b, off, rfl⟩
  obtain ⟨P, hP⟩ : ∃ P, A * C = P := ⟨_, rfl⟩
  have i1 : (A : Int) * (C : Int) = (P : Int) := by rw [← hP]; exact (Int.natCast_mul A C).symm
  have i2 : ((A : Int) + 1) * (C : Int) = (P : Int) + (C : Int) := by rw [Int.add_mul, i1, Int.one_mul]
  have hcap := h.1
  have hcm : cap ≤ 9223372036854775807 := by have := h.2.1; unfold maxLen at this; omega
  have HP := Lib.hid hP
  have HN := Lib.hid hn
  have hn1 : P + C ≤ n := by omega
  have hn2 : n ≤ 256 := by omega
  have HL := Lib.hid (show zs.length = n from h.2.2.1)
  obtain ⟨Q, hQ⟩ : ∃ Q, P + C = Q := ⟨_, rfl⟩
  have HQ := Lib.hid hQ
  have hf0 := h.part P Q (by omega) (by omega) (cap - P) (by omega) (by have := h.2.1; omega)
  have hzr : (zs.drop P).take (Q - P) = zr := by rw [← hr, hP, show Q - P = C by omega]
  rw [hzr] at hf0
  have HF := Lib.hid hf0
  clear hf0 hzr hr
  have hq4 : P ≤ Q := by omega
  have HG := Lib.hid (cell_block h1)
  have hq1 : (P : Int) < (Q : Int) := by omega
  have hq2 : (Q : Int) ≤ (n : Int) := by omega
  have hq3 : (Q : Int) ≤ (cap : Int) := by omega
  have hq0 : (0 : Int) ≤ (P : Int) := by omega
  have hne : ¬ cap = P := by omega
  have k1 : IntKind.i64.wrap ((A : Int) * (C : Int)) = (P : Int) := by rw [i1]; exact IntWalk.i64_in _ (by omega)
  have k2 : IntKind.i64.wrap ((A : Int) + 1) = (A : Int) + 1 := IntWalk.i64_in _ (by omega)
  have k3 : IntKind.i64.wrap (((A : Int) + 1) * (C : Int)) = (Q : Int) := by rw [i2]; exact (IntWalk.i64_in _ (by omega)).trans (by omega)
  clear h e1 e2 e3 hP hn i1 i2 hQ
  go_enter Try.func53, Try.ntmps53
  go_wp2_with fail
  go_region_held3 (fun w' => w'.cell? ⟨g, 4, none⟩ = some (.int .i64 C) ∧ w'.cell? ⟨g, 5, none⟩ = some (.slice (some ⟨b, off, none⟩) n cap)) (go_keep)
    (first
      | (go_at_call 105
         refine (c_l02Own _ _ _ _ _ (by have := HF.out.kept ((Below.refl w.heap.size w).drew); simpa [add_plain] using this) (by omega)).mono ?_
         rintro e w1 ⟨b', c', rfl, hf, hb⟩
         have HW := Lib.hid hf
         have HB := Lib.hid (show Below w.heap.size w w1 from ((Below.refl _ _).drew).trans hb)
         have q1 := (HB.out.cell (p := ⟨g, 4, none⟩) HG.out).trans h1
         have q2 := (HB.out.cell (p := ⟨g, 5, none⟩) HG.out).trans h2
         clear hf hb))
  go_wp2
  go_ret
  exact ⟨b', c', rfl, HW.out, HB.out⟩
set_option maxRecDepth 20000 in
set_option maxHeartbeats 4000000 in
theorem c_sCCa (ps : List LayP) (n : Nat) (g : Option Addr) (c : Nat) (y : List LayA) (r cc r' c' : Int) (x z : List Nat) (a b : Option Addr) (ca cb : Nat) (w : World) (hp : y.map LayA.p = ps) (h : LaysAt w g n c y) (hx : IsFloats .f32 w a x.length ca x) (hz : IsFloats .f32 w b z.length cb z) (hm : vMod ps = false) :
    Calls Try.prog 11 #[.agg #[.slice g n c], .agg #[.int .i64 r, .int .i64 cc, .slice a x.length ca, .int .i64 r', .int .i64 c', .slice b z.length cb]] w (RetNb 0 false w) := by
  have hmx : x.length ≤ 9223372036854775807 := by have h1 := hx.1; have h2 := hx.2.1; unfold maxLen at h2; omega
  have hmz : z.length ≤ 9223372036854775807 := by have h1 := hz.1; have h2 := hz.2.1; unfold maxLen at h2; omega
  obtain ⟨k0, k1, b0⟩ := cc_boxes w (.slice g n c) #[.int .i64 r, .int .i64 cc, .slice a x.length ca, .int .i64 r', .int .i64 c', .slice b z.length cb]
  have B0 := Lib.hid b0
  have H0 := Lib.hid (h.kept b0)
  have HX := Lib.hid (hx.kept b0)
  have HZ := Lib.hid (hz.kept b0)
  have K0 := Lib.hid k0
  have K1 := Lib.hid k1
  have HP := Lib.hid hp
  have HM := Lib.hid hm
  clear b0 k0 k1 h hx hz hp hm
  go_enter Try.func11, Try.ntmps11
  go_upto_region 1 with fail
  generalize (w.alloc (.cells #[.slice g n c] 36)).alloc (.cells #[.int .i64 r, .int .i64 cc, .slice a x.length ca, .int .i64 r', .int .i64 c', .slice b z.length cb] 40) = w3 at B0 H0 HX HZ K0 K1 ⊢
  obtain ⟨p0, pl⟩ := tb1 K0.out
  obtain ⟨t0, t1, t2, t3, t4, t5, tl⟩ := tb6 K1.out
  have D1 := Lib.hid (fun k => c_l03Is w.heap.size 0 g c n y false (by rw [HP.out]; exact HM.out) (w3.drewN k) p0 (H0.out.kept (below_drewN (Below.refl _ _) k)))
  go_quiet ((go_at_call 47; exact quiet_drawn (D1.out _)))
  go_wp2_with fail
  go_ret2
  exact ⟨rfl, below_drewN B0.out _⟩
set_option maxRecDepth 20000 in
set_option maxHeartbeats 4000000 in
theorem c_sCCb (ps : List LayP) (n : Nat) (g : Option Addr) (c : Nat) (y : List LayA) (r cc r' c' : Int) (x z : List Nat) (a b : Option Addr) (ca cb : Nat) (w : World) (hp : y.map LayA.p = ps) (h : LaysAt w g n c y) (hx : IsFloats .f32 w a x.length ca x) (hz : IsFloats .f32 w b z.length cb z) (hm : vMod ps = true) (he : exaB r cc r' c' x.length z.length = false) :
    Calls Try.prog 11 #[.agg #[.slice g n c], .agg #[.int .i64 r, .int .i64 cc, .slice a x.length ca, .int .i64 r', .int .i64 c', .slice b z.length cb]] w (RetNb 0 false w) := by
  have hmx : x.length ≤ 9223372036854775807 := by have h1 := hx.1; have h2 := hx.2.1; unfold maxLen at h2; omega
  have hmz : z.length ≤ 9223372036854775807 := by have h1 := hz.1; have h2 := hz.2.1; unfold maxLen at h2; omega
  obtain ⟨k0, k1, b0⟩ := cc_boxes w (.slice g n c) #[.int .i64 r, .int .i64 cc, .slice a x.length ca, .int .i64 r', .int .i64 c', .slice b z.length cb]
  have B0 := Lib.hid b0
  have H0 := Lib.hid (h.kept b0)
  have HX := Lib.hid (hx.kept b0)
  have HZ := Lib.hid (hz.kept b0)
  have K0 := Lib.hid k0
  have K1 := Lib.hid k1
  have HP := Lib.hid hp
  have HM := Lib.hid hm
  have HEX := Lib.hid he
  clear b0 k0 k1 h hx hz hp hm he
  go_enter Try.func11, Try.ntmps11
  go_upto_region 1 with fail
  generalize (w.alloc (.cells #[.slice g n c] 36)).alloc (.cells #[.int .i64 r, .int .i64 cc, .slice a x.length ca, .int .i64 r', .int .i64 c', .slice b z.length cb] 40) = w3 at B0 H0 HX HZ K0 K1 ⊢
  obtain ⟨p0, pl⟩ := tb1 K0.out
  obtain ⟨t0, t1, t2, t3, t4, t5, tl⟩ := tb6 K1.out
  have D1 := Lib.hid (fun k => c_l03Is w.heap.size 0 g c n y true (by rw [HP.out]; exact HM.out) (w3.drewN k) p0 (H0.out.kept (below_drewN (Below.refl _ _) k)))
  have d2 := fun k => c_l07Data (w.heap.size + 1) r cc r' c' a b x.length z.length ca cb hmx hmz (w3.drewN k) t0 t1 t2 t3 t4 t5
  rw [HEX.out] at d2
  have D2 := Lib.hid d2
  clear d2
  go_quiet ((first | (go_at_call 47; exact quiet_drawn (D1.out _)) | (go_at_call 48; exact quiet_drawn (D2.out _))))
  go_wp2_with fail
  go_ret2
  exact ⟨rfl, below_drewN B0.out _⟩
set_option maxRecDepth 20000 in
set_option maxHeartbeats 4000000 in
theorem c_sCCc (ps : List LayP) (n : Nat) (g : Option Addr) (c : Nat) (y : List LayA) (R C : Nat) (c' : Int) (x z : List Nat) (a b : Option Addr) (ca cb : Nat) (w : World) (hp : y.map LayA.p = ps) (h : LaysAt w g n c y) (hx : IsFloats .f32 w a x.length ca x) (hz : IsFloats .f32 w b z.length cb z) (hm : vMod ps = true) (he : exaB R C R c' x.length z.length = true) (hg : goesIn ps C = false) :
    Calls Try.prog 11 #[.agg #[.slice g n c], .agg #[.int .i64 (R : Int), .int .i64 (C : Int), .slice a x.length ca, .int .i64 (R : Int), .int .i64 c', .slice b z.length cb]] w (RetNb 0 false w) := by
  have hmx : x.length ≤ 9223372036854775807 := by have h1 := hx.1; have h2 := hx.2.1; unfold maxLen at h2; omega
  have hmz : z.length ≤ 9223372036854775807 := by have h1 := hz.1; have h2 := hz.2.1; unfold maxLen at h2; omega
  obtain ⟨k0, k1, b0⟩ := cc_boxes w (.slice g n c) #[.int .i64 (R : Int), .int .i64 (C : Int), .slice a x.length ca, .int .i64 (R : Int), .int .i64 c', .slice b z.length cb]
  have B0 := Lib.hid b0
  have H0 := Lib.hid (h.kept b0)
  have HX := Lib.hid (hx.kept b0)
  have HZ := Lib.hid (hz.kept b0)
  have K0 := Lib.hid k0
  have K1 := Lib.hid k1
  have HP := Lib.hid hp
  obtain ⟨p, hp0⟩ : ∃ p, ps[0]? = some p := ⟨_, List.getElem?_eq_getElem (by have := mod_len hm; omega)⟩
  have HPI := Lib.hid (show (y.map LayA.p)[0]? = some p by rw [hp]; exact hp0)
  obtain ⟨pi, hpi⟩ : ∃ q, p.i = q := ⟨_, rfl⟩
  have HPP := Lib.hid hpi
  have hgi := goesIn_at (m := C) hp0
  rw [hpi] at hgi
  have hne : ((C : Int) != pi) = true := by
    rw [hgi, decide_eq_false_iff_not] at hg
    simpa using hg
  have HM := Lib.hid hm
  have HEX := Lib.hid he
  clear b0 k0 k1 h hx hz hp hm he hg hp0 hpi hgi
  go_enter Try.func11, Try.ntmps11
  go_upto_region 1 with fail
  generalize (w.alloc (.cells #[.slice g n c] 36)).alloc (.cells #[.int .i64 (R : Int), .int .i64 (C : Int), .slice a x.length ca, .int .i64 (R : Int), .int .i64 c', .slice b z.length cb] 40) = w3 at B0 H0 HX HZ K0 K1 ⊢
  obtain ⟨p0, pl⟩ := tb1 K0.out
  obtain ⟨t0, t1, t2, t3, t4, t5, tl⟩ := tb6 K1.out
  have D1 := Lib.hid (fun k => c_l03Is w.heap.size 0 g c n y true (by rw [HP.out]; exact HM.out) (w3.drewN k) p0 (H0.out.kept (below_drewN (Below.refl _ _) k)))
  have d2 := fun k => c_l07Data (w.heap.size + 1) R C R c' a b x.length z.length ca cb hmx hmz (w3.drewN k) t0 t1 t2 t3 t4 t5
  rw [HEX.out] at d2
  have D2 := Lib.hid d2
  clear d2
  have d3 := fun k => c_l03In w.heap.size 0 g c n y p (w3.drewN k) p0 (H0.out.kept (below_drewN (Below.refl _ _) k)) HPI.out
  rw [HPP.out] at d3
  have D3 := Lib.hid d3
  clear d3
  go_quiet ((first | (go_at_call 47; exact quiet_drawn (D1.out _)) | (go_at_call 48; exact quiet_drawn (D2.out _)) | (go_at_call 49; exact quiet_left (D3.out _))))
  go_wp2_with fail
  go_ret2
  exact ⟨rfl, below_drewN B0.out _⟩
set_option maxRecDepth 20000 in
set_option maxHeartbeats 4000000 in
theorem c_sCCd (ps : List LayP) (n : Nat) (g : Option Addr) (c : Nat) (y : List LayA) (R C O : Nat) (c' : Int) (x z : List Nat) (a b : Option Addr) (ca cb : Nat) (w : World) (hp : y.map LayA.p = ps) (h : LaysAt w g n c y) (hx : IsFloats .f32 w a x.length ca x) (hz : IsFloats .f32 w b z.length cb z) (hm : vMod ps = true) (he : exaB R C R c' x.length z.length = true) (hg : goesIn ps C = true) (hO : lastO ps = (O : Int)) (hc : ¬ c' = (O : Int)) :
    Calls Try.prog 11 #[.agg #[.slice g n c], .agg #[.int .i64 (R : Int), .int .i64 (C : Int), .slice a x.length ca, .int .i64 (R : Int), .int .i64 c', .slice b z.length cb]] w (RetNb 0 false w) := by
  have hmx : x.length ≤ 9223372036854775807 := by have h1 := hx.1; have h2 := hx.2.1; unfold maxLen at h2; omega
  have hmz : z.length ≤ 9223372036854775807 := by have h1 := hz.1; have h2 := hz.2.1; unfold maxLen at h2; omega
  obtain ⟨k0, k1, b0⟩ := cc_boxes w (.slice g n c) #[.int .i64 (R : Int), .int .i64 (C : Int), .slice a x.length ca, .int .i64 (R : Int), .int .i64 c', .slice b z.length cb]
  have B0 := Lib.hid b0
  have H0 := Lib.hid (h.kept b0)
  have HX := Lib.hid (hx.kept b0)
  have HZ := Lib.hid (hz.kept b0)
  have K0 := Lib.hid k0
  have K1 := Lib.hid k1
  have HP := Lib.hid hp
  obtain ⟨p, hp0⟩ : ∃ p, ps[0]? = some p := ⟨_, List.getElem?_eq_getElem (by have := mod_len hm; omega)⟩
  have HPI := Lib.hid (show (y.map LayA.p)[0]? = some p by rw [hp]; exact hp0)
  obtain ⟨pi, hpi⟩ : ∃ q, p.i = q := ⟨_, rfl⟩
  have HPP := Lib.hid hpi
  have hgi := goesIn_at (m := C) hp0
  rw [hpi] at hgi
  obtain rfl : pi = (C : Int) := by
    rw [hgi, decide_eq_true_eq] at hg
    exact hg.symm
  have hne : ((C : Int) != (C : Int)) = false := by simp
  have hne2 : (c' != (O : Int)) = true := by simpa using hc
  have HM := Lib.hid hm
  have HEX := Lib.hid he
  have HO := Lib.hid hO
  clear b0 k0 k1 h hx hz hp hm he hg hp0 hpi hgi hO hc
  go_enter Try.func11, Try.ntmps11
  go_upto_region 1 with fail
  generalize (w.alloc (.cells #[.slice g n c] 36)).alloc (.cells #[.int .i64 (R : Int), .int .i64 (C : Int), .slice a x.length ca, .int .i64 (R : Int), .int .i64 c', .slice b z.length cb] 40) = w3 at B0 H0 HX HZ K0 K1 ⊢
  obtain ⟨p0, pl⟩ := tb1 K0.out
  obtain ⟨t0, t1, t2, t3, t4, t5, tl⟩ := tb6 K1.out
  have D1 := Lib.hid (fun k => c_l03Is w.heap.size 0 g c n y true (by rw [HP.out]; exact HM.out) (w3.drewN k) p0 (H0.out.kept (below_drewN (Below.refl _ _) k)))
  have d2 := fun k => c_l07Data (w.heap.size + 1) R C R c' a b x.length z.length ca cb hmx hmz (w3.drewN k) t0 t1 t2 t3 t4 t5
  rw [HEX.out] at d2
  have D2 := Lib.hid d2
  clear d2
  have d3 := fun k => c_l03In w.heap.size 0 g c n y p (w3.drewN k) p0 (H0.out.kept (below_drewN (Below.refl _ _) k)) HPI.out
  rw [HPP.out] at d3
  have D3 := Lib.hid d3
  clear d3
  have d4 := fun k => c_l03Out w.heap.size 0 g c n y (w3.drewN k) p0 (H0.out.kept (below_drewN (Below.refl _ _) k)) (by rw [HP.out]; exact HM.out)
  rw [HP.out, HO.out] at d4
  have D4 := Lib.hid d4
  clear d4
  go_quiet ((first | (go_at_call 47; exact quiet_drawn (D1.out _)) | (go_at_call 48; exact quiet_drawn (D2.out _)) | (go_at_call 49; exact quiet_left (D3.out _)) | (go_at_call 50; exact quiet_drawn (D4.out _))))
  go_wp2_with fail
  go_ret2
  exact ⟨rfl, below_drewN B0.out _⟩
set_option maxRecDepth 20000 in
set_option maxHeartbeats 4000000 in
theorem c_sCCe (ps : List LayP) (n : Nat) (g : Option Addr) (c : Nat) (y : List LayA) (R C O : Nat) (x z : List Nat) (a b : Option Addr) (ca cb : Nat) (w : World) (hp : y.map LayA.p = ps) (h : LaysAt w g n c y) (hx : IsFloats .f32 w a x.length ca x) (hz : IsFloats .f32 w b z.length cb z) (hm : vMod ps = true) (he : exaB R C R O x.length z.length = true) (hg : goesIn ps C = true) (hO : lastO ps = (O : Int)) (r1 : 1 ≤ R) (r2 : R ≤ 16) (c1 : 1 ≤ C) (c2 : C ≤ 16) (o1 : 1 ≤ O) (o8 : O ≤ 8) (hxl : x.length = R * C) (hzl : z.length = R * O) :
    Calls Try.prog 11 #[.agg #[.slice g n c], .agg #[.int .i64 (R : Int), .int .i64 (C : Int), .slice a x.length ca, .int .i64 (R : Int), .int .i64 (O : Int), .slice b z.length cb]] w (RetNb ((cntB (hitB ps x C z O) R : Nat) : Int) true w) := by
  have hmx : x.length ≤ 9223372036854775807 := by have h1 := hx.1; have h2 := hx.2.1; unfold maxLen at h2; omega
  have hmz : z.length ≤ 9223372036854775807 := by have h1 := hz.1; have h2 := hz.2.1; unfold maxLen at h2; omega
  obtain ⟨k0, k1, b0⟩ := cc_boxes w (.slice g n c) #[.int .i64 (R : Int), .int .i64 (C : Int), .slice a x.length ca, .int .i64 (R : Int), .int .i64 (O : Int), .slice b z.length cb]
  have B0 := Lib.hid b0
  have H0 := Lib.hid (h.kept b0)
  have HX := Lib.hid (hx.kept b0)
  have HZ := Lib.hid (hz.kept b0)
  have K0 := Lib.hid k0
  have K1 := Lib.hid k1
  have HP := Lib.hid hp
  have HST := Lib.hid (fun i (hi : i < R) => show (stageV ps (rowAt x C i) ps.length).length = O from outs_len hm (by rw [rowAt_len hxl hi]; exact hg) hO)
  have HXL := Lib.hid hxl
  have HZL := Lib.hid hzl
  have hpl : ps.length = n := by rw [← hp, List.length_map]; exact h.1
  have HPL := Lib.hid hpl
  have HG := Lib.hid hg
  have hmx' : x.length = R * C := hxl
  clear hpl hmx'
  obtain ⟨p, hp0⟩ : ∃ p, ps[0]? = some p := ⟨_, List.getElem?_eq_getElem (by have := mod_len hm; omega)⟩
  have HPI := Lib.hid (show (y.map LayA.p)[0]? = some p by rw [hp]; exact hp0)
  obtain ⟨pi, hpi⟩ : ∃ q, p.i = q := ⟨_, rfl⟩
  have HPP := Lib.hid hpi
  have hgi := goesIn_at (m := C) hp0
  rw [hpi] at hgi
  obtain rfl : pi = (C : Int) := by
    rw [hgi, decide_eq_true_eq] at hg
    exact hg.symm
  have hne : ((C : Int) != (C : Int)) = false := by simp
  have hne2 : ((O : Int) != (O : Int)) = false := by simp
  have HM := Lib.hid hm
  have HEX := Lib.hid he
  have HO := Lib.hid hO
  have hR : (R : Int) ≤ 16 := by omega
  clear b0 k0 k1 h hx hz hp hm he hg hp0 hpi hgi hO hxl hzl
  go_enter Try.func11, Try.ntmps11
  go_upto_region 1 with fail
  generalize (w.alloc (.cells #[.slice g n c] 36)).alloc (.cells #[.int .i64 (R : Int), .int .i64 (C : Int), .slice a x.length ca, .int .i64 (R : Int), .int .i64 (O : Int), .slice b z.length cb] 40) = w3 at B0 H0 HX HZ K0 K1 ⊢
  obtain ⟨p0, pl⟩ := tb1 K0.out
  obtain ⟨t0, t1, t2, t3, t4, t5, tl⟩ := tb6 K1.out
  have D1 := Lib.hid (fun k => c_l03Is w.heap.size 0 g c n y true (by rw [HP.out]; exact HM.out) (w3.drewN k) p0 (H0.out.kept (below_drewN (Below.refl _ _) k)))
  have d2 := fun k => c_l07Data (w.heap.size + 1) R C R O a b x.length z.length ca cb hmx hmz (w3.drewN k) t0 t1 t2 t3 t4 t5
  rw [HEX.out] at d2
  have D2 := Lib.hid d2
  clear d2
  have d3 := fun k => c_l03In w.heap.size 0 g c n y p (w3.drewN k) p0 (H0.out.kept (below_drewN (Below.refl _ _) k)) HPI.out
  rw [HPP.out] at d3
  have D3 := Lib.hid d3
  clear d3
  have d4 := fun k => c_l03Out w.heap.size 0 g c n y (w3.drewN k) p0 (H0.out.kept (below_drewN (Below.refl _ _) k)) (by rw [HP.out]; exact HM.out)
  rw [HP.out, HO.out] at d4
  have D4 := Lib.hid d4
  clear d4
  go_quiet ((first | (go_at_call 47; exact quiet_drawn (D1.out _)) | (go_at_call 48; exact quiet_drawn (D2.out _)) | (go_at_call 49; exact quiet_left (D3.out _)) | (go_at_call 50; exact quiet_drawn (D4.out _))))
  clear D1 D2 D3 D4 hne hne2 HPI HPP HEX hmx hmz
  have BQ := Lib.hid (below_drewN (Below.refl w3.heap.size w3) 1)
  clear p0 pl t0 t1 t2 t3 t4 t5 tl
  go_wp2_with fail
  go_loopw [6, 7] (fun s i wr => CcRel (hitB ps x C z O) R w3 s i wr) (fun _ i _ => R - (intOf i).toNat)
  case atStart => exact ⟨0, 0, Nat.zero_le _, rfl, rfl, rfl, below_drewN (Below.refl _ _) _⟩
  case round =>
    obtain ⟨k, q, hk, rfl, rfl, hq, hb⟩ := hrel
    have HQ := Lib.hid hq
    have HB := Lib.hid hb
    have hq8 : (q : Int) ≤ 16 := by have := cntB_le (hitB ps x C z O) k; omega
    have hk0 : (0 : Int) ≤ (k : Int) := by omega
    have K0r := Lib.hid (K0.out.below hb)
    have K1r := Lib.hid (K1.out.below hb)
    have H0r := Lib.hid (H0.out.kept hb)
    have HXr := Lib.hid (HX.out.kept hb)
    have HZr := Lib.hid (HZ.out.kept hb)
    clear hq hb
    obtain ⟨t0, t1, t2, t3, t4, t5, tl⟩ := tb6 K1r.out
    by_cases hlt : k < R
    · have hlt' : (k : Int) < (R : Int) := by omega
      have C1 := Lib.hid (fun W (hb : Below wr.heap.size wr W) => by
        obtain ⟨u0, u1, u2, u3, u4, u5, ul⟩ := tb6 (K1r.out.below hb)
        exact c_l02Row (w.heap.size + 1) R C k a x.length ca x W (HXr.out.kept hb) r2 c1 c2 hlt HXL.out (rowAt x C k) rfl u0 u1 u2)
      have C2 := Lib.hid (fun W (hb : Below wr.heap.size wr W) => by
        obtain ⟨u0, u1, u2, u3, u4, u5, ul⟩ := tb6 (K1r.out.below hb)
        exact c_l02RowT (w.heap.size + 1) R O k b z.length cb z W (HZr.out.kept hb) r2 o1 (by omega) hlt HZL.out (rowAt z O k) rfl u3 u4 u5)
      have C3 := Lib.hid (fun (p : Option Addr) (pc : Nat) (W : World) (hb : Below wr.heap.size wr W) (hf : IsFloats .f32 W p (rowAt x C k).length pc (rowAt x C k)) => (show Calls Try.prog 52 #[.pointer (some ⟨w.heap.size, 0, none⟩), .slice p (rowAt x C k).length pc] W (RetLs (stageV ps (rowAt x C k) ps.length) W) by
        have h := c_l03Row w.heap.size 0 g c n y p pc (rowAt x C k) W (tb1 (K0r.out.below hb)).1 (by rw [HP.out]; exact HM.out) (by rw [HP.out, rowAt_len HXL.out hlt]; exact HG.out) (H0r.out.kept hb) hf
        rw [HP.out] at h
        rw [HPL.out]
        exact h))
      have C4 := Lib.hid (fun (p : Option Addr) (pc : Nat) (l : List Nat) (W : World) (hf : IsFloats .f32 W p l.length pc l) (h1 : l.length = O) => (show Calls Try.prog 51 #[.slice p l.length pc] W (fun e w' => e = .returned (.int .i64 ((gx l : Nat) : Int)) ∧ Drawn W w') from c_l05Greatest p l.length pc l W hf (by omega) (by omega)))
      have HRZ := Lib.hid (show (rowAt z O k).length = O from rowAt_len HZL.out hlt)
      cases hh : hitB ps x C z O k with
      | true =>
        have HN := Lib.hid (cntB_yes hh)
        have HHH := Lib.hid (show ∀ l, gx l = gx (stageV ps (rowAt x C k) ps.length) → (((gx l : Nat) : Int) == ((gx (rowAt z O k) : Nat) : Int)) = true from fun l h => by
          have h2 := hh
          simp only [hitB, decide_eq_true_eq] at h2
          rw [h, h2]
          simp)
        clear hh
        go_wp2_with fail
        clear t0 t1 t2 t3 t4 t5 tl
        refine (C1.out _ (Below.refl _ _)).mono ?_
        rintro e w5 ⟨a5, c5, rfl, ho5, hb5⟩
        have HF5 := Lib.hid ho5.isFloats
        have B5 := Lib.hid hb5
        clear ho5 hb5
        go_wp2_with fail
        refine (C3.out _ _ _ B5.out HF5.out).mono ?_
        rintro e w6 ⟨a6, c6, ys6, rfl, ho6, he6, hb6⟩
        have HF6 := Lib.hid ho6.isFloats
        have HGE := Lib.hid (gx_eq he6)
        have HY6 := Lib.hid (show ys6.length = O by have h := congrArg List.length he6; rw [List.length_map, HST.out k hlt] at h; exact h)
        have B6 := Lib.hid (Below.next B5.out hb6)
        clear ho6 he6 hb6
        go_wp2_with fail
        refine (C4.out _ _ _ _ HF6.out HY6.out).mono ?_
        rintro e w7 ⟨rfl, m6, rfl⟩
        have B6d := Lib.hid (below_drewN B6.out m6)
        go_wp2_with fail
        refine (C2.out _ B6d.out).mono ?_
        rintro e w7 ⟨a7, c7, rfl, ho7, hb7⟩
        have HF7 := Lib.hid ho7.isFloats
        have B7 := Lib.hid (Below.next B6d.out hb7)
        clear ho7 hb7
        go_wp2_with fail
        refine (C4.out _ _ _ _ HF7.out HRZ.out).mono ?_
        rintro e w8 ⟨rfl, m8, rfl⟩
        have B8 := Lib.hid (below_drewN B7.out m8)
        have hEQ := HHH.out _ HGE.out
        go_wp2_with fail
        go_roundw
        case rel => exact ⟨k + 1, q + 1, by omega, by go_num, by go_num, by rw [HN.out, HQ.out], HB.out.trans (B8.out.mono HB.out.size)⟩
        case measure => simp [intOf]; omega
      | false =>
        have HN := Lib.hid (cntB_no hh)
        have HHH := Lib.hid (show ∀ l, gx l = gx (stageV ps (rowAt x C k) ps.length) → (((gx l : Nat) : Int) == ((gx (rowAt z O k) : Nat) : Int)) = false from fun l h => by
          have h2 := hh
          simp only [hitB, decide_eq_false_iff_not] at h2
          rw [h]
          simp only [beq_eq_false_iff_ne, ne_eq]
          omega)
        clear hh
        go_wp2_with fail
        clear t0 t1 t2 t3 t4 t5 tl
        refine (C1.out _ (Below.refl _ _)).mono ?_
        rintro e w5 ⟨a5, c5, rfl, ho5, hb5⟩
        have HF5 := Lib.hid ho5.isFloats
        have B5 := Lib.hid hb5
        clear ho5 hb5
        go_wp2_with fail
        refine (C3.out _ _ _ B5.out HF5.out).mono ?_
        rintro e w6 ⟨a6, c6, ys6, rfl, ho6, he6, hb6⟩
        have HF6 := Lib.hid ho6.isFloats
        have HGE := Lib.hid (gx_eq he6)
        have HY6 := Lib.hid (show ys6.length = O by have h := congrArg List.length he6; rw [List.length_map, HST.out k hlt] at h; exact h)
        have B6 := Lib.hid (Below.next B5.out hb6)
        clear ho6 he6 hb6
        go_wp2_with fail
        refine (C4.out _ _ _ _ HF6.out HY6.out).mono ?_
        rintro e w7 ⟨rfl, m6, rfl⟩
        have B6d := Lib.hid (below_drewN B6.out m6)
        go_wp2_with fail
        refine (C2.out _ B6d.out).mono ?_
        rintro e w7 ⟨a7, c7, rfl, ho7, hb7⟩
        have HF7 := Lib.hid ho7.isFloats
        have B7 := Lib.hid (Below.next B6d.out hb7)
        clear ho7 hb7
        go_wp2_with fail
        refine (C4.out _ _ _ _ HF7.out HRZ.out).mono ?_
        rintro e w8 ⟨rfl, m8, rfl⟩
        have B8 := Lib.hid (below_drewN B7.out m8)
        have hEQ := HHH.out _ HGE.out
        go_wp2_with fail
        go_roundw
        case rel => exact ⟨k + 1, q, by omega, by go_num, by go_num, by rw [HN.out, HQ.out], HB.out.trans (B8.out.mono HB.out.size)⟩
        case measure => simp [intOf]; omega
    · obtain rfl : k = R := by omega
      go_wp2_with fail
      go_ret2
      exact ⟨by rw [HQ.out]; rfl, Below.next B0.out HB.out⟩


theorem exa_own {w : World} {B : Nat} {a b : Option Addr} {c d : Nat} {x y : List Nat} (h0 : OwnF w B a c x) (h1 : OwnF w B b d y) : OwnL w B [flC a c x, flC b d y] := by
  simp only [OwnL, flC_own, and_true]
  exact ⟨h0, h1⟩
theorem exa_at {w : World} {B : Nat} {a b : Option Addr} {c d : Nat} {x y : List Nat} (h : OwnL w B [flC a c x, flC b d y]) : IsFloats .f32 w a x.length c x ∧ IsFloats .f32 w b y.length d y := by
  simp only [OwnL, flC_own, and_true] at h
  exact ⟨h.1.isFloats, h.2.isFloats⟩
theorem t_iCountCorrect (ps : List LayP) (n : Nat) (g : Option Addr) (c : Nat) (y : List LayA) (r cc r' c' : Int) (x z : List Nat) (a b : Option Addr) (ca cb : Nat) (w : World) (hp : y.map LayA.p = ps) (h : LaysAt w g n c y) (hxz : IsFloats .f32 w a x.length ca x ∧ IsFloats .f32 w b z.length cb z) :
    Calls Try.prog 14 #[.agg #[.slice g n c], .agg #[.int .i64 r, .int .i64 cc, .slice a x.length ca, .int .i64 r', .int .i64 c', .slice b z.length cb]] w (RetNb (vCountCorrect ps r cc r' c' x z).1 (vCountCorrect ps r cc r' c' x z).2 w) := by
  obtain ⟨hx, hz⟩ := hxz
  cases hv : (vMod ps && (vokB r cc x.length && goesIn ps cc.toNat)) with
  | false =>
    rw [vCC_no (by
      cases hm : vMod ps <;> cases hk : vokB r cc x.length <;> cases hg : goesIn ps cc.toNat <;> simp_all [okCC, exaB])]
    exact c_iCCno ps n g c y r cc r' c' x z a b ca cb w hp h hx hz hv
  | true =>
    simp only [Bool.and_eq_true] at hv
    obtain ⟨hm, hk, hg⟩ := hv
    obtain ⟨R, C, rfl, rfl, r1, r2, c1, c2, hxl⟩ := vok_nat hk
    obtain ⟨p, O, _, _, o1, o8, hO⟩ := last_at hm
    have hg' : goesIn ps C = true := hg
    have hB := c_iCCyes ps n g c y R C O r' c' x z a b ca cb w hp h hx hz r1 r2 c1 c2 hxl hk hm hg' hO o1 o8
    cases hL : (vokB r' c' z.length && decide ((R : Int) = r') && decide (c' = (O : Int))) with
    | false =>
      rw [hL] at hB
      rw [vCC_no (by
        have e : ((R : Int) == r') = decide ((R : Int) = r') := by by_cases h : (R : Int) = r' <;> simp [h]
        unfold okCC exaB
        rw [hm, hk, hg, hO, e]
        rw [← hL]
        simp)]
      exact hB
    | true =>
      rw [hL] at hB
      simp only [Bool.and_eq_true, decide_eq_true_eq] at hL
      obtain ⟨⟨hvz, rfl⟩, rfl⟩ := hL
      rw [vCC_yes (by simp [okCC, exaB, hm, hk, hg', hO, hvz])]
      exact hB
theorem t_sCountCorrect (ps : List LayP) (n : Nat) (g : Option Addr) (c : Nat) (y : List LayA) (r cc r' c' : Int) (x z : List Nat) (a b : Option Addr) (ca cb : Nat) (w : World) (hp : y.map LayA.p = ps) (h : LaysAt w g n c y) (hxz : IsFloats .f32 w a x.length ca x ∧ IsFloats .f32 w b z.length cb z) :
    Calls Try.prog 11 #[.agg #[.slice g n c], .agg #[.int .i64 r, .int .i64 cc, .slice a x.length ca, .int .i64 r', .int .i64 c', .slice b z.length cb]] w (RetNb (vCountCorrect ps r cc r' c' x z).1 (vCountCorrect ps r cc r' c' x z).2 w) := by
  obtain ⟨hx, hz⟩ := hxz
  cases hm : vMod ps with
  | false =>
    rw [vCC_no (by simp [okCC, hm])]
    exact c_sCCa ps n g c y r cc r' c' x z a b ca cb w hp h hx hz hm
  | true =>
    cases he : exaB r cc r' c' x.length z.length with
    | false =>
      rw [vCC_no (by simp [okCC, he])]
      exact c_sCCb ps n g c y r cc r' c' x z a b ca cb w hp h hx hz hm he
    | true =>
      have he2 := he
      unfold exaB at he2
      simp only [Bool.and_eq_true, beq_iff_eq] at he2
      obtain ⟨⟨hk, hk2⟩, rfl⟩ := he2
      obtain ⟨R, C, rfl, rfl, r1, r2, c1, c2, hxl⟩ := vok_nat hk
      obtain ⟨p, O, _, _, o1, o8, hO⟩ := last_at hm
      cases hg : goesIn ps C with
      | false =>
        rw [vCC_no (by simp [okCC, hg])]
        exact c_sCCc ps n g c y R C c' x z a b ca cb w hp h hx hz hm he hg
      | true =>
        by_cases hc : c' = (O : Int)
        · subst hc
          have hzl : z.length = R * O := by
            have h := ((vokB_iff _ _ _).1 hk2).2.2
            have e : ((R * O : Nat) : Int) = (R : Int) * (O : Int) := by simp
            omega
          rw [vCC_yes (by simp [okCC, he, hm, hg, hO])]
          exact c_sCCe ps n g c y R C O x z a b ca cb w hp h hx hz hm he hg hO r1 r2 c1 c2 o1 o8 hxl hzl
        · rw [vCC_no (by simp [okCC, hO, hc])]
          exact c_sCCd ps n g c y R C O c' x z a b ca cb w hp h hx hz hm he hg hO hc
end Go.Proofs.Ytpdgpoonblldgaa
