/-
  What the program's runners make of numbers. Conditions: the numbers can be read.
-/
import Derived.Test.YtpdgpoonblldgaaRvl
import Derived.Test.YtpdgpoonblldgaaItr
import Derived.OwnWalk
namespace Go.Proofs.Ytpdgpoonblldgaa
open Go.RowKit Go.Deep Go.WideShapes Go.ChangeShapes
set_option linter.unusedVariables false
set_option linter.unusedSimpArgs false

theorem RetLs.below {zs zs' : List Nat} {w0 w : World} {e : Ending} {w' : World} (h : RetLs zs w e w') (hb : Below w0.heap.size w0 w) (hz : zs = zs') : RetLs zs' w0 e w' := by
  obtain ⟨a, c, ys, he, ho, hy, hl⟩ := h
  exact ⟨a, c, ys, he, ho.base hb.size, hy.trans hz, Below.next hb hl⟩
theorem map_rangeF (l : List Nat) (f : Nat → Nat) : (List.range l.length).map (fun i => f (l.getD i 0)) = l.map f := map_range l f
theorem x_reluL (x : Nat) (hx : x < 4294967296) (wr : World) : Calls Try.prog 228 (#[.float .f32 x] ++ #[]) wr (RetX (creluL x) wr) :=
  (c_reluL x hx wr).mono fun _ _ ⟨⟨v, he, hc, hl⟩, hb⟩ => ⟨v, he, hc, hl, hb⟩
theorem x_tanh (x : Nat) (wr : World) : Calls Try.prog 234 (#[.float .f32 x] ++ #[]) wr (RetX (ctanh x) wr) :=
  (c_iTanhNumber x wr).mono fun _ _ h => RetX.of_RetF h
theorem x_rRelu (a : Option Addr) (cap : Nat) (z : List Nat) (w : World) (h : IsFloats .f32 w a z.length cap z) (hn : z.length ≤ 8) : Calls Try.prog 226 #[.agg #[], .slice a z.length cap] w (RetLs (z.map creluL) w) := by
  have bal := (Below.refl w.heap.size w).alloc (Nat.le_refl _) (.cells #[] 231)
  have B := Lib.hid bal
  have H := Lib.hid (h.kept bal)
  clear h bal
  go_enter Try.func226, Try.ntmps226
  go_wp2_with fail
  refine (c_eachOf 228 #[] creluL _ _ _ z _ H.out (by omega) (enters_of Try.func228 (by kernel_rfl) (by kernel_rfl)) (fun x wr hx hb => x_reluL x hx wr)).mono ?_
  intro e w' hr
  have HR := Lib.hid (hr.below B.out (map_rangeF z creluL))
  obtain ⟨b, c, ys, rfl, ho, he, hb⟩ := hr
  clear ho he hb
  go_wp2_with fail
  go_ret
  exact HR.out
theorem x_rTanh (a : Option Addr) (cap : Nat) (z : List Nat) (w : World) (h : IsFloats .f32 w a z.length cap z) (hn : z.length ≤ 8) : Calls Try.prog 233 #[.agg #[], .slice a z.length cap] w (RetLs (z.map ctanh) w) := by
  have bal := (Below.refl w.heap.size w).alloc (Nat.le_refl _) (.cells #[] 234)
  have B := Lib.hid bal
  have H := Lib.hid (h.kept bal)
  clear h bal
  go_enter Try.func233, Try.ntmps233
  go_wp2_with fail
  refine (c_eachOf 234 #[] ctanh _ _ _ z _ H.out (by omega) (enters_of Try.func234 (by kernel_rfl) (by kernel_rfl)) (fun x wr hx hb => x_tanh x wr)).mono ?_
  intro e w' hr
  have HR := Lib.hid (hr.below B.out (map_rangeF z ctanh))
  obtain ⟨b, c, ys, rfl, ho, he, hb⟩ := hr
  clear ho he hb
  go_wp2_with fail
  go_ret
  exact HR.out
theorem scale_eq (ws z : List Nat) (h : ws.length = z.length) : (List.range z.length).map (fun i => cop .mul .f32 (canon .f32 (z.getD i 0)) (canon .f32 (ws.getD (i % ws.length) 0))) = scaleV ws z := by
  refine List.map_congr_left fun i hi => ?_
  rw [Nat.mod_eq_of_lt (by rw [h]; exact List.mem_range.1 hi)]
theorem x_rScale (a b : Option Addr) (cap cb : Nat) (z ws : List Nat) (w : World) (h : IsFloats .f32 w a z.length cap z) (h' : IsFloats .f32 w b ws.length cb ws) (h1 : 1 ≤ z.length) (hn : z.length ≤ 8) (hw : ws.length = z.length) :
    Calls Try.prog 230 #[.agg #[.slice b ws.length cb], .slice a z.length cap] w (RetLs (scaleV ws z) w) := by
  have bal := (Below.refl w.heap.size w).alloc (Nat.le_refl _) (.cells #[.slice b ws.length cb] 233)
  have B := Lib.hid bal
  have H := Lib.hid (h.kept bal)
  have H' := Lib.hid (h'.kept bal)
  have HW := Lib.hid hw
  clear h h' bal hw
  go_enter Try.func230, Try.ntmps230
  go_wp2_with fail
  refine (c_combineLists 232 #[] (fun x y => cop .mul .f32 (canon .f32 x) (canon .f32 y)) _ _ _ _ _ _ z ws _ H.out H'.out (by omega) (by rw [HW.out]; exact h1) (by rw [HW.out]; omega) (enters_of Try.func232 (by kernel_rfl) (by kernel_rfl)) (fun x y wr hb => x_productOfTwo x y wr)).mono ?_
  intro e w' hr
  have HR := Lib.hid (hr.below B.out (scale_eq ws z HW.out))
  obtain ⟨b, c, ys, rfl, ho, he, hb⟩ := hr
  clear ho he hb
  go_wp2_with fail
  go_ret
  exact HR.out
theorem x_shares (a : Option Addr) (cap : Nat) (z : List Nat) (w : World) (h : IsFloats .f32 w a z.length cap z) (h1 : 1 ≤ z.length) (hn : z.length ≤ 256) : Calls Try.prog 238 #[.slice a z.length cap] w (RetLs (z.map (cShare z)) w) := by
  have H := Lib.hid h
  clear h
  go_enter Try.func238, Try.ntmps238
  go_wp2_with fail
  refine (c_softmaxOf a cap z _ H.out h1 hn).mono ?_
  rintro e w' ⟨b, c, ys, s, rfl, ho, hy, hs, hsl, hb⟩
  have HR := Lib.hid (show RetLs (z.map (cShare z)) w (.returned (.slice b ys.length c)) w' from ⟨b, c, ys, rfl, ho, hy, hb⟩)
  clear ho hy hs hsl hb
  go_wp2_with fail
  go_ret
  exact HR.out
theorem x_rSoft (a : Option Addr) (cap : Nat) (z : List Nat) (w : World) (h : IsFloats .f32 w a z.length cap z) (h1 : 1 ≤ z.length) (hn : z.length ≤ 8) : Calls Try.prog 237 #[.agg #[], .slice a z.length cap] w (RetLs (z.map (cShare z)) w) := by
  have bal := (Below.refl w.heap.size w).alloc (Nat.le_refl _) (.cells #[] 235)
  have B := Lib.hid bal
  have H := Lib.hid (h.kept bal)
  clear h bal
  go_enter Try.func237, Try.ntmps237
  go_wp2_with fail
  refine (x_shares a cap z _ H.out h1 (by omega)).mono ?_
  intro e w' hr
  have HR := Lib.hid (hr.below B.out rfl)
  obtain ⟨b, c, ys, rfl, ho, he, hb⟩ := hr
  clear ho he hb
  go_wp2_with fail
  go_ret
  exact HR.out
theorem tb2R {w : World} {g : Nat} {t : TypeId} {v0 v1 : Value} (h : Blk w g t #[v0, v1]) : w.cell? ⟨g, 0, none⟩ = some v0 ∧ w.cell? ⟨g, 1, none⟩ = some v1 ∧ g < w.heap.size := ⟨h.cell 0, h.cell 1, h.lt⟩
theorem dense_eq {i o : Nat} {ws bs z : List Nat} {rs : List (List Nat)} (hr : rs = (List.range o).map fun q => (ws.drop (q * i)).take i) : (List.range o).map (fun q => cop .add .f32 (cdot (rs.getD q []) z) (canon .f32 (bs.getD q 0))) = denseV i o ws bs z := by
  refine List.map_congr_left fun q hq => ?_
  have hq := List.mem_range.1 hq
  rw [hr]
  simp [List.getD, hq]
set_option maxRecDepth 20000 in
set_option maxHeartbeats 2000000 in
theorem x_rDense (g a b : Option Addr) (cap cb K cr : Nat) (ls : List FlA) (z bs : List Nat) (w : World) (h : IsFloats .f32 w a z.length cap z) (hb : IsFloats .f32 w b K cb bs) (hr : SSAt w g K cr ls) (hK : K ≤ 8) (hz : ∀ x ∈ ls, x.z.length = z.length) :
    Calls Try.prog 224 #[.agg #[.slice g K cr, .slice b K cb], .slice a z.length cap] w (RetLs ((List.range K).map fun q => cop .add .f32 (cdot ((ls.map FlA.z).getD q []) z) (canon .f32 (bs.getD q 0))) w) := by
  have bal := (Below.refl w.heap.size w).alloc (Nat.le_refl _) (.cells #[.slice g K cr, .slice b K cb] 230)
  have B := Lib.hid bal
  have H := Lib.hid (h.kept bal)
  have HB := Lib.hid (hb.kept bal)
  have HR := Lib.hid (hr.kept bal)
  have KB := Lib.hid (Blk.new w 230 #[.slice g K cr, .slice b K cb])
  have HZ := Lib.hid hz
  obtain ⟨f, hf⟩ : ∃ f : Nat → Nat, f = fun q => cop .add .f32 (cdot ((ls.map FlA.z).getD q []) z) (canon .f32 (bs.getD q 0)) := ⟨_, rfl⟩
  have HFF := Lib.hid hf
  rw [← hf]
  obtain ⟨i0, hi, hz0, hz1, hz2⟩ := info_parts info_f32
  have HI := Lib.hid hi
  have HZ0 := Lib.hid hz0
  have HZ1 := Lib.hid hz1
  have HZ2 := Lib.hid hz2
  have hK0 : (0 : Int) ≤ (K : Int) := by omega
  have hK1 : (K : Int) ≤ 8 := by omega
  clear h hb hr bal hz hf hi hz0 hz1 hz2
  go_enter Try.func224, Try.ntmps224
  go_upto_region 1 with fail
  generalize w.alloc (.cells #[.slice g K cr, .slice b K cb] 230) = w0 at B H HB HR KB ⊢
  obtain ⟨p0, p1, pl⟩ := tb2R KB.out
  go_wp2_with (at_make; refine wpList_make_full _ rfl _ _ 25 rfl w0.heap.size 67 i0 (.float .f32 0) 1 Try.underlying25 HI.out HZ0.out HZ1.out _ _ _ _ K rfl rfl rfl rfl ?c1 ?c2 ?c3 ?_)
  case c1 => rw [HZ2.out]; omega
  case c2 => unfold maxLen; omega
  case c3 => exact Nat.le_refl _
  intro w1 hown hgrow
  have hb1 : Below w0.heap.size w0 w1 := (Below.refl _ _).grown hgrow (Nat.le_refl _) (fun k h => by cases h)
  rw [toList_madeCells_one] at hown
  have HO := Lib.hid hown
  have B1 := Lib.hid hb1
  have KB1 := Lib.hid (KB.out.below hb1)
  clear hown hgrow p0 p1 pl hb1
  obtain ⟨p0, p1, pl⟩ := tb2R KB1.out
  go_wp2_with fail
  clear p0 p1 pl
  go_loopw [15] (fun i wr => FunRel f K w0.heap.size w0 i wr) (fun i _ => K - (intOf i).toNat)
  case atStart => exact ⟨0, [], Nat.zero_le _, rfl, rfl, by simpa [partF] using HO.out, (fun _ h => by cases h), rfl, B1.out⟩
  case round =>
    obtain ⟨k, ys, hk, rfl, hy, ho, ht, he, hbl⟩ := hrel
    have HY := Lib.hid hy
    have HO' := Lib.hid ho
    have HT := Lib.hid ht
    have HE := Lib.hid he
    have HL := Lib.hid hbl
    have hk0 : (0 : Int) ≤ (k : Int) := by omega
    clear hy ho ht he hbl
    by_cases hlt : k < K
    · have hlt' : (k : Int) < (K : Int) := by omega
      obtain ⟨rb, ro, rz, ra, rc, rfl, hrb, hrx, hq, hf⟩ := (HR.out.kept HL.out).one hlt
      have hrz := HZ.out _ (List.mem_of_getElem? hrx)
      dsimp only at hrz
      rcases (HB.out.kept HL.out).2.2.2.2 with h0 | ⟨bb, bo, rfl, hbb, hbc⟩
      · omega
      have hbk := hbc k hlt
      rw [hrz] at hq hf
      have HF := Lib.hid hf
      have HX := Lib.hid (H.out.kept HL.out)
      have KB2 := Lib.hid (KB.out.below HL.out)
      obtain ⟨p0, p1, pl⟩ := tb2R KB2.out
      have HV := Lib.hid (show f k = cop .add .f32 (cdot rz z) (canon .f32 (bs.getD k 0)) by rw [HFF.out]; simp [List.getD, hrx])
      obtain ⟨x, hx⟩ : ∃ x, bs.getD k 0 = x := ⟨_, rfl⟩
      rw [hx] at hbk HV
      obtain ⟨hfz, v0, hv0⟩ := fun_cell hlt HO'.out (Below.refl _ _)
      clear hf hrx hrz hbc hx
      go_upto_region 5 with fail
      have BD := Lib.hid ((Below.refl wr.heap.size wr).drew)
      go_region_with (go_at_call 225; refine (c_dotIn32 ra a z.length rc cap rz z _ (HF.out.kept BD.out) (HX.out.kept BD.out)).mono ?_; rintro e w' ⟨r, nq, hr, hl, rfl, rfl⟩; have HRR := Lib.hid hr; have HRL := Lib.hid hl; clear hr hl)
      all_goals
        go_wp2_with fail
        go_roundw
        case rel =>
          exact fun_step (Nat.le_refl _) HY.out hlt HO'.out HT.out HE.out HL.out (below_drewN (Below.refl _ _) _) (fval_lt .add .f32 r x _) (by rw [canon_fval, HRR.out, HV.out])
        case measure => simp [intOf]; omega
    · obtain rfl : k = K := by omega
      go_wp2_with fail
      go_ret
      exact (fun_end HY.out HO'.out HT.out HE.out HL.out).below B.out rfl
theorem x_norm1 (x g m : Nat) (w : World) (h : w.cell? ⟨g, 0, none⟩ = some (.float .f32 m)) : Calls Try.prog 246 (#[.float .f32 x] ++ #[.pointer (some ⟨g, 0, none⟩)]) w (RetX (cop .sub .f32 (canon .f32 x) (canon .f32 m)) w) := by
  show Calls Try.prog 246 #[.float .f32 x, .pointer (some ⟨g, 0, none⟩)] w _
  go_enter Try.func246, Try.ntmps246
  go_wp2
  go_ret
  exact ⟨_, rfl, canon_fval .sub .f32 x m w, fval_lt .sub .f32 _ _ _, below_drewN (Below.refl _ _) _⟩
theorem x_norm2 (x g m : Nat) (w : World) (h : w.cell? ⟨g, 0, none⟩ = some (.float .f32 m)) : Calls Try.prog 248 (#[.float .f32 x] ++ #[.pointer (some ⟨g, 0, none⟩)]) w (RetX (cop .quo .f32 (canon .f32 x) (canon .f32 m)) w) := by
  show Calls Try.prog 248 #[.float .f32 x, .pointer (some ⟨g, 0, none⟩)] w _
  go_enter Try.func248, Try.ntmps248
  go_wp2
  go_ret
  exact ⟨_, rfl, canon_fval .quo .f32 x m w, fval_lt .quo .f32 _ _ _, below_drewN (Below.refl _ _) _⟩
theorem x_sumOfTwoN (x y : Nat) (wr : World) : Calls Try.prog 249 (#[.float .f32 x, .float .f32 y] ++ #[]) wr (RetX (cop .add .f32 (canon .f32 x) (canon .f32 y)) wr) := by
  show Calls Try.prog 249 #[.float .f32 x, .float .f32 y] wr _
  go_enter Try.func249, Try.ntmps249
  go_wp2
  go_ret
  exact ⟨_, rfl, canon_fval .add .f32 x y wr, fval_lt .add .f32 _ _ _, below_drewN (Below.refl _ _) _⟩
theorem cdot_same {xs ys xs' ys' : List Nat} (h1 : xs.map (canon .f32) = xs'.map (canon .f32)) (h2 : ys.map (canon .f32) = ys'.map (canon .f32)) : cdot xs ys = cdot xs' ys' := by
  have e : ∀ xs ys : List Nat, cdot xs ys = cdot (xs.map (canon .f32)) (ys.map (canon .f32)) := by
    intro xs ys
    unfold cdot
    rw [List.zip_map, List.foldl_map]
    simp only [Prod.map, canon_canon]
  rw [e xs ys, e xs' ys', h1, h2]
theorem normG_canon (z : List Nat) : (normG z).map (canon .f32) = normG z := by
  unfold normG
  rw [List.map_map]
  exact List.map_congr_left fun y _ => cop_canon .sub .f32 _ _
theorem canon_spread : canon .f32 981467136 = 981467136 := by decide +kernel
theorem normR_of {z : List Nat} {sp : Nat} {w : World} (h : canon .f32 sp = cop .quo .f32 (cdot (normG z) (normG z)) (fN z.length)) : cnarrow (csq (cwide (canon .f32 (fval .add .f32 sp 981467136 w)))) = normR z := by
  rw [canon_fval, h, canon_spread]
  rfl
/-- the last two steps of a norm -/
theorem norm_eq {ws bs z ns ps : List Nat} (hw : ws.length = z.length) (hb : bs.length = z.length) (hn : ns.map (canon .f32) = (normG z).map fun x => cop .quo .f32 (canon .f32 x) (normR z)) (hp : ps.map (canon .f32) = (List.range ns.length).map (fun i => cop .mul .f32 (canon .f32 (ns.getD i 0)) (canon .f32 (ws.getD (i % ws.length) 0)))) :
    (List.range ps.length).map (fun i => cop .add .f32 (canon .f32 (ps.getD i 0)) (canon .f32 (bs.getD (i % bs.length) 0))) = normV ws bs z := by
  have hl1 : ns.length = z.length := by have := congrArg List.length hn; simpa [normG] using this
  have hl2 : ps.length = z.length := by have := congrArg List.length hp; simpa [hl1] using this
  unfold normV
  rw [hl2]
  refine List.map_congr_left fun i hi => ?_
  have hi := List.mem_range.1 hi
  rw [Nat.mod_eq_of_lt (by rw [hb]; exact hi)]
  have e1 : canon .f32 (ps.getD i 0) = cop .mul .f32 (canon .f32 (ns.getD i 0)) (canon .f32 (ws.getD i 0)) := by
    rw [← getD_can, hp]
    simp [List.getD, hl1, hi, Nat.mod_eq_of_lt (show i < ws.length by rw [hw]; exact hi)]
  have e2 : canon .f32 (ns.getD i 0) = cop .quo .f32 ((normG z).getD i 0) (normR z) := by
    rw [← getD_can, hn]
    have hg : i < (normG z).length := by simpa [normG] using hi
    have e3 : (normG z)[i] ∈ normG z := List.getElem_mem _
    have e4 : canon .f32 ((normG z)[i]) = (normG z)[i] := by
      have := normG_canon z
      have := congrArg (fun l => l.getD i 0) this
      simpa [List.getD, hg] using this
    simp [List.getD, hg, e4]
  rw [e1, e2]
set_option maxRecDepth 20000 in
set_option maxHeartbeats 4000000 in
theorem x_rNorm (a b d : Option Addr) (cap cb cd : Nat) (z ws bs : List Nat) (w : World) (h : IsFloats .f32 w a z.length cap z) (h' : IsFloats .f32 w b ws.length cb ws) (h2 : IsFloats .f32 w d bs.length cd bs) (h1 : 1 ≤ z.length) (hn : z.length ≤ 8) (hw : ws.length = z.length) (hb : bs.length = z.length) :
    Calls Try.prog 244 #[.agg #[.slice b ws.length cb, .slice d bs.length cd], .slice a z.length cap] w (RetLs (normV ws bs z) w) := by
  have bal := (Below.refl w.heap.size w).alloc (Nat.le_refl _) (.cells #[.slice b ws.length cb, .slice d bs.length cd] 237)
  have B0 := Lib.hid bal
  have H := Lib.hid (h.kept bal)
  have H' := Lib.hid (h'.kept bal)
  have H2 := Lib.hid (h2.kept bal)
  have K0 := Lib.hid (Blk.new w 237 #[.slice b ws.length cb, .slice d bs.length cd])
  have HW := Lib.hid hw
  have HBL := Lib.hid hb
  have hz1 : (z.length : Int) ≤ 8 := by omega
  clear h h' h2 bal hw hb
  go_enter Try.func244, Try.ntmps244
  go_upto_region 1 with fail
  generalize w.alloc (.cells #[.slice b ws.length cb, .slice d bs.length cd] 237) = w0 at B0 H H' H2 K0 ⊢
  go_wp2_with fail
  refine (c_meanOf _ _ _ z _ H.out).mono ?_
  rintro e w1 ⟨mr, n1, hm, hml, rfl, rfl⟩
  have B1 := Lib.hid (below_drewN B0.out n1)
  have H1 := Lib.hid (H.out.kept (below_drewN (Below.refl _ _) n1))
  have H1' := Lib.hid (H'.out.kept (below_drewN (Below.refl _ _) n1))
  have H12 := Lib.hid (H2.out.kept (below_drewN (Below.refl _ _) n1))
  have K1 := Lib.hid (K0.out.below (below_drewN (Below.refl _ _) n1))
  have HM := Lib.hid (show canon .f32 mr = normA z from hm)
  have HML := Lib.hid hml
  clear hm hml B0 H H' H2 K0
  generalize w0.drewN n1 = w1 at B1 H1 H1' H12 K1 ⊢
  go_upto_region 2 with fail
  have ba := (Below.refl w1.heap.size w1).alloc (Nat.le_refl _) (.cells #[.float .f32 mr] 67)
  have M2 := Lib.hid (Blk.new w1 67 #[.float .f32 mr])
  have B2 := Lib.hid (Below.next B1.out ba)
  have G2 := Lib.hid (H1.out.kept ba)
  have G2' := Lib.hid (H1'.out.kept ba)
  have G22 := Lib.hid (H12.out.kept ba)
  have K2 := Lib.hid (K1.out.below ba)
  clear ba B1 H1 H1' H12 K1
  obtain ⟨q2, hq2⟩ : ∃ q, w1.heap.size = q := ⟨_, rfl⟩
  rw [hq2] at M2 ⊢
  generalize w1.alloc (.cells #[.float .f32 mr] 67) = w2 at M2 B2 G2 G2' G22 K2 ⊢
  clear hq2
  go_wp2_with fail
  refine (c_eachOf 246 #[.pointer (some ⟨q2, 0, none⟩)] (fun x => cop .sub .f32 (canon .f32 x) (canon .f32 mr)) _ _ _ z _ G2.out (by omega) (enters_of Try.func246 (by kernel_rfl) (by kernel_rfl)) (fun x wr _ hb => x_norm1 x _ mr wr ((M2.out.below hb).cell 0))).mono ?_
  rintro e w3 ⟨a3, c3, gs, rfl, ho, he, hb⟩
  have hgl : gs.length = z.length := by have := congrArg List.length he; simpa using this
  have HGL := Lib.hid hgl
  have HG := Lib.hid (show gs.map (canon .f32) = normG z by rw [he, map_rangeF z (fun x => cop .sub .f32 (canon .f32 x) (canon .f32 mr)), HM.out]; rfl)
  have B3 := Lib.hid (Below.next B2.out hb)
  have O3 := Lib.hid ho.isFloats
  have G3' := Lib.hid (G2'.out.kept hb)
  have G32 := Lib.hid (G22.out.kept hb)
  have K3 := Lib.hid (K2.out.below hb)
  have hgm : (gs.length : Int) ≤ 8 := by omega
  clear ho he hb hgl B2 G2 G2' G22 K2 M2
  go_wp2_with fail
  refine (c_dotIn32 a3 a3 gs.length c3 c3 gs gs _ O3.out O3.out).mono ?_
  rintro e w4 ⟨dr, n4, hd, hdl, rfl, rfl⟩
  have B4 := Lib.hid (below_drewN B3.out n4)
  have O4 := Lib.hid (O3.out.kept (below_drewN (Below.refl _ _) n4))
  have G4' := Lib.hid (G3'.out.kept (below_drewN (Below.refl _ _) n4))
  have G42 := Lib.hid (G32.out.kept (below_drewN (Below.refl _ _) n4))
  have K4 := Lib.hid (K3.out.below (below_drewN (Below.refl _ _) n4))
  have HD := Lib.hid hd
  have HDL := Lib.hid hdl
  clear hd hdl B3 O3 G3' G32 K3
  generalize w3.drewN n4 = w4 at B4 O4 G4' G42 K4 ⊢
  go_upto_region 4 with fail
  obtain ⟨sp, hsp⟩ : ∃ s, fval .quo .f32 dr (floatOfInt .f32 (gs.length : Int)) w4 = s := ⟨_, rfl⟩
  have HSP := Lib.hid (show canon .f32 sp = cop .quo .f32 (cdot (normG z) (normG z)) (fN z.length) by
    rw [← hsp, canon_fval, canon_fN, HD.out, HGL.out, cdot_same (HG.out.trans (normG_canon z).symm) (HG.out.trans (normG_canon z).symm)])
  rw [hsp]
  have B5 := Lib.hid (below_drewN B4.out (fdr .quo .f32 dr (floatOfInt .f32 (gs.length : Int))))
  have O5 := Lib.hid (O4.out.kept (below_drewN (Below.refl _ _) (fdr .quo .f32 dr (floatOfInt .f32 (gs.length : Int)))))
  have G5' := Lib.hid (G4'.out.kept (below_drewN (Below.refl _ _) (fdr .quo .f32 dr (floatOfInt .f32 (gs.length : Int)))))
  have G52 := Lib.hid (G42.out.kept (below_drewN (Below.refl _ _) (fdr .quo .f32 dr (floatOfInt .f32 (gs.length : Int)))))
  have K5 := Lib.hid (K4.out.below (below_drewN (Below.refl _ _) (fdr .quo .f32 dr (floatOfInt .f32 (gs.length : Int)))))
  clear hsp B4 O4 G4' G42 K4
  generalize w4.drewN (fdr .quo .f32 dr (floatOfInt .f32 (gs.length : Int))) = w5 at B5 O5 G5' G52 K5 ⊢
  go_wp2_with fail
  refine (c_iRootNumber _ _).mono ?_
  rintro e w6 ⟨rr, n6, hr, hrl, rfl, rfl⟩
  have HR := Lib.hid (hr.trans (normR_of HSP.out))
  have HRL := Lib.hid hrl
  have bd := (below_drewN (below_drewN (Below.refl w5.heap.size w5) (fdr .add .f32 sp 981467136)) n6)
  have B6 := Lib.hid (Below.next B5.out bd)
  have O6 := Lib.hid (O5.out.kept bd)
  have G6' := Lib.hid (G5'.out.kept bd)
  have G62 := Lib.hid (G52.out.kept bd)
  have K6 := Lib.hid (K5.out.below bd)
  clear hr hrl bd B5 O5 G5' G52 K5
  generalize (w5.drewN (fdr .add .f32 sp 981467136)).drewN n6 = w6 at B6 O6 G6' G62 K6 ⊢
  go_upto_region 5 with fail
  have ba := (Below.refl w6.heap.size w6).alloc (Nat.le_refl _) (.cells #[.float .f32 rr] 67)
  have M7 := Lib.hid (Blk.new w6 67 #[.float .f32 rr])
  have B7 := Lib.hid (Below.next B6.out ba)
  have O7 := Lib.hid (O6.out.kept ba)
  have G7' := Lib.hid (G6'.out.kept ba)
  have G72 := Lib.hid (G62.out.kept ba)
  have K7 := Lib.hid (K6.out.below ba)
  clear ba B6 O6 G6' G62 K6
  obtain ⟨q7, hq7⟩ : ∃ q, w6.heap.size = q := ⟨_, rfl⟩
  rw [hq7] at M7 ⊢
  generalize w6.alloc (.cells #[.float .f32 rr] 67) = w7 at M7 B7 O7 G7' G72 K7 ⊢
  clear hq7
  go_wp2_with fail
  refine (c_eachOf 248 #[.pointer (some ⟨q7, 0, none⟩)] (fun x => cop .quo .f32 (canon .f32 x) (canon .f32 rr)) _ _ _ gs _ O7.out (by omega) (enters_of Try.func248 (by kernel_rfl) (by kernel_rfl)) (fun x wr _ hb => x_norm2 x _ rr wr ((M7.out.below hb).cell 0))).mono ?_
  rintro e w8 ⟨a8, c8, ns, rfl, ho, he, hb⟩
  have hnl : ns.length = gs.length := by have := congrArg List.length he; simpa using this
  have HNL := Lib.hid hnl
  have HN := Lib.hid (show ns.map (canon .f32) = (normG z).map fun x => cop .quo .f32 (canon .f32 x) (normR z) by
    rw [he, map_rangeF gs (fun x => cop .quo .f32 (canon .f32 x) (canon .f32 rr)), HR.out, ← HG.out, List.map_map]
    exact List.map_congr_left fun y _ => by simp [canon_canon])
  have B8 := Lib.hid (Below.next B7.out hb)
  have O8 := Lib.hid ho.isFloats
  have G8' := Lib.hid (G7'.out.kept hb)
  have G82 := Lib.hid (G72.out.kept hb)
  have K8 := Lib.hid (K7.out.below hb)
  have HW1 := Lib.hid (show 1 ≤ ws.length ∧ ws.length ≤ 8 by have := HW.out; omega)
  have HB1 := Lib.hid (show 1 ≤ bs.length ∧ bs.length ≤ 8 by have := HBL.out; omega)
  have HN1 := Lib.hid (show ns.length ≤ 8 by have := HNL.out; have := HGL.out; omega)
  clear ho he hb hnl B7 O7 G7' G72 K7 M7
  obtain ⟨p0, p1, pl⟩ := tb2R K8.out
  go_upto_region 6 with fail
  have BD := Lib.hid ((Below.refl w8.heap.size w8).drew)
  go_region_held3 (fun w' => w'.cell? ⟨w.heap.size, 0, none⟩ = some (.slice b ws.length cb) ∧ w'.cell? ⟨w.heap.size, 1, none⟩ = some (.slice d bs.length cd)) (go_keep)
    (first
      | (go_at_call 231
         refine (c_combineLists 249 #[] (fun x y => cop .add .f32 (canon .f32 x) (canon .f32 y)) a9 d ps.length c9 bs.length cd ps bs _ O9.out G92.out (by have := HP1.out; omega) HB1.out.1 (by have := HB1.out; omega) (enters_of Try.func249 (by kernel_rfl) (by kernel_rfl)) (fun x y wr hb => x_sumOfTwoN x y wr)).mono ?_
         rintro e w10 ⟨a10, c10, ys, rfl, ho10, he10, hb10⟩
         have HRES := Lib.hid (show RetLs (normV ws bs z) w (.returned (.slice a10 ys.length c10)) w10 from ⟨a10, c10, ys, rfl, ho10.base B9.out.size, he10.trans (norm_eq HW.out HBL.out HN.out HP.out), Below.next B9.out hb10⟩)
         have K10 := Lib.hid (K9.out.below hb10)
         clear ho10 he10 hb10 p0 p1 pl
         obtain ⟨p0, p1, pl⟩ := tb2R K10.out)
      | (go_at_call 231
         refine (c_combineLists 232 #[] (fun x y => cop .mul .f32 (canon .f32 x) (canon .f32 y)) a8 b ns.length c8 ws.length cb ns ws _ (O8.out.kept BD.out) (G8'.out.kept BD.out) (by have := HN1.out; omega) HW1.out.1 (by have := HW1.out; omega) (enters_of Try.func232 (by kernel_rfl) (by kernel_rfl)) (fun x y wr hb => x_productOfTwo x y wr)).mono ?_
         rintro e w9 ⟨a9, c9, ps, rfl, ho9, he9, hb9⟩
         have hbb : Below w8.heap.size w8 w9 := (Below.refl w8.heap.size w8).drew.trans hb9
         have B9 := Lib.hid (Below.next B8.out hbb)
         have O9 := Lib.hid ho9.isFloats
         have HP := Lib.hid he9
         have G92 := Lib.hid (G82.out.kept hbb)
         have K9 := Lib.hid (K8.out.below hbb)
         have HP1 := Lib.hid (show ps.length ≤ 8 by have h1 := congrArg List.length he9; have h2 := HN1.out; simp at h1; omega)
         clear ho9 he9 hb9 hbb p0 p1 pl
         obtain ⟨p0, p1, pl⟩ := tb2R K9.out))
  all_goals
    go_wp2_with fail
    go_ret
    exact HRES.out
end Go.Proofs.Ytpdgpoonblldgaa
