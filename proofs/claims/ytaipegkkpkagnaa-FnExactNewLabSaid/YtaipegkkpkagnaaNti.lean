/-
  NewTraining: both sides. Conditions: the cells can be read, the kind is an int64.
-/
import Derived.Test.YtaipegkkpkagnaaTWithP
import Derived.Test.YtaipegkkpkagnaaNts
import Derived.Test.YtaipegkkpkagnaaLike
import Derived.Deep.RegionLaw
import Derived.Test.YtaipegkkpkagnaaSSz
import Derived.Test.YtaipegkkpkagnaaFun
namespace Go.Proofs.Ytaipegkkpkagnaa
open Go.RowKit Go.Deep Go.WideShapes Go.ChangeShapes
set_option linter.unusedVariables false
attribute [local go_sem] World.drewN_zero

def RetMc (ps : List LayP) (w : World) (e : Ending) (w' : World) : Prop :=
  ∃ gs cap ys, e = .returned (.agg #[.slice gs (List.length ys) cap]) ∧ OwnL w' w.heap.size [.sl 113 5 ys.length gs cap (laysC ys)] ∧ (blL [.sl 113 5 ys.length gs cap (laysC ys)]).Nodup ∧ ys.map (fun x => x.p.can) = ps ∧ Below w.heap.size w w'
theorem storec1 {w : World} {g : Nat} {t : TypeId} {x0 y0 : Value} (h : Blk w g t #[x0]) : Blk (w.setCell ⟨g, 0, none⟩ y0) g t #[y0] ∧ w.grownBy (w.setCell ⟨g, 0, none⟩ y0) (some g) := by
  constructor
  · unfold Blk at h ⊢
    simp [World.setCell, Array.getElem?_modify, h]
  · exact ⟨rfl, rfl, rfl, by simp, fun k _ hk => Below.heap_setCell w ⟨g, 0, none⟩ y0 k (fun e => hk (by simp [e]))⟩
set_option maxRecDepth 20000 in
set_option maxHeartbeats 4000000 in
theorem c_copiedM (g : Option Addr) (c n : Nat) (ls : List LayA) (w : World) (h : LaysAt w g n c ls) (hv : vMod (ls.map LayA.p) = true) :
    Calls Try.prog 179 #[.agg #[.slice g n c]] w (RetMc ((ls.map LayA.p).map LayP.can) w) := by
  obtain ⟨v1, v2, v3⟩ := vMod_parts hv
  have hn6 : n ≤ 6 := by rw [← h.1]; simpa using v2
  obtain ⟨k1, k2, bb⟩ := two_boxes w 46 #[.slice g n c] #[.slice none 0 0]
  have hvw : vWithParams (ls.map LayA.p) (parOf (ls.map LayA.p)) = (true, (ls.map LayA.p).map LayP.can) := by
    unfold vWithParams okWith
    rw [if_pos (by rw [hv, Bool.true_and]; exact decide_eq_true rfl), withP_self]
  have HP := Lib.hid (fun W (hb : Below w.heap.size w W) => c_params g c n ls W (h.kept hb) v3 hn6)
  have HW := fun W a cz (hb : Below w.heap.size w W) hz => t_iWithParams (ls.map LayA.p) n g c ls (parOf (ls.map LayA.p)) a cz W rfl (h.kept hb) hz
  simp only [hvw] at HW
  obtain ⟨Z, hZ⟩ : ∃ Z, parOf (ls.map LayA.p) = Z := ⟨_, rfl⟩
  rw [hZ] at HP HW
  have HW' := Lib.hid HW
  have K0 := Lib.hid k1
  have K1 := Lib.hid k2
  have B := Lib.hid bb
  obtain ⟨PS, hPS⟩ : ∃ PS, (ls.map LayA.p).map LayP.can = PS := ⟨_, rfl⟩
  rw [hPS] at HW'
  rw [hPS]
  clear hvw hZ HW k1 k2 bb v1 v2 v3 hn6 h hv hPS
  go_enter Try.func179, Try.ntmps179
  go_wp2_with fail
  generalize (w.alloc (.cells #[.slice g n c] 46)).alloc (.cells #[.slice none 0 0] 46) = w1 at K0 K1 B ⊢
  have bd : Below w1.heap.size w1 w1.drew := (Below.refl _ _).drew
  have K0d := Lib.hid (K0.out.below bd)
  have K1d := Lib.hid (K1.out.below bd)
  have Bd := Lib.hid (Below.next B.out bd)
  clear bd
  obtain ⟨p0, pl⟩ := tb1 K0d.out
  have nn := World.new_ne w1 ⟨w.heap.size, 0, none⟩ (K0.out.cell 0)
  have c0 : w1.cell? ⟨w.heap.size, 0, none⟩ = some (.slice g n c) := K0.out.cell 0
  have ALd := Lib.hid (((Below.refl w1.heap.size w1).alloc (Nat.le_refl _) (.cells #[.slice none 0 0] 46)).drew)
  have KTd := Lib.hid ((Blk.new w1 46 #[.slice none 0 0]).below ((Below.refl (w1.alloc (.cells #[.slice none 0 0] 46)).heap.size (w1.alloc (.cells #[.slice none 0 0] 46))).drew))
  go_region_held3 (fun w' => w'.cell? ⟨w.heap.size, 0, none⟩ = some (.slice g n c)) (go_keep)
    (first
      | (go_at_call 177
         refine (HP.out _ (Below.next B.out ALd.out)).mono ?_
         rintro e w2 ⟨za, zc, rfl, ho, bl⟩
         have Z2 := Lib.hid ho.isFloats
         have K02 := Lib.hid ((K0.out.below ALd.out).below bl)
         have K12 := Lib.hid ((K1.out.below ALd.out).below bl)
         have KT2 := Lib.hid (KTd.out.below bl)
         have B2 := Lib.hid (Below.next (Below.next B.out ALd.out) bl)
         clear bl ho p0 pl
         obtain ⟨p0, pl⟩ := tb1 K02.out
         obtain ⟨t0, tl⟩ := tb1 KT2.out
         have tf := KT2.out.frozen 0)
      | (go_at_call 177
         refine (HP.out _ Bd.out).mono ?_
         rintro e w2 ⟨za, zc, rfl, ho, bl⟩
         have Z2 := Lib.hid ho.isFloats
         have K02 := Lib.hid (K0d.out.below bl)
         have K12 := Lib.hid (K1d.out.below bl)
         have B2 := Lib.hid (Below.next Bd.out bl)
         clear bl ho p0 pl
         obtain ⟨p0, pl⟩ := tb1 K02.out)
      | (go_at_call 206
         refine (HW'.out _ za zc B2.out (Z2.out)).mono ?_
         rintro e w3 ⟨gs, cap, ys, rfl, ho, hnd, hyp, bl⟩
         have ND := Lib.hid hnd
         have HYP := Lib.hid hyp
         have KT3 := Lib.hid (KT2.out.below bl)
         have A3 := Lib.hid (show w1.heap.size < w2.heap.size from KT2.out.lt)
         have hne : ¬ w.heap.size = w1.heap.size := by have := K0.out.lt; omega
         have hne' : ¬ w1.heap.size = w.heap.size := by omega
         have O3 := Lib.hid ho
         have S2 := Lib.hid (show w.heap.size + 1 < w2.heap.size from K12.out.lt)
         have K03 := Lib.hid (K02.out.below bl)
         have K13 := Lib.hid (K12.out.below bl)
         have B3 := Lib.hid (Below.next B2.out bl)
         obtain ⟨t0, tl⟩ := tb1 KT3.out
         have tf := KT3.out.frozen 0
         clear bl ho hnd hyp p0 pl
         obtain ⟨p0, pl⟩ := tb1 K03.out
         obtain ⟨s0, sl⟩ := tb1 K13.out
         have f0 := K13.out.frozen 0)
      | (go_at_call 206
         refine (HW'.out _ za zc B2.out (Z2.out)).mono ?_
         rintro e w3 ⟨gs, cap, ys, rfl, ho, hnd, hyp, bl⟩
         have ND := Lib.hid hnd
         have HYP := Lib.hid hyp
         have O3 := Lib.hid ho
         have S2 := Lib.hid (show w.heap.size + 1 < w2.heap.size from K12.out.lt)
         have K03 := Lib.hid (K02.out.below bl)
         have K13 := Lib.hid (K12.out.below bl)
         have B3 := Lib.hid (Below.next B2.out bl)
         clear bl ho hnd hyp p0 pl
         obtain ⟨p0, pl⟩ := tb1 K03.out
         obtain ⟨s0, sl⟩ := tb1 K13.out
         have f0 := K13.out.frozen 0)
      | (go_at_call 206
         refine (HW'.out _ za zc (Below.next B2.out ((Below.refl w2.heap.size w2).alloc (Nat.le_refl _) (.cells #[.slice none 0 0] 46))) (Z2.out.kept ((Below.refl w2.heap.size w2).alloc (Nat.le_refl _) (.cells #[.slice none 0 0] 46)))).mono ?_
         rintro e w3 ⟨gs, cap, ys, rfl, ho, hnd, hyp, bl⟩
         have ND := Lib.hid hnd
         have HYP := Lib.hid hyp
         have al := (Below.refl w2.heap.size w2).alloc (Nat.le_refl _) (.cells #[.slice none 0 0] 46)
         have KT3 := Lib.hid ((Blk.new w2 46 #[.slice none 0 0]).below bl)
         have O3 := Lib.hid ho
         have S2 := Lib.hid (show w.heap.size + 1 < w2.heap.size from K12.out.lt)
         have K03 := Lib.hid ((K02.out.below al).below bl)
         have K13 := Lib.hid ((K12.out.below al).below bl)
         have B3 := Lib.hid (Below.next (Below.next B2.out al) bl)
         clear al
         have hne : ¬ w.heap.size = w2.heap.size := by have := S2.out; omega
         have hne' : ¬ w2.heap.size = w.heap.size := by omega
         obtain ⟨t0, tl⟩ := tb1 KT3.out
         have tf := KT3.out.frozen 0
         clear bl ho hnd hyp p0 pl
         obtain ⟨p0, pl⟩ := tb1 K03.out
         obtain ⟨s0, sl⟩ := tb1 K13.out
         have f0 := K13.out.frozen 0))
  · have al := (Below.refl w3.heap.size w3).alloc (Nat.le_refl _) (.cells #[.slice gs ys.length cap] 46)
    have KTf := Lib.hid (Blk.new w3 46 #[.slice gs ys.length cap])
    have K1f := Lib.hid (K13.out.below al)
    have Of := Lib.hid (OwnL.kept O3.out al)
    have Bf := Lib.hid (Below.next B3.out al)
    clear al
    generalize w3.alloc (.cells #[.slice gs ys.length cap] 46) = w4 at KTf K1f Of Bf ⊢
    clear p0 pl s0 sl f0
    obtain ⟨s0, sl⟩ := tb1 K1f.out
    have f0 := K1f.out.frozen 0
    obtain ⟨t0, tl⟩ := tb1 KTf.out
    go_wp2_with fail
    refine bodyPost_ret (v := .agg #[.slice gs ys.length cap]) (by simp [results, Try.results179, go_sem, s0]) rfl ?_
    exact ⟨gs, cap, ys, rfl, OwnL.base (show w.heap.size ≤ _ by have := S2.out; (try simp); omega) _ (Of.out.far (p := ⟨w.heap.size + 1, 0, none⟩) (by have := S2.out; (try simp); omega) _), ND.out, HYP.out, Bf.out.setCell (p := ⟨w.heap.size + 1, 0, none⟩) (Nat.le_succ _) _⟩
  · obtain ⟨hk, hg⟩ := storec1 KT3.out (y0 := .slice gs ys.length cap)
    have KTf := Lib.hid hk
    have K1f := Lib.hid (K13.out.off hg (by have := S2.out; omega))
    have Of := Lib.hid (O3.out.offg hg (by simp))
    have Bf := Lib.hid (Below.at_ B3.out hg (by have := S2.out; omega))
    clear hk hg
    generalize w3.setCell ⟨w2.heap.size, 0, none⟩ (.slice gs ys.length cap) = w4 at KTf K1f Of Bf ⊢
    clear p0 pl s0 sl f0 t0 tl tf hne hne'
    obtain ⟨s0, sl⟩ := tb1 K1f.out
    have f0 := K1f.out.frozen 0
    obtain ⟨t0, tl⟩ := tb1 KTf.out
    go_wp2_with fail
    refine bodyPost_ret (v := .agg #[.slice gs ys.length cap]) (by simp [results, Try.results179, go_sem, s0]) rfl ?_
    exact ⟨gs, cap, ys, rfl, OwnL.base (show w.heap.size ≤ _ by have := S2.out; (try simp); omega) _ (Of.out.far (p := ⟨w.heap.size + 1, 0, none⟩) (by have := S2.out; (try simp); omega) _), ND.out, HYP.out, Bf.out.setCell (p := ⟨w.heap.size + 1, 0, none⟩) (Nat.le_succ _) _⟩
  · obtain ⟨hk, hg⟩ := storec1 KT3.out (y0 := .slice gs ys.length cap)
    have KTf := Lib.hid hk
    have K1f := Lib.hid (K13.out.off hg (by have := K1.out.lt; omega))
    have Of := Lib.hid (O3.out.offg hg A3.out)
    have Bf := Lib.hid (Below.at_ B3.out hg (by have := K1.out.lt; omega))
    clear hk hg
    generalize w3.setCell ⟨w1.heap.size, 0, none⟩ (.slice gs ys.length cap) = w4 at KTf K1f Of Bf ⊢
    clear p0 pl s0 sl f0 t0 tl tf hne hne'
    obtain ⟨s0, sl⟩ := tb1 K1f.out
    have f0 := K1f.out.frozen 0
    obtain ⟨t0, tl⟩ := tb1 KTf.out
    go_wp2_with fail
    refine bodyPost_ret (v := .agg #[.slice gs ys.length cap]) (by simp [results, Try.results179, go_sem, s0]) rfl ?_
    exact ⟨gs, cap, ys, rfl, OwnL.base (show w.heap.size ≤ _ by have := S2.out; (try simp); omega) _ (Of.out.far (p := ⟨w.heap.size + 1, 0, none⟩) (by have := S2.out; (try simp); omega) _), ND.out, HYP.out, Bf.out.setCell (p := ⟨w.heap.size + 1, 0, none⟩) (Nat.le_succ _) _⟩


/-- a list of lists that the call made, with any capacities -/
def RetSSc (ps : List (List Nat)) (n : Nat) (w : World) (e : Ending) (w' : World) : Prop :=
  ∃ (gs : Option Addr) (cp : Nat) (ys : List FlA), e = .returned (.slice gs n cp) ∧ ys.length = n ∧ ys.map FlA.z = ps ∧ OwnL w' w.heap.size [.sl 25 1 n gs cp (ssC ys)] ∧ (blL [.sl 25 1 n gs cp (ssC ys)]).Nodup ∧ Below w.heap.size w w'
set_option maxRecDepth 20000 in
set_option maxHeartbeats 1000000 in
theorem c_copySS (g : Option Addr) (cap n : Nat) (ls : List FlA) (w : World) (h : SSAt w g n cap ls) (hl : n + cntSS ls ≤ 1048576) :
    Calls Try.prog 180 #[.slice g n cap, .func (.func 120) #[] #[]] w (RetSSc (ls.map FlA.z) n w) := by
  have hnm : n ≤ maxLen := by have h1 := h.2.1; have h2 := h.2.2.1; omega
  have hn1 : n ≤ 1048576 := by omega
  obtain ⟨i0, hi, hz0, hz1, hz2⟩ := info_parts info_ss
  have HI := Lib.hid hi
  have HZ0 := Lib.hid hz0
  have HZ1 := Lib.hid hz1
  have HZ2 := Lib.hid hz2
  have H := Lib.hid h
  have HL := Lib.hid hl
  have HM := Lib.hid hnm
  clear h hi hz0 hz1 hz2 hl hnm
  go_enter Try.func180, Try.ntmps180
  go_wp2_with (at_make; refine wpList_make_full _ rfl _ _ 33 rfl w.heap.size 25 i0 (.slice none 0 0) 1 Try.underlying33 HI.out HZ0.out HZ1.out _ _ _ _ n rfl rfl rfl rfl ?c1 ?c2 ?c3 ?_)
  case c1 => rw [HZ2.out]; omega
  case c2 => exact HM.out
  case c3 => exact Nat.le_refl _
  intro w1 hown hgrow
  have hb1 : Below w.heap.size w w1 := (Below.refl _ _).grown hgrow (Nat.le_refl _) (fun k h => by cases h)
  have HO := Lib.hid hown
  have HB := Lib.hid hb1
  clear hown hb1 hgrow
  go_wp2_with fail
  go_loopw [13] (fun iv wr => ToSSRel ls n w.heap.size w iv wr) (fun iv _ => n - (intOf iv).toNat)
  case atStart => exact ⟨0, [], _, Nat.zero_le _, rfl, rfl, rfl, HO.out, rfl, by simp [ssC, OwnL], by simp [ssC, blL], HB.out⟩
  case round =>
    obtain ⟨k, ys, cur, hk, rfl, hyl, hyp, ho, htk, how, hnd, hb⟩ := hrel
    have HYL := Lib.hid hyl
    have HYP := Lib.hid hyp
    have HO' := Lib.hid ho
    have HT := Lib.hid htk
    have HW := Lib.hid how
    have HND := Lib.hid hnd
    have HB' := Lib.hid hb
    have hk0 : (0 : Int) ≤ (k : Int) := by omega
    clear hyl hyp ho htk how hnd hb
    by_cases hlt : k < n
    · obtain ⟨b, off, z, a, c, rfl, hbk, hx, q, f⟩ := (H.out.kept HB'.out).one hlt
      have hlt' : (k : Int) < (n : Int) := by omega
      have hst := cntSS_take hx
      dsimp only at hst
      have htl := cntSS_le ls (k + 1)
      have z0 : z.length ≤ 1048576 := by have := HL.out; omega
      have HX := Lib.hid hx
      have HF := Lib.hid f
      have Z0 := Lib.hid z0
      clear f hx hst htl z0
      go_wp2_with fail
      refine (c_copyOf a z.length c z _ HF.out Z0.out).mono ?_
      rintro e w2 ⟨a0, cc, rfl, o0, bl⟩
      have ho2 := row_kept HO'.out bl
      obtain ⟨z0, v0, y0⟩ := row_cell ho2 k (by omega)
      have O2 := Lib.hid ho2
      have OO := Lib.hid (show OwnL w2 wr.heap.size [(FlA.mk z a0 cc).cl] by simp only [OwnL, FlA.cl, flC_own, and_true]; exact o0)
      have BL := Lib.hid bl
      clear ho2 o0 bl q
      go_wp2_with fail
      clear z0 y0
      go_roundw
      case rel =>
        have hlt0 : w.heap.size < wr.heap.size := (HO'.out.lt _ rfl).2
        obtain ⟨cur', hr, ht⟩ := store1 O2.out hlt (v0 := .slice a0 z.length cc)
        have how2 : OwnL w2 (w.heap.size + 1) (ssC (ys ++ [⟨z, a0, cc⟩])) := by
          rw [ssC_snoc, OwnL_append]
          exact ⟨OwnL.kept HW.out BL.out, OwnL.base (by omega) _ OO.out⟩
        refine ⟨k + 1, ys ++ [⟨z, a0, cc⟩], cur', by omega, by go_num, by simp [HYL.out], ?_, hr, ?_, how2.far (p := ⟨w.heap.size, _, none⟩) (by simp) _, ?_,
          (HB'.out.trans (BL.out.mono HB'.out.size)).setCell (p := ⟨w.heap.size, _, none⟩) (Nat.le_refl _) _⟩
        · rw [List.take_add_one, HX.out, List.map_append, List.map_append, HYP.out]
          rfl
        · rw [ht, HT.out, List.map_append]
          rfl
        · rw [ssC_snoc, blL_append]
          refine List.nodup_append.2 ⟨HND.out, ?_, ?_⟩
          · simp only [blL, FlA.cl, flC_bl, List.append_nil]
            cases blk a0 <;> simp
          · intro x hx y hy e
            subst e
            exact apart_new HW.out OO.out x hx hy
      case measure => simp [intOf]; omega
    · obtain rfl : k = n := by omega
      go_wp2_with fail
      go_ret
      have ho := HO'.out
      have hcur : cur = ys.map FlA.v := by
        rw [← HT.out, List.take_of_length_le (by have := ho.1; omega)]
      rw [hcur] at ho
      have hlt : w.heap.size < wr.heap.size := (ho.lt _ rfl).2
      refine ⟨some ⟨w.heap.size, 0, none⟩, k, ys, rfl, HYL.out, by rw [HYP.out]; rw [← H.out.1, List.take_length], ?_, ?_, HB'.out⟩
      · simp only [OwnL, Cl.Own, and_true, vs_ssC]
        exact ⟨ho, OwnL.base (by omega) _ HW.out⟩
      · simp only [blL, Cl.bl, List.append_nil]
        refine List.nodup_append.2 ⟨by simp [blk], HND.out, ?_⟩
        intro x hx y hy e
        have := (OwnL.lt _ HW.out y hy).1
        simp [blk] at hx
        omega

open Go.RowKit Go.Deep Go.WideShapes Go.ChangeShapes Go.Maps

/-- what NewTraining answers -/
def RetNew (k : Int) (ps : List LayP) (sd : Int) : World → Ending → World → Prop :=
  if okNew k ps sd = true then RetNt true (ps.map LayP.can) (zeros k ps) sd oneF else RetNt false [] [] 0 0
theorem retNew_no {k : Int} {ps : List LayP} {sd : Int} (h : okNew k ps sd = false) : RetNew k ps sd = RetNt false [] [] 0 0 := by unfold RetNew; rw [h]; rfl
theorem retNew_yes {k : Int} {ps : List LayP} {sd : Int} (h : okNew k ps sd = true) : RetNew k ps sd = RetNt true (ps.map LayP.can) (zeros k ps) sd oneF := by unfold RetNew; rw [h]; rfl
theorem vTrs_new {k : Int} {q : TrsA} (h1 : isKind k = true) (h2 : vMod q.ps = true) (h3 : q.st = 0) (h4 : fitS k q.ss ((laySum q.ps : Nat) : Int) = true) : vTrs k q = okNew k q.ps q.sd := by
  unfold vTrs okNew
  rw [h1, h2, h3, h4]
  simp [isStepV]
theorem okNew_a {k : Int} {ps : List LayP} {sd : Int} (h : vMod ps = false) : okNew k ps sd = false := by simp [okNew, h]
theorem okNew_b {k : Int} {ps : List LayP} {sd : Int} (h : isKind k = false) : okNew k ps sd = false := by simp [okNew, h]


theorem cellsN (q : TrsA) : ∃ a n c b m d st sd sc, q.cells = #[.slice a n c, .slice b m d, .int .i64 st, .int .i64 sd, .float .f32 sc] := ⟨_, _, _, _, _, _, _, _, _, rfl⟩
set_option maxRecDepth 20000 in
set_option maxHeartbeats 4000000 in
theorem c_copiedT (q : TrsA) (w : World) (h : TrsAt w q) (hv : vMod q.ps = true) (hS : q.ss.length + cntSS q.ss ≤ 1048576) :
    Calls Try.prog 138 #[.agg q.cells] w fun e w' => ∃ r : TrsA, e = .returned (.agg r.cells) ∧ r.ls.map (fun x => x.p.can) = q.ps.map LayP.can ∧ r.zs = q.zs ∧ r.st = q.st ∧ r.sd = q.sd ∧ r.sc = q.sc ∧ TrsOwn w' w.heap.size r ∧ r.bl.Nodup ∧ Below w.heap.size w w' := by
  obtain ⟨g, c, ls, g', c', ss, st, sd, sc⟩ := q
  simp only [TrsAt] at h hS
  obtain ⟨a1, a2, a3⟩ := h
  have hv' : vMod (ls.map LayA.p) = true := hv
  unfold TrsA.cells TrsA.ps TrsA.zs
  simp only
  obtain ⟨k1, k2, bb⟩ := two_boxes w 48 #[.slice g ls.length c, .slice g' ss.length c', .int .i64 st, .int .i64 sd, .float .f32 sc] #[.slice none 0 0, .slice none 0 0, .int .i64 0, .int .i64 0, .float .f32 0]
  have K0 := Lib.hid k1
  have K1 := Lib.hid k2
  have B := Lib.hid bb
  have A3 := Lib.hid a3
  have HM := Lib.hid (fun W (hb : Below w.heap.size w W) => c_copiedM g c ls.length ls W (a1.kept hb) hv')
  have HS := Lib.hid (fun W (hb : Below w.heap.size w W) => c_copySS g' c' ss.length ss W (a2.kept hb) hS)
  clear a1 a2 a3 hv hv' hS k1 k2 bb
  go_enter Try.func138, Try.ntmps138
  go_wp2_with fail
  generalize (w.alloc (.cells #[.slice g ls.length c, .slice g' ss.length c', .int .i64 st, .int .i64 sd, .float .f32 sc] 48)).alloc (.cells #[.slice none 0 0, .slice none 0 0, .int .i64 0, .int .i64 0, .float .f32 0] 48) = w1 at K0 K1 B ⊢
  refine (HM.out _ B.out).mono ?_
  rintro e w2 ⟨gs, cap, ys, rfl, ho, hnd, hyp, bl⟩
  have S1 := Lib.hid (show w.heap.size + 1 < w1.heap.size from K1.out.lt)
  have ND := Lib.hid hnd
  have HYP := Lib.hid hyp
  have O2 := Lib.hid ho
  have K02 := Lib.hid (K0.out.below bl)
  have K12 := Lib.hid (K1.out.below bl)
  have B2 := Lib.hid (Below.next B.out bl)
  clear bl ho hnd hyp K0 K1 B
  obtain ⟨p0, p1, p2, p3, p4, p5⟩ := tbt5 K02.out
  obtain ⟨e0, e1, e2, e3, e4⟩ := tbtf5 K02.out
  go_wp2_with fail
  obtain ⟨hk, hg⟩ := storet1 K02.out (y0 := .slice gs ys.length cap)
  have K03 := Lib.hid hk
  have O3 := Lib.hid (O2.out.offg hg (by have := S1.out; omega))
  have K13 := Lib.hid (K12.out.off hg (by omega))
  have B3 := Lib.hid (Below.at_ B2.out hg (Nat.le_refl _))
  clear hk hg p0 p1 p2 p3 p4 p5 e0 e1 e2 e3 e4 K02 K12 B2 O2
  generalize w2.setCell ⟨w.heap.size, 0, none⟩ (.slice gs ys.length cap) = w3 at K03 O3 K13 B3 ⊢
  refine (HS.out _ B3.out).mono ?_
  rintro e w4 ⟨gs2, cp2, zs, rfl, hzl, hzp, ho, hnd, bl⟩
  have S3 := Lib.hid (show w.heap.size + 1 < w3.heap.size from K13.out.lt)
  have ND2 := Lib.hid hnd
  have HZL := Lib.hid hzl
  have HZP := Lib.hid hzp
  have OZ4 := Lib.hid ho
  have O4 := Lib.hid (OwnL.kept O3.out bl)
  have AP := Lib.hid (fun x hx y hy (e : x = y) => by subst e; exact apart_new O3.out ho x hx hy)
  have K04 := Lib.hid (K03.out.below bl)
  have K14 := Lib.hid (K13.out.below bl)
  have B4 := Lib.hid (Below.next B3.out bl)
  clear bl ho hnd hzl hzp K03 K13 B3 O3
  obtain ⟨p0, p1, p2, p3, p4, p5⟩ := tbt5 K04.out
  obtain ⟨e0, e1, e2, e3, e4⟩ := tbtf5 K04.out
  obtain ⟨q0, q1, q2, q3, q4, q5⟩ := tbt5 K14.out
  obtain ⟨f0, f1, f2, f3, f4⟩ := tbtf5 K14.out
  obtain ⟨hk, hg⟩ := storet_1 K04.out (y1 := .slice gs2 ss.length cp2)
  have hk1 := K14.out.off hg (by omega)
  have O5 := Lib.hid (O4.out.offg hg (by have := S1.out; omega))
  have OZ5 := Lib.hid (OZ4.out.offg hg (by have := S3.out; omega))
  have B5 := Lib.hid (Below.at_ B4.out hg (Nat.le_refl _))
  obtain ⟨u0, u1, u2, u3, u4, u5⟩ := tbt5 hk1
  obtain ⟨hk6, hg6⟩ := storet5 hk1 (y0 := .slice gs ys.length cap) (y1 := .slice gs2 ss.length cp2) (y2 := .int .i64 st) (y3 := .int .i64 sd) (y4 := .float .f32 sc)
  obtain ⟨m0, m1, m2, m3, m4, m5⟩ := tbt5 hk6
  have O6 := Lib.hid (O5.out.offg hg6 (by have := S1.out; omega))
  have OZ6 := Lib.hid (OZ5.out.offg hg6 (by have := S3.out; omega))
  have B6 := Lib.hid (Below.at_ B5.out hg6 (by omega))
  have T1 := Lib.hid (show w.heap.size ≤ w1.heap.size by have := S1.out; omega)
  have T3 := Lib.hid (show w.heap.size ≤ w3.heap.size by have := S3.out; omega)
  clear hk hk1 hg hk6 hg6 m5 u0 u1 u2 u3 u4 u5
  go_wp2_with fail
  refine bodyPost_ret (v := .agg #[.slice gs ys.length cap, .slice gs2 ss.length cp2, .int .i64 st, .int .i64 sd, .float .f32 sc]) (by simp [results, Try.results138, go_sem, m0, m1, m2, m3, m4]) rfl ?_
  refine ⟨⟨gs, cap, ys, gs2, cp2, zs, st, sd, sc⟩, by simp only [HZL.out], HYP.out, HZP.out, rfl, rfl, rfl, ⟨⟨?_, ?_⟩, A3.out⟩, ?_, B6.out⟩
  · have h1 := OwnL.base T1.out _ O6.out
    simp only [OwnL, and_true] at h1
    exact h1
  · have h1 := OwnL.base T3.out _ OZ6.out
    simp only [OwnL, and_true] at h1
    simp only [slC, HZL.out, OwnL, and_true]
    exact h1
  · simp only [TrsA.bl, blL, List.append_nil]
    have n1 := ND.out
    have n2 := ND2.out
    simp only [blL, List.append_nil] at n1 n2
    refine List.nodup_append.2 ⟨n1, by simp only [slC, HZL.out]; exact n2, ?_⟩
    intro x hx y hy e
    refine AP.out x ?_ y ?_ e
    · simpa only [lsC, blL, List.append_nil] using hx
    · simp only [slC, HZL.out] at hy; simpa only [blL, List.append_nil] using hy
theorem cnt_zeros {S N : Nat} {ls : List FlA} (h : ls.map (fun x => x.z.map (canon .f32)) = List.replicate S (List.replicate N 0)) : ls.length = S ∧ cntSS ls = S * N ∧ ∀ x ∈ ls, x.z.length = N := by
  have hl : ls.length = S := by simpa using congrArg List.length h
  have hx : ∀ x ∈ ls, x.z.length = N := fun x hx => by
    have h1 : x.z.map (canon .f32) ∈ List.replicate S (List.replicate N 0) := by rw [← h]; exact List.mem_map_of_mem hx
    have h2 := congrArg List.length (List.eq_of_mem_replicate h1)
    simpa using h2
  refine ⟨hl, ?_, hx⟩
  have h3 : ls.map (fun x => x.z.length) = List.replicate S N := by
    rw [List.eq_replicate_iff]
    refine ⟨by simpa using hl, fun b hb => ?_⟩
    obtain ⟨x, hx', rfl⟩ := List.mem_map.1 hb
    exact hx x hx'
  rw [cntSS, h3]
  simp
theorem vTrs_newI {k : Int} {q : TrsA} (h3 : q.st = 0) (hss : q.ss.map (fun x => x.z.map (canon .f32)) = (vEmptySlots k (vCountParams q.ps).1).2) : vTrs k q = okNew k q.ps q.sd := by
  cases h1 : isKind k with
  | false => simp [vTrs, okNew, h1]
  | true =>
    cases h2 : vMod q.ps with
    | false => simp [vTrs, okNew, h1, h2]
    | true =>
      by_cases h4 : laySum q.ps ≤ 256
      · refine vTrs_new h1 h2 h3 ?_
        have hc : (vCountParams q.ps).1 = ((laySum q.ps : Nat) : Int) := by unfold vCountParams; rw [if_pos h2, parOf_length]
        have hok : okSlots k ((laySum q.ps : Nat) : Int) = true := by
          unfold okSlots
          rw [h1, Bool.true_and, Bool.and_eq_true, decide_eq_true_eq, decide_eq_true_eq]
          omega
        rw [hc, vEmpty_yes hok, Int.toNat_natCast] at hss
        obtain ⟨hl, _, hx⟩ := cnt_zeros hss
        unfold fitS
        rw [hl]
        simp only [beq_self_eq_true, Bool.true_and, List.all_eq_true]
        intro x hm
        simp only [lenB, hx x hm, beq_self_eq_true]
      · simp [vTrs, okNew, h1, h2, h4]
theorem okNew_parts {k : Int} {ps : List LayP} {sd : Int} (h : okNew k ps sd = true) : isKind k = true ∧ vMod ps = true ∧ laySum ps ≤ 256 := by
  simp only [okNew, Bool.and_eq_true, decide_eq_true_eq] at h
  exact ⟨h.1, h.2.1, h.2.2.2⟩
theorem zeros_I {k : Int} {ps : List LayP} {sd : Int} (h : okNew k ps sd = true) : (vEmptySlots k (vCountParams ps).1).2 = zeros k ps := by
  obtain ⟨h1, h2, h4⟩ := okNew_parts h
  have hc : (vCountParams ps).1 = ((laySum ps : Nat) : Int) := by unfold vCountParams; rw [if_pos h2, parOf_length]
  have hok : okSlots k ((laySum ps : Nat) : Int) = true := by
    unfold okSlots
    rw [h1, Bool.true_and, Bool.and_eq_true, decide_eq_true_eq, decide_eq_true_eq]
    omega
  rw [hc, vEmpty_yes hok, Int.toNat_natCast]
  rfl
set_option maxRecDepth 20000 in
set_option maxHeartbeats 4000000 in
theorem t_iNewTraining (k : Int) (r b1 b2 ep : Nat) (g : Option Addr) (n c : Nat) (ls : List LayA) (sd : Int) (w : World) (h : LaysAt w g n c ls) (wk : (Lit.int .i64 k).wf = true) :
    Calls Try.prog 70 #[.agg #[.slice g n c], optV k r b1 b2 ep, .int .i64 sd] w (RetNew k (ls.map LayA.p) sd w) := by
  have HE := fun N W => t_iEmptySlots k r b1 b2 ep N W wk
  have HV := fun q W h => t_iValidTraining k r b1 b2 ep q W h wk
  unfold optV at HE HV ⊢
  have HE' := Lib.hid HE
  have HV' := Lib.hid HV
  have H := Lib.hid h
  have HN := Lib.hid h.1
  clear HE HV
  have b0 := (((Below.refl w.heap.size w).alloc (Nat.le_refl _) (.cells #[.slice g n c] 46)).alloc (by simp) (.cells #[.int .i64 k, .float .f32 r, .float .f32 b1, .float .f32 b2, .float .f32 ep] 40)).alloc (by simp; omega) (.cells #[.slice none 0 0, .slice none 0 0, .int .i64 0, .int .i64 0, .float .f32 0] 48)
  have k1 := ((Blk.new w 46 #[.slice g n c]).below ((Below.refl _ _).alloc (Nat.le_refl _) (.cells #[.int .i64 k, .float .f32 r, .float .f32 b1, .float .f32 b2, .float .f32 ep] 40))).below ((Below.refl _ _).alloc (Nat.le_refl _) (.cells #[.slice none 0 0, .slice none 0 0, .int .i64 0, .int .i64 0, .float .f32 0] 48))
  have k2 := (Blk.new (w.alloc (.cells #[.slice g n c] 46)) 40 #[.int .i64 k, .float .f32 r, .float .f32 b1, .float .f32 b2, .float .f32 ep]).below ((Below.refl _ _).alloc (Nat.le_refl _) (.cells #[.slice none 0 0, .slice none 0 0, .int .i64 0, .int .i64 0, .float .f32 0] 48))
  have k3 := Blk.new ((w.alloc (.cells #[.slice g n c] 46)).alloc (.cells #[.int .i64 k, .float .f32 r, .float .f32 b1, .float .f32 b2, .float .f32 ep] 40)) 48 #[.slice none 0 0, .slice none 0 0, .int .i64 0, .int .i64 0, .float .f32 0]
  simp only [World.size_alloc] at k2 k3
  have KM := Lib.hid k1
  have KO := Lib.hid k2
  have KR := Lib.hid k3
  have B := Lib.hid b0
  clear k1 k2 k3 b0
  have HP := fun W (hb : Below w.heap.size w W) => t_iCountParams (ls.map LayA.p) n g c ls W rfl (h.kept hb)
  obtain ⟨N, hN⟩ : ∃ N, (vCountParams (ls.map LayA.p)).1 = N := ⟨_, rfl⟩
  obtain ⟨u, hu⟩ : ∃ u, (vCountParams (ls.map LayA.p)).2 = u := ⟨_, rfl⟩
  simp only [hN, hu] at HP
  have HP' := Lib.hid HP
  have HNN := Lib.hid hN
  have HE2 := HE'.out N
  obtain ⟨v, hv⟩ : ∃ v, (vEmptySlots k N).1 = v := ⟨_, rfl⟩
  obtain ⟨Z, hZ⟩ : ∃ Z, (vEmptySlots k N).2 = Z := ⟨_, rfl⟩
  simp only [hv, hZ] at HE2
  have HE3 := Lib.hid HE2
  have HZ := Lib.hid hZ
  clear HP hN hu hv hZ HE2 HE' h
  go_enter Try.func70, Try.ntmps70
  go_wp2_with fail
  generalize ((w.alloc (.cells #[.slice g n c] 46)).alloc (.cells #[.int .i64 k, .float .f32 r, .float .f32 b1, .float .f32 b2, .float .f32 ep] 40)).alloc (.cells #[.slice none 0 0, .slice none 0 0, .int .i64 0, .int .i64 0, .float .f32 0] 48) = w1 at KM KO KR B ⊢
  obtain ⟨p0, pl⟩ := tb1 KM.out
  go_wp2_with fail
  refine (HP'.out _ B.out).mono ?_
  rintro e w2 ⟨rfl, bl⟩
  have KM2 := Lib.hid (KM.out.below bl)
  have KO2 := Lib.hid (KO.out.below bl)
  have KR2 := Lib.hid (KR.out.below bl)
  have B2 := Lib.hid (Below.next B.out bl)
  clear bl p0 pl KM KO KR B
  obtain ⟨o0, o1, o2, o3, o4, o5⟩ := tbo5 KO2.out
  go_wp2_with fail
  refine (HE3.out _).mono ?_
  rintro e w3 ⟨hs, hp, zs, rfl, ho, hnd, hzz, bl⟩
  have OZ3 := Lib.hid ho
  have HZZ := Lib.hid (hzz.trans HZ.out.symm)
  have KM3 := Lib.hid (KM2.out.below bl)
  have KO3 := Lib.hid (KO2.out.below bl)
  have KR3 := Lib.hid (KR2.out.below bl)
  have B3 := Lib.hid (Below.next B2.out bl)
  clear bl ho hnd hzz o0 o1 o2 o3 o4 o5 KM2 KO2 KR2 B2
  obtain ⟨m, hm⟩ : ∃ m, zs.length = m := ⟨_, rfl⟩
  have HM := Lib.hid hm
  rw [hm]
  clear hm
  obtain ⟨p0, pl⟩ := tb1 KM3.out
  obtain ⟨o0, o1, o2, o3, o4, o5⟩ := tbo5 KO3.out
  go_wp2_with fail
  clear p0 pl o0 o1 o2 o3 o4 o5
  have bl := (Below.refl w3.heap.size w3).alloc (Nat.le_refl _) (.cells #[.slice g n c, .slice hs m hp, .int .i64 0, .int .i64 sd, .float .f32 1065353216] 48)
  have KT4 := Lib.hid (Blk.new w3 48 #[.slice g n c, .slice hs m hp, .int .i64 0, .int .i64 sd, .float .f32 1065353216])
  have OZ4 := Lib.hid (OwnL.kept OZ3.out bl)
  have KR4 := Lib.hid (KR3.out.below bl)
  have KO4 := Lib.hid (KO3.out.below bl)
  have B4 := Lib.hid (Below.next B3.out bl)
  clear bl OZ3 KM3 KR3 KO3 B3
  generalize w3.alloc (.cells #[.slice g n c, .slice hs m hp, .int .i64 0, .int .i64 sd, .float .f32 1065353216] 48) = w4 at KT4 OZ4 KR4 KO4 B4 ⊢
  have HQ := Lib.hid (show TrsAt w4 ⟨g, c, ls, hs, hp, zs, 0, sd, 1065353216⟩ from ⟨by rw [HN.out]; exact H.out.kept B4.out, ssAt_own OZ4.out, show (1065353216 : Nat) < 2 ^ 32 by decide⟩)
  have hvt := vTrs_newI (k := k) (q := ⟨g, c, ls, hs, hp, zs, 0, sd, 1065353216⟩) rfl (by show zs.map _ = (vEmptySlots k (vCountParams (ls.map LayA.p)).1).2; rw [HNN.out]; exact HZZ.out)
  have hvt2 : vTrs k ⟨g, c, ls, hs, hp, zs, 0, sd, 1065353216⟩ = okNew k (ls.map LayA.p) sd := hvt
  have hc := HV'.out ⟨g, c, ls, hs, hp, zs, 0, sd, 1065353216⟩ w4 HQ.out
  rw [hvt2] at hc
  simp only [TrsA.cells, HN.out, HM.out] at hc
  obtain ⟨t, ht⟩ : ∃ t, okNew k (ls.map LayA.p) sd = t := ⟨_, rfl⟩
  rw [ht] at hc
  have HC := Lib.hid hc
  clear hc hvt hvt2
  cases t with
  | false =>
    have HNO := Lib.hid (retNew_no ht)
    clear ht
    refine HC.out.mono ?_
    rintro e w5 ⟨rfl, bl⟩
    have KR5 := Lib.hid (KR4.out.below bl)
    have B5 := Lib.hid (Below.next B4.out bl)
    clear bl HC KT4 OZ4 KR4 KO4 B4
    obtain ⟨q0, q1, q2, q3, q4, q5⟩ := tbt5 KR5.out
    obtain ⟨f0, f1, f2, f3, f4⟩ := tbtf5 KR5.out
    obtain ⟨hz, hgz⟩ := storet5 KR5.out (y0 := .slice none 0 0) (y1 := .slice none 0 0) (y2 := .int .i64 0) (y3 := .int .i64 0) (y4 := .float .f32 0)
    obtain ⟨m0, m1, m2, m3, m4, m5⟩ := tbt5 hz
    have MB := Lib.hid (Below.at_ B5.out hgz (by omega))
    clear hz hgz m5
    go_wp2_with fail
    refine bodyPost_ret (v := .tuple #[.agg #[.slice none 0 0, .slice none 0 0, .int .i64 0, .int .i64 0, .float .f32 0], .bool false]) (by simp [results, Try.results70, go_sem, m0, m1, m2, m3, m4]) rfl ?_
    rw [HNO.out]
    exact retNt_no MB.out
  | true =>
    have HYS := Lib.hid (retNew_yes ht)
    obtain ⟨_, hvm, h256⟩ := okNew_parts ht
    have hzI := zeros_I ht
    rw [HNN.out] at hzI
    have HZ2 := Lib.hid (HZZ.out.trans hzI)
    have hcz := cnt_zeros (HZ2.out.trans rfl)
    have hs2 := slots_le k
    have HSM := Lib.hid (show zs.length + cntSS zs ≤ 1048576 by
      rw [hcz.1, hcz.2.1]
      have := Nat.mul_le_mul hs2 h256
      omega)
    have HVM := Lib.hid hvm
    clear ht hvm h256 hzI hcz hs2
    refine HC.out.mono ?_
    rintro e w5 ⟨rfl, bl⟩
    have KR5 := Lib.hid (KR4.out.below bl)
    have KT5 := Lib.hid (KT4.out.below bl)
    have B5 := Lib.hid (Below.next B4.out bl)
    have hcp := c_copiedT ⟨g, c, ls, hs, hp, zs, 0, sd, 1065353216⟩ w5 (HQ.out.kept bl) HVM.out HSM.out
    simp only [TrsA.cells, HN.out, HM.out] at hcp
    have HCP := Lib.hid hcp
    clear bl HC KT4 OZ4 KR4 KO4 B4 hcp
    obtain ⟨s0, s1, s2, s3, s4, s5⟩ := tbt5 KT5.out
    go_wp2_with fail
    refine HCP.out.mono ?_
    rintro e w6 ⟨rr, rfl, c1, c2, c3, c4, c5, ho, hnd, bl⟩
    have S5 := Lib.hid (show w.heap.size + 2 < w5.heap.size from KR5.out.lt)
    have C1 := Lib.hid (show rr.ls.map (fun x => x.p.can) = (ls.map LayA.p).map LayP.can from c1)
    have C2 := Lib.hid (show rr.ss.map FlA.z = zs.map FlA.z from c2)
    have C3 := Lib.hid (show rr.st = 0 from c3)
    have C4 := Lib.hid (show rr.sd = sd from c4)
    have C5 := Lib.hid (show rr.sc = 1065353216 from c5)
    have OW := Lib.hid ho
    have ND := Lib.hid hnd
    have KR6 := Lib.hid (KR5.out.below bl)
    have B6 := Lib.hid (Below.next B5.out bl)
    clear bl HCP c1 c2 c3 c4 c5 ho hnd KT5 KR5 B5 s0 s1 s2 s3 s4 s5
    obtain ⟨ra, rn, rc, rb, rm, rd, rst, rsd, rsc, hr⟩ := cellsN rr
    have HR := Lib.hid hr
    have hr' : (#[.slice rr.g rr.ls.length rr.c, .slice rr.h rr.ss.length rr.d, .int .i64 rr.st, .int .i64 rr.sd, .float .f32 rr.sc] : Array Value) = #[.slice ra rn rc, .slice rb rm rd, .int .i64 rst, .int .i64 rsd, .float .f32 rsc] := hr
    rw [hr']
    clear hr hr'
    obtain ⟨q0, q1, q2, q3, q4, q5⟩ := tbt5 KR6.out
    obtain ⟨f0, f1, f2, f3, f4⟩ := tbtf5 KR6.out
    obtain ⟨hz, hgz⟩ := storet5 KR6.out (y0 := .slice ra rn rc) (y1 := .slice rb rm rd) (y2 := .int .i64 rst) (y3 := .int .i64 rsd) (y4 := .float .f32 rsc)
    obtain ⟨m0, m1, m2, m3, m4, m5⟩ := tbt5 hz
    have MB := Lib.hid (Below.at_ B6.out hgz (by omega))
    have MO := Lib.hid (show TrsOwn _ w.heap.size rr from ⟨OwnL.base (show w.heap.size ≤ w5.heap.size by have := S5.out; omega) _ (OW.out.1.offg hgz S5.out), OW.out.2⟩)
    clear hz hgz m5
    go_wp2_with fail
    refine bodyPost_ret (v := .tuple #[.agg #[.slice ra rn rc, .slice rb rm rd, .int .i64 rst, .int .i64 rsd, .float .f32 rsc], .bool true]) (by simp [results, Try.results70, go_sem, m0, m1, m2, m3, m4]) rfl ?_
    rw [HYS.out]
    refine ⟨rr, by rw [HR.out], C1.out, ?_, C3.out, C4.out, C5.out, MO.out, ND.out, MB.out⟩
    have h1 := congrArg (List.map (List.map (canon .f32))) C2.out
    simp only [List.map_map] at h1
    have h2 := HZ2.out
    simp only [Function.comp_def] at h1
    rw [h1, h2]
end Go.Proofs.Ytaipegkkpkagnaa
