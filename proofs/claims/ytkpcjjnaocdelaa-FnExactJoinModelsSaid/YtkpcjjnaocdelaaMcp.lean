/-
  Models in new memory, on both sides (spec.l07Own, Model.copied). Conditions: the model is valid.
-/
import Derived.Test.YtkpcjjnaocdelaaTWithP
import Derived.Test.YtkpcjjnaocdelaaLike
import Derived.Deep.RegionLaw
namespace Go.Proofs.Ytkpcjjnaocdelaa
open Go.RowKit Go.Deep Go.WideShapes Go.ChangeShapes Go.Maps
set_option linter.unusedVariables false
set_option linter.unusedSimpArgs false
attribute [local go_sem] World.drewN_zero

theorem withP_self (ps : List LayP) : withP ps (parOf ps) = ps := by
  induction ps with
  | nil => rfl
  | cons p ps ih =>
    have e : parOf (p :: ps) = p.ws ++ (p.bs ++ parOf ps) := by simp [parOf]
    simp only [withP, e, List.take_left', List.drop_left', List.drop_append]
    simp only [List.drop_length, Nat.sub_self, List.drop_zero, List.nil_append, show p.ws.length + p.bs.length - p.ws.length = p.bs.length by omega, List.drop_eq_nil_of_le (show p.ws.length ≤ p.ws.length + p.bs.length by omega), ih]
theorem OwnL.offg {w w' : World} {B g : Nat} {l : List Cl} (h : OwnL w B l) (hg : w.grownBy w' (some g)) (hlt : g < B) : OwnL w' B l := by
  refine OwnL.apart (GrownIn.of_grown (a := some ⟨g, 0, none⟩) hg) _ h (fun q hq hs => ?_)
  have h1 := (OwnL.lt _ h q hq).1
  simp [blk] at hs
  omega
set_option maxHeartbeats 1000000 in
theorem c_l07Own (gp : Nat) (g : Option Addr) (cap n : Nat) (ls : List LayA) (w : World) (hgp : gp < w.heap.size) (hq : w.cell? ⟨gp, 0, none⟩ = some (.slice g n cap)) (h : LaysAt w g n cap ls) (hs : laySum (ls.map LayA.p) ≤ 432) (h6 : n ≤ 6) :
    Calls Try.prog 96 #[.pointer (some ⟨gp, 0, none⟩)] w (RetMd (ls.map LayA.p) n w) := by
  have K := Lib.hid (Blk.new w 41 #[.slice none 0 0])
  have al := (Below.refl w.heap.size w).alloc (Nat.le_refl _) (.cells #[.slice none 0 0] 41)
  have B := Lib.hid al
  have HP := Lib.hid (fun W (hb : Below w.heap.size w W) => c_l03Params gp 0 g cap n ls W (Nat.lt_of_lt_of_le hgp hb.size) ((hb.cell (p := ⟨gp, 0, none⟩) hgp).trans hq) (h.kept hb) hs h6)
  have HL := Lib.hid (parOf_length (ls.map LayA.p))
  have HW := Lib.hid (fun W a c zs (hb : Below w.heap.size w W) hz hm => c_l03With gp 0 g cap n ls a (List.length zs) c zs W (Nat.lt_of_lt_of_le hgp hb.size) ((hb.cell (p := ⟨gp, 0, none⟩) hgp).trans hq) (h.kept hb) hz hm (by rw [hm]; exact hs) h6)
  have HSELF := Lib.hid (withP_self (ls.map LayA.p))
  obtain ⟨Z, hZ⟩ : ∃ Z, parOf (ls.map LayA.p) = Z := ⟨_, rfl⟩
  rw [hZ] at HP HL HSELF
  clear hZ al hq h hs h6
  go_enter Try.func96, Try.ntmps96
  go_wp2_with fail
  generalize w.alloc (.cells #[.slice none 0 0] 41) = w1 at K B ⊢
  refine (HP.out _ B.out).mono ?_
  rintro e w2 ⟨za, zc, rfl, ho, hb⟩
  have K2 := Lib.hid (K.out.below hb)
  have B2 := Lib.hid (Below.next B.out hb)
  have O2 := Lib.hid ho.isFloats
  clear hb ho K B
  go_wp2_with fail
  refine (HW.out _ za zc Z B2.out O2.out HL.out).mono ?_
  rintro e w3 ⟨gs, cp, ys, rfl, hyl, hyp, ho, hnd, hb⟩
  have S2 := Lib.hid (show w.heap.size < w2.heap.size from K2.out.lt)
  have K3 := Lib.hid (K2.out.below hb)
  have B3 := Lib.hid (Below.next B2.out hb)
  have HYL := Lib.hid hyl
  have HYP := Lib.hid hyp
  have O3 := Lib.hid ho
  have ND := Lib.hid hnd
  clear hb ho hnd hyl hyp K2 B2
  obtain ⟨s0, sl⟩ := tb1 K3.out
  have f0 := K3.out.frozen 0
  go_wp2_with fail
  refine bodyPost_ret (v := .agg #[.slice gs n cp]) (by simp [results, Try.results96, go_sem, s0]) rfl ?_
  refine ⟨gs, cp, ys, rfl, HYL.out, by rw [HYP.out, HSELF.out], ?_, ND.out, B3.out.setCell (p := ⟨w.heap.size, 0, none⟩) (Nat.le_refl _) _⟩
  exact OwnL.base (Nat.le_of_lt S2.out) _ (O3.out.far (p := ⟨w.heap.size, 0, none⟩) S2.out _)
def RetMc (ps : List LayP) (w : World) (e : Ending) (w' : World) : Prop :=
  ∃ gs cap ys, e = .returned (.agg #[.slice gs (List.length ys) cap]) ∧ OwnL w' w.heap.size [.sl 59 5 ys.length gs cap (laysC ys)] ∧ (blL [.sl 59 5 ys.length gs cap (laysC ys)]).Nodup ∧ ys.map (fun x => x.p.can) = ps ∧ Below w.heap.size w w'
theorem storec1 {w : World} {g : Nat} {t : TypeId} {x0 y0 : Value} (h : Blk w g t #[x0]) : Blk (w.setCell ⟨g, 0, none⟩ y0) g t #[y0] ∧ w.grownBy (w.setCell ⟨g, 0, none⟩ y0) (some g) := by
  constructor
  · unfold Blk at h ⊢
    simp [World.setCell, Array.getElem?_modify, h]
  · exact ⟨rfl, rfl, rfl, by simp, fun k _ hk => Below.heap_setCell w ⟨g, 0, none⟩ y0 k (fun e => hk (by simp [e]))⟩
set_option maxRecDepth 20000 in
set_option maxHeartbeats 4000000 in
theorem c_copiedM (g : Option Addr) (c n : Nat) (ls : List LayA) (w : World) (h : LaysAt w g n c ls) (hv : vMod (ls.map LayA.p) = true) :
    Calls Try.prog 94 #[.agg #[.slice g n c]] w (RetMc ((ls.map LayA.p).map LayP.can) w) := by
  obtain ⟨v1, v2, v3⟩ := vMod_parts hv
  have hn6 : n ≤ 6 := by rw [← h.1]; simpa using v2
  obtain ⟨k1, k2, bb⟩ := two_boxes w 41 #[.slice g n c] #[.slice none 0 0]
  have hvw : vWithParams (ls.map LayA.p) (parOf (ls.map LayA.p)) = (true, (ls.map LayA.p).map LayP.can) := by
    unfold vWithParams okWith
    rw [if_pos (by rw [hv, Bool.true_and]; exact decide_eq_true rfl), withP_self]
  have HP := Lib.hid (fun W (hb : Below w.heap.size w W) => c_params g c n ls W (h.kept hb) v3 hn6)
  have HW := fun W a cz (hb : Below w.heap.size w W) hz => t_iWithParams (ls.map LayA.p) n g c ls (parOf (ls.map LayA.p)) a cz W rfl (h.kept hb) hz
  simp only [hvw] at HW
  obtain ⟨Z, hZ⟩ : ∃ Z, parOf (ls.map LayA.p) = Z := ⟨_, rfl⟩
  rw [hZ] at HP HW
  have HW' := Lib.hid HW
  have K0 := Lib.hid k1
  have K1 := Lib.hid k2
  have B := Lib.hid bb
  obtain ⟨PS, hPS⟩ : ∃ PS, (ls.map LayA.p).map LayP.can = PS := ⟨_, rfl⟩
  rw [hPS] at HW'
  rw [hPS]
  clear hvw hZ HW k1 k2 bb v1 v2 v3 hn6 h hv hPS
  go_enter Try.func94, Try.ntmps94
  go_wp2_with fail
  generalize (w.alloc (.cells #[.slice g n c] 41)).alloc (.cells #[.slice none 0 0] 41) = w1 at K0 K1 B ⊢
  have bd : Below w1.heap.size w1 w1.drew := (Below.refl _ _).drew
  have K0d := Lib.hid (K0.out.below bd)
  have K1d := Lib.hid (K1.out.below bd)
  have Bd := Lib.hid (Below.next B.out bd)
  clear bd
  obtain ⟨p0, pl⟩ := tb1 K0d.out
  have nn := World.new_ne w1 ⟨w.heap.size, 0, none⟩ (K0.out.cell 0)
  have c0 : w1.cell? ⟨w.heap.size, 0, none⟩ = some (.slice g n c) := K0.out.cell 0
  have ALd := Lib.hid (((Below.refl w1.heap.size w1).alloc (Nat.le_refl _) (.cells #[.slice none 0 0] 41)).drew)
  have KTd := Lib.hid ((Blk.new w1 41 #[.slice none 0 0]).below ((Below.refl (w1.alloc (.cells #[.slice none 0 0] 41)).heap.size (w1.alloc (.cells #[.slice none 0 0] 41))).drew))
  go_region_held3 (fun w' => w'.cell? ⟨w.heap.size, 0, none⟩ = some (.slice g n c)) (go_keep)
    (first
      | (go_at_call 129
         refine (HP.out _ (Below.next B.out ALd.out)).mono ?_
         rintro e w2 ⟨za, zc, rfl, ho, bl⟩
         have Z2 := Lib.hid ho.isFloats
         have K02 := Lib.hid ((K0.out.below ALd.out).below bl)
         have K12 := Lib.hid ((K1.out.below ALd.out).below bl)
         have KT2 := Lib.hid (KTd.out.below bl)
         have B2 := Lib.hid (Below.next (Below.next B.out ALd.out) bl)
         clear bl ho p0 pl
         obtain ⟨p0, pl⟩ := tb1 K02.out
         obtain ⟨t0, tl⟩ := tb1 KT2.out
         have tf := KT2.out.frozen 0)
      | (go_at_call 129
         refine (HP.out _ Bd.out).mono ?_
         rintro e w2 ⟨za, zc, rfl, ho, bl⟩
         have Z2 := Lib.hid ho.isFloats
         have K02 := Lib.hid (K0d.out.below bl)
         have K12 := Lib.hid (K1d.out.below bl)
         have B2 := Lib.hid (Below.next Bd.out bl)
         clear bl ho p0 pl
         obtain ⟨p0, pl⟩ := tb1 K02.out)
      | (go_at_call 128
         refine (HW'.out _ za zc B2.out (Z2.out)).mono ?_
         rintro e w3 ⟨gs, cap, ys, rfl, ho, hnd, hyp, bl⟩
         have ND := Lib.hid hnd
         have HYP := Lib.hid hyp
         have KT3 := Lib.hid (KT2.out.below bl)
         have A3 := Lib.hid (show w1.heap.size < w2.heap.size from KT2.out.lt)
         have hne : ¬ w.heap.size = w1.heap.size := by have := K0.out.lt; omega
         have hne' : ¬ w1.heap.size = w.heap.size := by omega
         have O3 := Lib.hid ho
         have S2 := Lib.hid (show w.heap.size + 1 < w2.heap.size from K12.out.lt)
         have K03 := Lib.hid (K02.out.below bl)
         have K13 := Lib.hid (K12.out.below bl)
         have B3 := Lib.hid (Below.next B2.out bl)
         obtain ⟨t0, tl⟩ := tb1 KT3.out
         have tf := KT3.out.frozen 0
         clear bl ho hnd hyp p0 pl
         obtain ⟨p0, pl⟩ := tb1 K03.out
         obtain ⟨s0, sl⟩ := tb1 K13.out
         have f0 := K13.out.frozen 0)
      | (go_at_call 128
         refine (HW'.out _ za zc B2.out (Z2.out)).mono ?_
         rintro e w3 ⟨gs, cap, ys, rfl, ho, hnd, hyp, bl⟩
         have ND := Lib.hid hnd
         have HYP := Lib.hid hyp
         have O3 := Lib.hid ho
         have S2 := Lib.hid (show w.heap.size + 1 < w2.heap.size from K12.out.lt)
         have K03 := Lib.hid (K02.out.below bl)
         have K13 := Lib.hid (K12.out.below bl)
         have B3 := Lib.hid (Below.next B2.out bl)
         clear bl ho hnd hyp p0 pl
         obtain ⟨p0, pl⟩ := tb1 K03.out
         obtain ⟨s0, sl⟩ := tb1 K13.out
         have f0 := K13.out.frozen 0)
      | (go_at_call 128
         refine (HW'.out _ za zc (Below.next B2.out ((Below.refl w2.heap.size w2).alloc (Nat.le_refl _) (.cells #[.slice none 0 0] 41))) (Z2.out.kept ((Below.refl w2.heap.size w2).alloc (Nat.le_refl _) (.cells #[.slice none 0 0] 41)))).mono ?_
         rintro e w3 ⟨gs, cap, ys, rfl, ho, hnd, hyp, bl⟩
         have ND := Lib.hid hnd
         have HYP := Lib.hid hyp
         have al := (Below.refl w2.heap.size w2).alloc (Nat.le_refl _) (.cells #[.slice none 0 0] 41)
         have KT3 := Lib.hid ((Blk.new w2 41 #[.slice none 0 0]).below bl)
         have O3 := Lib.hid ho
         have S2 := Lib.hid (show w.heap.size + 1 < w2.heap.size from K12.out.lt)
         have K03 := Lib.hid ((K02.out.below al).below bl)
         have K13 := Lib.hid ((K12.out.below al).below bl)
         have B3 := Lib.hid (Below.next (Below.next B2.out al) bl)
         clear al
         have hne : ¬ w.heap.size = w2.heap.size := by have := S2.out; omega
         have hne' : ¬ w2.heap.size = w.heap.size := by omega
         obtain ⟨t0, tl⟩ := tb1 KT3.out
         have tf := KT3.out.frozen 0
         clear bl ho hnd hyp p0 pl
         obtain ⟨p0, pl⟩ := tb1 K03.out
         obtain ⟨s0, sl⟩ := tb1 K13.out
         have f0 := K13.out.frozen 0))
  · have al := (Below.refl w3.heap.size w3).alloc (Nat.le_refl _) (.cells #[.slice gs ys.length cap] 41)
    have KTf := Lib.hid (Blk.new w3 41 #[.slice gs ys.length cap])
    have K1f := Lib.hid (K13.out.below al)
    have Of := Lib.hid (OwnL.kept O3.out al)
    have Bf := Lib.hid (Below.next B3.out al)
    clear al
    generalize w3.alloc (.cells #[.slice gs ys.length cap] 41) = w4 at KTf K1f Of Bf ⊢
    clear p0 pl s0 sl f0
    obtain ⟨s0, sl⟩ := tb1 K1f.out
    have f0 := K1f.out.frozen 0
    obtain ⟨t0, tl⟩ := tb1 KTf.out
    go_wp2_with fail
    refine bodyPost_ret (v := .agg #[.slice gs ys.length cap]) (by simp [results, Try.results94, go_sem, s0]) rfl ?_
    exact ⟨gs, cap, ys, rfl, OwnL.base (show w.heap.size ≤ _ by have := S2.out; (try simp); omega) _ (Of.out.far (p := ⟨w.heap.size + 1, 0, none⟩) (by have := S2.out; (try simp); omega) _), ND.out, HYP.out, Bf.out.setCell (p := ⟨w.heap.size + 1, 0, none⟩) (Nat.le_succ _) _⟩
  · obtain ⟨hk, hg⟩ := storec1 KT3.out (y0 := .slice gs ys.length cap)
    have KTf := Lib.hid hk
    have K1f := Lib.hid (K13.out.off hg (by have := S2.out; omega))
    have Of := Lib.hid (O3.out.offg hg (by simp))
    have Bf := Lib.hid (Below.at_ B3.out hg (by have := S2.out; omega))
    clear hk hg
    generalize w3.setCell ⟨w2.heap.size, 0, none⟩ (.slice gs ys.length cap) = w4 at KTf K1f Of Bf ⊢
    clear p0 pl s0 sl f0 t0 tl tf hne hne'
    obtain ⟨s0, sl⟩ := tb1 K1f.out
    have f0 := K1f.out.frozen 0
    obtain ⟨t0, tl⟩ := tb1 KTf.out
    go_wp2_with fail
    refine bodyPost_ret (v := .agg #[.slice gs ys.length cap]) (by simp [results, Try.results94, go_sem, s0]) rfl ?_
    exact ⟨gs, cap, ys, rfl, OwnL.base (show w.heap.size ≤ _ by have := S2.out; (try simp); omega) _ (Of.out.far (p := ⟨w.heap.size + 1, 0, none⟩) (by have := S2.out; (try simp); omega) _), ND.out, HYP.out, Bf.out.setCell (p := ⟨w.heap.size + 1, 0, none⟩) (Nat.le_succ _) _⟩
  · obtain ⟨hk, hg⟩ := storec1 KT3.out (y0 := .slice gs ys.length cap)
    have KTf := Lib.hid hk
    have K1f := Lib.hid (K13.out.off hg (by have := K1.out.lt; omega))
    have Of := Lib.hid (O3.out.offg hg A3.out)
    have Bf := Lib.hid (Below.at_ B3.out hg (by have := K1.out.lt; omega))
    clear hk hg
    generalize w3.setCell ⟨w1.heap.size, 0, none⟩ (.slice gs ys.length cap) = w4 at KTf K1f Of Bf ⊢
    clear p0 pl s0 sl f0 t0 tl tf hne hne'
    obtain ⟨s0, sl⟩ := tb1 K1f.out
    have f0 := K1f.out.frozen 0
    obtain ⟨t0, tl⟩ := tb1 KTf.out
    go_wp2_with fail
    refine bodyPost_ret (v := .agg #[.slice gs ys.length cap]) (by simp [results, Try.results94, go_sem, s0]) rfl ?_
    exact ⟨gs, cap, ys, rfl, OwnL.base (show w.heap.size ≤ _ by have := S2.out; (try simp); omega) _ (Of.out.far (p := ⟨w.heap.size + 1, 0, none⟩) (by have := S2.out; (try simp); omega) _), ND.out, HYP.out, Bf.out.setCell (p := ⟨w.heap.size + 1, 0, none⟩) (Nat.le_succ _) _⟩
end Go.Proofs.Ytkpcjjnaocdelaa
