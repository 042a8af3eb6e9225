/-
  NewTraining: the model. Conditions: the cells can be read.
-/
import Derived.Test.YthklfkfhhdglcaaEmw
import Derived.Test.YthklfkfhhdglcaaVtr
import Derived.Test.YthklfkfhhdglcaaWith
namespace Go.Proofs.Ythklfkfhhdglcaa
open Go.RowKit Go.Deep Go.WideShapes Go.ChangeShapes Go.Maps
set_option linter.unusedVariables false
attribute [local go_sem] World.drewN_zero

theorem withP_self (ps : List LayP) : withP ps (parOf ps) = ps := by
  induction ps with
  | nil => rfl
  | cons p ps ih =>
    have e : parOf (p :: ps) = p.ws ++ (p.bs ++ parOf ps) := by simp [parOf]
    simp only [withP, e, List.take_left', List.drop_left', List.drop_append]
    simp only [List.drop_length, Nat.sub_self, List.drop_zero, List.nil_append, show p.ws.length + p.bs.length - p.ws.length = p.bs.length by omega, List.drop_eq_nil_of_le (show p.ws.length ≤ p.ws.length + p.bs.length by omega), ih]
theorem OwnL.upg {w w' : World} {B g : Nat} {l : List Cl} (h : OwnL w B l) (hg : w.grownBy w' (some g)) (hne : ∀ q ∈ blL l, q ≠ g) : OwnL w' B l := by
  refine OwnL.apart (GrownIn.of_grown (a := some ⟨g, 0, none⟩) hg) _ h (fun q hq hs => ?_)
  simp [blk] at hs
  exact hne q hq hs
theorem storet_1 {w : World} {g : Nat} {t : TypeId} {x0 x1 x2 x3 x4 y1 : Value} (h : Blk w g t #[x0, x1, x2, x3, x4]) :
    Blk (w.setCell ⟨g, 1, none⟩ y1) g t #[x0, y1, x2, x3, x4] ∧ w.grownBy (w.setCell ⟨g, 1, none⟩ y1) (some g) := by
  constructor
  · unfold Blk at h ⊢
    simp [World.setCell, Array.getElem?_modify, h]
  · exact ⟨rfl, rfl, rfl, by simp, fun k _ hk => Below.heap_setCell w ⟨g, 1, none⟩ y1 k (fun e => hk (by simp [e]))⟩
set_option maxHeartbeats 1000000 in
theorem c_l07Own (gp : Nat) (g : Option Addr) (cap n : Nat) (ls : List LayA) (w : World) (hgp : gp < w.heap.size) (hq : w.cell? ⟨gp, 0, none⟩ = some (.slice g n cap)) (h : LaysAt w g n cap ls) (hs : laySum (ls.map LayA.p) ≤ 432) (h6 : n ≤ 6) :
    Calls Try.prog 94 #[.pointer (some ⟨gp, 0, none⟩)] w (RetMd (ls.map LayA.p) n w) := by
  have K := Lib.hid (Blk.new w 68 #[.slice none 0 0])
  have al := (Below.refl w.heap.size w).alloc (Nat.le_refl _) (.cells #[.slice none 0 0] 68)
  have B := Lib.hid al
  have HP := Lib.hid (fun W (hb : Below w.heap.size w W) => c_l03Params gp 0 g cap n ls W (Nat.lt_of_lt_of_le hgp hb.size) ((hb.cell (p := ⟨gp, 0, none⟩) hgp).trans hq) (h.kept hb) hs h6)
  have HL := Lib.hid (parOf_length (ls.map LayA.p))
  have HW := Lib.hid (fun W a c zs (hb : Below w.heap.size w W) hz hm => c_l03With gp 0 g cap n ls a (List.length zs) c zs W (Nat.lt_of_lt_of_le hgp hb.size) ((hb.cell (p := ⟨gp, 0, none⟩) hgp).trans hq) (h.kept hb) hz hm (by rw [hm]; exact hs) h6)
  have HSELF := Lib.hid (withP_self (ls.map LayA.p))
  obtain ⟨Z, hZ⟩ : ∃ Z, parOf (ls.map LayA.p) = Z := ⟨_, rfl⟩
  rw [hZ] at HP HL HSELF
  clear hZ al hq h hs h6
  go_enter Try.func94, Try.ntmps94
  go_wp2_with fail
  generalize w.alloc (.cells #[.slice none 0 0] 68) = w1 at K B ⊢
  refine (HP.out _ B.out).mono ?_
  rintro e w2 ⟨za, zc, rfl, ho, hb⟩
  have K2 := Lib.hid (K.out.below hb)
  have B2 := Lib.hid (Below.next B.out hb)
  have O2 := Lib.hid ho.isFloats
  clear hb ho K B
  go_wp2_with fail
  refine (HW.out _ za zc Z B2.out O2.out HL.out).mono ?_
  rintro e w3 ⟨gs, cp, ys, rfl, hyl, hyp, ho, hnd, hb⟩
  have S2 := Lib.hid (show w.heap.size < w2.heap.size from K2.out.lt)
  have K3 := Lib.hid (K2.out.below hb)
  have B3 := Lib.hid (Below.next B2.out hb)
  have HYL := Lib.hid hyl
  have HYP := Lib.hid hyp
  have O3 := Lib.hid ho
  have ND := Lib.hid hnd
  clear hb ho hnd hyl hyp K2 B2
  obtain ⟨s0, sl⟩ := tb1 K3.out
  have f0 := K3.out.frozen 0
  go_wp2_with fail
  refine bodyPost_ret (v := .agg #[.slice gs n cp]) (by simp [results, Try.results94, go_sem, s0]) rfl ?_
  refine ⟨gs, cp, ys, rfl, HYL.out, by rw [HYP.out, HSELF.out], ?_, ND.out, B3.out.setCell (p := ⟨w.heap.size, 0, none⟩) (Nat.le_refl _) _⟩
  exact OwnL.base (Nat.le_of_lt S2.out) _ (O3.out.far (p := ⟨w.heap.size, 0, none⟩) S2.out _)
/-- a state and ok -/
def RetNt (ok : Bool) (ps : List LayP) (zs : List (List Nat)) (sd : Int) (sc : Nat) (w : World) (e : Ending) (w' : World) : Prop :=
  ∃ q : TrsA, e = .returned (.tuple #[.agg q.cells, .bool ok]) ∧ q.ls.map (fun x => x.p.can) = ps ∧ q.ss.map (fun x => x.z.map (canon .f32)) = zs ∧ q.st = 0 ∧ q.sd = sd ∧ q.sc = sc ∧ TrsOwn w' w.heap.size q ∧ q.bl.Nodup ∧ Below w.heap.size w w'
theorem retNt_no {w w' : World} (h : Below w.heap.size w w') : RetNt false [] [] 0 0 w (.returned (.tuple #[.agg #[.slice none 0 0, .slice none 0 0, .int .i64 0, .int .i64 0, .float .f32 0], .bool false])) w' :=
  ⟨⟨none, 0, [], none, 0, [], 0, 0, 0⟩, rfl, rfl, rfl, rfl, rfl, rfl, ⟨by simp [lsC, slC, OwnL, Cl.Own, laysC, ssC, vs, World.ownsRow_nil], by decide⟩, by simp [TrsA.bl, lsC, slC, blL, Cl.bl, laysC, ssC, blk], h⟩
def okNew (k : Int) (ps : List LayP) (sd : Int) : Bool := isKind k && (vMod ps && (isSeedV sd && decide (laySum ps ≤ 256)))
def zeros (k : Int) (ps : List LayP) : List (List Nat) := List.replicate (slotsOf k) (List.replicate (laySum ps) 0)
def oneF : Nat := 1065353216
theorem fit_zeros {k : Int} {ys : List FlA} {N : Nat} (hl : ys.length = slotsOf k) (hz : allZero N ys) : fitS k ys (N : Int) = true := by
  unfold fitS
  rw [hl]
  simp only [beq_self_eq_true, Bool.true_and, List.all_eq_true]
  intro x hx
  simp only [lenB, hz x hx, List.length_replicate, beq_self_eq_true]
end Go.Proofs.Ythklfkfhhdglcaa
