/-
  RunModel: what the model makes of all rows, and what it answers. Conditions: the cells can be read.
-/
import Derived.Test.YtnkmgeiehhonkaaRms
import Derived.Test.YtnkmgeiehhonkaaEach
import Derived.BigRegion
import Derived.Deep.RegionLaw
import Derived.Deep.AppendLies
namespace Go.Proofs.Ytnkmgeiehhonkaa
open Go.RowKit Go.Deep Go.WideShapes Go.ChangeShapes
set_option linter.unusedVariables false
set_option linter.unusedSimpArgs false

theorem pk_blk_far {w : World} {g g' i : Nat} {t : TypeId} {cs : Array Value} (h : Blk w g t cs) (hne : g ≠ g') (u : Value) : Blk (w.setCell ⟨g', i, none⟩ u) g t cs :=
  (Below.heap_setCell w ⟨g', i, none⟩ u g (fun e => hne (by simpa using e))).trans h
theorem pk_blk_set {w : World} {g i : Nat} {t : TypeId} {cs : Array Value} (h : Blk w g t cs) (u : Value) : Blk (w.setCell ⟨g, i, none⟩ u) g t (cs.setIfInBounds i u) := Joins.block_setCell h u
theorem pk_st_next {w wr w5 : World} {B : Nat} {b a' : Option Addr} {cp c' : Nat} {tl cl : List Nat} (ho : OwnF wr B b cp tl) (hc : ∀ y ∈ cl, y < 2 ^ 32)
    (hown : w5.ownsRow B 72 1 (.slice a' (tl.length + cl.length) c') (tl.length + cl.length) (tl.map (Value.float .f32) ++ cl.map (Value.float .f32))) (hgr : wr.grownBy w5 (Value.ownBlock (.slice b tl.length cp)))
    (hB : w.heap.size ≤ B) (hl : Below w.heap.size w wr) : OwnF w5 B a' c' (tl ++ cl) ∧ Below w.heap.size w w5 := by
  rw [ownBlock_slice] at hgr
  refine ⟨⟨by simpa using hown, fun y hy => ?_⟩, hl.grown hgr hl.size (fun g h => Nat.le_trans hB (ho.lt g h).1)⟩
  rcases List.mem_append.1 hy with h | h
  · exact ho.2 y h
  · exact hc y h
theorem pk_st_blk {wr w5 : World} {B ad : Nat} {t : TypeId} {cs : Array Value} {b : Option Addr} {cp : Nat} {tl : List Nat} (hk : Blk wr ad t cs) (ho : OwnF wr B b cp tl) (hgr : wr.grownBy w5 (Value.ownBlock (.slice b tl.length cp))) (hne : ad < B) : Blk w5 ad t cs := by
  rw [ownBlock_slice] at hgr
  refine (hgr.block ad hk.lt (fun e => ?_)).trans hk
  have := (ho.lt ad e.symm).1
  omega
theorem pk_st_blk' {wr w5 : World} {ad : Nat} {t : TypeId} {cs : Array Value} {b : Option Addr} {cp n : Nat} (hk : Blk wr ad t cs) (hgr : wr.grownBy w5 (Value.ownBlock (.slice b n cp))) (hne : ∀ g, blk b = some g → g ≠ ad) : Blk w5 ad t cs := by
  rw [ownBlock_slice] at hgr
  exact (hgr.block ad hk.lt (fun e => hne ad e.symm rfl)).trans hk
theorem pk_st_ne {w : World} {b a' : Option Addr} {n n' cp c' ad : Nat} (hat : Value.ownBlock (.slice a' n' c') = Value.ownBlock (.slice b n cp) ∨ Value.ownBlock (.slice a' n' c') = some w.heap.size) (hne : ∀ g, blk b = some g → g ≠ ad) (hlt : ad < w.heap.size) : ∀ g, blk a' = some g → g ≠ ad := by
  intro g hg
  rw [ownBlock_slice, ownBlock_slice] at hat
  rcases hat with h | h
  · exact hne g (h ▸ hg)
  · rw [h] at hg
    simp only [Option.some.injEq] at hg
    omega
theorem pk_st_far' {w : World} {B : Nat} {a : Option Addr} {cap : Nat} {ys : List Nat} (h : OwnF w B a cap ys) {g i : Nat} (hne : ∀ x, blk a = some x → x ≠ g) (u : Value) : OwnF (w.setCell ⟨g, i, none⟩ u) B a cap ys := by
  have hg : GrownIn w (w.setCell ⟨g, i, none⟩ u) [g] := (GrownIn.refl w [g]).setCell (p := ⟨g, i, none⟩) (by simp) u
  refine ⟨ownsRow_in h.1 hg (fun x hx hm => ?_), h.2⟩
  simp only [List.mem_singleton] at hm
  exact hne x (by simpa using hx) hm
/-- j rows are made -/
def RmRel (f : Nat → List Nat) (R O gq : Nat) (w : World) (iv : Value) (wr : World) : Prop :=
  ∃ (j : Nat) (b : Option Addr) (cp : Nat) (D : List Nat), j ≤ R ∧ iv = .int .i64 j ∧ Blk wr gq 69 #[.int .i64 R, .int .i64 O, .slice b D.length cp] ∧
    Blk wr w.heap.size 69 #[.int .i64 0, .int .i64 0, .slice none 0 0] ∧ OwnF wr w.heap.size b cp D ∧ D.map (canon .f32) = (List.range j).flatMap f ∧ Below w.heap.size w wr
theorem rm_blk {wr w5 : World} {B ad : Nat} {t : TypeId} {cs : Array Value} {b : Option Addr} {cp : Nat} {tl : List Nat} (hk : Blk wr ad t cs) (ho : OwnF wr B b cp tl) (hgr : wr.grownBy w5 (Value.ownBlock (.slice b tl.length cp))) (ht : t ≠ 72) : Blk w5 ad t cs := by
  rw [ownBlock_slice] at hgr
  exact hk.apart hgr ho ht
theorem rm_next {f : Nat → List Nat} {R O gq j : Nat} {w w5 : World} {a' : Option Addr} {c' : Nat} {b : Option Addr} {cp : Nat} {D zs : List Nat} (hj : j < R) (hgq : w.heap.size < gq) (hk : Blk w5 gq 69 #[.int .i64 R, .int .i64 O, .slice b D.length cp]) (hr : Blk w5 w.heap.size 69 #[.int .i64 0, .int .i64 0, .slice none 0 0])
    (ho : OwnF w5 w.heap.size a' c' (D ++ zs)) (hb : Below w.heap.size w w5) (hd : D.map (canon .f32) = (List.range j).flatMap f) (hz : zs.map (canon .f32) = f j) :
    RmRel f R O gq w (.int .i64 ((j : Int) + 1)) (w5.setCell ⟨gq, 2, none⟩ (.slice a' (D.length + zs.length) c')) := by
  have st : w5.grownBy (w5.setCell ⟨gq, 2, none⟩ (.slice a' (D.length + zs.length) c')) (some gq) := ⟨rfl, rfl, rfl, by simp, fun k _ hk => Below.heap_setCell w5 ⟨gq, 2, none⟩ _ k (fun e => hk (by simp [e]))⟩
  have hk2 := pk_blk_set (i := 2) hk (.slice a' (D.length + zs.length) c')
  simp only [List.setIfInBounds_toArray, List.set_cons_zero, List.set_cons_succ] at hk2
  refine ⟨j + 1, a', c', D ++ zs, hj, by go_num, by rw [List.length_append]; exact hk2, hr.off st (by omega), ho.off st hk (by decide), ?_, hb.setCell (Nat.le_of_lt hgq) _⟩
  rw [List.map_append, hd, hz, List.range_succ, List.flatMap_append]
  simp
theorem blk_old {s : Nat} (W : World) (cs : Array Value) (t : TypeId) (o : Obj) (h : W.heap.size = s) (i : Nat) : ((W.alloc (.cells cs t)).alloc o).cell? ⟨s, i, none⟩ = cs[i]? ∧ ((W.alloc (.cells cs t)).alloc o).frozen? ⟨s, i, none⟩ = false := by
  subst h
  have k := (Blk.new W t cs).below ((Below.refl _ _).alloc (Nat.le_refl _) o)
  exact ⟨k.cell i, k.frozen i⟩
theorem blk_new1 {s : Nat} (W : World) (cs : Array Value) (t : TypeId) (h : W.heap.size = s) (i : Nat) : (W.alloc (.cells cs t)).cell? ⟨s, i, none⟩ = cs[i]? ∧ (W.alloc (.cells cs t)).frozen? ⟨s, i, none⟩ = false := by
  subst h
  have k := Blk.new W t cs
  exact ⟨k.cell i, k.frozen i⟩
theorem blk_oldd {s : Nat} (W : World) (m : Nat) (cs : Array Value) (t : TypeId) (o : Obj) (h : W.heap.size = s) (i : Nat) : (((W.alloc (.cells cs t)).drewN m).alloc o).cell? ⟨s, i, none⟩ = cs[i]? ∧ (((W.alloc (.cells cs t)).drewN m).alloc o).frozen? ⟨s, i, none⟩ = false := by
  subst h
  have k := ((Blk.new W t cs).below (below_drewN (Below.refl _ _) m)).below ((Below.refl _ _).alloc (Nat.le_refl _) o)
  exact ⟨k.cell i, k.frozen i⟩
theorem blk_newd {s : Nat} (W : World) (m : Nat) (cs : Array Value) (t : TypeId) (o : Obj) (h : W.heap.size = s) (i : Nat) : (((W.alloc o).drewN m).alloc (.cells cs t)).cell? ⟨s + 1, i, none⟩ = cs[i]? ∧ (((W.alloc o).drewN m).alloc (.cells cs t)).frozen? ⟨s + 1, i, none⟩ = false := by
  subst h
  have k := Blk.new ((W.alloc o).drewN m) t cs
  rw [show ((W.alloc o).drewN m).heap.size = W.heap.size + 1 from World.size_alloc ..] at k
  exact ⟨k.cell i, k.frozen i⟩
theorem mk_own (W : World) (B : Nat) (hB : B ≤ W.heap.size) : OwnF (W.alloc (.cells #[] 72)) B (some ⟨W.heap.size, 0, none⟩) 0 [] := ⟨World.ownsRow_made W #[] 0 hB (by decide) rfl, fun _ h => by cases h⟩
theorem made_of {R O : Int} {f : Nat → Nat} {w wx : World} {gq gA : Nat} (h1 : w.heap.size < gq) (hk : Blk wx gq 69 #[.int .i64 R, .int .i64 O, .slice (some ⟨gA, 0, none⟩) 0 0]) (ho : OwnF wx w.heap.size (some ⟨gA, 0, none⟩) 0 []) (hb : Below w.heap.size w wx) (hr : Blk wx w.heap.size 69 #[.int .i64 0, .int .i64 0, .slice none 0 0]) :
    MadeAt R O f w (.pointer (some ⟨gq, 0, none⟩)) wx := ⟨gq, rfl, _, 0, [], h1, rfl, hk, ho, rfl, hb, hr⟩
/-- the tensor's block is filled where it lies, and the list behind it -/
theorem made_fill {R O : Int} {f : Nat → Nat} {w W : World} {gq gA : Nat} (h1 : w.heap.size < gq) (hz : Blk W gq 69 #[.int .i64 0, .int .i64 0, .slice none 0 0]) (ho : OwnF W w.heap.size (some ⟨gA, 0, none⟩) 0 []) (hb : Below w.heap.size w W) (hr : Blk W w.heap.size 69 #[.int .i64 0, .int .i64 0, .slice none 0 0]) :
    MadeAt R O f w (.pointer (some ⟨gq, 0, none⟩)) (((W.setCell ⟨gq, 0, none⟩ (.int .i64 R)).setCell ⟨gq, 1, none⟩ (.int .i64 O)).setCell ⟨gq, 2, none⟩ (.slice (some ⟨gA, 0, none⟩) 0 0)) := by
  obtain ⟨hk, hg⟩ := store3 hz (x' := .int .i64 R) (y' := .int .i64 O) (z' := .slice (some ⟨gA, 0, none⟩) 0 0)
  exact made_of h1 hk (ho.off hg hz (by decide)) (Below.at_ hb hg (by omega)) (hr.off hg (by omega))
theorem made_then {R O : Int} {f : Nat → Nat} {w W : World} {gq s : Nat} (h1 : w.heap.size < gq) (hz : Blk W gq 69 #[.int .i64 0, .int .i64 0, .slice none 0 0]) (hb : Below w.heap.size w W) (hr : Blk W w.heap.size 69 #[.int .i64 0, .int .i64 0, .slice none 0 0]) (hs : W.heap.size = s) :
    MadeAt R O f w (.pointer (some ⟨gq, 0, none⟩)) ((((W.setCell ⟨gq, 0, none⟩ (.int .i64 R)).setCell ⟨gq, 1, none⟩ (.int .i64 O)).setCell ⟨gq, 2, none⟩ (.slice (some ⟨s, 0, none⟩) 0 0)).alloc (.cells #[] 72)) := by
  obtain ⟨hk, hg⟩ := store3 hz (x' := .int .i64 R) (y' := .int .i64 O) (z' := .slice (some ⟨s, 0, none⟩) 0 0)
  have hb2 := Below.at_ hb hg (by omega)
  have hr2 := hr.off hg (by omega)
  have hs2 : (((W.setCell ⟨gq, 0, none⟩ (.int .i64 R)).setCell ⟨gq, 1, none⟩ (.int .i64 O)).setCell ⟨gq, 2, none⟩ (.slice (some ⟨s, 0, none⟩) 0 0)).heap.size = s := by simp [hs]
  generalize ((W.setCell ⟨gq, 0, none⟩ (.int .i64 R)).setCell ⟨gq, 1, none⟩ (.int .i64 O)).setCell ⟨gq, 2, none⟩ (.slice (some ⟨s, 0, none⟩) 0 0) = WS at hk hg hb2 hr2 hs2 ⊢
  subst hs2
  have al := (Below.refl WS.heap.size WS).alloc (Nat.le_refl _) (.cells #[] 72)
  exact made_of h1 (hk.below al) (mk_own WS _ hb2.size) (Below.next hb2 al) (hr2.below al)
theorem made_o1 {R O : Int} {f : Nat → Nat} {w wa : World} (hb : Below w.heap.size w wa) (hr : Blk wa w.heap.size 69 #[.int .i64 0, .int .i64 0, .slice none 0 0]) (k : Nat) :
    MadeAt R O f w (.pointer (some ⟨wa.heap.size + 1, 0, none⟩)) (((wa.drewN k).alloc (.cells #[] 72)).alloc (.cells #[.int .i64 R, .int .i64 O, .slice (some ⟨wa.heap.size, 0, none⟩) 0 0] 69)) := by
  have b1 := below_drewN (Below.refl wa.heap.size wa) k
  have b2 := (Below.refl (wa.drewN k).heap.size (wa.drewN k)).alloc (Nat.le_refl _) (.cells #[] 72)
  have o := mk_own (wa.drewN k) w.heap.size hb.size
  have hs : ((wa.drewN k).alloc (.cells #[] 72)).heap.size = wa.heap.size + 1 := World.size_alloc ..
  have b12 := Below.next b1 b2
  generalize (wa.drewN k).alloc (.cells #[] 72) = W at b12 o hs ⊢
  have b3 := (Below.refl W.heap.size W).alloc (Nat.le_refl _) (.cells #[.int .i64 R, .int .i64 O, .slice (some ⟨wa.heap.size, 0, none⟩) 0 0] 69)
  have kn := Blk.new W 69 #[.int .i64 R, .int .i64 O, .slice (some ⟨wa.heap.size, 0, none⟩) 0 0]
  rw [hs] at kn
  have := hr.lt
  exact made_of (by omega) kn (OwnF.kept o b3) (Below.next (Below.next hb b12) b3) ((hr.below b12).below b3)
theorem made_o3 {R O : Int} {f : Nat → Nat} {w wa : World} (hb : Below w.heap.size w wa) (hr : Blk wa w.heap.size 69 #[.int .i64 0, .int .i64 0, .slice none 0 0]) (k : Nat) :
    MadeAt R O f w (.pointer (some ⟨wa.heap.size + 1, 0, none⟩)) (((wa.alloc (.cells #[] 72)).drewN k).alloc (.cells #[.int .i64 R, .int .i64 O, .slice (some ⟨wa.heap.size, 0, none⟩) 0 0] 69)) := by
  have b2 := (Below.refl wa.heap.size wa).alloc (Nat.le_refl _) (.cells #[] 72)
  have o := mk_own wa w.heap.size hb.size
  have hs : (wa.alloc (.cells #[] 72)).heap.size = wa.heap.size + 1 := World.size_alloc ..
  have b12 := below_drewN b2 k
  have o2 := o.drewN k
  have hs2 : ((wa.alloc (.cells #[] 72)).drewN k).heap.size = wa.heap.size + 1 := hs
  generalize (wa.alloc (.cells #[] 72)).drewN k = W at b12 o2 hs2 ⊢
  have b3 := (Below.refl W.heap.size W).alloc (Nat.le_refl _) (.cells #[.int .i64 R, .int .i64 O, .slice (some ⟨wa.heap.size, 0, none⟩) 0 0] 69)
  have kn := Blk.new W 69 #[.int .i64 R, .int .i64 O, .slice (some ⟨wa.heap.size, 0, none⟩) 0 0]
  rw [hs2] at kn
  have := hr.lt
  exact made_of (by omega) kn (OwnF.kept o2 b3) (Below.next (Below.next hb b12) b3) ((hr.below b12).below b3)
theorem made_o2 {R O : Int} {f : Nat → Nat} {w wa : World} (hb : Below w.heap.size w wa) (hr : Blk wa w.heap.size 69 #[.int .i64 0, .int .i64 0, .slice none 0 0]) (k : Nat) :
    MadeAt R O f w (.pointer (some ⟨wa.heap.size, 0, none⟩)) (((((((wa.drewN k).alloc (.cells #[.int .i64 0, .int .i64 0, .slice none 0 0] 69)).setCell ⟨wa.heap.size, 0, none⟩ (.int .i64 R)).setCell ⟨wa.heap.size, 1, none⟩ (.int .i64 O)).setCell ⟨wa.heap.size, 2, none⟩ (.slice (some ⟨wa.heap.size + 1, 0, none⟩) 0 0)).alloc (.cells #[] 72))) := by
  have b1 := below_drewN (Below.refl wa.heap.size wa) k
  have b2 := (Below.refl (wa.drewN k).heap.size (wa.drewN k)).alloc (Nat.le_refl _) (.cells #[.int .i64 0, .int .i64 0, .slice none 0 0] 69)
  have hz : Blk ((wa.drewN k).alloc (.cells #[.int .i64 0, .int .i64 0, .slice none 0 0] 69)) wa.heap.size 69 #[.int .i64 0, .int .i64 0, .slice none 0 0] := Blk.new (wa.drewN k) _ _
  have b12 := Below.next b1 b2
  exact made_then hr.lt hz (Below.next hb b12) (hr.below b12) (World.size_alloc ..)
theorem made_o5 {R O : Int} {f : Nat → Nat} {w wa : World} (hb : Below w.heap.size w wa) (hr : Blk wa w.heap.size 69 #[.int .i64 0, .int .i64 0, .slice none 0 0]) (k : Nat) :
    MadeAt R O f w (.pointer (some ⟨wa.heap.size, 0, none⟩)) (((((((wa.alloc (.cells #[.int .i64 0, .int .i64 0, .slice none 0 0] 69)).drewN k).setCell ⟨wa.heap.size, 0, none⟩ (.int .i64 R)).setCell ⟨wa.heap.size, 1, none⟩ (.int .i64 O)).setCell ⟨wa.heap.size, 2, none⟩ (.slice (some ⟨wa.heap.size + 1, 0, none⟩) 0 0)).alloc (.cells #[] 72))) := by
  have b2 := below_drewN ((Below.refl wa.heap.size wa).alloc (Nat.le_refl _) (.cells #[.int .i64 0, .int .i64 0, .slice none 0 0] 69)) k
  have hz : Blk ((wa.alloc (.cells #[.int .i64 0, .int .i64 0, .slice none 0 0] 69)).drewN k) wa.heap.size 69 #[.int .i64 0, .int .i64 0, .slice none 0 0] := Blk.new wa _ _
  have hs : (wa.alloc (.cells #[.int .i64 0, .int .i64 0, .slice none 0 0] 69)).heap.size = wa.heap.size + 1 := World.size_alloc ..
  exact made_then hr.lt hz (Below.next hb b2) (hr.below b2) hs
theorem made_o4 {R O : Int} {f : Nat → Nat} {w wa : World} (hb : Below w.heap.size w wa) (hr : Blk wa w.heap.size 69 #[.int .i64 0, .int .i64 0, .slice none 0 0]) (k : Nat) :
    MadeAt R O f w (.pointer (some ⟨wa.heap.size + 1, 0, none⟩)) ((((((wa.alloc (.cells #[] 72)).alloc (.cells #[.int .i64 0, .int .i64 0, .slice none 0 0] 69)).drewN k).setCell ⟨wa.heap.size + 1, 0, none⟩ (.int .i64 R)).setCell ⟨wa.heap.size + 1, 1, none⟩ (.int .i64 O)).setCell ⟨wa.heap.size + 1, 2, none⟩ (.slice (some ⟨wa.heap.size, 0, none⟩) 0 0)) := by
  have b1 := (Below.refl wa.heap.size wa).alloc (Nat.le_refl _) (.cells #[] 72)
  have o := mk_own wa w.heap.size hb.size
  have hs : (wa.alloc (.cells #[] 72)).heap.size = wa.heap.size + 1 := World.size_alloc ..
  generalize wa.alloc (.cells #[] 72) = W at b1 o hs ⊢
  have b2 := below_drewN ((Below.refl W.heap.size W).alloc (Nat.le_refl _) (.cells #[.int .i64 0, .int .i64 0, .slice none 0 0] 69)) k
  have hz : Blk ((W.alloc (.cells #[.int .i64 0, .int .i64 0, .slice none 0 0] 69)).drewN k) W.heap.size 69 #[.int .i64 0, .int .i64 0, .slice none 0 0] := Blk.new W _ _
  rw [hs] at hz
  have := hr.lt
  exact made_fill (by omega) hz (OwnF.kept o b2) (Below.next (Below.next hb b1) b2) ((hr.below b1).below b2)
theorem made_o6 {R O : Int} {f : Nat → Nat} {w wa : World} (hb : Below w.heap.size w wa) (hr : Blk wa w.heap.size 69 #[.int .i64 0, .int .i64 0, .slice none 0 0]) (k : Nat) :
    MadeAt R O f w (.pointer (some ⟨wa.heap.size, 0, none⟩)) ((((((wa.alloc (.cells #[.int .i64 0, .int .i64 0, .slice none 0 0] 69)).alloc (.cells #[] 72)).drewN k).setCell ⟨wa.heap.size, 0, none⟩ (.int .i64 R)).setCell ⟨wa.heap.size, 1, none⟩ (.int .i64 O)).setCell ⟨wa.heap.size, 2, none⟩ (.slice (some ⟨wa.heap.size + 1, 0, none⟩) 0 0)) := by
  have b1 := (Below.refl wa.heap.size wa).alloc (Nat.le_refl _) (.cells #[.int .i64 0, .int .i64 0, .slice none 0 0] 69)
  have hz := Blk.new wa 69 #[.int .i64 0, .int .i64 0, .slice none 0 0]
  have hs : (wa.alloc (.cells #[.int .i64 0, .int .i64 0, .slice none 0 0] 69)).heap.size = wa.heap.size + 1 := World.size_alloc ..
  generalize wa.alloc (.cells #[.int .i64 0, .int .i64 0, .slice none 0 0] 69) = W at b1 hz hs ⊢
  have b2 := below_drewN ((Below.refl W.heap.size W).alloc (Nat.le_refl _) (.cells #[] 72)) k
  have o := (mk_own W w.heap.size (Below.next hb b1).size).drewN k
  rw [hs] at o
  exact made_fill hr.lt (hz.below b2) o (Below.next (Below.next hb b1) b2) ((hr.below b1).below b2)
set_option maxRecDepth 20000 in
set_option maxHeartbeats 4000000 in
theorem c_l03Rows (gp gt : Nat) (g : Option Addr) (c n : Nat) (y : List LayA) (R C O : Nat) (a : Option Addr) (ca : Nat) (z : List Nat) (w : World)
    (hq : w.cell? ⟨gp, 0, none⟩ = some (.slice g n c)) (hv : vMod (y.map LayA.p) = true) (hg0 : goesIn (y.map LayA.p) C = true) (h : LaysAt w g n c y) (hO : lastO (y.map LayA.p) = (O : Int)) (o2 : O ≤ 8)
    (h0 : w.cell? ⟨gt, 0, none⟩ = some (.int .i64 R)) (h1 : w.cell? ⟨gt, 1, none⟩ = some (.int .i64 C)) (h2 : w.cell? ⟨gt, 2, none⟩ = some (.slice a z.length ca)) (hx : IsFloats .f32 w a z.length ca z)
    (r2 : R ≤ 16) (c1 : 1 ≤ C) (c2 : C ≤ 16) (hz : z.length = R * C) :
    Calls Try.prog 132 #[.pointer (some ⟨gp, 0, none⟩), .pointer (some ⟨gt, 0, none⟩)] w fun e w' => ∃ b cc ys, e = .returned (.agg #[.int .i64 R, .int .i64 O, .slice b (List.length ys) cc]) ∧ OwnF w' w.heap.size b cc ys ∧ ys.map (canon .f32) = (List.range R).flatMap (fun i => stageV (y.map LayA.p) (rowAt z C i) n) ∧ Below w.heap.size w w' := by
  have hln : y.length = n := h.1
  have hlp : (y.map LayA.p).length = n := by rw [List.length_map]; exact hln
  have HROW := Lib.hid (fun i (hi : i < R) => show (rowAt z C i).length = C from rowAt_len hz hi)
  have HOUT := Lib.hid (fun i (hi : i < R) => show (stageV (y.map LayA.p) (rowAt z C i) n).length = O by rw [← hlp]; exact outs_len hv (by rw [rowAt_len hz hi]; exact hg0) hO)
  have HZ := Lib.hid hz
  have HV := Lib.hid hv
  have HG0 := Lib.hid hg0
  have HL := Lib.hid h
  have HX := Lib.hid hx
  have HQ := Lib.hid hq
  have HO := Lib.hid hO
  have H0 := Lib.hid h0
  have H1 := Lib.hid h1
  have H2 := Lib.hid h2
  have HGP := Lib.hid (show gp < w.heap.size from cell_block hq)
  have HGT := Lib.hid (show gt < w.heap.size from cell_block h0)
  obtain ⟨i0, hi, hz0, hz1, hz2⟩ := info_parts info_f32
  have HI := Lib.hid hi
  have HZ0 := Lib.hid hz0
  have HZ1 := Lib.hid hz1
  have HZ2 := Lib.hid hz2
  have b0 := (Below.refl w.heap.size w).alloc (Nat.le_refl _) (.cells #[.int .i64 0, .int .i64 0, .slice none 0 0] 69)
  have BA := Lib.hid b0
  have KA := Lib.hid (Blk.new w 69 #[.int .i64 0, .int .i64 0, .slice none 0 0])
  have p0 := (b0.cell (p := ⟨gp, 0, none⟩) HGP.out).trans hq
  have t0 := (b0.cell (p := ⟨gt, 0, none⟩) HGT.out).trans h0
  clear hln hlp hz hv hg0 h hx hq hO h0 h1 h2 hi hz0 hz1 hz2 b0
  go_enter Try.func132, Try.ntmps132
  go_upto_region 1 with fail
  generalize hwa : w.alloc (.cells #[.int .i64 0, .int .i64 0, .slice none 0 0] 69) = wa at p0 t0 BA KA ⊢
  have HSA := Lib.hid (show wa.heap.size = w.heap.size + 1 by rw [← hwa]; simp)
  clear hwa
  have gp1 : gp < wa.heap.size := by rw [HSA.out]; have := HGP.out; omega
  have gt1 : gt < wa.heap.size := by rw [HSA.out]; have := HGT.out; omega
  have gp2 : gp < wa.heap.size + 1 := by omega
  have gt2 : gt < wa.heap.size + 1 := by omega
  have gp3 : gp < wa.heap.size + 1 + 1 := by omega
  have gt3 : gt < wa.heap.size + 1 + 1 := by omega
  go_cut [5] (fun s wx => MadeAt R O (fun _ => 0) w s wx)
  case first =>
    have HD := Lib.hid (HL.out.kept BA.out)
    have CO := fun W (hb : Below wa.heap.size wa W) (e : W.cell? ⟨gp, 0, none⟩ = some (.slice g n c)) => c_l03Out gp 0 g c n y W e (HD.out.kept hb) HV.out
    rw [HO.out] at CO
    have HCO := Lib.hid CO
    clear CO
    have E1 := fun m i => blk_new1 (s := wa.heap.size) (wa.drewN m) #[.int .i64 0, .int .i64 0, .slice none 0 0] 69 rfl i
    have E2 := fun m o i => blk_oldd (s := wa.heap.size) wa.drew m #[.int .i64 0, .int .i64 0, .slice none 0 0] 69 o rfl i
    have E3 := fun m o i => blk_newd (s := wa.heap.size) wa.drew m #[.int .i64 0, .int .i64 0, .slice none 0 0] 69 o rfl i
    have E1c := fun m i => (E1 m i).1
    have E1f := fun m i => (E1 m i).2
    have E2c := fun m o i => (E2 m o i).1
    have E2f := fun m o i => (E2 m o i).2
    have E3c := fun m o i => (E3 m o i).1
    have E3f := fun m o i => (E3 m o i).2
    clear E1 E2 E3
    have nn1 := World.new_ne wa ⟨gp, 0, none⟩ p0
    have nn2 := World.new_ne wa ⟨gt, 0, none⟩ t0
    have nn3 : ¬ gp = wa.heap.size + 1 := by omega
    have nn4 : ¬ gt = wa.heap.size + 1 := by omega
    have nn7 : ¬ wa.heap.size + 1 = gp := by omega
    have nn8 : ¬ wa.heap.size + 1 = gt := by omega
    have nn9 : ¬ wa.heap.size = gp := by omega
    have nn0 : ¬ wa.heap.size = gt := by omega
    have nn5 : ¬ gp = wa.heap.size := by omega
    have nn6 : ¬ gt = wa.heap.size := by omega
    go_region_held3 (fun w' => w'.cell? ⟨gp, 0, none⟩ = some (.slice g n c) ∧ w'.cell? ⟨gt, 0, none⟩ = some (.int .i64 R)) (go_keep)
      (first
        | (go_at_call 189
           refine (HCO.out _ ?_ ?_).mono ?_
           · first
             | exact (Below.refl _ _).drew
             | exact ((Below.refl wa.heap.size wa).drew.alloc (Nat.le_refl _) _)
             | exact Below.next ((Below.refl wa.heap.size wa).drew.alloc (Nat.le_refl _) _) ((Below.refl _ _).alloc (Nat.le_refl _) _)
           · first
             | exact p0
             | go_simp
           rintro e w1 ⟨rfl, m1, rfl⟩))
    all_goals (go_wp2_with fail; go_meet)
    · with_reducible exact made_o1 BA.out KA.out _
    · with_reducible exact made_o2 BA.out KA.out _
    · with_reducible exact made_o3 BA.out KA.out _
    · with_reducible exact made_o4 BA.out KA.out _
    · with_reducible exact made_o5 BA.out KA.out _
    · with_reducible exact made_o6 BA.out KA.out _
  case rest =>
    obtain ⟨gq, rfl, rb, cp, D, hgq, hy, hk, ho, he, hbl, hr⟩ := hcut
    obtain rfl : D = [] := List.length_eq_zero_iff.1 hy
    have HST := Lib.hid (show RmRel (fun i => stageV (y.map LayA.p) (rowAt z C i) n) R O gq w (.int .i64 0) wc from ⟨0, rb, cp, [], Nat.zero_le _, rfl, hk, hr, ho, rfl, hbl⟩)
    have HGQ := Lib.hid hgq
    clear hgq hy hk ho he hbl hr p0 t0 gp1 gp2 gp3 gt1 gt2 gt3
    go_wp2_with fail
    go_loopw [6] (fun iv wr => RmRel (fun i => stageV (y.map LayA.p) (rowAt z C i) n) R O gq w iv wr) (fun iv _ => R - (intOf iv).toNat)
    case atStart => exact HST.out
    case round =>
      obtain ⟨j, rb, cp, D, hj, rfl, hk1, hk0, ho, hd, hb⟩ := hrel
      have K1 := Lib.hid hk1
      have K0 := Lib.hid hk0
      have OD := Lib.hid ho
      have HDD := Lib.hid hd
      have HB := Lib.hid hb
      have hj0 : (0 : Int) ≤ (j : Int) := by omega
      have hdl : D.length = j * O := by
        have e := congrArg List.length hd
        rw [List.length_map, flat_len (K := O) j (fun i hi => HOUT.out i (by omega))] at e
        exact e
      have HDL := Lib.hid (show D.length ≤ 128 by have := Nat.mul_le_mul (show j ≤ 16 by omega) o2; omega)
      have t0 := (HB.out.cell (p := ⟨gt, 0, none⟩) HGT.out).trans H0.out
      clear HST hk1 hk0 ho hd hb hdl
      by_cases hlt : j < R
      · have hlt' : (j : Int) < (R : Int) := by omega
        obtain ⟨zr, hzr⟩ : ∃ zr, rowAt z C j = zr := ⟨_, rfl⟩
        have HZR := Lib.hid (show (z.drop (j * C)).take C = zr from hzr)
        have HGI := Lib.hid (show goesIn (y.map LayA.p) zr.length = true by rw [← hzr, HROW.out j hlt]; exact HG0.out)
        have HSO := Lib.hid (show (stageV (y.map LayA.p) zr n).length = O by rw [← hzr]; exact HOUT.out j hlt)
        have HSE := Lib.hid (show stageV (y.map LayA.p) zr n = (fun i => stageV (y.map LayA.p) (rowAt z C i) n) j by rw [← hzr])
        have bd : Below wr.heap.size wr wr.drew := (Below.refl _ _).drew
        have K1' := Lib.hid (K1.out.below bd)
        have K0' := Lib.hid (K0.out.below bd)
        have OD2 := Lib.hid (OD.out.kept bd)
        have HB2 := Lib.hid (HB.out.trans (bd.mono HB.out.size))
        have X2 := Lib.hid (HX.out.kept HB2.out)
        have C0 := Lib.hid ((HB2.out.cell (p := ⟨gt, 0, none⟩) HGT.out).trans H0.out)
        have C1 := Lib.hid ((HB2.out.cell (p := ⟨gt, 1, none⟩) HGT.out).trans H1.out)
        have C2 := Lib.hid ((HB2.out.cell (p := ⟨gt, 2, none⟩) HGT.out).trans H2.out)
        obtain ⟨s0, s1, s2, sl⟩ := tb K1.out
        obtain ⟨e0, e1, e2⟩ := tbf K1.out
        clear hzr bd
        go_wp2_with fail
        clear t0
        go_region_law (first
          | (refine step_append_any _ rfl (.tmp 24) (.tmp 29) 50 rfl w.heap.size 72 i0 (.float .f32 0) 1 4 Try.underlying50 HI.out HZ0.out HZ1.out HZ2.out rfl Nat.one_pos (.slice rb D.length cp) D.length (D.map (Value.float .f32)) rfl OD4.out.1 _ a4 zs.length c4 _ rfl HZF4.out.reads (ones_f32 _) A2.out A3.out HSZ.out ?_
             intro v' w5 hown hgr hat
             obtain ⟨a', c', rfl⟩ := ownsRow_slice hown
             have HNX := Lib.hid (pk_st_next OD4.out HZF4.out.2.2.2.1 hown hgr (Nat.le_refl _) HB4.out)
             have K15 := Lib.hid (rm_blk K14.out OD4.out hgr (by decide))
             have K05 := Lib.hid (rm_blk K04.out OD4.out hgr (by decide))
             clear hown hgr hat s0 s1 s2 sl e0 e1 e2
             obtain ⟨s0, s1, s2, sl⟩ := tb K15.out
             obtain ⟨e0, e1, e2⟩ := tbf K15.out)
          | (go_simp
             go_at_call 190
             refine (c_l03Row gp 0 g c n y zb zc zr _ Q3.out HV.out HGI.out L3.out HZF.out).mono ?_
             rintro e w4 ⟨a4, c4, zs, rfl, hf, hm, hb⟩
             have K14 := Lib.hid (K13.out.below hb)
             have K04 := Lib.hid (K03.out.below hb)
             have OD4 := Lib.hid (OD3.out.kept hb)
             have HB4 := Lib.hid (Below.next HB3.out hb)
             have HZF4 := Lib.hid hf.isFloats
             have HM4 := Lib.hid (hm.trans HSE.out)
             have HZL := Lib.hid (show zs.length = O by rw [← HSO.out, ← hm, List.length_map])
             have HSZ := Lib.hid (show w.heap.size ≤ w4.heap.size from HB4.out.size)
             have A2 := Lib.hid (show D.length + zs.length ≤ maxLen by have := HDL.out; have := HZL.out; unfold maxLen; omega)
             have A3 := Lib.hid (show (D.length + zs.length) * 4 ≤ 140737488355328 by have := HDL.out; have := HZL.out; omega)
             clear hf hm hb s0 s1 s2 sl e0 e1 e2
             obtain ⟨s0, s1, s2, sl⟩ := tb K14.out
             obtain ⟨e0, e1, e2⟩ := tbf K14.out)
          | (go_simp
             go_at_call 191
             refine (c_l02Row gt R C j a z.length ca z _ X2.out r2 c1 c2 hlt HZ.out zr HZR.out C0.out C1.out C2.out).mono ?_
             rintro e w3 ⟨zb, zc, rfl, hf, hb⟩
             have K13 := Lib.hid (K1'.out.below hb)
             have K03 := Lib.hid (K0'.out.below hb)
             have OD3 := Lib.hid (OD2.out.kept hb)
             have HB3 := Lib.hid (Below.next HB2.out hb)
             have HZF := Lib.hid hf.isFloats
             have Q3 := Lib.hid ((HB3.out.cell (p := ⟨gp, 0, none⟩) HGP.out).trans HQ.out)
             have L3 := Lib.hid (HL.out.kept HB3.out)
             clear hf hb s0 s1 s2 sl e0 e1 e2
             obtain ⟨s0, s1, s2, sl⟩ := tb K13.out
             obtain ⟨e0, e1, e2⟩ := tbf K13.out))
        all_goals
          go_wp2_with fail
          clear s0 s1 s2 sl e0 e1 e2
          go_roundw
          case rel => exact rm_next hlt HGQ.out K15.out K05.out HNX.out.1 HNX.out.2 HDD.out HM4.out
          case measure => simp [intOf]; omega
      · obtain rfl : j = R := by omega
        obtain ⟨s0, s1, s2, sl⟩ := tb K1.out
        obtain ⟨r0, r1, r3, rl⟩ := tb K0.out
        obtain ⟨e0, e1, e2⟩ := tbf K0.out
        obtain ⟨hk, hgw⟩ := store3 K0.out (x' := .int .i64 j) (y' := .int .i64 O) (z' := .slice rb D.length cp)
        obtain ⟨m0, m1, m2, ml⟩ := tb hk
        have HE1 := Lib.hid (OD.out.off hgw K0.out (by decide))
        have HE2 := Lib.hid (Below.at_ HB.out hgw (Nat.le_refl _))
        clear hk hgw
        go_wp2_with fail
        refine bodyPost_ret (v := .agg #[.int .i64 j, .int .i64 O, .slice rb D.length cp]) (by simp [results, Try.results132, go_sem, m0, m1, m2]) rfl ?_
        exact ⟨rb, cp, D, rfl, HE1.out, HDD.out, HE2.out⟩
end Go.Proofs.Ytnkmgeiehhonkaa
