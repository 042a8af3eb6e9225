/-
  Tensors number by number: the model's loops, which append. Conditions: the tensor's numbers can be read.
-/
import Derived.Test.YtkfpaehalfjhhaaRow
import Derived.Deep.RegionLaw
import Derived.BigRegion
namespace Go.Proofs.Ytkfpaehalfjhhaa
open Go.RowKit Go.Deep Go.WideShapes Go.ChangeShapes

/-- a tensor alone is returned -/
def RetV (R C : Int) (zs : List Nat) (w : World) (e : Ending) (w' : World) : Prop :=
  ∃ a cap ys, e = .returned (.agg #[.int .i64 R, .int .i64 C, .slice a ys.length cap]) ∧ OwnF w' w.heap.size a cap ys ∧ ys.map (canon .f32) = zs ∧ Below w.heap.size w w'
/-- the tensor that a model's loop makes: its box at gb, k numbers so far; the result's own cell at w.heap.size -/
def Made (R C : Int) (f : Nat → Nat) (k gb : Nat) (w wr : World) : Prop :=
  ∃ (a : Option Addr) (cap : Nat) (ys : List Nat), w.heap.size < gb ∧ ys.length = k ∧ Blk wr gb 26 #[.int .i64 R, .int .i64 C, .slice a ys.length cap] ∧ OwnF wr w.heap.size a cap ys ∧ ys.map (canon .f32) = (List.range k).map f ∧ Below w.heap.size w wr ∧ Blk wr w.heap.size 26 #[.int .i64 0, .int .i64 0, .slice none 0 0]
def MadeAt (R C : Int) (f : Nat → Nat) (w : World) (s : Value) (wr : World) : Prop := ∃ gb, s = .pointer (some ⟨gb, 0, none⟩) ∧ Made R C f 0 gb w wr
def MadeRel (R C : Int) (f : Nat → Nat) (n gb : Nat) (w : World) (i : Value) (wr : World) : Prop := ∃ k : Nat, k ≤ n ∧ i = .int .i64 k ∧ Made R C f k gb w wr
theorem made_first (R C : Int) (f : Nat → Nat) (w : World) (T : TypeId) (hT : T = 46) :
    MadeAt R C f w (.pointer (some ⟨w.heap.size + 1, 0, none⟩)) (((w.alloc (.cells #[.int .i64 0, .int .i64 0, .slice none 0 0] 26)).alloc (.cells #[.int .i64 R, .int .i64 C, .slice (some ⟨w.heap.size + 1 + 1, 0, none⟩) 0 0] 26)).alloc (.cells #[] T)).drew := by
  subst hT
  refine ⟨_, rfl, some ⟨w.heap.size + 1 + 1, 0, none⟩, 0, [], by omega, rfl, ?_, ⟨?_, fun _ h => by cases h⟩, rfl, ?_, ?_⟩
  · have h := (Blk.new (w.alloc (.cells #[.int .i64 0, .int .i64 0, .slice none 0 0] 26)) 26 #[.int .i64 R, .int .i64 C, .slice (some ⟨w.heap.size + 1 + 1, 0, none⟩) 0 0]).below ((Below.refl _ _).alloc (Nat.le_refl _) (.cells #[] 46))
    simp only [World.size_alloc] at h
    exact h
  · have h := World.ownsRow_made (base := w.heap.size) (e := 46) (size := 1) ((w.alloc (.cells #[.int .i64 0, .int .i64 0, .slice none 0 0] 26)).alloc (.cells #[.int .i64 R, .int .i64 C, .slice (some ⟨w.heap.size + 1 + 1, 0, none⟩) 0 0] 26)) #[] 0 (by simp; omega) (by decide) rfl
    simp only [World.size_alloc] at h
    exact h
  · exact ((((Below.refl _ _).alloc (Nat.le_refl _) _).alloc (by simp) _).alloc (by simp; omega) _).drew
  · have h := (((Blk.new w 26 #[.int .i64 0, .int .i64 0, .slice none 0 0]).below ((Below.refl _ _).alloc (Nat.le_refl _) (.cells #[.int .i64 R, .int .i64 C, .slice (some ⟨w.heap.size + 1 + 1, 0, none⟩) 0 0] 26))).below ((Below.refl _ _).alloc (Nat.le_refl _) (.cells #[] 46)))
    exact h
theorem made_first' (R C : Int) (f : Nat → Nat) (w : World) (T : TypeId) (hT : T = 46) :
    MadeAt R C f w (.pointer (some ⟨w.heap.size + 1 + 1, 0, none⟩)) (((w.alloc (.cells #[.int .i64 0, .int .i64 0, .slice none 0 0] 26)).alloc (.cells #[] T)).alloc (.cells #[.int .i64 R, .int .i64 C, .slice (some ⟨w.heap.size + 1, 0, none⟩) 0 0] 26)).drew := by
  subst hT
  refine ⟨_, rfl, some ⟨w.heap.size + 1, 0, none⟩, 0, [], by omega, rfl, ?_, ⟨?_, fun _ h => by cases h⟩, rfl, ?_, ?_⟩
  · have h := (Blk.new ((w.alloc (.cells #[.int .i64 0, .int .i64 0, .slice none 0 0] 26)).alloc (.cells #[] 46)) 26 #[.int .i64 R, .int .i64 C, .slice (some ⟨w.heap.size + 1, 0, none⟩) 0 0])
    simp only [World.size_alloc] at h
    exact h
  · have h := (World.ownsRow_made (base := w.heap.size) (e := 46) (size := 1) (w.alloc (.cells #[.int .i64 0, .int .i64 0, .slice none 0 0] 26)) #[] 0 (by simp) (by decide) rfl).alloc (.cells #[.int .i64 R, .int .i64 C, .slice (some ⟨w.heap.size + 1, 0, none⟩) 0 0] 26)
    simp only [World.size_alloc] at h
    exact h
  · exact ((((Below.refl _ _).alloc (Nat.le_refl _) _).alloc (by simp) _).alloc (by simp; omega) _).drew
  · have h := (((Blk.new w 26 #[.int .i64 0, .int .i64 0, .slice none 0 0]).below ((Below.refl _ _).alloc (Nat.le_refl _) (.cells #[] 46))).below ((Below.refl _ _).alloc (Nat.le_refl _) (.cells #[.int .i64 R, .int .i64 C, .slice (some ⟨w.heap.size + 1, 0, none⟩) 0 0] 26)))
    exact h

theorem made_app {R C : Int} {f : Nat → Nat} {k gb : Nat} {w wr w' : World} {b a' : Option Addr} {cp cp' m v : Nat} {ys : List Nat} (hgb : w.heap.size < gb)
    (hb : Blk wr gb 26 #[.int .i64 R, .int .i64 C, .slice b ys.length cp]) (ho : OwnF wr w.heap.size b cp ys) (hl : Below w.heap.size w wr) (hr : Blk wr w.heap.size 26 #[.int .i64 0, .int .i64 0, .slice none 0 0])
    (he : ys.map (canon .f32) = (List.range k).map f) (hy : ys.length = k) (hv : v < 2 ^ 32) (hc : canon .f32 v = f k)
    (hown : w'.ownsRow w.heap.size 46 1 (.slice a' (ys.length + 1) cp') (ys.length + 1) (ys.map (Value.float .f32) ++ [.float .f32 v])) (hg : ((wr.drewN m).alloc (.cells #[.float .f32 v] 46)).grownBy w' (Value.ownBlock (.slice b ys.length cp))) :
    (w'.cell? ⟨gb, 2, none⟩ = some (.slice b ys.length cp) ∧ w'.frozen? ⟨gb, 2, none⟩ = false) ∧ Made R C f (k + 1) gb w (w'.setCell ⟨gb, 2, none⟩ (.slice a' (ys.length + 1) cp')) := by
  rw [ownBlock_slice] at hg
  have bw : Below wr.heap.size wr ((wr.drewN m).alloc (.cells #[.float .f32 v] 46)) := (below_drewN (Below.refl _ _) m).alloc (Nat.le_refl _) _
  have ho1 := ho.kept bw
  have hb2 := (hb.below bw).apart hg ho1 (by decide)
  have hr2 := (hr.below bw).apart hg ho1 (by decide)
  have hl2 : Below w.heap.size w w' := (hl.trans (bw.mono hl.size)).grown hg (Nat.le_trans hl.size bw.size) (fun g h => (ho1.lt g h).1)
  have st : w'.grownBy (w'.setCell ⟨gb, 2, none⟩ (.slice a' (ys.length + 1) cp')) (some gb) := ⟨rfl, rfl, rfl, by simp, fun k _ hk => Below.heap_setCell w' ⟨gb, 2, none⟩ _ k (fun e => hk (by simp [e]))⟩
  have ho2 : OwnF w' w.heap.size a' cp' (ys ++ [v]) := by
    refine ⟨by simpa using hown, fun y hy' => ?_⟩
    rcases List.mem_append.1 hy' with h | h
    · exact ho.2 y h
    · simp at h; subst h; exact hv
  refine ⟨⟨hb2.cell 2, hb2.frozen 2⟩, a', cp', ys ++ [v], hgb, by simp [hy], ?_, ho2.off st hb2 (by decide), ?_, hl2.setCell (Nat.le_of_lt hgb) _, hr2.off st (by omega)⟩
  · unfold Blk at hb2 ⊢
    simp [World.setCell, Array.getElem?_modify, hb2]
  · rw [List.map_append, he, List.range_succ, List.map_append]
    simp [hc]
theorem made_reads {wr : World} {m v : Nat} : Reads ((wr.drewN m).alloc (.cells #[.float .f32 v] 46)) (wr.heap.size + 1) 1 (some ⟨wr.heap.size, 0, none⟩) 1 [.float .f32 v] := by
  refine ⟨rfl, fun _ => ⟨_, rfl, by simp, fun j u hu => ?_⟩⟩
  rw [add_plain]
  have := (Blk.new (wr.drewN m) 46 #[.float .f32 v]).cell (0 + j)
  have e : (wr.drewN m).heap.size = wr.heap.size := rfl
  rw [e] at this
  rw [this, Nat.zero_add]
  simpa using hu
theorem made_own {B : Nat} {wr : World} {b : Option Addr} {cp m v : Nat} {ys : List Nat} (ho : OwnF wr B b cp ys) : ((wr.drewN m).alloc (.cells #[.float .f32 v] 46)).ownsRow B 46 1 (.slice b ys.length cp) ys.length (ys.map (Value.float .f32)) :=
  (ho.kept ((below_drewN (Below.refl _ _) m).alloc (Nat.le_refl _) _)).1
theorem made_base {w wr : World} {m v : Nat} (h : w.heap.size ≤ wr.heap.size) : w.heap.size ≤ ((wr.drewN m).alloc (.cells #[.float .f32 v] 46)).heap.size := by
  rw [World.size_alloc]; exact Nat.le_trans h (Nat.le_succ _)
theorem made_old {wr : World} {m v gb : Nat} {T : TypeId} {x y z : Value} (h : Blk wr gb T #[x, y, z]) : ((wr.drewN m).alloc (.cells #[.float .f32 v] 46)).cell? ⟨gb, 2, none⟩ = some z :=
  (h.below ((below_drewN (Below.refl _ _) m).alloc (Nat.le_refl _) _)).cell 2
theorem one_f32 (v : Nat) : ∀ u ∈ [Value.float .f32 v], u.oneCell' = true := by intro u hu; simp at hu; subst hu; rfl

/-- the end of a model's loop -/
theorem made_end {R C : Int} {f : Nat → Nat} {n : Nat} {w wr : World} {b : Option Addr} {cp : Nat} {ys : List Nat}
    (ho : OwnF wr w.heap.size b cp ys) (hl : Below w.heap.size w wr) (hr : Blk wr w.heap.size 26 #[.int .i64 0, .int .i64 0, .slice none 0 0]) (he : ys.map (canon .f32) = (List.range n).map f) :
    RetV R C ((List.range n).map f) w (.returned (.agg #[.int .i64 R, .int .i64 C, .slice b ys.length cp])) (((wr.setCell ⟨w.heap.size, 0, none⟩ (.int .i64 R)).setCell ⟨w.heap.size, 1, none⟩ (.int .i64 C)).setCell ⟨w.heap.size, 2, none⟩ (.slice b ys.length cp)) :=
  ⟨b, cp, ys, rfl, ho.off (store3 hr).2 hr (by decide), he, ((hl.setCell (Nat.le_refl _) _).setCell (Nat.le_refl _) _).setCell (Nat.le_refl _) _⟩

end Go.Proofs.Ytkfpaehalfjhhaa
