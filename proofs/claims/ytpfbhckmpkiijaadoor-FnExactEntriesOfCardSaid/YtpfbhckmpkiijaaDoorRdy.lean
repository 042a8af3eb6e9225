/-
  The reader's numbers, one after another. Conditions: the bytes are there, or the reader has an error.
-/
import Derived.Test.YtpfbhckmpkiijaaDoorRdx
namespace Go.Proofs.YtpfbhckmpkiijaaDoor
open Go.RowKit Go.Deep Go.WideShapes Go.ChangeShapes
set_option linter.unusedVariables false
set_option linter.unusedSimpArgs false
attribute [local go_sem] World.drewN_zero

theorem blk_set {w : World} {g : Nat} {t : TypeId} {x E y : Value} (h : Blk w g t #[x, E]) : Blk (w.setCell ⟨g, 0, none⟩ y) g t #[y, E] := by
  unfold Blk at h ⊢
  simp [World.setCell, Array.getElem?_modify, h]
theorem below_same {w : World} {g B : Nat} {t : TypeId} {x E : Value} (h : Blk w g t #[x, E]) (hB : B ≤ w.heap.size) : Below B (w.setCell ⟨g, 0, none⟩ x) w := by
  refine ⟨rfl, rfl, rfl, by simp [World.setCell], fun j hj => ?_⟩
  by_cases e : j = g
  · subst e
    exact (show w.heap[j]? = _ from h).trans (show (w.setCell ⟨j, 0, none⟩ x).heap[j]? = _ from blk_set h).symm
  · exact (Below.heap_setCell _ _ _ _ e).symm
theorem below_chain {w wr w' : World} {g B : Nat} {t : TypeId} {x E y z : Value} (hw : Blk w g t #[x, E]) (hr : Blk wr g t #[y, E]) (h1 : Below B (w.setCell ⟨g, 0, none⟩ y) wr) (h2 : Below wr.heap.size (wr.setCell ⟨g, 0, none⟩ z) w') (hB : B ≤ wr.heap.size) : Below B (w.setCell ⟨g, 0, none⟩ z) w' := by
  have hs : (wr.setCell ⟨g, 0, none⟩ z).heap.size = wr.heap.size := by simp [World.setCell]
  have hs1 : (w.setCell ⟨g, 0, none⟩ z).heap.size = (w.setCell ⟨g, 0, none⟩ y).heap.size := by simp [World.setCell]
  refine ⟨h2.os.trans h1.os, h2.tape.trans h1.tape, h2.output.trans h1.output, ?_, fun j hj => ?_⟩
  · have a := h1.size
    have b := h2.size
    omega
  · rw [h2.block j (by omega)]
    by_cases e : j = g
    · subst e
      exact (show (wr.setCell ⟨j, 0, none⟩ z).heap[j]? = _ from blk_set hr).trans (show (w.setCell ⟨j, 0, none⟩ z).heap[j]? = _ from blk_set hw).symm
    · rw [Below.heap_setCell _ _ _ _ e, h1.block j hj, Below.heap_setCell _ _ _ _ e, Below.heap_setCell _ _ _ _ e]
/-- a reader with these bytes left -/
def IsR (w : World) (g : Nat) (l : List UInt8) : Prop := Blk w g 70 #[.string ⟨l.toArray⟩, .nilIface]
/-- the reader has gone on to these bytes; nothing else that lay before has changed -/
def Gone4 (w : World) (g B : Nat) (l : List UInt8) (w' : World) : Prop := Below B (w.setCell ⟨g, 0, none⟩ (.string ⟨l.toArray⟩)) w'
theorem Gone4.isR {w w' : World} {g : Nat} {x : Value} {l : List UInt8} (h : Gone4 w g w.heap.size l w') (hw : Blk w g 70 #[x, .nilIface]) : IsR w' g l := by
  have hs : (w.setCell ⟨g, 0, none⟩ (.string ⟨l.toArray⟩)).heap.size = w.heap.size := by simp [World.setCell]
  have h' : Below (w.setCell ⟨g, 0, none⟩ (.string ⟨l.toArray⟩)).heap.size (w.setCell ⟨g, 0, none⟩ (.string ⟨l.toArray⟩)) w' := by rw [hs]; exact h
  exact Blk.below (blk_set hw) h'
theorem c_numYes (g : Nat) (l : List UInt8) (w : World) (h : IsR w g l) (hn : 4 ≤ l.length) (hl : l.length ≤ 1048576) :
    Calls Tryd.prog 44 #[.pointer (some ⟨g, 0, none⟩)] w fun e w' => e = .returned (.float .f32 (leN (l.take 4))) ∧ Gone4 w g w.heap.size (l.drop 4) w' := by
  have HI := Lib.hid (c_intYes g 4 l w h hn (by omega) hl)
  have hb : leN (l.take 4) < 4294967296 := by
    have h1 := leN_lt (l.take 4)
    have h2 : (l.take 4).length = 4 := by rw [List.length_take]; omega
    rw [h2] at h1
    exact h1
  obtain ⟨N, hN⟩ : ∃ N, leN (l.take 4) = N := ⟨_, rfl⟩
  rw [hN] at HI hb ⊢
  have hb1 : (N : Int) ≤ 4294967295 := by omega
  have hb0 : (0 : Int) ≤ (N : Int) := by omega
  have hbw : IntKind.u32.wrap (N : Int) = (N : Int) := by rw [IntKind.wrap_u32]; omega
  clear h hN hb
  go_enter Tryd.func44, Tryd.ntmps44
  go_wp2_with (first | (go_at_call 53; refine HI.out.mono ?_; rintro e w' ⟨rfl, b⟩; have B := Lib.hid b; clear b) | go_in)
  go_ret
  exact ⟨by first | rfl | simp, B.out⟩
theorem rdy_reads {wr : World} {v : Nat} : Reads (wr.alloc (.cells #[.float .f32 v] 34)) (wr.heap.size + 1) 1 (some ⟨wr.heap.size, 0, none⟩) 1 [.float .f32 v] := by
  refine ⟨rfl, fun _ => ⟨_, rfl, by simp, fun j u hu => ?_⟩⟩
  rw [add_plain]
  have := (Blk.new wr 34 #[.float .f32 v]).cell (0 + j)
  rw [this, Nat.zero_add]
  simpa using hu
theorem rdy_one (v : Nat) : ∀ u ∈ [Value.float .f32 v], u.oneCell' = true := by intro u hu; simp at hu; subst hu; rfl
theorem ownF_gone {wr w5 : World} {g B : Nat} {b : Option Addr} {cp : Nat} {ys : List Nat} {l : List UInt8} (h : OwnF wr B b cp ys) (hg : g < B) (h5 : Gone4 wr g wr.heap.size l w5) : OwnF w5 B b cp ys := by
  have hs : (wr.setCell ⟨g, 0, none⟩ (.string ⟨l.toArray⟩)).heap.size = wr.heap.size := by simp [World.setCell]
  have h' : Below (wr.setCell ⟨g, 0, none⟩ (.string ⟨l.toArray⟩)).heap.size (wr.setCell ⟨g, 0, none⟩ (.string ⟨l.toArray⟩)) w5 := by rw [hs]; exact h5
  refine OwnF.kept (w := wr.setCell ⟨g, 0, none⟩ (.string ⟨l.toArray⟩)) ⟨World.ownsRow.kept h.1 (row := some g) ⟨rfl, rfl, rfl, by simp [World.setCell], fun j _ hj => Below.heap_setCell _ _ _ _ (fun e => hj (by rw [e]))⟩ (.inr (fun e => ?_)), h.2⟩ h'
  rw [ownBlock_slice] at e
  have := h.lt g e
  omega
def TeRel (l : List UInt8) (n : Nat) (g : Nat) (w : World) (sv iv : Value) (wr : World) : Prop :=
  ∃ (k : Nat) (b : Option Addr) (cp : Nat), k ≤ n ∧ iv = .int .i64 k ∧ sv = .slice b (numsB l k).length cp ∧ OwnF wr w.heap.size b cp (numsB l k) ∧ Gone4 w g w.heap.size (l.drop (4 * k)) wr ∧ w.heap.size ≤ wr.heap.size
theorem te_next {l : List UInt8} {n g k c : Nat} {w wr w5 w' : World} {b : Option Addr} {v' iv : Value} (hw : IsR w g l) (hk : k < n) (hiv : iv = .int .i64 ((k : Int) + 1))
    (hO : OwnF wr w.heap.size b c (numsB l k)) (hG : Gone4 w g w.heap.size (l.drop (4 * k)) wr) (hB : w.heap.size ≤ wr.heap.size) (h5 : Gone4 wr g wr.heap.size ((l.drop (4 * k)).drop 4) w5) (hO5 : OwnF w5 w.heap.size b c (numsB l k))
    (hown : w'.ownsRow w.heap.size 34 1 v' ((numsB l k).length + 1) ((numsB l k).map (Value.float .f32) ++ [.float .f32 (num4 l k)])) (hgr : (w5.alloc (.cells #[.float .f32 (num4 l k)] 34)).grownBy w' (Value.ownBlock (.slice b (numsB l k).length c))) : TeRel l n g w v' iv w' := by
  obtain ⟨a', c', rfl⟩ := ownsRow_slice hown
  rw [ownBlock_slice] at hgr
  have hr : IsR wr g (l.drop (4 * k)) := hG.isR hw
  have hch : Gone4 w g w.heap.size ((l.drop (4 * k)).drop 4) w5 := below_chain hw hr hG h5 hB
  have hs5 : wr.heap.size ≤ w5.heap.size := by have := h5.size; simpa [World.setCell] using this
  have ba : Below w.heap.size (w.setCell ⟨g, 0, none⟩ (.string ⟨((l.drop (4 * k)).drop 4).toArray⟩)) (w5.alloc (.cells #[.float .f32 (num4 l k)] 34)) := Below.alloc hch (by omega) _
  have hlt : ∀ k', blk b = some k' → w.heap.size ≤ k' := fun k' hk' => (hO5.lt k' hk').1
  have bg := ba.grown hgr (by rw [World.size_alloc]; omega) hlt
  have hsz := hgr.size
  rw [World.size_alloc] at hsz
  refine ⟨k + 1, a', c', hk, by rw [hiv]; rfl, by rw [numsB_succ]; simp, ⟨by rw [numsB_succ]; simpa using hown, numsB_lt l (k + 1)⟩, ?_, by omega⟩
  rw [List.drop_drop] at bg
  unfold Gone4
  rw [show 4 * (k + 1) = 4 * k + 4 by omega]
  exact bg
set_option maxRecDepth 20000 in
set_option maxHeartbeats 4000000 in
theorem c_takeEachF (g n : Nat) (l : List UInt8) (w : World) (h : IsR w g l) (hn : 4 * n ≤ l.length) (hl : l.length ≤ 16384) :
    Calls Tryd.prog 43 #[.pointer (some ⟨g, 0, none⟩), .int .i64 n, .func (.func 44) #[.pointer (some ⟨g, 0, none⟩)] #[]] w fun e w' =>
      ∃ b c, e = .returned (.slice b (numsB l n).length c) ∧ OwnF w' w.heap.size b c (numsB l n) ∧ Gone4 w g w.heap.size (l.drop (4 * n)) w' ∧ w.heap.size ≤ w'.heap.size := by
  obtain ⟨i0, hi, hz0, hz1, hz2⟩ := info_parts info_f32
  have HI := Lib.hid hi
  have HZ0 := Lib.hid hz0
  have HZ1 := Lib.hid hz1
  have HZ2 := Lib.hid hz2
  have H := Lib.hid h
  have HN := Lib.hid hn
  have HL := Lib.hid hl
  have hn4 : (n : Int) ≤ 4096 := by omega
  have hgw : g < w.heap.size := Blk.lt h
  have H0 := Lib.hid (below_same (B := w.heap.size) h (Nat.le_refl _))
  clear hi hz0 hz1 hz2 h hn hl
  go_enter Tryd.func43, Tryd.ntmps43
  go_wp2_with fail
  go_loopw [7, 10] (fun sv iv wr => TeRel l n g w sv iv wr) (fun _ iv _ => n - (intOf iv).toNat)
  case atStart => exact ⟨0, none, 0, Nat.zero_le _, rfl, rfl, ⟨World.ownsRow_nil _ _ _ _, fun y hy => by cases hy⟩, by simpa [Gone4] using H0.out, Nat.le_refl _⟩
  case round =>
    obtain ⟨k, b, cp, hk, rfl, rfl, ho, hg, hB⟩ := hrel
    have HO := Lib.hid ho
    have HG := Lib.hid hg
    have HBB := Lib.hid hB
    have hr := hg.isR H.out
    by_cases hlt : k < n
    · have hlt' : (k : Int) < (n : Int) := by omega
      have hlen : 4 ≤ (l.drop (4 * k)).length := by rw [List.length_drop]; have := HN.out; omega
      have HNUM := Lib.hid (c_numYes g (l.drop (4 * k)) wr hr hlen (by rw [List.length_drop]; have := HL.out; omega))
      have hnk : leN ((l.drop (4 * k)).take 4) = num4 l k := rfl
      rw [hnk] at HNUM
      have HR := Lib.hid hr
      obtain ⟨V, hV⟩ : ∃ V, num4 l k = V := ⟨_, rfl⟩
      have HV := Lib.hid hV
      rw [hV] at HNUM
      clear ho hg hB hr hlen hnk hV
      have hnl := numsB_length l k
      have A1 := Lib.hid (show (numsB l k).length + 1 ≤ maxLen by unfold maxLen; omega)
      have A2 := Lib.hid (show ((numsB l k).length + 1) * 4 ≤ 140737488355328 by omega)
      clear hnl
      go_wp2_with (first
        | (go_at_call 44; refine HNUM.out.mono ?_; rintro e w5 ⟨rfl, hg5⟩; have HG5 := Lib.hid hg5; have c5 := (hg5.isR HR.out).cell 1; have HO5 := Lib.hid (ownF_gone HO.out hgw hg5); have HS5 := Lib.hid (show w.heap.size ≤ (w5.alloc (.cells #[.float .f32 V] 34)).heap.size by have h1 := hg5.size; have h2 := HBB.out; rw [World.size_alloc]; simp only [World.setCell, Array.size_modify] at h1; omega); clear hg5)
        | (at_builtin; refine wpList_append_any _ rfl (.tmp 19) (.tmp 21) 22 rfl w.heap.size 34 i0 (.float .f32 0) 1 4 Tryd.underlying22 HI.out HZ0.out HZ1.out HZ2.out rfl Nat.one_pos (.slice b (numsB l k).length cp) (numsB l k).length ((numsB l k).map (Value.float .f32)) rfl (HO5.out.kept ((Below.refl _ _).alloc (Nat.le_refl _) _)).1 _ (some ⟨w5.heap.size, 0, none⟩) 1 1 [.float .f32 V] rfl rdy_reads (rdy_one _) A1.out A2.out HS5.out ?_; intro v' w' hown hgr _))
      go_roundw
      case rel => exact te_next H.out hlt (by go_num) HO.out HG.out HBB.out HG5.out HO5.out (by rw [HV.out]; exact hown) (by rw [HV.out]; exact hgr)
      case measure => simp [intOf]; omega
    · obtain rfl : k = n := by omega
      go_wp2_with fail
      go_ret
      exact ⟨b, cp, rfl, HO.out, HG.out, HBB.out⟩
end Go.Proofs.YtpfbhckmpkiijaaDoor
