/-
  The reader where there is too little left, and an entry. Conditions: the errors lie where the row says.
-/
import Derived.Test.YtpfbhckmpkiijaaDoorRdz
import Derived.Test.YtpfbhckmpkiijaaDoorEnv
import Derived.Deep.AppendLies
namespace Go.Proofs.YtpfbhckmpkiijaaDoor
open Go.RowKit Go.Deep Go.WideShapes Go.ChangeShapes
set_option linter.unusedVariables false
set_option linter.unusedSimpArgs false

/-- the three errors of a reader: two of them that are not the first -/
def ErrsE (w : World) (p q r : Value) : Prop := w.cell? ⟨0, 0, none⟩ = some (.iface 122 p) ∧ w.cell? ⟨3, 0, none⟩ = some (.iface 122 q) ∧ w.cell? ⟨1, 0, none⟩ = some (.iface 122 r)
theorem ErrsE.kept {w w' : World} {p q r : Value} (h : ErrsE w p q r) (hb : Below w.heap.size w w') : ErrsE w' p q r := by
  obtain ⟨h1, h2, h3⟩ := h
  exact ⟨(hb.cell (p := ⟨0, 0, none⟩) (cell_block h1)).trans h1, (hb.cell (p := ⟨3, 0, none⟩) (cell_block h2)).trans h2, (hb.cell (p := ⟨1, 0, none⟩) (cell_block h3)).trans h3⟩
theorem c_takeNo (g n : Nat) (l : List UInt8) (p q r : Value) (w : World) (h : Blk w g 70 #[.string ⟨l.toArray⟩, .nilIface]) (hn : l.length < n) (hn1 : n ≤ 1048576) (he : ErrsE w p q r) :
    Calls Tryd.prog 54 #[.pointer (some ⟨g, 0, none⟩), .int .i64 n] w fun e w' => e = .returned (.string ⟨#[]⟩) ∧ w' = w.setCell ⟨g, 1, none⟩ (.iface 122 q) := by
  have h0 := h.cell 0
  have h1 := h.cell 1
  have hf := h.frozen 1
  have e2 := size_mk l
  have hc := he.2.1
  have hn0 : (l.length : Int) < (n : Int) := by omega
  have hl1 : (l.length : Int) ≤ 1048576 := by omega
  go_enter_defers Tryd.func54, Tryd.ntmps54
  go_wp2
  exact ⟨_, results_tmp rfl _ _ _, rfl, rfl⟩
theorem grown_of_set {w w' : World} {g i : Nat} {v : Value} (h : Below w.heap.size (w.setCell ⟨g, i, none⟩ v) w') : w.grownBy w' (some g) := by
  have hs : (w.setCell ⟨g, i, none⟩ v).heap.size = w.heap.size := by simp [World.setCell]
  exact ⟨h.os, h.tape, h.output, by have := h.size; omega, fun j hj hne => (h.block j hj).trans (Below.heap_setCell _ _ _ _ (fun e => hne (by rw [e])))⟩
theorem grown_both {w w1 w2 : World} {g : Nat} (h1 : w.grownBy w1 (some g)) (h2 : w1.grownBy w2 (some g)) : w.grownBy w2 (some g) := by
  obtain ⟨a1, a2, a3, a4, a5⟩ := h1
  obtain ⟨b1, b2, b3, b4, b5⟩ := h2
  exact ⟨b1.trans a1, b2.trans a2, b3.trans a3, Nat.le_trans a4 b4, fun j hj hne => (b5 j (Nat.lt_of_lt_of_le hj a4) hne).trans (a5 j hj hne)⟩
theorem ErrsE.grown {w w' : World} {g : Nat} {p q r E : Value} {x : ByteArray} (h : ErrsE w p q r) (hB : Blk w g 70 #[.string x, E]) (hg : w.grownBy w' (some g)) : ErrsE w' p q r := by
  have h0 := hB.cell 0
  have hne : ∀ k v, w.cell? ⟨k, 0, none⟩ = some (.iface 122 v) → some k ≠ some g := fun k v hk e => by
    obtain rfl := Option.some.inj e
    rw [hk] at h0
    simp at h0
  obtain ⟨h1, h2, h3⟩ := h
  exact ⟨(hg.cell_far ⟨0, 0, none⟩ (cell_block h1) (hne _ _ h1)).trans h1, (hg.cell_far ⟨3, 0, none⟩ (cell_block h2) (hne _ _ h2)).trans h2, (hg.cell_far ⟨1, 0, none⟩ (cell_block h3) (hne _ _ h3)).trans h3⟩
theorem blk_set1 {w : World} {g : Nat} {t : TypeId} {x E y : Value} (h : Blk w g t #[x, E]) : Blk (w.setCell ⟨g, 1, none⟩ y) g t #[x, y] := by
  have hl := h.lt
  unfold Blk at h ⊢
  simp only [World.setCell, Array.getElem?_modify, h]
  simp
/-- the reader has gone on to these bytes -/
def ReadOn (w : World) (g : Nat) (l : List UInt8) (w' : World) : Prop := IsR w' g l ∧ w.grownBy w' (some g)
/-- the reader holds one of two errors -/
def ReadErr (w : World) (g : Nat) (q r : Value) (w' : World) : Prop := (∃ x u, (u = q ∨ u = r) ∧ Blk w' g 70 #[.string x, .iface 122 u]) ∧ w.grownBy w' (some g)
theorem c_intOn (g n : Nat) (l : List UInt8) (w : World) (h : IsR w g l) (hn : n ≤ l.length) (h6 : n ≤ 6) (hl : l.length ≤ 1048576) :
    Calls Tryd.prog 53 #[.pointer (some ⟨g, 0, none⟩), .int .i64 n] w fun e w' => e = .returned (.int .i64 (leN (l.take n) : Int)) ∧ ReadOn w g (l.drop n) w' := by
  refine (c_intYes g n l w h hn h6 hl).mono ?_
  rintro e w' ⟨rfl, hb⟩
  exact ⟨rfl, Gone4.isR hb h, grown_of_set hb⟩
theorem c_intNo (g n : Nat) (l : List UInt8) (p q r : Value) (w : World) (h : IsR w g l) (hn : l.length < n) (hl : n ≤ 1048576) (he : ErrsE w p q r) :
    Calls Tryd.prog 53 #[.pointer (some ⟨g, 0, none⟩), .int .i64 n] w fun e w' => e = .returned (.int .i64 0) ∧ Blk w' g 70 #[.string ⟨l.toArray⟩, .iface 122 q] ∧ w.grownBy w' (some g) := by
  have hgl := Blk.lt h
  have al : Below w.heap.size w (w.alloc (.cells #[.int .i64 0] 2)) := (Below.refl _ w).alloc (Nat.le_refl _) _
  refine (c_intOf g n [] w (w.setCell ⟨g, 1, none⟩ (.iface 122 q)) _ (by simp) (by simp [World.setCell]) (c_takeNo g n l p q r _ (Blk.below h al) hn hl (he.kept al)) (below_alloc_set hgl) (boxed_otherT (Boxed.new w 2 (.int .i64 0)) (by omega))).mono ?_
  rintro e w' ⟨rfl, hb⟩
  have hs : (w.setCell ⟨g, 1, none⟩ (.iface 122 q)).heap.size = w.heap.size := by simp [World.setCell]
  exact ⟨rfl, Blk.below (blk_set1 h) (by rw [hs]; exact hb), grown_of_set hb⟩
theorem c_entryYes (g : Nat) (l : List UInt8) (w : World) (h : IsR w g l) (hk : entOk l = true) (hl : l.length ≤ 1048576) :
    Calls Tryd.prog 36 #[.pointer (some ⟨g, 0, none⟩)] w fun e w' => e = .returned (.string ⟨(entHead l).toArray⟩) ∧ ReadOn w g (entRest l) w' := by
  obtain ⟨k1, k2, k3⟩ := entOk_iff.1 hk
  have HI := Lib.hid (c_intOn g 4 l w h k1 (by omega) hl)
  have HG := Lib.hid (show entHead l = (l.drop 4).take (leN (l.take 4)) from rfl)
  have HS := Lib.hid (show entRest l = (l.drop 4).drop (leN (l.take 4)) from rfl)
  obtain ⟨N, hN⟩ : ∃ N, leN (l.take 4) = N := ⟨_, rfl⟩
  rw [hN] at HI HG HS k2 k3
  rw [HG.out, HS.out]
  obtain ⟨l4, hl4⟩ : ∃ l4, l.drop 4 = l4 := ⟨_, rfl⟩
  have hlen : l4.length = l.length - 4 := by rw [← hl4, List.length_drop]
  rw [hl4] at HI ⊢
  have HT := Lib.hid (fun (W : World) (hW : IsR W g l4) => c_takeYes g N l4 W hW (by omega) (by omega))
  have hN2 : (N : Int) ≤ 20000 := by omega
  clear h hk hl k1 k2 k3 hN HG HS hl4 hlen
  go_enter Tryd.func36, Tryd.ntmps36
  go_wp2_with fail
  refine HI.out.mono ?_
  rintro e w1 ⟨rfl, ho⟩
  have HO := Lib.hid ho
  clear ho
  go_wp2_with fail
  refine (HT.out _ HO.out.1).mono ?_
  rintro e w2 ⟨rfl, rfl⟩
  go_wp2_with fail
  go_ret
  refine ⟨rfl, blk_set HO.out.1, ?_⟩
  exact grown_both HO.out.2 (grown_of_set (Below.refl _ _))
theorem c_entryNo (g : Nat) (l : List UInt8) (p q r : Value) (w : World) (h : IsR w g l) (hk : entOk l = false) (hl : l.length ≤ 1048576) (he : ErrsE w p q r) :
    Calls Tryd.prog 36 #[.pointer (some ⟨g, 0, none⟩)] w fun e w' => e = .returned (.string ⟨#[]⟩) ∧ ReadErr w g q r w' := by
  by_cases k1 : 4 ≤ l.length
  · by_cases k2 : leN (l.take 4) ≤ 20000
    · have k3 : l.length < 4 + leN (l.take 4) := by
        rcases Nat.lt_or_ge l.length (4 + leN (l.take 4)) with h | h
        · exact h
        · rw [entOk_iff.2 ⟨k1, k2, h⟩] at hk; cases hk
      have HI := Lib.hid (c_intOn g 4 l w h k1 (by omega) hl)
      obtain ⟨N, hN⟩ : ∃ N, leN (l.take 4) = N := ⟨_, rfl⟩
      rw [hN] at HI k2 k3
      have HT := Lib.hid (fun (W : World) (hW : IsR W g (l.drop 4)) (hE : ErrsE W p q r) => c_takeNo g N (l.drop 4) p q r W hW (by rw [List.length_drop]; omega) (by omega) hE)
      have hN2 : (N : Int) ≤ 20000 := by omega
      have HB := Lib.hid h
      have HE := Lib.hid he
      clear h hk hl k1 k2 k3 hN he
      go_enter Tryd.func36, Tryd.ntmps36
      go_wp2_with fail
      refine HI.out.mono ?_
      rintro e w1 ⟨rfl, ho⟩
      have HO := Lib.hid ho
      clear ho
      go_wp2_with fail
      refine (HT.out _ HO.out.1 (HE.out.grown HB.out HO.out.2)).mono ?_
      rintro e w2 ⟨rfl, rfl⟩
      go_wp2_with fail
      go_ret
      refine ⟨rfl, ⟨_, q, .inl rfl, blk_set1 HO.out.1⟩, ?_⟩
      exact grown_both HO.out.2 (grown_of_set (Below.refl _ _))
    · have HI := Lib.hid (c_intOn g 4 l w h k1 (by omega) hl)
      obtain ⟨N, hN⟩ : ∃ N, leN (l.take 4) = N := ⟨_, rfl⟩
      rw [hN] at HI k2
      have hN2 : (20000 : Int) < (N : Int) := by omega
      have HB := Lib.hid h
      have HE := Lib.hid he
      clear h hk hl k1 k2 hN he
      go_enter Tryd.func36, Tryd.ntmps36
      go_wp2_with fail
      refine HI.out.mono ?_
      rintro e w1 ⟨rfl, ho⟩
      have HO := Lib.hid ho
      have hc := (HE.out.grown HB.out ho.2).2.2
      have h1 := Blk.cell ho.1 1
      have hf := Blk.frozen ho.1 1
      clear ho
      go_wp2_with fail
      refine (c_takeErr g N _ _ _ _ (blk_set1 HO.out.1)).mono ?_
      rintro e w2 ⟨rfl, rfl⟩
      go_wp2_with fail
      go_ret
      refine ⟨rfl, ⟨_, r, .inr rfl, blk_set1 HO.out.1⟩, ?_⟩
      exact grown_both HO.out.2 (grown_of_set (Below.refl _ _))
  · have HI := Lib.hid (c_intNo g 4 l p q r w h (by omega) (by decide) he)
    clear h hk hl k1 he
    go_enter Tryd.func36, Tryd.ntmps36
    go_wp2_with fail
    refine HI.out.mono ?_
    rintro e w1 ⟨rfl, ho, hg⟩
    have HO := Lib.hid ho
    have HG := Lib.hid hg
    clear ho hg
    go_wp2_with fail
    refine (c_takeErr g 0 _ _ _ _ HO.out).mono ?_
    rintro e w2 ⟨rfl, rfl⟩
    go_wp2_with fail
    go_ret
    exact ⟨rfl, ⟨_, q, .inl rfl, HO.out⟩, HG.out⟩
end Go.Proofs.YtpfbhckmpkiijaaDoor
