/-
  Lists of texts: reading, sizes, copies, comparisons. Conditions: the cells can be read.
-/
import Derived.Test.YtpfbhckmpkiijaaDoorTen
import Derived.Test.YtpfbhckmpkiijaaDoorTens
import Derived.SliceStrings
import Derived.BigQuiet
namespace Go.Proofs.YtpfbhckmpkiijaaDoor
open Go.RowKit Go.Deep Go.WideShapes Go.ChangeShapes
set_option linter.unusedVariables false
set_option linter.unusedSimpArgs false
attribute [local go_sem] World.drewN_zero

def IsStrs (w : World) (a : Option Addr) (n cap : Nat) (ss : List ByteArray) : Prop :=
  ss.length = n ∧ n ≤ cap ∧ cap ≤ maxLen ∧ (∀ s ∈ ss, s.size ≤ maxLen) ∧ (n = 0 ∨ ∃ b off, a = some ⟨b, off, none⟩ ∧ b < w.heap.size ∧ ∀ i x, ss[i]? = some x → w.cell? ⟨b, off + i, none⟩ = some (.string x))
theorem IsStrs.kept {w w' : World} {a : Option Addr} {n cap : Nat} {ss : List ByteArray} (h : IsStrs w a n cap ss) (hb : Below w.heap.size w w') : IsStrs w' a n cap ss := by
  obtain ⟨h1, h2, h3, h4, h5⟩ := h
  refine ⟨h1, h2, h3, h4, ?_⟩
  rcases h5 with h0 | ⟨b, off, e, hlt, hc⟩
  · exact .inl h0
  · exact .inr ⟨b, off, e, Nat.lt_of_lt_of_le hlt hb.size, fun i x hx => by rw [hb.cell (p := ⟨b, off + i, none⟩) hlt]; exact hc i x hx⟩
theorem IsStrs.one {w : World} {a : Option Addr} {n cap : Nat} {ss : List ByteArray} (h : IsStrs w a n cap ss) {i : Nat} (hi : i < n) :
    ∃ (b off : Nat) (x : ByteArray), a = some ⟨b, off, none⟩ ∧ b < w.heap.size ∧ ss[i]? = some x ∧ w.cell? ⟨b, off + i, none⟩ = some (.string x) ∧ x.size ≤ maxLen := by
  obtain ⟨h1, h2, h3, h4, h5⟩ := h
  have hx : ss[i]? = some ss[i] := List.getElem?_eq_getElem (by omega)
  rcases h5 with h0 | ⟨b, off, e, hlt, hc⟩
  · omega
  · exact ⟨b, off, _, e, hlt, hx, hc i _ hx, h4 _ (List.getElem_mem _)⟩
section
variable {H : Type} {enc : TypeId × Value → H} {P : Program} {w : World} {base : Nat} {held : Bool}
theorem strs_of {t e : TypeId} {a : Option Addr} {len cap : Nat} {d : DataW H} {ps : List MemPlace} (ht : P.underlying t = some (.slice e)) (he : P.underlying e = some .string) (hc : P.cellsOf e = 1)
    (h : DataW.Trod enc P w base (fun _ => true) held t (.slice a len cap) d ps) : ∃ ss, IsStrs w a len cap ss := by
  obtain ⟨fuel, hf⟩ := h
  rcases open_strings ht he hc hf with ⟨hcs, _⟩ | ⟨x, l, c, ss, hcs, _, hl, hm, hz, _, hcell, hsz⟩
  · simp [Value.cells] at hcs
    obtain ⟨rfl, rfl, rfl⟩ := hcs
    exact ⟨[], rfl, Nat.le_refl _, Nat.zero_le _, fun s hs => (by cases hs), .inl rfl⟩
  · simp [Value.cells] at hcs
    obtain ⟨rfl, rfl, rfl⟩ := hcs
    simp only [if_true] at hz
    refine ⟨ss.take len, by rw [List.length_take]; omega, hl, hm, fun s hs => hsz s (List.mem_of_mem_take hs), ?_⟩
    by_cases h0 : len = 0
    · exact .inl h0
    · right
      obtain ⟨b, off, spot⟩ := x
      have c0 := hcell 0 (by omega)
      have hspot : spot = none := by simpa [Addr.add] using World.cell?_spot c0
      subst hspot
      refine ⟨b, off, rfl, cell_block c0, fun i x hx => ?_⟩
      have hi : i < len := by have := (List.getElem?_eq_some_iff.1 hx).1; rw [List.length_take] at this; omega
      have ci := hcell i (by omega)
      rw [add_plain] at ci
      rw [ci]
      rw [List.getElem?_take_of_lt hi] at hx
      rw [List.getD_eq_getElem?_getD, hx]
      rfl
end
def cntStr (ss : List ByteArray) : Nat := (ss.map ByteArray.size).sum
theorem cntStr_take {ss : List ByteArray} {i : Nat} {x : ByteArray} (h : ss[i]? = some x) : cntStr (ss.take (i + 1)) = cntStr (ss.take i) + x.size := by
  unfold cntStr
  rw [List.take_add_one, h, List.map_append, List.sum_append]
  simp
theorem cntStr_le (ss : List ByteArray) (k : Nat) : cntStr (ss.take k) ≤ cntStr ss := by
  have h := List.take_append_drop k ss
  have : cntStr ss = cntStr (ss.take k) + cntStr (ss.drop k) := by
    unfold cntStr
    rw [← List.sum_append, ← List.map_append, h]
  omega
def copyS (ss : List ByteArray) (k n : Nat) : List Value := (ss.take k).map Value.string ++ List.replicate (n - k) (Value.string ByteArray.empty)
theorem copyS_set {ss : List ByteArray} {k n : Nat} {x : ByteArray} (hn : ss.length = n) (hk : ss[k]? = some x) : (copyS ss k n).set k (.string x) = copyS ss (k + 1) n := by
  have hk' : k < ss.length := (List.getElem?_eq_some_iff.1 hk).1
  unfold copyS
  have hl : ((ss.take k).map Value.string).length = k := by simp; omega
  rw [List.set_append_right _ _ (by omega), hl, Nat.sub_self, List.take_add_one, hk]
  obtain ⟨m, hm⟩ : ∃ m, n - k = m + 1 := ⟨n - k - 1, by omega⟩
  rw [hm, List.replicate_succ, List.set_cons_zero, show n - (k + 1) = m by omega]
  simp
set_option maxHeartbeats 1000000 in
theorem c_eqStrs (a b : Option Addr) (ca cb n : Nat) (ss : List ByteArray) (w : World) (ha : IsStrs w a n ca ss) (hb : IsStrs w b n cb ss) : Calls Tryd.prog 18 #[.slice a n ca, .slice b n cb] w (RetTrue w) := by
  have hmax : n ≤ 9223372036854775807 := by have h1 := ha.2.1; have h2 := ha.2.2.1; unfold maxLen at h2; omega
  have HA := Lib.hid ha
  have HB := Lib.hid hb
  clear ha hb
  go_enter Tryd.func18, Tryd.ntmps18
  go_wp2
  go_loopw [5] (fun i wr => EqRel n w i wr) (fun i _ => n - (intOf i).toNat)
  case atStart => exact ⟨0, 0, Nat.zero_le _, rfl, rfl⟩
  case round =>
    obtain ⟨k, m, hk, rfl, rfl⟩ := hrel
    by_cases hlt : k < n
    · obtain ⟨p, off, x, rfl, _, hx, c1, _⟩ := HA.out.one hlt
      obtain ⟨p', off', x', rfl, _, hx', c2, _⟩ := HB.out.one hlt
      obtain rfl : x = x' := by rw [hx] at hx'; exact Option.some.inj hx'
      clear hx hx'
      go_wp2
      go_region_with (fail)
      all_goals
        go_wp2
        go_roundw
        case rel => exact ⟨k + 1, _, by omega, by go_num, rfl⟩
        case measure => simp [intOf]; omega
    · go_wp2
      go_ret
      exact ⟨rfl, Drawn.mk _ _⟩
end Go.Proofs.YtpfbhckmpkiijaaDoor
