/-
  Lists of texts: reading, sizes, copies, comparisons. Conditions: the cells can be read.
-/
import Derived.Test.YtokminhnkmhneaaDoorTen
import Derived.Test.YtokminhnkmhneaaDoorTens
import Derived.SliceStrings
import Derived.BigQuiet
namespace Go.Proofs.YtokminhnkmhneaaDoor
open Go.RowKit Go.Deep Go.WideShapes Go.ChangeShapes
set_option linter.unusedVariables false
set_option linter.unusedSimpArgs false
attribute [local go_sem] World.drewN_zero

def IsStrs (w : World) (a : Option Addr) (n cap : Nat) (ss : List ByteArray) : Prop :=
  ss.length = n ∧ n ≤ cap ∧ cap ≤ maxLen ∧ (∀ s ∈ ss, s.size ≤ maxLen) ∧ (n = 0 ∨ ∃ b off, a = some ⟨b, off, none⟩ ∧ b < w.heap.size ∧ ∀ i x, ss[i]? = some x → w.cell? ⟨b, off + i, none⟩ = some (.string x))
theorem IsStrs.kept {w w' : World} {a : Option Addr} {n cap : Nat} {ss : List ByteArray} (h : IsStrs w a n cap ss) (hb : Below w.heap.size w w') : IsStrs w' a n cap ss := by
  obtain ⟨h1, h2, h3, h4, h5⟩ := h
  refine ⟨h1, h2, h3, h4, ?_⟩
  rcases h5 with h0 | ⟨b, off, e, hlt, hc⟩
  · exact .inl h0
  · exact .inr ⟨b, off, e, Nat.lt_of_lt_of_le hlt hb.size, fun i x hx => by rw [hb.cell (p := ⟨b, off + i, none⟩) hlt]; exact hc i x hx⟩
theorem IsStrs.one {w : World} {a : Option Addr} {n cap : Nat} {ss : List ByteArray} (h : IsStrs w a n cap ss) {i : Nat} (hi : i < n) :
    ∃ (b off : Nat) (x : ByteArray), a = some ⟨b, off, none⟩ ∧ b < w.heap.size ∧ ss[i]? = some x ∧ w.cell? ⟨b, off + i, none⟩ = some (.string x) ∧ x.size ≤ maxLen := by
  obtain ⟨h1, h2, h3, h4, h5⟩ := h
  have hx : ss[i]? = some ss[i] := List.getElem?_eq_getElem (by omega)
  rcases h5 with h0 | ⟨b, off, e, hlt, hc⟩
  · omega
  · exact ⟨b, off, _, e, hlt, hx, hc i _ hx, h4 _ (List.getElem_mem _)⟩
section
variable {H : Type} {enc : TypeId × Value → H} {P : Program} {w : World} {base : Nat} {held : Bool}
theorem strs_of {t e : TypeId} {a : Option Addr} {len cap : Nat} {d : DataW H} {ps : List MemPlace} (ht : P.underlying t = some (.slice e)) (he : P.underlying e = some .string) (hc : P.cellsOf e = 1)
    (h : DataW.Trod enc P w base (fun _ => true) held t (.slice a len cap) d ps) : ∃ ss, IsStrs w a len cap ss := by
  obtain ⟨fuel, hf⟩ := h
  rcases open_strings ht he hc hf with ⟨hcs, _⟩ | ⟨x, l, c, ss, hcs, _, hl, hm, hz, _, hcell, hsz⟩
  · simp [Value.cells] at hcs
    obtain ⟨rfl, rfl, rfl⟩ := hcs
    exact ⟨[], rfl, Nat.le_refl _, Nat.zero_le _, fun s hs => (by cases hs), .inl rfl⟩
  · simp [Value.cells] at hcs
    obtain ⟨rfl, rfl, rfl⟩ := hcs
    simp only [if_true] at hz
    refine ⟨ss.take len, by rw [List.length_take]; omega, hl, hm, fun s hs => hsz s (List.mem_of_mem_take hs), ?_⟩
    by_cases h0 : len = 0
    · exact .inl h0
    · right
      obtain ⟨b, off, spot⟩ := x
      have c0 := hcell 0 (by omega)
      have hspot : spot = none := by simpa [Addr.add] using World.cell?_spot c0
      subst hspot
      refine ⟨b, off, rfl, cell_block c0, fun i x hx => ?_⟩
      have hi : i < len := by have := (List.getElem?_eq_some_iff.1 hx).1; rw [List.length_take] at this; omega
      have ci := hcell i (by omega)
      rw [add_plain] at ci
      rw [ci]
      rw [List.getElem?_take_of_lt hi] at hx
      rw [List.getD_eq_getElem?_getD, hx]
      rfl
end
def cntStr (ss : List ByteArray) : Nat := (ss.map ByteArray.size).sum
theorem cntStr_take {ss : List ByteArray} {i : Nat} {x : ByteArray} (h : ss[i]? = some x) : cntStr (ss.take (i + 1)) = cntStr (ss.take i) + x.size := by
  unfold cntStr
  rw [List.take_add_one, h, List.map_append, List.sum_append]
  simp
theorem cntStr_le (ss : List ByteArray) (k : Nat) : cntStr (ss.take k) ≤ cntStr ss := by
  have h := List.take_append_drop k ss
  have : cntStr ss = cntStr (ss.take k) + cntStr (ss.drop k) := by
    unfold cntStr
    rw [← List.sum_append, ← List.map_append, h]
  omega
def SzStrRel (ss : List ByteArray) (l : Nat) (w : World) (lv iv : Value) (wr : World) : Prop :=
  ∃ j : Nat, j ≤ ss.length ∧ iv = .int .i64 j ∧ cntStr (ss.take j) ≤ l ∧ lv = .int .i64 ((l - cntStr (ss.take j) : Nat) : Int) ∧ w = wr
set_option maxHeartbeats 1000000 in
theorem c_szStrs (g : Option Addr) (cap n l r : Nat) (ss : List ByteArray) (w : World) (h : IsStrs w g n cap ss) (hl : l ≤ 1048576) (hs : n + cntStr ss ≤ l) (hr : l - (n + cntStr ss) = r) :
    Calls Tryd.prog 34 #[.slice g n cap, .int .i64 l] w fun e w' => e = .returned (.int .i64 (r : Int)) ∧ w = w' := by
  have hln : ss.length = n := h.1
  have H := Lib.hid h
  have HS := Lib.hid hs
  have HR := Lib.hid hr
  have HN := Lib.hid hln
  obtain ⟨l0, e0⟩ : ∃ l0, l - n = l0 := ⟨_, rfl⟩
  have E0 := Lib.hid e0
  have hnl : (n : Int) ≤ (l : Int) := by omega
  have hl0 : l0 ≤ 1048576 := by omega
  have hw : (l : Int) - (n : Int) = (l0 : Int) := by omega
  have HW := Lib.hid hw
  have h0 : (0 : Int) ≤ (l0 : Int) := by omega
  clear h hs hr hln e0 hw
  go_enter Tryd.func34, Tryd.ntmps34
  go_wp2_with fail
  rw [HW.out]
  go_wp2_with fail
  go_loopw [1, 5] (fun lv iv wr => SzStrRel ss l0 w lv iv wr) (fun _ iv _ => n - (intOf iv).toNat)
  case atStart => exact ⟨0, Nat.zero_le _, rfl, by simp [cntStr], by simp [cntStr], rfl⟩
  case round =>
    obtain ⟨j, hj, rfl, hle, rfl, rfl⟩ := hrel
    have HLE := Lib.hid hle
    rw [HN.out] at hj
    obtain ⟨lj, hlj⟩ : ∃ lj, l0 - cntStr (ss.take j) = lj := ⟨_, rfl⟩
    have HLJ := Lib.hid hlj
    rw [hlj]
    have hlj0 : (0 : Int) ≤ (lj : Int) := by omega
    clear hle hlj
    by_cases hlt : j < n
    · obtain ⟨b, off, x, rfl, hbk, hx, q, hm⟩ := H.out.one hlt
      have hst := cntStr_take hx
      have htl := cntStr_le ss (j + 1)
      obtain ⟨xs, hxs⟩ : ∃ z, x.size = z := ⟨_, rfl⟩
      have HXS := Lib.hid hxs
      rw [hxs] at hst hm
      obtain ⟨l1, hl1⟩ : ∃ l1, lj - xs = l1 := ⟨_, rfl⟩
      have hfit : xs ≤ lj := by have := HS.out; have := E0.out; have := HLJ.out; have := HLE.out; omega
      have hnew : l1 = l0 - cntStr (ss.take (j + 1)) := by have := HLJ.out; omega
      have hle2 : cntStr (ss.take (j + 1)) ≤ l0 := by have := HS.out; have := E0.out; omega
      have hsub : (lj : Int) - (xs : Int) = (l1 : Int) := by omega
      have HSUB := Lib.hid hsub
      have HNW := Lib.hid hnew
      have HLE2 := Lib.hid hle2
      have hl1p : (0 : Int) ≤ (l1 : Int) := by omega
      have hljm : (lj : Int) ≤ 1048576 := by omega
      have hwr : IntKind.i64.wrap ((lj : Int) - (xs : Int)) = (l1 : Int) := by rw [hsub]; exact IntWalk.i64_in _ (by omega)
      have hlt' : (j : Int) < (n : Int) := by omega
      clear hx hst htl hl1 hfit hnew hle2 hsub
      go_wp2_with fail
      go_roundw
      case rel => exact ⟨j + 1, by have := HN.out; omega, by go_num, HLE2.out, by rw [HNW.out], rfl⟩
      case measure => simp [intOf]; omega
    · obtain rfl : j = n := by omega
      have hall : lj = r := by
        have h1 := HLJ.out; have h2 := HN.out; have h3 := HR.out; have h4 := E0.out
        rw [← h2, List.take_length] at h1
        omega
      go_wp2_with fail
      go_ret
      exact ⟨ret_i (by rw [hall]), rfl⟩
set_option maxHeartbeats 1000000 in
theorem c_szStrs_no (g : Option Addr) (cap n l : Nat) (ss : List ByteArray) (w : World) (h : IsStrs w g n cap ss) (hl : l ≤ 1048576) (hs : l < n + cntStr ss) :
    Calls Tryd.prog 34 #[.slice g n cap, .int .i64 l] w fun e w' => e = .returned (.int .i64 (-1)) ∧ w = w' := by
  have hln : ss.length = n := h.1
  have hnm : n ≤ 9223372036854775807 := by have h1 := h.2.1; have h2 := h.2.2.1; unfold maxLen at h2; omega
  have H := Lib.hid h
  have HS := Lib.hid hs
  have HN := Lib.hid hln
  by_cases hq : n ≤ l
  case neg =>
    have h1 : (l : Int) < (n : Int) := by omega
    clear h hs hln hq
    go_enter Tryd.func34, Tryd.ntmps34
    go_wp2
    go_ret
    exact ⟨rfl, rfl⟩
  case pos =>
  obtain ⟨l0, e0⟩ : ∃ l0, l - n = l0 := ⟨_, rfl⟩
  have E0 := Lib.hid e0
  have hnl : (n : Int) ≤ (l : Int) := by omega
  have hl0 : l0 ≤ 1048576 := by omega
  have hw : (l : Int) - (n : Int) = (l0 : Int) := by omega
  have HW := Lib.hid hw
  have h0 : (0 : Int) ≤ (l0 : Int) := by omega
  have HS0 := Lib.hid (show l0 < cntStr ss by omega)
  clear h hs hln e0 hw hq
  go_enter Tryd.func34, Tryd.ntmps34
  go_wp2_with fail
  rw [HW.out]
  go_wp2_with fail
  go_loopw [1, 5] (fun lv iv wr => SzStrRel ss l0 w lv iv wr) (fun _ iv _ => n - (intOf iv).toNat)
  case atStart => exact ⟨0, Nat.zero_le _, rfl, by simp [cntStr], by simp [cntStr], rfl⟩
  case round =>
    obtain ⟨j, hj, rfl, hle, rfl, rfl⟩ := hrel
    have HLE := Lib.hid hle
    rw [HN.out] at hj
    obtain ⟨lj, hlj⟩ : ∃ lj, l0 - cntStr (ss.take j) = lj := ⟨_, rfl⟩
    have HLJ := Lib.hid hlj
    rw [hlj]
    have hlj0 : (0 : Int) ≤ (lj : Int) := by omega
    have hljm : (lj : Int) ≤ 1048576 := by omega
    clear hle hlj
    by_cases hlt : j < n
    · obtain ⟨b, off, x, rfl, hbk, hx, q, hm⟩ := H.out.one hlt
      have hst := cntStr_take hx
      obtain ⟨xs, hxs⟩ : ∃ z, x.size = z := ⟨_, rfl⟩
      have HXS := Lib.hid hxs
      rw [hxs] at hst hm
      have hlt' : (j : Int) < (n : Int) := by omega
      by_cases hfit : xs ≤ lj
      · obtain ⟨l1, hl1⟩ : ∃ l1, lj - xs = l1 := ⟨_, rfl⟩
        have hnew : l1 = l0 - cntStr (ss.take (j + 1)) := by have := HLJ.out; omega
        have hle2 : cntStr (ss.take (j + 1)) ≤ l0 := by have := HLJ.out; have := HLE.out; omega
        have hsub : (lj : Int) - (xs : Int) = (l1 : Int) := by omega
        have HNW := Lib.hid hnew
        have HLE2 := Lib.hid hle2
        have hl1p : (0 : Int) ≤ (l1 : Int) := by omega
        have hwr : IntKind.i64.wrap ((lj : Int) - (xs : Int)) = (l1 : Int) := by rw [hsub]; exact IntWalk.i64_in _ (by omega)
        clear hx hst hl1 hfit hnew hle2 hsub
        go_wp2_with fail
        go_roundw
        case rel => exact ⟨j + 1, by have := HN.out; omega, by go_num, HLE2.out, by rw [HNW.out], rfl⟩
        case measure => simp [intOf]; omega
      · obtain ⟨d, hd⟩ : ∃ d, xs - lj = d := ⟨_, rfl⟩
        have hsub : (lj : Int) - (xs : Int) = -(d : Int) := by omega
        have hwr : IntKind.i64.wrap ((lj : Int) - (xs : Int)) = -(d : Int) := by unfold maxLen at hm; rw [hsub]; exact IntWalk.i64_in _ (by omega)
        have hneg : -(d : Int) < 0 := by omega
        clear hx hst hfit hsub hd
        go_wp2_with fail
        go_ret
        exact ⟨rfl, rfl⟩
    · exfalso
      obtain rfl : j = n := by omega
      have h1 := HLE.out
      have h2 := HS0.out
      rw [← HN.out, List.take_length] at h1
      omega
def copyS (ss : List ByteArray) (k n : Nat) : List Value := (ss.take k).map Value.string ++ List.replicate (n - k) (Value.string ByteArray.empty)
theorem copyS_set {ss : List ByteArray} {k n : Nat} {x : ByteArray} (hn : ss.length = n) (hk : ss[k]? = some x) : (copyS ss k n).set k (.string x) = copyS ss (k + 1) n := by
  have hk' : k < ss.length := (List.getElem?_eq_some_iff.1 hk).1
  unfold copyS
  have hl : ((ss.take k).map Value.string).length = k := by simp; omega
  rw [List.set_append_right _ _ (by omega), hl, Nat.sub_self, List.take_add_one, hk]
  obtain ⟨m, hm⟩ : ∃ m, n - k = m + 1 := ⟨n - k - 1, by omega⟩
  rw [hm, List.replicate_succ, List.set_cons_zero, show n - (k + 1) = m by omega]
  simp
def RetStrs (ss : List ByteArray) (w : World) (e : Ending) (w' : World) : Prop :=
  ∃ a, e = .returned (.slice a ss.length ss.length) ∧ IsStrs w' a ss.length ss.length ss ∧ Below w.heap.size w w'
def ToStrRel (ss : List ByteArray) (n : Nat) (B : Nat) (w : World) (i : Value) (wr : World) : Prop :=
  ∃ k : Nat, k ≤ n ∧ i = .int .i64 k ∧ wr.ownsRow B 9 1 (.slice (some ⟨B, 0, none⟩) n n) n (copyS ss k n) ∧ Below B w wr ∧ B < wr.heap.size
theorem info_str : (Tryd.prog.info? 9).map (fun i => (i.zero, i.size, i.bytes)) = some (some (.string ByteArray.empty), 1, 16) := by kernel_rfl
set_option maxHeartbeats 1000000 in
theorem c_toStrs (a : Option Addr) (cap : Nat) (ss : List ByteArray) (w : World) (h : IsStrs w a ss.length cap ss) (hl : ss.length ≤ 1048576) : Calls Tryd.prog 36 #[.slice a ss.length cap] w (RetStrs ss w) := by
  obtain ⟨n, hn⟩ : ∃ n, ss.length = n := ⟨_, rfl⟩
  unfold RetStrs
  rw [hn] at h hl ⊢
  have HN := Lib.hid hn
  have H4 := Lib.hid h.2.2.2.1
  have H := Lib.hid h
  have hmax : n ≤ maxLen := by unfold maxLen; omega
  have Hmax := Lib.hid hmax
  obtain ⟨i0, hi, hz0, hz1, hz2⟩ := info_parts info_str
  have HI := Lib.hid hi
  have HZ0 := Lib.hid hz0
  have HZ1 := Lib.hid hz1
  have HZ2 := Lib.hid hz2
  clear h hi hz0 hz1 hz2 hmax hn
  go_enter Tryd.func36, Tryd.ntmps36
  go_wp2_with (at_make; refine wpList_make_full _ rfl _ _ 44 rfl w.heap.size 9 i0 (.string ByteArray.empty) 1 Tryd.underlying44 HI.out HZ0.out HZ1.out _ _ _ _ n rfl rfl rfl rfl ?c1 ?c2 ?c3 ?_)
  case c1 => rw [HZ2.out]; omega
  case c2 => exact Hmax.out
  case c3 => exact Nat.le_refl _
  intro w1 hown hgrow
  have hb1 : Below w.heap.size w w1 := (Below.refl _ _).grown hgrow (Nat.le_refl _) (fun k h => by cases h)
  have hlt1 : w.heap.size < w1.heap.size := (hown.lt _ rfl).2
  rw [toList_madeCells_one] at hown
  have HO := Lib.hid hown
  have HB := Lib.hid hb1
  have HL := Lib.hid hlt1
  clear hown hb1 hlt1 hgrow
  go_wp2
  go_loopw [4] (fun i wr => ToStrRel ss n w.heap.size w i wr) (fun i _ => n - (intOf i).toNat)
  case atStart => exact ⟨0, Nat.zero_le _, rfl, by simpa [copyS] using HO.out, HB.out, HL.out⟩
  case round =>
    obtain ⟨k, hk, rfl, ho, hb, hlt'⟩ := hrel
    have HO' := Lib.hid ho
    have HB' := Lib.hid hb
    have HL' := Lib.hid hlt'
    clear ho hb hlt'
    by_cases hlt : k < n
    · obtain ⟨b, off, x, rfl, hbl, hx, hc, _⟩ := H.out.one hlt
      have hcell : wr.cell? ⟨b, off + k, none⟩ = some (.string x) := by rw [HB'.out.cell (p := ⟨b, off + k, none⟩) hbl]; exact hc
      have HX := Lib.hid hx
      have hfz : wr.frozen? ⟨w.heap.size, k, none⟩ = false := HO'.out.frozenAt k
      obtain ⟨v0, hv0⟩ : ∃ v, wr.cell? ⟨w.heap.size, k, none⟩ = some v := by
        rw [HO'.out.cellAt k (by omega)]
        exact ⟨_, List.getElem?_eq_getElem (by rw [HO'.out.1]; omega)⟩
      clear hc hx
      go_wp2
      go_roundw
      case rel =>
        obtain ⟨o1, o2⟩ := HO'.out.stored k (.string x)
        rw [copyS_set HN.out HX.out] at o1
        exact ⟨k + 1, by omega, by go_num, o1, HB'.out.setCell (p := ⟨w.heap.size, k, none⟩) (Nat.le_refl _) _, by simpa using HL'.out⟩
      case measure => simp [intOf]; omega
    · obtain rfl : k = n := by omega
      go_wp2
      go_ret
      have ho := HO'.out
      refine ⟨_, rfl, ⟨HN.out, Nat.le_refl _, Hmax.out, H4.out, .inr ⟨w.heap.size, 0, rfl, HL'.out, fun i x hx => ?_⟩⟩, HB'.out⟩
      have hi : i < k := by have := (List.getElem?_eq_some_iff.1 hx).1; have := HN.out; omega
      have h1 := ho.cellAt i (by omega)
      rw [Nat.zero_add, h1]
      have hkl : ss.take k = ss := by rw [← HN.out, List.take_length]
      simp [copyS, hkl, hx]
set_option maxHeartbeats 1000000 in
theorem c_eqStrs (a b : Option Addr) (ca cb n : Nat) (ss : List ByteArray) (w : World) (ha : IsStrs w a n ca ss) (hb : IsStrs w b n cb ss) : Calls Tryd.prog 38 #[.slice a n ca, .slice b n cb] w (RetTrue w) := by
  have hmax : n ≤ 9223372036854775807 := by have h1 := ha.2.1; have h2 := ha.2.2.1; unfold maxLen at h2; omega
  have HA := Lib.hid ha
  have HB := Lib.hid hb
  clear ha hb
  go_enter Tryd.func38, Tryd.ntmps38
  go_wp2
  go_loopw [5] (fun i wr => EqRel n w i wr) (fun i _ => n - (intOf i).toNat)
  case atStart => exact ⟨0, 0, Nat.zero_le _, rfl, rfl⟩
  case round =>
    obtain ⟨k, m, hk, rfl, rfl⟩ := hrel
    by_cases hlt : k < n
    · obtain ⟨p, off, x, rfl, _, hx, c1, _⟩ := HA.out.one hlt
      obtain ⟨p', off', x', rfl, _, hx', c2, _⟩ := HB.out.one hlt
      obtain rfl : x = x' := by rw [hx] at hx'; exact Option.some.inj hx'
      clear hx hx'
      go_wp2
      go_region_with (fail)
      all_goals
        go_wp2
        go_roundw
        case rel => exact ⟨k + 1, _, by omega, by go_num, rfl⟩
        case measure => simp [intOf]; omega
    · go_wp2
      go_ret
      exact ⟨rfl, Drawn.mk _ _⟩
end Go.Proofs.YtokminhnkmhneaaDoor
