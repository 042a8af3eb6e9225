/-
  Texts of lists: the program over any way to write an item. Conditions: the items can be read, each item's text is short.
-/
import Derived.Test.YtokminhnkmhneaaDoorBld
import Derived.Test.YtokminhnkmhneaaDoorDcm
import Derived.Test.YtokminhnkmhneaaDoorWc
import Derived.Test.YtokminhnkmhneaaDoorAll
namespace Go.Proofs.YtokminhnkmhneaaDoor
open Go.RowKit Go.Deep Go.WideShapes Go.ChangeShapes
set_option linter.unusedVariables false
set_option linter.unusedSimpArgs false

theorem txt_append (a b : List UInt8) : ((⟨a.toArray⟩ : ByteArray) ++ ⟨b.toArray⟩) = ⟨(a ++ b).toArray⟩ := by
  apply ByteArray.ext
  simp
theorem txt_size (m : List UInt8) : (⟨m.toArray⟩ : ByteArray).size = m.length := by simp [ByteArray.size]
/-- the texts of items with a comma between two of them -/
def jn (ts : List (List UInt8)) : List UInt8 := (ts.flatMap fun t => 44 :: t).drop 1
def noneT : List UInt8 := [110, 111, 110, 101]
def txt (ts : List (List UInt8)) : List UInt8 := if ts.length = 0 then noneT else jn ts
theorem jn_one (t : List UInt8) : jn [t] = t := by simp [jn]
theorem jn_snoc {ts : List (List UInt8)} (t : List UInt8) (h : ts.length ≠ 0) : jn (ts ++ [t]) = (jn ts ++ [44]) ++ t := by
  unfold jn
  rw [List.flatMap_append]
  cases ts with
  | nil => exact absurd rfl h
  | cons x r => simp
theorem jn_len {ts : List (List UInt8)} {M : Nat} (h : ∀ t ∈ ts, t.length ≤ M) : (jn ts).length ≤ ts.length * (M + 1) := by
  unfold jn
  rw [List.length_drop]
  have : (ts.flatMap fun t => 44 :: t).length ≤ ts.length * (M + 1) := by
    induction ts with
    | nil => simp
    | cons x r ih =>
      have h1 := h x (List.mem_cons_self ..)
      have h2 := ih fun t ht => h t (List.mem_cons_of_mem _ ht)
      rw [List.flatMap_cons, List.length_append, List.length_cons, List.length_cons, Nat.succ_mul]
      omega
  omega
theorem map_take_succ {α β : Type} {f : α → β} {zs : List α} {k : Nat} {x : α} (h : zs[k]? = some x) : (zs.take (k + 1)).map f = (zs.take k).map f ++ [f x] := by
  rw [List.take_add_one, h, List.map_append]
  rfl
theorem jn_next {α : Type} {f : α → List UInt8} {zs : List α} {k : Nat} {x : α} (h : zs[k]? = some x) (h0 : k ≠ 0) : jn ((zs.take (k + 1)).map f) = (jn ((zs.take k).map f) ++ [44]) ++ f x := by
  have hk : k < zs.length := (List.getElem?_eq_some_iff.1 h).1
  rw [map_take_succ h, jn_snoc _ (by rw [List.length_map, List.length_take]; omega)]
theorem jn_first {α : Type} {f : α → List UInt8} {zs : List α} {x : α} (h : zs[0]? = some x) : jn ((zs.take 1).map f) = f x := by
  rw [map_take_succ h, List.take_zero, List.map_nil, List.nil_append, jn_one]
theorem jn_take {α : Type} {f : α → List UInt8} {zs : List α} {k M : Nat} (h : ∀ z ∈ zs, (f z).length ≤ M) (hk : k ≤ zs.length) : (jn ((zs.take k).map f)).length ≤ k * (M + 1) := by
  have := jn_len (ts := (zs.take k).map f) (M := M) (fun t ht => by
    obtain ⟨z, hz, rfl⟩ := List.mem_map.1 ht
    exact h z (List.mem_of_mem_take hz))
  rw [List.length_map, List.length_take, Nat.min_eq_left hk] at this
  exact this
theorem int_atW {w : World} {a : Option Addr} {n cap : Nat} {zs : List Int} (h : IsRow .i64 w a n cap zs) {i : Nat} (hi : i < n) : ∃ b off x, a = some ⟨b, off, none⟩ ∧ b < w.heap.size ∧ zs[i]? = some x ∧ w.cell? ⟨b, off + i, none⟩ = some (.int .i64 x) ∧ (Lit.int .i64 x).wf = true := by
  obtain ⟨_, _, h3, h4, h5⟩ := h
  rcases h5 with h0 | ⟨b, off, e, hb, hc⟩
  · omega
  · have hx : zs[i]? = some zs[i] := List.getElem?_eq_getElem (by omega)
    refine ⟨b, off, zs[i], e, hb, hx, ?_, h4 _ (List.getElem_mem _)⟩
    rw [hc i hi, List.getD_eq_getElem?_getD, hx]
    rfl
def JoinRelI (f : Int → List UInt8) (zs : List Int) (n B : Nat) (w : World) (p q i : Value) (wr : World) : Prop :=
  ∃ k : Nat, k ≤ n ∧ i = .int .i64 k ∧ IsB wr B B (jn ((zs.take k).map f)) ∧ Below B w wr
set_option maxRecDepth 20000 in
set_option maxHeartbeats 2000000 in
theorem c_joinI (F : FuncId) (f : Int → List UInt8) (a : Option Addr) (n cap : Nat) (zs : List Int) (w : World) (h : IsRow .i64 w a n cap zs) (hn : n ≤ 1048576) (hM : ∀ z ∈ zs, (f z).length ≤ 1000)
    (hE : ∀ (xs : Array Value) (wr : World), (callFunc F xs).run Tryd.prog wr = .ok (.enter F xs) wr)
    (hF : ∀ (z : Int) (wr : World), z ∈ zs → Below w.heap.size w wr → Calls Tryd.prog F #[.int .i64 z] wr fun e w' => e = .returned (.string ⟨(f z).toArray⟩) ∧ Below wr.heap.size wr w') :
    Calls Tryd.prog 67 #[.slice a n cap, .func (.func F) #[] #[]] w fun e w' => e = .returned (.string ⟨(txt (zs.map f)).toArray⟩) ∧ Below w.heap.size w w' := by
  have hln : zs.length = n := h.2.2.1
  have HN := Lib.hid hln
  have HR := Lib.hid h
  have HC := Lib.hid hF
  have HM := Lib.hid hM
  clear h hF hM hln
  by_cases h0 : n = 0
  · subst h0
    have HT := Lib.hid (show txt (zs.map f) = noneT by unfold txt; rw [List.length_map, HN.out]; rfl)
    go_enter Tryd.func67, Tryd.ntmps67
    go_wp2_with fail
    go_ret
    exact ⟨by rw [HT.out]; rfl, Below.refl _ _⟩
  · have hnb : ((n : Int) == 0) = false := by simpa using h0
    have HT := Lib.hid (show txt (zs.map f) = jn (zs.map f) by unfold txt; rw [List.length_map, HN.out, if_neg h0])
    have I0 := Lib.hid (isB_new w)
    have B0 := Lib.hid ((Below.refl w.heap.size w).alloc (Nat.le_refl _) (.cells #[.pointer none, .slice none 0 0] 85))
    go_enter Tryd.func67, Tryd.ntmps67
    go_wp2_with fail
    go_loopw [6, 7, 13] (fun p q i wr => JoinRelI f zs n w.heap.size w p q i wr) (fun _ _ i _ => n - (intOf i).toNat)
    case atStart => exact ⟨0, Nat.zero_le _, rfl, I0.out, B0.out⟩
    case round =>
      obtain ⟨k, hk, rfl, hi, hb⟩ := hrel
      have HI := Lib.hid hi
      have HB := Lib.hid hb
      have hk0 : (0 : Int) ≤ (k : Int) := by omega
      have HJ := Lib.hid (show (jn ((zs.take k).map f)).length ≤ k * 1001 from jn_take HM.out (by rw [HN.out]; exact hk))
      clear hi hb
      by_cases hlt : k < n
      · have hlt' : (k : Int) < (n : Int) := by omega
        obtain ⟨b, off, x, rfl, hbk, hx, c1, l1⟩ := int_atW HR.out hlt
        have c2 := (HB.out.cell (p := ⟨b, off + k, none⟩) hbk).trans c1
        have hmem : x ∈ zs := List.mem_of_getElem? hx
        have HXM := Lib.hid (HM.out x hmem)
        have HCX := Lib.hid (fun W (hb : Below w.heap.size w W) => HC.out x W hmem hb)
        obtain ⟨y, hy⟩ : ∃ y, f x = y := ⟨_, rfl⟩
        have HX := Lib.hid hx
        have HY := Lib.hid hy
        have HE := Lib.hid hE
        clear hx hmem c1 l1 hy
        by_cases hk00 : k = 0
        · subst hk00
          have HS := Lib.hid (jn_first (f := f) HX.out)
          have c2' : wr.cell? ⟨b, off, none⟩ = some (.int .i64 x) := c2
          clear hlt' c2
          go_wp2_with fail
          refine (HCX.out _ HB.out).mono ?_
          rintro e w2 ⟨rfl, hb⟩
          have B2 := Lib.hid (Below.next HB.out hb)
          have I2 := Lib.hid (HI.out.kept hb)
          clear hb
          have HW := Lib.hid (c_bString w.heap.size w.heap.size [] (f x) w2 I2.out (by have := HXM.out; rw [List.length_nil]; omega) B2.out.size)
          go_wp2_with fail
          refine HW.out.mono ?_
          rintro e w3 ⟨rfl, hi, hb⟩
          have I3 := Lib.hid hi
          have B3 := Lib.hid (B2.out.trans hb)
          clear hi hb
          go_wp2_with fail
          go_roundw
          case rel => exact ⟨1, by omega, by go_num, by rw [HS.out]; exact I3.out, B3.out⟩
          case measure => simp [intOf]; omega
        · have HS := Lib.hid (jn_next (f := f) HX.out hk00)
          have hkp : (0 : Int) < (k : Int) := by omega
          have HKN := Lib.hid (show k * 1001 + 2000 ≤ 140737488355328 by omega)
          obtain ⟨L, hL⟩ : ∃ L, jn ((zs.take k).map f) = L := ⟨_, rfl⟩
          rw [hL] at HI HJ HS
          have HW1 := Lib.hid (c_bByte w.heap.size w.heap.size L 44 wr HI.out (by have := HJ.out; have := HKN.out; omega) HB.out.size)
          clear hL hk00
          go_wp2_with fail
          refine HW1.out.mono ?_
          rintro e w1 ⟨rfl, hi, hb⟩
          have I1 := Lib.hid hi
          have B1 := Lib.hid (HB.out.trans hb)
          have c3 := (B1.out.cell (p := ⟨b, off + k, none⟩) hbk)
          clear hi hb c3
          go_wp2_with fail
          refine (HCX.out _ B1.out).mono ?_
          rintro e w2 ⟨rfl, hb⟩
          have B2 := Lib.hid (Below.next B1.out hb)
          have I2 := Lib.hid (I1.out.kept hb)
          clear hb
          have HW := Lib.hid (c_bString w.heap.size w.heap.size (L ++ [44]) (f x) w2 I2.out (by have := HXM.out; have := HJ.out; have := HKN.out; rw [List.length_append]; simp only [List.length_cons, List.length_nil]; omega) B2.out.size)
          go_wp2_with fail
          refine HW.out.mono ?_
          rintro e w3 ⟨rfl, hi, hb⟩
          have I3 := Lib.hid hi
          have B3 := Lib.hid (B2.out.trans hb)
          clear hi hb
          go_wp2_with fail
          go_roundw
          case rel => exact ⟨k + 1, by omega, by go_num, by rw [HS.out]; exact I3.out, B3.out⟩
          case measure => simp [intOf]; omega
      · obtain rfl : k = n := by omega
        have hall : (zs.take k).map f = zs.map f := by rw [List.take_of_length_le (by rw [HN.out]; exact Nat.le_refl _)]
        rw [hall] at HI
        have HW := Lib.hid (c_bText w.heap.size w.heap.size (jn (zs.map f)) wr HI.out HB.out.size)
        clear hall
        go_wp2_with fail
        refine HW.out.mono ?_
        rintro e w3 ⟨rfl, hb⟩
        have B3 := Lib.hid (HB.out.trans hb)
        clear hb
        go_wp2_with fail
        go_ret
        exact ⟨by rw [HT.out]; rfl, B3.out⟩
def JoinRelF (f : Nat → List UInt8) (zs : List Nat) (n B : Nat) (w : World) (p q i : Value) (wr : World) : Prop :=
  ∃ k : Nat, k ≤ n ∧ i = .int .i64 k ∧ IsB wr B B (jn ((zs.take k).map f)) ∧ Below B w wr
set_option maxRecDepth 20000 in
set_option maxHeartbeats 2000000 in
theorem c_joinF (F : FuncId) (f : Nat → List UInt8) (a : Option Addr) (n cap : Nat) (zs : List Nat) (w : World) (h : IsFloats .f32 w a n cap zs) (hn : n ≤ 1048576) (hM : ∀ z ∈ zs, (f z).length ≤ 1000)
    (hE : ∀ (xs : Array Value) (wr : World), (callFunc F xs).run Tryd.prog wr = .ok (.enter F xs) wr)
    (hF : ∀ (z : Nat) (wr : World), z ∈ zs → Below w.heap.size w wr → Calls Tryd.prog F #[.float .f32 z] wr fun e w' => e = .returned (.string ⟨(f z).toArray⟩) ∧ Below wr.heap.size wr w') :
    Calls Tryd.prog 59 #[.slice a n cap, .func (.func F) #[] #[]] w fun e w' => e = .returned (.string ⟨(txt (zs.map f)).toArray⟩) ∧ Below w.heap.size w w' := by
  have hln : zs.length = n := h.2.2.1
  have HN := Lib.hid hln
  have HR := Lib.hid h
  have HC := Lib.hid hF
  have HM := Lib.hid hM
  clear h hF hM hln
  by_cases h0 : n = 0
  · subst h0
    have HT := Lib.hid (show txt (zs.map f) = noneT by unfold txt; rw [List.length_map, HN.out]; rfl)
    go_enter Tryd.func59, Tryd.ntmps59
    go_wp2_with fail
    go_ret
    exact ⟨by rw [HT.out]; rfl, Below.refl _ _⟩
  · have hnb : ((n : Int) == 0) = false := by simpa using h0
    have HT := Lib.hid (show txt (zs.map f) = jn (zs.map f) by unfold txt; rw [List.length_map, HN.out, if_neg h0])
    have I0 := Lib.hid (isB_new w)
    have B0 := Lib.hid ((Below.refl w.heap.size w).alloc (Nat.le_refl _) (.cells #[.pointer none, .slice none 0 0] 85))
    go_enter Tryd.func59, Tryd.ntmps59
    go_wp2_with fail
    go_loopw [6, 7, 13] (fun p q i wr => JoinRelF f zs n w.heap.size w p q i wr) (fun _ _ i _ => n - (intOf i).toNat)
    case atStart => exact ⟨0, Nat.zero_le _, rfl, I0.out, B0.out⟩
    case round =>
      obtain ⟨k, hk, rfl, hi, hb⟩ := hrel
      have HI := Lib.hid hi
      have HB := Lib.hid hb
      have hk0 : (0 : Int) ≤ (k : Int) := by omega
      have HJ := Lib.hid (show (jn ((zs.take k).map f)).length ≤ k * 1001 from jn_take HM.out (by rw [HN.out]; exact hk))
      clear hi hb
      by_cases hlt : k < n
      · have hlt' : (k : Int) < (n : Int) := by omega
        obtain ⟨b, off, x, rfl, hbk, hx, c1, l1⟩ := flt_atW HR.out hlt
        have c2 := (HB.out.cell (p := ⟨b, off + k, none⟩) hbk).trans c1
        have hmem : x ∈ zs := List.mem_of_getElem? hx
        have HXM := Lib.hid (HM.out x hmem)
        have HCX := Lib.hid (fun W (hb : Below w.heap.size w W) => HC.out x W hmem hb)
        obtain ⟨y, hy⟩ : ∃ y, f x = y := ⟨_, rfl⟩
        have HX := Lib.hid hx
        have HY := Lib.hid hy
        have HE := Lib.hid hE
        clear hx hmem c1 l1 hy
        by_cases hk00 : k = 0
        · subst hk00
          have HS := Lib.hid (jn_first (f := f) HX.out)
          have c2' : wr.cell? ⟨b, off, none⟩ = some (.float .f32 x) := c2
          clear hlt' c2
          go_wp2_with fail
          refine (HCX.out _ HB.out).mono ?_
          rintro e w2 ⟨rfl, hb⟩
          have B2 := Lib.hid (Below.next HB.out hb)
          have I2 := Lib.hid (HI.out.kept hb)
          clear hb
          have HW := Lib.hid (c_bString w.heap.size w.heap.size [] (f x) w2 I2.out (by have := HXM.out; rw [List.length_nil]; omega) B2.out.size)
          go_wp2_with fail
          refine HW.out.mono ?_
          rintro e w3 ⟨rfl, hi, hb⟩
          have I3 := Lib.hid hi
          have B3 := Lib.hid (B2.out.trans hb)
          clear hi hb
          go_wp2_with fail
          go_roundw
          case rel => exact ⟨1, by omega, by go_num, by rw [HS.out]; exact I3.out, B3.out⟩
          case measure => simp [intOf]; omega
        · have HS := Lib.hid (jn_next (f := f) HX.out hk00)
          have hkp : (0 : Int) < (k : Int) := by omega
          have HKN := Lib.hid (show k * 1001 + 2000 ≤ 140737488355328 by omega)
          obtain ⟨L, hL⟩ : ∃ L, jn ((zs.take k).map f) = L := ⟨_, rfl⟩
          rw [hL] at HI HJ HS
          have HW1 := Lib.hid (c_bByte w.heap.size w.heap.size L 44 wr HI.out (by have := HJ.out; have := HKN.out; omega) HB.out.size)
          clear hL hk00
          go_wp2_with fail
          refine HW1.out.mono ?_
          rintro e w1 ⟨rfl, hi, hb⟩
          have I1 := Lib.hid hi
          have B1 := Lib.hid (HB.out.trans hb)
          have c3 := (B1.out.cell (p := ⟨b, off + k, none⟩) hbk)
          clear hi hb c3
          go_wp2_with fail
          refine (HCX.out _ B1.out).mono ?_
          rintro e w2 ⟨rfl, hb⟩
          have B2 := Lib.hid (Below.next B1.out hb)
          have I2 := Lib.hid (I1.out.kept hb)
          clear hb
          have HW := Lib.hid (c_bString w.heap.size w.heap.size (L ++ [44]) (f x) w2 I2.out (by have := HXM.out; have := HJ.out; have := HKN.out; rw [List.length_append]; simp only [List.length_cons, List.length_nil]; omega) B2.out.size)
          go_wp2_with fail
          refine HW.out.mono ?_
          rintro e w3 ⟨rfl, hi, hb⟩
          have I3 := Lib.hid hi
          have B3 := Lib.hid (B2.out.trans hb)
          clear hi hb
          go_wp2_with fail
          go_roundw
          case rel => exact ⟨k + 1, by omega, by go_num, by rw [HS.out]; exact I3.out, B3.out⟩
          case measure => simp [intOf]; omega
      · obtain rfl : k = n := by omega
        have hall : (zs.take k).map f = zs.map f := by rw [List.take_of_length_le (by rw [HN.out]; exact Nat.le_refl _)]
        rw [hall] at HI
        have HW := Lib.hid (c_bText w.heap.size w.heap.size (jn (zs.map f)) wr HI.out HB.out.size)
        clear hall
        go_wp2_with fail
        refine HW.out.mono ?_
        rintro e w3 ⟨rfl, hb⟩
        have B3 := Lib.hid (HB.out.trans hb)
        clear hb
        go_wp2_with fail
        go_ret
        exact ⟨by rw [HT.out]; rfl, B3.out⟩
end Go.Proofs.YtokminhnkmhneaaDoor
