/-
  Words for lists of models: opening, sizes, copies, comparing. Conditions: the cells can be read.
-/
import Derived.Test.YtaipegkkpkagnaaMod
import Derived.Test.YtaipegkkpkagnaaSSz
namespace Go.Proofs.Ytaipegkkpkagnaa
open Go.RowKit Go.Deep Go.WideShapes Go.ChangeShapes
set_option linter.unusedVariables false

def ModA.v (x : ModA) : Value := .slice x.g x.ls.length x.c
def ModA.n (x : ModA) : Nat := x.ls.length + laySum (x.ls.map LayA.p)
def mdCl (t : TypeId) (x : ModA) : Cl := .sl t 5 x.ls.length x.g x.c (laysC x.ls)
def mdC (t : TypeId) (ls : List ModA) : List Cl := ls.map (mdCl t)
def cntMd (ls : List ModA) : Nat := (ls.map ModA.n).sum
theorem mdC_length (t : TypeId) (ls : List ModA) : (mdC t ls).length = ls.length := by simp [mdC]
theorem mdC_snoc (t : TypeId) (ys : List ModA) (y : ModA) : mdC t (ys ++ [y]) = mdC t ys ++ [mdCl t y] := by simp [mdC]
theorem vs_mdC (t : TypeId) (ls : List ModA) : vs (mdC t ls) = ls.map ModA.v := by simp [vs, mdC, mdCl, Cl.v, ModA.v, Function.comp_def]
theorem mdC_at {w : World} {t : TypeId} {ls : List ModA} : AtL w (mdC t ls) ↔ ∀ x ∈ ls, LaysAt w x.g x.ls.length x.c x.ls := by
  simp only [AtL_iff, mdC, List.mem_map, mdCl]
  constructor
  · intro h x hx; exact laysAt_cl.1 (h _ ⟨x, hx, rfl⟩)
  · rintro h _ ⟨x, hx, rfl⟩; exact laysAt_cl.2 (h x hx)
theorem cntMd_take {ls : List ModA} {i : Nat} {x : ModA} (h : ls[i]? = some x) : cntMd (ls.take (i + 1)) = cntMd (ls.take i) + (x.ls.length + laySum (x.ls.map LayA.p)) := by
  rw [List.take_add_one, h]
  simp [cntMd, ModA.n]
theorem cntMd_append (a b : List ModA) : cntMd (a ++ b) = cntMd a + cntMd b := by simp [cntMd]
theorem cntMd_le (ls : List ModA) (i : Nat) : cntMd (ls.take i) ≤ cntMd ls := by
  have h2 : cntMd ls = cntMd (ls.take i) + cntMd (ls.drop i) := by rw [← cntMd_append, List.take_append_drop]
  omega
def MdsAt (w : World) (g : Option Addr) (n cap : Nat) (ls : List ModA) : Prop :=
  ls.length = n ∧ n ≤ cap ∧ cap ≤ maxLen ∧ (∀ x ∈ ls, LaysAt w x.g x.ls.length x.c x.ls) ∧ (n = 0 ∨ ∃ b off, g = some ⟨b, off, none⟩ ∧ b < w.heap.size ∧ ∀ i x, ls[i]? = some x → w.cell? ⟨b, off + i, none⟩ = some x.v)
theorem MdsAt.kept {w w' : World} {g : Option Addr} {n cap : Nat} {ls : List ModA} (h : MdsAt w g n cap ls) (hb : Below w.heap.size w w') : MdsAt w' g n cap ls := by
  obtain ⟨h1, h2, h3, h4, h5⟩ := h
  refine ⟨h1, h2, h3, fun x hx => (h4 x hx).kept hb, ?_⟩
  rcases h5 with h0 | ⟨b, off, e, hlt, hc⟩
  · exact .inl h0
  · exact .inr ⟨b, off, e, Nat.lt_of_lt_of_le hlt hb.size, fun i x hx => by rw [hb.cell (p := ⟨b, off + i, none⟩) hlt]; exact hc i x hx⟩
theorem MdsAt.one {w : World} {g : Option Addr} {n cap : Nat} {ls : List ModA} (h : MdsAt w g n cap ls) {i : Nat} (hi : i < n) :
    ∃ (b off : Nat) (a : Option Addr) (c : Nat) (z : List LayA), g = some ⟨b, off, none⟩ ∧ b < w.heap.size ∧ ls[i]? = some ⟨a, c, z⟩ ∧ w.cell? ⟨b, off + i, none⟩ = some (.slice a z.length c) ∧ LaysAt w a z.length c z := by
  obtain ⟨h1, h2, h3, h4, h5⟩ := h
  have hx : ls[i]? = some ls[i] := List.getElem?_eq_getElem (by omega)
  obtain ⟨x, hx'⟩ : ∃ x, ls[i] = x := ⟨_, rfl⟩
  rw [hx'] at hx
  rcases h5 with h0 | ⟨b, off, e, hlt, hc⟩
  · omega
  · obtain ⟨a, c, z⟩ := x
    exact ⟨b, off, a, c, z, e, hlt, hx, hc i _ hx, h4 _ (List.mem_of_getElem? hx)⟩
theorem mdsAt_at {w : World} {t t' : TypeId} {g : Option Addr} {c : Nat} {ls : List ModA} (h : AtL w [.sl t 1 ls.length g c (mdC t' ls)]) : MdsAt w g ls.length c ls := by
  have h1 := h.1
  simp only [Cl.At, mdC_at, Nat.mul_one, vs_mdC] at h1
  obtain ⟨⟨h2, h3, _, h5⟩, h6⟩ := h1
  refine ⟨rfl, h2, h3, h6, ?_⟩
  rcases h5 with h0 | ⟨b, off, e, hlt, hc⟩
  · exact .inl h0
  · refine .inr ⟨b, off, e, hlt, fun i x hx => ?_⟩
    rw [hc i (List.getElem?_eq_some_iff.1 hx).1]
    simp [hx]
theorem mdsAt_own {w : World} {B : Nat} {t t' : TypeId} {g : Option Addr} {c : Nat} {ls : List ModA} (h : OwnL w B [.sl t 1 ls.length g c (mdC t' ls)]) : MdsAt w g ls.length c ls := mdsAt_at (OwnL.at _ h)
theorem mds_can_of {xs ys : List ModA} (h : xs.map ModA.P = ys.map ModA.P) {i : Nat} {x y : ModA} (hx : xs[i]? = some x) (hy : ys[i]? = some y) : x.ls.map (fun x => x.p.can) = y.ls.map (fun x => x.p.can) := by
  have h1 : (xs.map ModA.P)[i]? = (ys.map ModA.P)[i]? := by rw [h]
  simp only [List.getElem?_map, hx, hy, Option.map_some, Option.some.injEq] at h1
  exact can_of h1
theorem typed_mds {c : Cl} (h : c.typed (.sl 32 1 [.sl 246 5 [.int, .int, .int, .sl 22 1 [.f32], .sl 22 1 [.f32]]])) : ∃ g cap rs, c = .sl 32 1 (List.length rs) g cap (mdC 246 rs) := by
  rw [Cl.typed.eq_4] at h
  obtain ⟨g, cap, ls, rfl, hl⟩ := h
  obtain ⟨rs, e1, e2⟩ := typed_list (fun y : ModA => [mdCl 246 y]) (es := [.sl 246 5 [.int, .int, .int, .sl 22 1 [.f32], .sl 22 1 [.f32]]]) (fun l h => by
    simp only [typedL, Cl.typed.eq_4] at h
    obtain ⟨c, cs, rfl, ⟨a, cap, qs, rfl, hq⟩, rfl⟩ := h
    obtain ⟨xs, f1, f2⟩ := typed_list LayA.cs (fun l h => LayA.typed h) qs hq
    exact ⟨⟨a, cap, xs⟩, by rw [f1, ← f2]; rfl⟩) ls hl
  have hm : ∀ ys : List ModA, ys.flatMap (fun y => [mdCl 246 y]) = mdC 246 ys := fun ys => by
    induction ys with
    | nil => rfl
    | cons y ys ih => rw [List.flatMap_cons, ih]; rfl
  exact ⟨g, cap, rs, by rw [e1, hm, ← e2]⟩
set_option maxRecDepth 100000 in
open Go.ChangeShapes Go.WideShapes Go.Deep in
theorem open_Mds {H : Type} {enc : TypeId × Value → H} {W : World} {base b0 : Nat} {re : Reach} {held : Bool} {v : Value} {d : DataW H} {p : List MemPlace}
    (hv : Value.okWide Try.prog W re b0 63 v) (h : DataW.Trod enc Try.prog W base (fun _ => true) held 63 v d p) :
    ∃ (g : Option Addr) (c : Nat) (ls : List ModA), v = .slice g ls.length c ∧ MdsAt W g ls.length c ls := by
  obtain ⟨a, len, cap, rfl⟩ := okWide_slice Try.underlying63 hv
  obtain ⟨fuel, hf⟩ := h
  obtain ⟨l, e, ha, ht⟩ := opened 6 _ _ _ _ _ (show tyOf Try.prog 6 63 = some [.sl 32 1 [.sl 246 5 [.int, .int, .int, .sl 22 1 [.f32], .sl 22 1 [.f32]]]] by kernel_rfl) hf
  simp only [typedL] at ht
  obtain ⟨c0, l0, rfl, h0, rfl⟩ := ht
  obtain ⟨g, cap', rs, rfl⟩ := typed_mds h0
  simp only [Value.cells, vs, List.map_cons, List.map_nil, Cl.v, List.cons.injEq, Value.slice.injEq, and_true] at e
  obtain ⟨rfl, rfl, rfl⟩ := e
  exact ⟨_, _, rs, rfl, mdsAt_at ha⟩
def SzMdRel (ls : List ModA) (l : Nat) (w : World) (lv iv : Value) (wr : World) : Prop :=
  ∃ j : Nat, j ≤ ls.length ∧ iv = .int .i64 j ∧ cntMd (ls.take j) ≤ l ∧ lv = .int .i64 ((l - cntMd (ls.take j) : Nat) : Int) ∧ Below w.heap.size w wr
set_option maxHeartbeats 1000000 in
theorem c_szMds (g : Option Addr) (cap n l r : Nat) (ls : List ModA) (w : World) (h : MdsAt w g n cap ls) (hl : l ≤ 1048576) (hs : n + cntMd ls ≤ l) (hr : l - (n + cntMd ls) = r) :
    Calls Try.prog 26 #[.slice g n cap, .int .i64 l] w fun e w' => e = .returned (.int .i64 (r : Int)) ∧ Below w.heap.size w w' := by
  have hln : ls.length = n := h.1
  have H := Lib.hid h
  have HS := Lib.hid hs
  have HR := Lib.hid hr
  have HN := Lib.hid hln
  obtain ⟨l0, e0⟩ : ∃ l0, l - n = l0 := ⟨_, rfl⟩
  have E0 := Lib.hid e0
  have hnl : (n : Int) ≤ (l : Int) := by omega
  have hl0 : l0 ≤ 1048576 := by omega
  have hw : (l : Int) - (n : Int) = (l0 : Int) := by omega
  have HW := Lib.hid hw
  have h0 : (0 : Int) ≤ (l0 : Int) := by omega
  clear h hs hr hln e0 hw
  go_enter Try.func26, Try.ntmps26
  go_wp2_with fail
  rw [HW.out]
  go_wp2_with fail
  go_loopw [1, 5] (fun lv iv wr => SzMdRel ls l0 w lv iv wr) (fun _ iv _ => n - (intOf iv).toNat)
  case atStart => exact ⟨0, Nat.zero_le _, rfl, by simp [cntMd], by simp [cntMd], Below.refl _ _⟩
  case round =>
    obtain ⟨j, hj, rfl, hle, rfl, hb⟩ := hrel
    have HB := Lib.hid hb
    clear hb
    have HLE := Lib.hid hle
    rw [HN.out] at hj
    obtain ⟨lj, hlj⟩ : ∃ lj, l0 - cntMd (ls.take j) = lj := ⟨_, rfl⟩
    have HLJ := Lib.hid hlj
    rw [hlj]
    have hlj0 : (0 : Int) ≤ (lj : Int) := by omega
    clear hle hlj
    by_cases hlt : j < n
    · obtain ⟨b, off, a, c, z, rfl, hbk, hx, q, f⟩ := (H.out.kept HB.out).one hlt
      have hst := cntMd_take hx
      dsimp only at hst
      have htl := cntMd_le ls (j + 1)
      obtain ⟨l1, hl1⟩ : ∃ l1, lj - (z.length + laySum (z.map LayA.p)) = l1 := ⟨_, rfl⟩
      have hfit : z.length + laySum (z.map LayA.p) ≤ lj := by have := HS.out; have := E0.out; have := HLJ.out; have := HLE.out; omega
      have hnew : l1 = l0 - cntMd (ls.take (j + 1)) := by have := HLJ.out; omega
      have hle2 : cntMd (ls.take (j + 1)) ≤ l0 := by have := HS.out; have := E0.out; omega
      have HL1 := Lib.hid hl1
      have HF := Lib.hid hfit
      have HNW := Lib.hid hnew
      have HLE2 := Lib.hid hle2
      have hl1p : (0 : Int) ≤ (l1 : Int) := by omega
      have hljm : lj ≤ 1048576 := by omega
      have FF := Lib.hid f
      clear f hx hst htl hl1 hfit hnew hle2
      go_wp2_with fail
      refine (c_szMod a c z.length lj l1 z _ FF.out hljm HF.out HL1.out).mono ?_
      rintro e w2 ⟨rfl, bl⟩
      have HB2 := Lib.hid (HB.out.trans (bl.mono HB.out.size))
      clear bl
      go_wp2_with fail
      go_roundw
      case rel => exact ⟨j + 1, by have := HN.out; omega, by go_num, HLE2.out, by rw [HNW.out], HB2.out⟩
      case measure => simp [intOf]; omega
    · obtain rfl : j = n := by omega
      have hall : lj = r := by
        have h1 := HLJ.out; have h2 := HN.out; have h3 := HR.out; have h4 := E0.out
        rw [← h2, List.take_length] at h1
        omega
      go_wp2_with fail
      go_ret
      exact ⟨ret_i (by rw [hall]), HB.out⟩
set_option maxHeartbeats 1000000 in
theorem c_szMds_no (g : Option Addr) (cap n l : Nat) (ls : List ModA) (w : World) (h : MdsAt w g n cap ls) (hl : l ≤ 1048576) (hs : l < n + cntMd ls) :
    Calls Try.prog 26 #[.slice g n cap, .int .i64 l] w fun e w' => e = .returned (.int .i64 (-1)) ∧ Below w.heap.size w w' := by
  have hln : ls.length = n := h.1
  have hnm : n ≤ 9223372036854775807 := by have h1 := h.2.1; have h2 := h.2.2.1; unfold maxLen at h2; omega
  have H := Lib.hid h
  have HS := Lib.hid hs
  have HN := Lib.hid hln
  by_cases hq : n ≤ l
  case neg =>
    have h1 : (l : Int) < (n : Int) := by omega
    clear h hs hln hq
    go_enter Try.func26, Try.ntmps26
    go_wp2
    go_ret
    exact ⟨rfl, Below.refl _ _⟩
  case pos =>
  obtain ⟨l0, e0⟩ : ∃ l0, l - n = l0 := ⟨_, rfl⟩
  have E0 := Lib.hid e0
  have hnl : (n : Int) ≤ (l : Int) := by omega
  have hl0 : l0 ≤ 1048576 := by omega
  have hw : (l : Int) - (n : Int) = (l0 : Int) := by omega
  have HW := Lib.hid hw
  have h0 : (0 : Int) ≤ (l0 : Int) := by omega
  have HS0 := Lib.hid (show l0 < cntMd ls by omega)
  clear h hs hln e0 hw hq
  go_enter Try.func26, Try.ntmps26
  go_wp2_with fail
  rw [HW.out]
  go_wp2_with fail
  go_loopw [1, 5] (fun lv iv wr => SzMdRel ls l0 w lv iv wr) (fun _ iv _ => n - (intOf iv).toNat)
  case atStart => exact ⟨0, Nat.zero_le _, rfl, by simp [cntMd], by simp [cntMd], Below.refl _ _⟩
  case round =>
    obtain ⟨j, hj, rfl, hle, rfl, hb⟩ := hrel
    have HB := Lib.hid hb
    clear hb
    have HLE := Lib.hid hle
    rw [HN.out] at hj
    obtain ⟨lj, hlj⟩ : ∃ lj, l0 - cntMd (ls.take j) = lj := ⟨_, rfl⟩
    have HLJ := Lib.hid hlj
    rw [hlj]
    have hlj0 : (0 : Int) ≤ (lj : Int) := by omega
    have hljm : lj ≤ 1048576 := by omega
    clear hle hlj
    by_cases hlt : j < n
    · obtain ⟨b, off, a, c, z, rfl, hbk, hx, q, f⟩ := (H.out.kept HB.out).one hlt
      have hst := cntMd_take hx
      dsimp only at hst
      by_cases hfit : z.length + laySum (z.map LayA.p) ≤ lj
      · obtain ⟨l1, hl1⟩ : ∃ l1, lj - (z.length + laySum (z.map LayA.p)) = l1 := ⟨_, rfl⟩
        have hnew : l1 = l0 - cntMd (ls.take (j + 1)) := by have := HLJ.out; omega
        have hle2 : cntMd (ls.take (j + 1)) ≤ l0 := by have := HLJ.out; have := HLE.out; omega
        have HL1 := Lib.hid hl1
        have HF := Lib.hid hfit
        have HNW := Lib.hid hnew
        have HLE2 := Lib.hid hle2
        have hl1p : (0 : Int) ≤ (l1 : Int) := by omega
        have FF := Lib.hid f
        clear f hx hst hl1 hfit hnew hle2
        go_wp2_with fail
        refine (c_szMod a c z.length lj l1 z _ FF.out hljm HF.out HL1.out).mono ?_
        rintro e w2 ⟨rfl, bl⟩
        have HB2 := Lib.hid (HB.out.trans (bl.mono HB.out.size))
        clear bl
        go_wp2_with fail
        go_roundw
        case rel => exact ⟨j + 1, by have := HN.out; omega, by go_num, HLE2.out, by rw [HNW.out], HB2.out⟩
        case measure => simp [intOf]; omega
      · have HF := Lib.hid (show lj < z.length + laySum (z.map LayA.p) by omega)
        have FF := Lib.hid f
        clear f hx hst hfit
        go_wp2_with fail
        refine (c_szMod_no a c z.length lj z _ FF.out hljm HF.out).mono ?_
        rintro e w2 ⟨rfl, bl⟩
        have HB2 := Lib.hid (HB.out.trans (bl.mono HB.out.size))
        clear bl
        go_wp2_with fail
        go_ret
        exact ⟨rfl, HB2.out⟩
    · exfalso
      obtain rfl : j = n := by omega
      have h1 := HLE.out; have h2 := HN.out; have h3 := HS0.out
      rw [← h2, List.take_length] at h1
      omega
theorem info_mds : (Try.prog.info? 46).map (fun i => (i.zero, i.size, i.bytes)) = some (some (.agg #[.slice none 0 0]), 1, 24) := by kernel_rfl
def RetMds (ps : List (List LayP)) (n : Nat) (w : World) (e : Ending) (w' : World) : Prop :=
  ∃ (g : Nat) (ys : List ModA), e = .returned (.slice (some ⟨g, 0, none⟩) n n) ∧ ys.length = n ∧ ys.map ModA.P = ps ∧ OwnL w' w.heap.size [.sl 46 1 n (some ⟨g, 0, none⟩) n (mdC 113 ys)] ∧ (blL [.sl 46 1 n (some ⟨g, 0, none⟩) n (mdC 113 ys)]).Nodup ∧ Below w.heap.size w w'
def ToMdRel (ls : List ModA) (n gd : Nat) (w : World) (iv : Value) (wr : World) : Prop :=
  ∃ (k : Nat) (ys : List ModA) (cur : List Value), k ≤ n ∧ iv = .int .i64 k ∧ ys.length = k ∧ ys.map ModA.P = (ls.take k).map ModA.P ∧ wr.ownsRow w.heap.size 46 1 (.slice (some ⟨gd, 0, none⟩) n n) n cur ∧
    cur.take k = ys.map ModA.v ∧ OwnL wr (gd + 1) (mdC 113 ys) ∧ (blL (mdC 113 ys)).Nodup ∧ Below w.heap.size w wr
set_option maxRecDepth 20000 in
set_option maxHeartbeats 1000000 in
theorem c_toMds (g : Option Addr) (cap n : Nat) (ls : List ModA) (w : World) (h : MdsAt w g n cap ls) (hl : n + cntMd ls ≤ 1048576) :
    Calls Try.prog 28 #[.slice g n cap] w (RetMds (ls.map ModA.P) n w) := by
  have hnm : n ≤ maxLen := by have h1 := h.2.1; have h2 := h.2.2.1; omega
  have hn1 : n ≤ 1048576 := by omega
  obtain ⟨i0, hi, hz0, hz1, hz2⟩ := info_parts info_mds
  have HI := Lib.hid hi
  have HZ0 := Lib.hid hz0
  have HZ1 := Lib.hid hz1
  have HZ2 := Lib.hid hz2
  have H := Lib.hid h
  have HL := Lib.hid hl
  have HM := Lib.hid hnm
  clear h hi hz0 hz1 hz2 hl hnm
  go_enter Try.func28, Try.ntmps28
  go_wp2_with (at_make; refine wpList_make_full _ rfl _ _ 66 rfl w.heap.size 46 i0 (.agg #[.slice none 0 0]) 1 Try.underlying66 HI.out HZ0.out HZ1.out _ _ _ _ n rfl rfl rfl rfl ?c1 ?c2 ?c3 ?_)
  case c1 => rw [HZ2.out]; omega
  case c2 => exact HM.out
  case c3 => exact Nat.le_refl _
  intro w1 hown hgrow
  have hb1 : Below w.heap.size w w1 := (Below.refl _ _).grown hgrow (Nat.le_refl _) (fun k h => by cases h)
  have HO := Lib.hid hown
  have HB := Lib.hid hb1
  clear hown hb1 hgrow
  go_wp2
  go_loopw [4] (fun iv wr => ToMdRel ls n w.heap.size w iv wr) (fun iv _ => n - (intOf iv).toNat)
  case atStart => exact ⟨0, [], _, Nat.zero_le _, rfl, rfl, rfl, HO.out, rfl, by simp [mdC, OwnL], by simp [mdC, blL], HB.out⟩
  case round =>
    obtain ⟨k, ys, cur, hk, rfl, hyl, hyp, ho, htk, how, hnd, hb⟩ := hrel
    have HYL := Lib.hid hyl
    have HYP := Lib.hid hyp
    have HO' := Lib.hid ho
    have HT := Lib.hid htk
    have HW := Lib.hid how
    have HND := Lib.hid hnd
    have HB' := Lib.hid hb
    clear hyl hyp ho htk how hnd hb
    by_cases hlt : k < n
    · obtain ⟨b, off, a, c, z, rfl, hbk, hx, q, f⟩ := (H.out.kept HB'.out).one hlt
      have hst := cntMd_take hx
      dsimp only at hst
      have htl := cntMd_le ls (k + 1)
      have z0 : z.length + laySum (z.map LayA.p) ≤ 1048576 := by have := HL.out; omega
      have HX := Lib.hid hx
      have HF := Lib.hid f
      have Z0 := Lib.hid z0
      clear f hx hst htl z0
      go_wp2_with fail
      refine (c_toMod a c z.length z _ HF.out Z0.out).mono ?_
      rintro e w2 ⟨ga, xs, rfl, hxl, hxp, o0, nd0, bl⟩
      have HXL := Lib.hid hxl
      have HXP := Lib.hid hxp
      have ND0 := Lib.hid nd0
      have ho2 := row_kept HO'.out bl
      obtain ⟨z0, v0, y0⟩ := row_cell ho2 k (by omega)
      have O2 := Lib.hid ho2
      have OO := Lib.hid (show OwnL w2 wr.heap.size [mdCl 113 ⟨some ⟨ga, 0, none⟩, z.length, xs⟩] by simp only [mdCl]; rw [hxl]; exact o0)
      have BL := Lib.hid bl
      clear ho2 o0 bl q hxl hxp nd0
      go_wp2_with fail
      clear z0 y0
      go_roundw
      case rel =>
        have hlt0 : w.heap.size < wr.heap.size := (HO'.out.lt _ rfl).2
        obtain ⟨cur', hr, ht⟩ := store1 O2.out hlt (v0 := .slice (some ⟨ga, 0, none⟩) z.length z.length)
        have how2 : OwnL w2 (w.heap.size + 1) (mdC 113 (ys ++ [⟨some ⟨ga, 0, none⟩, z.length, xs⟩])) := by
          rw [mdC_snoc, OwnL_append]
          exact ⟨OwnL.kept HW.out BL.out, OwnL.base (by omega) _ OO.out⟩
        refine ⟨k + 1, ys ++ [⟨some ⟨ga, 0, none⟩, z.length, xs⟩], cur', by omega, by go_num, by simp [HYL.out], ?_, hr, ?_, how2.far (p := ⟨w.heap.size, _, none⟩) (by simp) _, ?_,
          (HB'.out.trans (BL.out.mono HB'.out.size)).setCell (p := ⟨w.heap.size, _, none⟩) (Nat.le_refl _) _⟩
        · rw [List.take_add_one, HX.out, List.map_append, List.map_append, HYP.out]
          show _ = _ ++ [List.map LayA.p z]
          rw [← HXP.out]
          rfl
        · rw [ht, HT.out, List.map_append]
          simp only [List.map_cons, List.map_nil, ModA.v, HXL.out]
        · rw [mdC_snoc, blL_append]
          refine List.nodup_append.2 ⟨HND.out, ?_, ?_⟩
          · have := ND0.out
            simp only [mdCl, HXL.out]
            exact this
          · intro x hx y hy e
            subst e
            exact apart_new HW.out OO.out x hx hy
      case measure => simp [intOf]; omega
    · obtain rfl : k = n := by omega
      go_wp2
      go_ret
      have ho := HO'.out
      have hcur : cur = ys.map ModA.v := by
        rw [← HT.out, List.take_of_length_le (by have := ho.1; omega)]
      rw [hcur] at ho
      have hlt : w.heap.size < wr.heap.size := (ho.lt _ rfl).2
      refine ⟨w.heap.size, ys, rfl, HYL.out, by rw [HYP.out]; rw [← H.out.1, List.take_length], ?_, ?_, HB'.out⟩
      · simp only [OwnL, Cl.Own, and_true, vs_mdC]
        exact ⟨ho, OwnL.base (by omega) _ HW.out⟩
      · simp only [blL, Cl.bl, List.append_nil]
        refine List.nodup_append.2 ⟨by simp [blk], HND.out, ?_⟩
        intro x hx y hy e
        have := (OwnL.lt _ HW.out y hy).1
        simp [blk] at hx
        omega
def EqMdRel (n : Nat) (w : World) (iv : Value) (wr : World) : Prop := ∃ k : Nat, k ≤ n ∧ iv = .int .i64 k ∧ Below w.heap.size w wr
set_option maxRecDepth 20000 in
set_option maxHeartbeats 1000000 in
theorem c_eqMds (g g' : Option Addr) (cap cap' n : Nat) (ls ls' : List ModA) (w : World) (h : MdsAt w g n cap ls) (h' : MdsAt w g' n cap' ls') (hp : ls.map ModA.P = ls'.map ModA.P) :
    Calls Try.prog 30 #[.slice g n cap, .slice g' n cap'] w fun e w' => e = .returned (.bool true) ∧ Below w.heap.size w w' := by
  have hnm : n ≤ 9223372036854775807 := by have h1 := h.2.1; have h2 := h.2.2.1; unfold maxLen at h2; omega
  have H := Lib.hid h
  have H' := Lib.hid h'
  have HP := Lib.hid hp
  clear h h' hp
  go_enter Try.func30, Try.ntmps30
  go_wp2
  go_loopw [5] (fun iv wr => EqMdRel n w iv wr) (fun iv _ => n - (intOf iv).toNat)
  case atStart => exact ⟨0, Nat.zero_le _, rfl, Below.refl _ _⟩
  case round =>
    obtain ⟨k, hk, rfl, hb⟩ := hrel
    have HB := Lib.hid hb
    clear hb
    by_cases hlt : k < n
    · obtain ⟨b, off, a, c, z, rfl, hbk, hx, q, f⟩ := (H.out.kept HB.out).one hlt
      obtain ⟨b', off', a', c', z', rfl, hbk', hx', q', f'⟩ := (H'.out.kept HB.out).one hlt
      have HC := Lib.hid (mds_can_of HP.out hx hx')
      have HLL := Lib.hid (show z'.length = z.length by have := congrArg List.length (mds_can_of HP.out hx hx'); simpa using this.symm)
      have HF := Lib.hid f
      have HF' := Lib.hid f'
      clear f f' hx hx'
      have hlt' : (k : Int) < (n : Int) := by omega
      have hk0 : (0 : Int) ≤ (k : Int) := by omega
      have BD := Lib.hid ((Below.refl wr.heap.size wr).drew)
      go_wp2_with fail
      go_region_held3 (fun w' => w'.cell? ⟨b, off + k, none⟩ = some (.slice a z.length c) ∧ w'.cell? ⟨b', off' + k, none⟩ = some (.slice a' z'.length c')) (go_keep)
        (first
          | (go_at_call 91
             have hce := c_eqMod a a' c c' z.length z z' _ (HF.out.kept BD.out) (by rw [← HLL.out]; exact HF'.out.kept BD.out) HC.out
             rw [show Value.slice a' z.length c' = .slice a' z'.length c' by rw [HLL.out]] at hce
             refine hce.mono ?_
             rintro e w2 ⟨rfl, bl⟩
             have HB2 := Lib.hid (HB.out.drew.trans (bl.mono HB.out.size))
             have r := (bl.cell (p := ⟨b, off + k, none⟩) hbk).trans q
             have r' := (bl.cell (p := ⟨b', off' + k, none⟩) hbk').trans q'
             clear bl hce))
      all_goals
        go_wp2_with fail
        go_roundw
        case rel => exact ⟨k + 1, by omega, by go_num, HB2.out⟩
        case measure => simp [intOf]; omega
    · obtain rfl : k = n := by omega
      go_wp2
      go_ret
      exact ⟨rfl, HB.out⟩
end Go.Proofs.Ytaipegkkpkagnaa
