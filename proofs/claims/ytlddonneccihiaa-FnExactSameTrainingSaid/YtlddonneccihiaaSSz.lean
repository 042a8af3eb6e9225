/-
  Lists of lists of floats: sizes and copies. Conditions: the cells can be read.
-/
import Derived.Test.YtlddonneccihiaaSS
import Derived.Test.YtlddonneccihiaaMod
namespace Go.Proofs.Ytlddonneccihiaa
open Go.RowKit Go.Deep Go.WideShapes Go.ChangeShapes
set_option linter.unusedVariables false

def SzSSRel (ls : List FlA) (l : Nat) (w : World) (lv iv : Value) (wr : World) : Prop :=
  ∃ j : Nat, j ≤ ls.length ∧ iv = .int .i64 j ∧ cntSS (ls.take j) ≤ l ∧ lv = .int .i64 ((l - cntSS (ls.take j) : Nat) : Int) ∧ w = wr
set_option maxHeartbeats 1000000 in
theorem c_szSS (g : Option Addr) (cap n l r : Nat) (ls : List FlA) (w : World) (h : SSAt w g n cap ls) (hl : l ≤ 1048576) (hs : n + cntSS ls ≤ l) (hr : l - (n + cntSS ls) = r) :
    Calls Try.prog 28 #[.slice g n cap, .int .i64 l] w fun e w' => e = .returned (.int .i64 (r : Int)) ∧ w = w' := by
  have hln : ls.length = n := h.1
  have H := Lib.hid h
  have HS := Lib.hid hs
  have HR := Lib.hid hr
  have HN := Lib.hid hln
  obtain ⟨l0, e0⟩ : ∃ l0, l - n = l0 := ⟨_, rfl⟩
  have E0 := Lib.hid e0
  have hnl : (n : Int) ≤ (l : Int) := by omega
  have hl0 : l0 ≤ 1048576 := by omega
  have hw : (l : Int) - (n : Int) = (l0 : Int) := by omega
  have HW := Lib.hid hw
  have h0 : (0 : Int) ≤ (l0 : Int) := by omega
  clear h hs hr hln e0 hw
  go_enter Try.func28, Try.ntmps28
  go_wp2_with fail
  rw [HW.out]
  go_wp2_with fail
  go_loopw [1, 5] (fun lv iv wr => SzSSRel ls l0 w lv iv wr) (fun _ iv _ => n - (intOf iv).toNat)
  case atStart => exact ⟨0, Nat.zero_le _, rfl, by simp [cntSS], by simp [cntSS], rfl⟩
  case round =>
    obtain ⟨j, hj, rfl, hle, rfl, rfl⟩ := hrel
    have HLE := Lib.hid hle
    rw [HN.out] at hj
    obtain ⟨lj, hlj⟩ : ∃ lj, l0 - cntSS (ls.take j) = lj := ⟨_, rfl⟩
    have HLJ := Lib.hid hlj
    rw [hlj]
    have hlj0 : (0 : Int) ≤ (lj : Int) := by omega
    clear hle hlj
    by_cases hlt : j < n
    · obtain ⟨b, off, z, a, c, rfl, hbk, hx, q, f⟩ := H.out.one hlt
      have hst := cntSS_take hx
      dsimp only at hst
      have htl := cntSS_le ls (j + 1)
      obtain ⟨l1, hl1⟩ : ∃ l1, lj - z.length = l1 := ⟨_, rfl⟩
      have hfit : z.length ≤ lj := by have := HS.out; have := E0.out; have := HLJ.out; have := HLE.out; omega
      have hnew : l1 = l0 - cntSS (ls.take (j + 1)) := by have := HLJ.out; omega
      have hle2 : cntSS (ls.take (j + 1)) ≤ l0 := by have := HS.out; have := E0.out; omega
      have HL1 := Lib.hid hl1
      have HF := Lib.hid hfit
      have HNW := Lib.hid hnew
      have HLE2 := Lib.hid hle2
      have hl1p : (0 : Int) ≤ (l1 : Int) := by omega
      have hljm : lj ≤ 1048576 := by omega
      clear f hx hst htl hl1 hfit hnew hle2
      go_wp2_with fail
      refine (c_szFloats a z.length c lj _ HF.out hljm).mono ?_
      rintro e w2 ⟨rfl, rfl⟩
      rw [HL1.out]
      go_wp2_with fail
      go_roundw
      case rel => exact ⟨j + 1, by have := HN.out; omega, by go_num, HLE2.out, by rw [HNW.out], rfl⟩
      case measure => simp [intOf]; omega
    · obtain rfl : j = n := by omega
      have hall : lj = r := by
        have h1 := HLJ.out; have h2 := HN.out; have h3 := HR.out; have h4 := E0.out
        rw [← h2, List.take_length] at h1
        omega
      go_wp2_with fail
      go_ret
      exact ⟨ret_i (by rw [hall]), rfl⟩
set_option maxHeartbeats 1000000 in
theorem c_szSS_no (g : Option Addr) (cap n l : Nat) (ls : List FlA) (w : World) (h : SSAt w g n cap ls) (hl : l ≤ 1048576) (hs : l < n + cntSS ls) :
    Calls Try.prog 28 #[.slice g n cap, .int .i64 l] w fun e w' => e = .returned (.int .i64 (-1)) ∧ w = w' := by
  have hln : ls.length = n := h.1
  have hnm : n ≤ 9223372036854775807 := by have h1 := h.2.1; have h2 := h.2.2.1; unfold maxLen at h2; omega
  have H := Lib.hid h
  have HS := Lib.hid hs
  have HN := Lib.hid hln
  by_cases hq : n ≤ l
  case neg =>
    have h1 : (l : Int) < (n : Int) := by omega
    clear h hs hln hq
    go_enter Try.func28, Try.ntmps28
    go_wp2
    go_ret
    exact ⟨rfl, rfl⟩
  case pos =>
  obtain ⟨l0, e0⟩ : ∃ l0, l - n = l0 := ⟨_, rfl⟩
  have E0 := Lib.hid e0
  have hnl : (n : Int) ≤ (l : Int) := by omega
  have hl0 : l0 ≤ 1048576 := by omega
  have hw : (l : Int) - (n : Int) = (l0 : Int) := by omega
  have HW := Lib.hid hw
  have h0 : (0 : Int) ≤ (l0 : Int) := by omega
  have HS0 := Lib.hid (show l0 < cntSS ls by omega)
  clear h hs hln e0 hw hq
  go_enter Try.func28, Try.ntmps28
  go_wp2_with fail
  rw [HW.out]
  go_wp2_with fail
  go_loopw [1, 5] (fun lv iv wr => SzSSRel ls l0 w lv iv wr) (fun _ iv _ => n - (intOf iv).toNat)
  case atStart => exact ⟨0, Nat.zero_le _, rfl, by simp [cntSS], by simp [cntSS], rfl⟩
  case round =>
    obtain ⟨j, hj, rfl, hle, rfl, rfl⟩ := hrel
    have HLE := Lib.hid hle
    rw [HN.out] at hj
    obtain ⟨lj, hlj⟩ : ∃ lj, l0 - cntSS (ls.take j) = lj := ⟨_, rfl⟩
    have HLJ := Lib.hid hlj
    rw [hlj]
    have hlj0 : (0 : Int) ≤ (lj : Int) := by omega
    have hljm : lj ≤ 1048576 := by omega
    clear hle hlj
    by_cases hlt : j < n
    · obtain ⟨b, off, z, a, c, rfl, hbk, hx, q, f⟩ := H.out.one hlt
      have hst := cntSS_take hx
      dsimp only at hst
      have hm0 : z.length ≤ 9223372036854775807 := by have h1 := f.1; have h2 := f.2.1; unfold maxLen at h2; omega
      by_cases hfit : z.length ≤ lj
      · obtain ⟨l1, hl1⟩ : ∃ l1, lj - z.length = l1 := ⟨_, rfl⟩
        have hnew : l1 = l0 - cntSS (ls.take (j + 1)) := by have := HLJ.out; omega
        have hle2 : cntSS (ls.take (j + 1)) ≤ l0 := by have := HLJ.out; have := HLE.out; omega
        have HL1 := Lib.hid hl1
        have HF := Lib.hid hfit
        have HNW := Lib.hid hnew
        have HLE2 := Lib.hid hle2
        have hl1p : (0 : Int) ≤ (l1 : Int) := by omega
        clear f hx hst hl1 hfit hnew hle2
        go_wp2_with fail
        refine (c_szFloats a z.length c lj _ HF.out hljm).mono ?_
        rintro e w2 ⟨rfl, rfl⟩
        rw [HL1.out]
        go_wp2_with fail
        go_roundw
        case rel => exact ⟨j + 1, by have := HN.out; omega, by go_num, HLE2.out, by rw [HNW.out], rfl⟩
        case measure => simp [intOf]; omega
      · have HF := Lib.hid (show lj < z.length by omega)
        clear f hx hst hfit
        go_wp2_with fail
        refine (c_szFloats_no a z.length c lj _ HF.out hljm hm0).mono ?_
        rintro e w2 ⟨rfl, rfl⟩
        go_wp2_with fail
        go_ret
        exact ⟨rfl, rfl⟩
    · exfalso
      obtain rfl : j = n := by omega
      have h1 := HLE.out; have h2 := HN.out; have h3 := HS0.out
      rw [← h2, List.take_length] at h1
      omega
theorem info_ss : (Try.prog.info? 38).map (fun i => (i.zero, i.size, i.bytes)) = some (some (.slice none 0 0), 1, 24) := by kernel_rfl
def RetSSs (ps : List (List Nat)) (n : Nat) (w : World) (e : Ending) (w' : World) : Prop :=
  ∃ (g : Nat) (ys : List FlA), e = .returned (.slice (some ⟨g, 0, none⟩) n n) ∧ ys.length = n ∧ ys.map FlA.z = ps ∧ OwnL w' w.heap.size [.sl 38 1 n (some ⟨g, 0, none⟩) n (ssC ys)] ∧ (blL [.sl 38 1 n (some ⟨g, 0, none⟩) n (ssC ys)]).Nodup ∧ Below w.heap.size w w'
def ToSSRel (ls : List FlA) (n gd : Nat) (w : World) (iv : Value) (wr : World) : Prop :=
  ∃ (k : Nat) (ys : List FlA) (cur : List Value), k ≤ n ∧ iv = .int .i64 k ∧ ys.length = k ∧ ys.map FlA.z = (ls.take k).map FlA.z ∧ wr.ownsRow w.heap.size 38 1 (.slice (some ⟨gd, 0, none⟩) n n) n cur ∧
    cur.take k = ys.map FlA.v ∧ OwnL wr (gd + 1) (ssC ys) ∧ (blL (ssC ys)).Nodup ∧ Below w.heap.size w wr
theorem store1 {w : World} {B : Nat} {t : TypeId} {n cap g k : Nat} {xs : List Value} {v0 : Value} (h : w.ownsRow B t 1 (.slice (some ⟨g, 0, none⟩) n cap) n xs) (hk : k < n) :
    ∃ ys, (w.setCell ⟨g, k, none⟩ v0).ownsRow B t 1 (.slice (some ⟨g, 0, none⟩) n cap) n ys ∧ ys.take (k + 1) = xs.take k ++ [v0] := by
  have hl := h.1
  refine ⟨_, (h.stored k v0).1, ?_⟩
  rw [take_set_succ _ _ _ (by omega)]
theorem ssC_snoc (ys : List FlA) (y : FlA) : ssC (ys ++ [y]) = ssC ys ++ [y.cl] := by simp [ssC]
set_option maxRecDepth 20000 in
set_option maxHeartbeats 1000000 in
theorem c_toSS (g : Option Addr) (cap n : Nat) (ls : List FlA) (w : World) (h : SSAt w g n cap ls) (hl : n + cntSS ls ≤ 1048576) :
    Calls Try.prog 31 #[.slice g n cap] w (RetSSs (ls.map FlA.z) n w) := by
  have hnm : n ≤ maxLen := by have h1 := h.2.1; have h2 := h.2.2.1; omega
  have hn1 : n ≤ 1048576 := by omega
  obtain ⟨i0, hi, hz0, hz1, hz2⟩ := info_parts info_ss
  have HI := Lib.hid hi
  have HZ0 := Lib.hid hz0
  have HZ1 := Lib.hid hz1
  have HZ2 := Lib.hid hz2
  have H := Lib.hid h
  have HL := Lib.hid hl
  have HM := Lib.hid hnm
  clear h hi hz0 hz1 hz2 hl hnm
  go_enter Try.func31, Try.ntmps31
  go_wp2_with (at_make; refine wpList_make_full _ rfl _ _ 25 rfl w.heap.size 38 i0 (.slice none 0 0) 1 Try.underlying25 HI.out HZ0.out HZ1.out _ _ _ _ n rfl rfl rfl rfl ?c1 ?c2 ?c3 ?_)
  case c1 => rw [HZ2.out]; omega
  case c2 => exact HM.out
  case c3 => exact Nat.le_refl _
  intro w1 hown hgrow
  have hb1 : Below w.heap.size w w1 := (Below.refl _ _).grown hgrow (Nat.le_refl _) (fun k h => by cases h)
  have HO := Lib.hid hown
  have HB := Lib.hid hb1
  clear hown hb1 hgrow
  go_wp2
  go_loopw [4] (fun iv wr => ToSSRel ls n w.heap.size w iv wr) (fun iv _ => n - (intOf iv).toNat)
  case atStart => exact ⟨0, [], _, Nat.zero_le _, rfl, rfl, rfl, HO.out, rfl, by simp [ssC, OwnL], by simp [ssC, blL], HB.out⟩
  case round =>
    obtain ⟨k, ys, cur, hk, rfl, hyl, hyp, ho, htk, how, hnd, hb⟩ := hrel
    have HYL := Lib.hid hyl
    have HYP := Lib.hid hyp
    have HO' := Lib.hid ho
    have HT := Lib.hid htk
    have HW := Lib.hid how
    have HND := Lib.hid hnd
    have HB' := Lib.hid hb
    clear hyl hyp ho htk how hnd hb
    by_cases hlt : k < n
    · obtain ⟨b, off, z, a, c, rfl, hbk, hx, q, f⟩ := (H.out.kept HB'.out).one hlt
      have hst := cntSS_take hx
      dsimp only at hst
      have htl := cntSS_le ls (k + 1)
      have z0 : z.length ≤ 1048576 := by have := HL.out; omega
      have HX := Lib.hid hx
      have HF := Lib.hid f
      have Z0 := Lib.hid z0
      clear f hx hst htl z0
      go_wp2_with fail
      refine (c_toFloats a z.length c z _ HF.out Z0.out).mono ?_
      rintro e w2 ⟨a0, rfl, o0, bl⟩
      have ho2 := row_kept HO'.out bl
      obtain ⟨z0, v0, y0⟩ := row_cell ho2 k (by omega)
      have O2 := Lib.hid ho2
      have OO := Lib.hid (show OwnL w2 wr.heap.size [(FlA.mk z a0 z.length).cl] by simp only [OwnL, FlA.cl, flC_own, and_true]; exact o0)
      have BL := Lib.hid bl
      clear ho2 o0 bl q
      go_wp2_with fail
      clear z0 y0
      go_roundw
      case rel =>
        have hlt0 : w.heap.size < wr.heap.size := (HO'.out.lt _ rfl).2
        obtain ⟨cur', hr, ht⟩ := store1 O2.out hlt (v0 := .slice a0 z.length z.length)
        have how2 : OwnL w2 (w.heap.size + 1) (ssC (ys ++ [⟨z, a0, z.length⟩])) := by
          rw [ssC_snoc, OwnL_append]
          exact ⟨OwnL.kept HW.out BL.out, OwnL.base (by omega) _ OO.out⟩
        refine ⟨k + 1, ys ++ [⟨z, a0, z.length⟩], cur', by omega, by go_num, by simp [HYL.out], ?_, hr, ?_, how2.far (p := ⟨w.heap.size, _, none⟩) (by simp) _, ?_,
          (HB'.out.trans (BL.out.mono HB'.out.size)).setCell (p := ⟨w.heap.size, _, none⟩) (Nat.le_refl _) _⟩
        · rw [List.take_add_one, HX.out, List.map_append, List.map_append, HYP.out]
          rfl
        · rw [ht, HT.out, List.map_append]
          rfl
        · rw [ssC_snoc, blL_append]
          refine List.nodup_append.2 ⟨HND.out, ?_, ?_⟩
          · simp only [blL, FlA.cl, flC_bl, List.append_nil]
            cases blk a0 <;> simp
          · intro x hx y hy e
            subst e
            exact apart_new HW.out OO.out x hx hy
      case measure => simp [intOf]; omega
    · obtain rfl : k = n := by omega
      go_wp2
      go_ret
      have ho := HO'.out
      have hcur : cur = ys.map FlA.v := by
        rw [← HT.out, List.take_of_length_le (by have := ho.1; omega)]
      rw [hcur] at ho
      have hlt : w.heap.size < wr.heap.size := (ho.lt _ rfl).2
      refine ⟨w.heap.size, ys, rfl, HYL.out, by rw [HYP.out]; rw [← H.out.1, List.take_length], ?_, ?_, HB'.out⟩
      · simp only [OwnL, Cl.Own, and_true, vs_ssC]
        exact ⟨ho, OwnL.base (by omega) _ HW.out⟩
      · simp only [blL, Cl.bl, List.append_nil]
        refine List.nodup_append.2 ⟨by simp [blk], HND.out, ?_⟩
        intro x hx y hy e
        have := (OwnL.lt _ HW.out y hy).1
        simp [blk] at hx
        omega
end Go.Proofs.Ytlddonneccihiaa
