/-
  The lists of numbers that the named laws draw: whatever the bytes, a list of at most so many numbers. Conditions: the bytes can be read.
-/
import Derived.Test.YtpfbhckmpkiijaaDoorDraw2
import Derived.Test.YtpfbhckmpkiijaaDoorOp5
import Derived.OwnWalk

namespace Go.Proofs.YtpfbhckmpkiijaaDoor
open Go.RowKit Go.Deep Go.WideShapes Go.ChangeShapes
set_option linter.unusedVariables false

theorem Gone.below {a : Option Addr} {len cap : Nat} {zs : List Int} {S M : Nat} {w w1 : World} (h : Gone a len cap zs S M w w1) : Below S w w1 := h.2.1 S (Nat.le_refl _)
theorem Gone.grown {a : Option Addr} {len cap : Nat} {zs : List Int} {S M : Nat} {w w1 : World} (h : Gone a len cap zs S M w w1) : w.grownBy w1 (blk (some ⟨S, 0, none⟩)) := by
  have hb := h.below
  exact ⟨hb.os, hb.tape, hb.output, h.2.2.1, fun j hj hne => h.2.2.2 j hj (fun e => hne (by rw [e]; rfl))⟩
theorem OwnF.gone {a : Option Addr} {len cap : Nat} {zs : List Int} {S M B : Nat} {w w1 : World} {b : Option Addr} {c : Nat} {ys : List Nat} (ho : OwnF w B b c ys) (hB : S < B) (h : Gone a len cap zs S M w w1) : OwnF w1 B b c ys :=
  ho.apart h.grown (fun g h1 h2 => by have := (ho.lt g h1).1; simp [blk] at h2; omega)
theorem grow0_reads {wr : World} {v : Nat} : Reads (wr.alloc (.cells #[.float .f32 v] 34)) (wr.heap.size + 1) 1 (some ⟨wr.heap.size, 0, none⟩) 1 [.float .f32 v] := by
  have h := grow_reads (wr := wr) (m := 0) (v := v)
  rwa [World.drewN_zero] at h
theorem grow0_own {B : Nat} {wr : World} {b : Option Addr} {cp v : Nat} {ys : List Nat} (ho : OwnF wr B b cp ys) : (wr.alloc (.cells #[.float .f32 v] 34)).ownsRow B 34 1 (.slice b ys.length cp) ys.length (ys.map (Value.float .f32)) := by
  have h := grow_own (m := 0) (v := v) ho
  rwa [World.drewN_zero] at h
theorem grow0_base {B : Nat} {wr : World} {v : Nat} (h : B ≤ wr.heap.size) : B ≤ (wr.alloc (.cells #[.float .f32 v] 34)).heap.size := by
  rw [World.size_alloc]; exact Nat.le_trans h (Nat.le_succ _)

theorem IsRow.kept {k : IntKind} {w w' : World} {a : Option Addr} {len cap : Nat} {zs : List Int} (h : IsRow k w a len cap zs) (hb : Below w.heap.size w w') : IsRow k w' a len cap zs := by
  obtain ⟨h1, h2, h3, h4, h5⟩ := h
  refine ⟨h1, h2, h3, h4, ?_⟩
  rcases h5 with h0 | ⟨b, off, ha, hlt, hc⟩
  · exact .inl h0
  · refine .inr ⟨b, off, ha, Nat.lt_of_lt_of_le hlt hb.size, fun i hi => ?_⟩
    rw [hb.cell (p := ⟨b, off + i, none⟩) hlt]
    exact hc i hi

def dn (k : Nat) : Nat := 2 + 12 * k
theorem dn_succ (k : Nat) : dn (k + 1) = dn k + 12 := by unfold dn; omega
theorem dn_le {k : Nat} (h : k ≤ 1000) : dn k ≤ 20000 := by unfold dn; omega
/-- k numbers are drawn -/
def NumsDrawn (a : Option Addr) (len cap : Nat) (zs : List Int) (S N B n : Nat) (W : World) (i s : Value) (wr : World) : Prop :=
  ∃ (k : Nat) (b : Option Addr) (c : Nat) (ys : List Nat), k ≤ n ∧ i = .int .i64 ((n : Int) - k) ∧ s = .slice b ys.length c ∧ ys.length = k ∧ OwnF wr B b c ys ∧ Src a len cap zs S (N + dn k) wr ∧ Below S W wr
theorem nums_next {a : Option Addr} {len cap : Nat} {zs : List Int} {S N B n k v : Nat} {W wr w' : World} {b a' : Option Addr} {cp cp' : Nat} {ys : List Nat} {i : Int} (hk : k < n) (hi : i = (n : Int) - k) (ho : OwnF wr B b cp ys) (hB : S < B) (hs : Src a len cap zs S (N + dn (k + 1)) wr) (hl : Below S W wr) (hy : ys.length = k) (hv : v < 4294967296)
    (hown : w'.ownsRow B 34 1 (.slice a' (ys.length + 1) cp') (ys.length + 1) (ys.map (Value.float .f32) ++ [.float .f32 v])) (hg : (wr.alloc (.cells #[.float .f32 v] 34)).grownBy w' (Value.ownBlock (.slice b ys.length cp))) :
    NumsDrawn a len cap zs S N B n W (.int .i64 (i - 1)) (.slice a' (ys.length + 1) cp') w' := by
  subst hi
  rw [ownBlock_slice] at hg
  have hlt := hs.lt
  have bw : Below wr.heap.size wr (wr.alloc (.cells #[.float .f32 v] 34)) := (Below.refl _ _).alloc (Nat.le_refl _) _
  have ho1 := ho.kept bw
  have h1 : Below (S + 1) wr w' := (bw.mono (by omega)).grown hg (Nat.le_trans hlt bw.size) (fun g h => Nat.le_trans hB (ho1.lt g h).1)
  refine ⟨k + 1, a', cp', ys ++ [v], hk, by congr 1; omega, by simp, by simp [hy], ⟨by simpa using hown, fun y hy' => ?_⟩, hs.kept h1, hl.trans (h1.mono (Nat.le_succ _))⟩
  rcases List.mem_append.1 hy' with h | h
  · exact ho.2 y h
  · simp at h; subst h; exact hv
/-- a list of so many numbers -/
def RetNums (n B : Nat) (w : World) (e : Ending) (w' : World) : Prop := ∃ b c ys, ys.length = n ∧ e = .returned (.slice b ys.length c) ∧ OwnF w' B b c ys ∧ Below w.heap.size w w'
theorem Src.draw {a : Option Addr} {len cap : Nat} {zs : List Int} {S N k d : Nat} {w : World} (h : Src a len cap zs S (N + dn k + d) w) (hd : d ≤ 12) : Src a len cap zs S (N + dn (k + 1)) w := h.mono (by rw [dn_succ]; omega)
set_option maxRecDepth 20000 in
set_option maxHeartbeats 1000000 in
theorem c_l01DrawFloats (n : Nat) (hn : n ≤ 1000) (a : Option Addr) (len cap : Nat) (zs : List Int) (S N : Nat) (w : World) (h : Src a len cap zs S N w) (hN : N ≤ 4611686018424000000) :
    Calls Tryd.prog 28 #[.pointer (some ⟨S, 0, none⟩), .int .i64 n] w fun e w' => ∃ b c ys, ys.length = n ∧ e = .returned (.slice b ys.length c) ∧ OwnF w' (S + 1) b c ys ∧ Below S w w' := by
  have H := Lib.hid h
  have HN := Lib.hid hN
  have HS := Lib.hid h.lt
  obtain ⟨i0, hi, hz0, hz1, hz2⟩ := info_parts info_f32
  have HI := Lib.hid hi
  have HZ0 := Lib.hid hz0
  have HZ1 := Lib.hid hz1
  have HZ2 := Lib.hid hz2
  clear h hN hi hz0 hz1 hz2
  go_enter Tryd.func28, Tryd.ntmps28
  go_wp2_with fail
  have al : Below w.heap.size w (w.alloc (.cells #[] 34)) := (Below.refl _ _).alloc (Nat.le_refl _) _
  refine (c_one 4 (by decide) (by decide) a len cap zs S N _ (H.out.kept (al.mono HS.out)) (Nat.le_trans HN.out (by decide))).mono ?_
  rintro e w2 ⟨u, rfl, g2⟩
  have HST := Lib.hid (show NumsDrawn a len cap zs S N (S + 1) n w (.int .i64 n) (.slice (some ⟨w.heap.size, 0, none⟩) 0 0) w2 from by
    refine ⟨0, _, 0, [], Nat.zero_le _, by simp, rfl, rfl, OwnF.gone ⟨World.ownsRow_made w #[] 0 HS.out (by unfold maxLen; omega) rfl, fun _ h => by cases h⟩ (Nat.lt_succ_self S) g2, g2.1, (al.mono (Nat.le_of_lt HS.out)).trans g2.below⟩)
  clear al g2
  cases u
  · go_wp2_with fail
    go_loopw [1, 5] (fun i s wr => NumsDrawn a len cap zs S N (S + 1) n w i s wr) (fun i _ _ => (intOf i).toNat)
    case atStart => exact HST.out
    case round =>
      obtain ⟨k, b, cp, ys, hk, rfl, rfl, hy, ho, hs, hl⟩ := hrel
      have HY := Lib.hid hy
      have HO := Lib.hid ho
      have HSR := Lib.hid hs
      have HL := Lib.hid hl
      obtain ⟨i, hi⟩ : ∃ i : Int, (n : Int) - k = i := ⟨_, rfl⟩
      have HIK := Lib.hid hi
      have hi0 : 0 ≤ i := by omega
      have hi1 : i ≤ 1000 := by omega
      have HKN := Lib.hid hk
      rw [hi]
      clear hy ho hs hl hi hk HST
      by_cases hlt : 0 < i
      · have A1 := Lib.hid (show ys.length + 1 ≤ maxLen by have := HY.out; have := HKN.out; unfold maxLen; omega)
        have A2 := Lib.hid (show (ys.length + 1) * 4 ≤ 140737488355328 by have := HY.out; have := HKN.out; omega)
        have HND := Lib.hid (show N + dn k ≤ 4611686018424900000 by have := dn_le (show k ≤ 1000 by have := HKN.out; omega); have := HN.out; omega)
        have HKL := Lib.hid (show k < n by have := HIK.out; omega)
        go_wp2_with fail
        refine (c_l01DrawPlain a len cap zs S (N + dn k) _ HSR.out (Nat.le_trans HND.out (by decide))).mono ?_
        rintro e w3 ⟨r, hr, rfl, g3⟩
        have HR := Lib.hid hr
        have HO3 := Lib.hid (HO.out.gone (Nat.lt_succ_self S) g3)
        have HS3 := Lib.hid (g3.1.draw (by decide))
        have HL3 := Lib.hid (HL.out.trans g3.below)
        have A3 := Lib.hid (show S + 1 ≤ w3.heap.size from HS3.out.lt)
        clear hr g3 HO HSR HL
        go_wp2_with (at_builtin; refine wpList_append_any _ rfl (.tmp 20) (.tmp 23) 22 rfl (S + 1) 34 i0 (.float .f32 0) 1 4 Tryd.underlying22 HI.out HZ0.out HZ1.out HZ2.out rfl Nat.one_pos (.slice b ys.length cp) ys.length (ys.map (Value.float .f32)) rfl (grow0_own HO3.out) (w3.heap.size + 1) (some ⟨w3.heap.size, 0, none⟩) 1 1 [.float .f32 r] rfl grow0_reads (one_f32 _) A1.out A2.out (grow0_base A3.out) ?_; intro v' w' hown hgr hat; obtain ⟨a', c', rfl⟩ := ownsRow_slice hown; have HMD := Lib.hid (nums_next HKL.out HIK.out.symm HO3.out (Nat.lt_succ_self S) HS3.out HL3.out HY.out HR.out hown hgr); clear hown hgr hat)
        go_roundw
        case rel => exact HMD.out
        case measure => simp [intOf]; omega
      · go_wp2_with fail
        go_ret
        exact ⟨b, cp, ys, by have := HY.out; have := HIK.out; have := HKN.out; omega, rfl, HO.out, HL.out⟩
  · go_wp2_with fail
    go_loopw [1, 5] (fun i s wr => NumsDrawn a len cap zs S N (S + 1) n w i s wr) (fun i _ _ => (intOf i).toNat)
    case atStart => exact HST.out
    case round =>
      obtain ⟨k, b, cp, ys, hk, rfl, rfl, hy, ho, hs, hl⟩ := hrel
      have HY := Lib.hid hy
      have HO := Lib.hid ho
      have HSR := Lib.hid hs
      have HL := Lib.hid hl
      obtain ⟨i, hi⟩ : ∃ i : Int, (n : Int) - k = i := ⟨_, rfl⟩
      have HIK := Lib.hid hi
      have hi0 : 0 ≤ i := by omega
      have hi1 : i ≤ 1000 := by omega
      have HKN := Lib.hid hk
      rw [hi]
      clear hy ho hs hl hi hk HST
      by_cases hlt : 0 < i
      · have A1 := Lib.hid (show ys.length + 1 ≤ maxLen by have := HY.out; have := HKN.out; unfold maxLen; omega)
        have A2 := Lib.hid (show (ys.length + 1) * 4 ≤ 140737488355328 by have := HY.out; have := HKN.out; omega)
        have HND := Lib.hid (show N + dn k ≤ 4611686018424900000 by have := dn_le (show k ≤ 1000 by have := HKN.out; omega); have := HN.out; omega)
        have HKL := Lib.hid (show k < n by have := HIK.out; omega)
        go_wp2_with fail
        refine (c_l01DrawFloat a len cap zs S (N + dn k) _ HSR.out (Nat.le_trans HND.out (by decide))).mono ?_
        rintro e w3 ⟨r, hr, rfl, g3⟩
        have HR := Lib.hid hr
        have HO3 := Lib.hid (HO.out.gone (Nat.lt_succ_self S) g3)
        have HS3 := Lib.hid (g3.1.draw (by decide))
        have HL3 := Lib.hid (HL.out.trans g3.below)
        have A3 := Lib.hid (show S + 1 ≤ w3.heap.size from HS3.out.lt)
        clear hr g3 HO HSR HL
        go_wp2_with (at_builtin; refine wpList_append_any _ rfl (.tmp 15) (.tmp 18) 22 rfl (S + 1) 34 i0 (.float .f32 0) 1 4 Tryd.underlying22 HI.out HZ0.out HZ1.out HZ2.out rfl Nat.one_pos (.slice b ys.length cp) ys.length (ys.map (Value.float .f32)) rfl (grow0_own HO3.out) (w3.heap.size + 1) (some ⟨w3.heap.size, 0, none⟩) 1 1 [.float .f32 r] rfl grow0_reads (one_f32 _) A1.out A2.out (grow0_base A3.out) ?_; intro v' w' hown hgr hat; obtain ⟨a', c', rfl⟩ := ownsRow_slice hown; have HMD := Lib.hid (nums_next HKL.out HIK.out.symm HO3.out (Nat.lt_succ_self S) HS3.out HL3.out HY.out HR.out hown hgr); clear hown hgr hat)
        go_roundw
        case rel => exact HMD.out
        case measure => simp [intOf]; omega
      · go_wp2_with fail
        go_ret
        exact ⟨b, cp, ys, by have := HY.out; have := HIK.out; have := HKN.out; omega, rfl, HO.out, HL.out⟩
theorem c_R8Numbers (m : Nat) (hm : m ≤ 100) (a : Option Addr) (len cap : Nat) (zs : List Int) (w : World) (h : IsRow .u8 w a len cap zs) (hl : len ≤ 1048576) :
    Calls Tryd.prog 12 #[.slice a len cap, .int .i64 m] w fun e w' => ∃ b c ys, ys.length ≤ m ∧ e = .returned (.slice b ys.length c) ∧ OwnF w' w.heap.size b c ys ∧ Below w.heap.size w w' := by
  have H := Lib.hid h
  have HL := Lib.hid hl
  clear h hl
  go_enter Tryd.func12, Tryd.ntmps12
  go_wp2_with fail
  refine (c_l00From a len cap zs _ H.out HL.out).mono ?_
  rintro e w1 ⟨rfl, s1, b1, l1⟩
  have S1 := Lib.hid s1
  have B1 := Lib.hid b1
  obtain ⟨S, hS⟩ : ∃ S, w.heap.size = S := ⟨_, rfl⟩
  rw [hS] at S1 B1 ⊢
  have HS := Lib.hid hS
  clear s1 b1 l1 hS
  go_wp2_with fail
  refine (c_pick (m + 1) (by omega) (by omega) a len cap zs S 0 _ S1.out (by decide)).mono ?_
  rintro e w2 ⟨v, v0, v1, rfl, g2⟩
  obtain ⟨n, rfl⟩ := Int.eq_ofNat_of_zero_le v0
  have G2 := Lib.hid g2
  have hn : n ≤ m := by omega
  have HNM := Lib.hid hn
  clear g2 v1 hn
  go_wp2_with fail
  refine (c_l01DrawFloats n (by have := HNM.out; omega) a len cap zs S (0 + 2) _ G2.out.1 (by decide)).mono ?_
  rintro e w3 ⟨b, c, ys, hy, rfl, ho, hb⟩
  have HO := Lib.hid ho
  have HB := Lib.hid hb
  have HY := Lib.hid hy
  clear ho hb hy
  go_wp2_with fail
  go_ret
  exact ⟨b, c, ys, by rw [HY.out]; exact HNM.out, rfl, HO.out.base (by rw [HS.out]; exact Nat.le_succ _), by rw [HS.out]; exact (B1.out.trans G2.out.below).trans HB.out⟩
end Go.Proofs.YtpfbhckmpkiijaaDoor
