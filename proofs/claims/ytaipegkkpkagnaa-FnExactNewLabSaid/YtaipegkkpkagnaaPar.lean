/-
  The parameters of a model, one layer after another. Conditions: the cells can be read.
-/
import Derived.Test.YtaipegkkpkagnaaVMod
import Derived.Test.YtaipegkkpkagnaaApp
namespace Go.Proofs.Ytaipegkkpkagnaa
open Go.RowKit Go.Deep Go.WideShapes Go.ChangeShapes
set_option linter.unusedVariables false

def parOf (ps : List LayP) : List Nat := ps.flatMap fun p => p.ws ++ p.bs
def parUp (ls : List LayA) (j : Nat) : List Nat := parOf ((ls.take j).map LayA.p)
theorem parOf_length (ps : List LayP) : (parOf ps).length = laySum ps := by
  induction ps with
  | nil => rfl
  | cons p ps ih => simp only [parOf, laySum, List.flatMap_cons, List.length_append, List.map_cons, List.sum_cons, LayP.n] at ih ⊢; omega
theorem parUp_succ {ls : List LayA} {j : Nat} {x : LayA} (h : ls[j]? = some x) : parUp ls (j + 1) = parUp ls j ++ x.p.ws ++ x.p.bs := by
  unfold parUp
  rw [List.take_add_one, h, List.map_append]
  simp [parOf]
theorem parUp_length (ls : List LayA) (j : Nat) : (parUp ls j).length ≤ laySum (ls.map LayA.p) := by
  unfold parUp
  rw [parOf_length]
  exact laySum_le j
theorem okUp_all {ps : List LayP} : ∀ n, okUp ps n = true → ∀ i p, i < n → ps[i]? = some p → vOne p = true := by
  intro n
  induction n with
  | zero => intro _ i p hi; omega
  | succ n ih =>
    intro h i p hi hp
    simp only [okUp, Bool.and_eq_true] at h
    by_cases hj : i < n
    · exact ih h.1 i p hj hp
    · obtain rfl : i = n := by omega
      cases hv : vOne p with
      | true => rfl
      | false => rw [testAt_no hp hv] at h; exact absurd h.2 (by simp)
theorem vOne_n {p : LayP} (h : vOne p = true) : p.n ≤ 72 := by
  obtain ⟨_, ⟨i1, i8⟩, ⟨o1, o8⟩, _, h1, h2⟩ := (vLay_iff _ _ _ _ _).1 h
  have hm := mul_sz o1 o8 i1 i8
  unfold countsOf at h1 h2
  unfold LayP.n
  split at h1
  · simp_all only [if_true]; omega
  · simp_all only [if_false]
    split at h1 <;> simp_all only [if_true, if_false]
    · omega
    · split at h1 <;> simp_all only [if_true, if_false] <;> omega
theorem laySum_bound (ps : List LayP) (h : ∀ p ∈ ps, p.n ≤ 72) : laySum ps ≤ 72 * ps.length := by
  induction ps with
  | nil => simp [laySum]
  | cons p ps ih =>
    have h1 := h p (List.mem_cons_self ..)
    have h2 := ih (fun q hq => h q (List.mem_cons_of_mem _ hq))
    simp only [laySum, List.map_cons, List.sum_cons, List.length_cons] at h2 ⊢
    omega
theorem vMod_parts {ps : List LayP} (h : vMod ps = true) : 1 ≤ ps.length ∧ ps.length ≤ 6 ∧ laySum ps ≤ 432 := by
  simp only [vMod, Bool.and_eq_true, decide_eq_true_eq] at h
  have hb := laySum_bound ps (fun p hp => by
    obtain ⟨i, hi, rfl⟩ := List.mem_iff_getElem.1 hp
    exact vOne_n (okUp_all _ h.2 i _ hi (List.getElem?_eq_getElem hi)))
  omega
def ParRel (ls : List LayA) (n B : Nat) (w : World) (s iv : Value) (wr : World) : Prop :=
  ∃ (k : Nat) (b : Option Addr) (cp : Nat), k ≤ n ∧ iv = .int .i64 k ∧ s = .slice b (parUp ls k).length cp ∧ OwnF wr B b cp (parUp ls k) ∧ Below w.heap.size w wr
/-- a list of floats, to the bit -/
def RetFs (zs : List Nat) (w : World) (e : Ending) (w' : World) : Prop := ∃ b c, e = .returned (.slice b zs.length c) ∧ OwnF w' w.heap.size b c zs ∧ Below w.heap.size w w'
theorem app_next {w wr w5 : World} {B : Nat} {b a' : Option Addr} {cp c' : Nat} {tl cl : List Nat} (ho : OwnF wr B b cp tl) (hc : ∀ y ∈ cl, y < 2 ^ 32)
    (hown : w5.ownsRow B 22 1 (.slice a' (tl.length + cl.length) c') (tl.length + cl.length) (tl.map (Value.float .f32) ++ cl.map (Value.float .f32))) (hgr : wr.grownBy w5 (Value.ownBlock (.slice b tl.length cp)))
    (hB : w.heap.size ≤ B) (hl : Below w.heap.size w wr) : OwnF w5 B a' c' (tl ++ cl) ∧ Below w.heap.size w w5 := by
  rw [ownBlock_slice] at hgr
  refine ⟨⟨by simpa using hown, fun y hy => ?_⟩, hl.grown hgr hl.size (fun g h => Nat.le_trans hB (ho.lt g h).1)⟩
  rcases List.mem_append.1 hy with h | h
  · exact ho.2 y h
  · exact hc y h
/-- a box far from the row -/
theorem app_blk {wr w5 : World} {B ad : Nat} {t : TypeId} {cs : Array Value} {b : Option Addr} {cp : Nat} {tl : List Nat} (hk : Blk wr ad t cs) (ho : OwnF wr B b cp tl) (hgr : wr.grownBy w5 (Value.ownBlock (.slice b tl.length cp))) (hne : ad < B) : Blk w5 ad t cs := by
  rw [ownBlock_slice] at hgr
  refine (hgr.block ad hk.lt (fun e => ?_)).trans hk
  have := (ho.lt ad e.symm).1
  omega
theorem app_blk' {wr w5 : World} {ad : Nat} {t : TypeId} {cs : Array Value} {b : Option Addr} {cp n : Nat} (hk : Blk wr ad t cs) (hgr : wr.grownBy w5 (Value.ownBlock (.slice b n cp))) (hne : ∀ g, blk b = some g → g ≠ ad) : Blk w5 ad t cs := by
  rw [ownBlock_slice] at hgr
  exact (hgr.block ad hk.lt (fun e => hne ad e.symm rfl)).trans hk
set_option maxRecDepth 20000 in
set_option maxHeartbeats 2000000 in
theorem c_l03Params (gp op : Nat) (g : Option Addr) (cap n : Nat) (ls : List LayA) (w : World) (hgp : gp < w.heap.size) (hq : w.cell? ⟨gp, op, none⟩ = some (.slice g n cap)) (h : LaysAt w g n cap ls) (hs : laySum (ls.map LayA.p) ≤ 432) (h6 : n ≤ 6) :
    Calls Try.prog 149 #[.pointer (some ⟨gp, op, none⟩)] w (RetFs (parOf (ls.map LayA.p)) w) := by
  have hln : ls.length = n := h.1
  obtain ⟨i0, hi, hz0, hz1, hz2⟩ := info_parts info_f32
  have HI := Lib.hid hi
  have HZ0 := Lib.hid hz0
  have HZ1 := Lib.hid hz1
  have HZ2 := Lib.hid hz2
  have H := Lib.hid h
  have HS := Lib.hid hs
  have HN := Lib.hid hln
  have HQ := Lib.hid hq
  have HG := Lib.hid hgp
  have h6' : (n : Int) ≤ 6 := by omega
  clear h hs hln hgp hi hz0 hz1 hz2
  go_enter Try.func149, Try.ntmps149
  go_wp2
  go_loopw [3, 4] (fun s iv wr => ParRel ls n w.heap.size w s iv wr) (fun _ iv _ => n - (intOf iv).toNat)
  case atStart => exact ⟨0, _, 0, Nat.zero_le _, rfl, rfl, ⟨World.ownsRow_made w #[] 0 (Nat.le_refl _) (by unfold maxLen; omega) rfl, fun _ h => by cases h⟩, (Below.refl _ _).alloc (Nat.le_refl _) _⟩
  case round =>
    obtain ⟨j, b, cp, hj, rfl, rfl, ho, hbl⟩ := hrel
    have HO := Lib.hid ho
    have HL := Lib.hid hbl
    clear ho hbl
    by_cases hlt : j < n
    · have hlt' : (j : Int) < (n : Int) := by omega
      obtain ⟨lb, off, k, i, o, ws, bs, a0, c0, a1, c1, rfl, hbk, hx, q0, q1, q2, q3, q4, f0, f1⟩ := H.out.one hlt
      have hsuc := parUp_succ hx
      dsimp only at hsuc
      have hle := parUp_length ls (j + 1)
      rw [hsuc, List.length_append, List.length_append] at hle
      have hs432 := HS.out
      have A1 := Lib.hid (show (parUp ls j).length + ws.length ≤ 432 by omega)
      have A2 := Lib.hid (show (parUp ls j ++ ws).length + bs.length ≤ 432 by rw [List.length_append]; omega)
      have HSUC := Lib.hid hsuc
      obtain ⟨tl, htl⟩ : ∃ tl, parUp ls j = tl := ⟨_, rfl⟩
      rw [htl] at HO A1 A2 HSUC ⊢
      have HF0 := Lib.hid (f0.kept HL.out)
      have HF1 := Lib.hid f1
      have HB := Lib.hid hbk
      have r := (HL.out.cell (p := ⟨gp, op, none⟩) HG.out).trans HQ.out
      have r3 := (HL.out.cell (p := ⟨lb, off + j * 5 + 3, none⟩) hbk).trans q3
      have Q4 := Lib.hid q4
      clear hx hsuc hle hs432 htl f0 f1 hbk q0 q1 q2 q3 q4
      go_wp2_with (at_builtin; refine wpList_append_any _ rfl (.tmp 15) (.tmp 23) _ rfl w.heap.size 22 i0 _ 1 4 Try.underlying25 HI.out HZ0.out HZ1.out HZ2.out rfl (by omega) (.slice b tl.length cp) tl.length _ rfl HO.out.1 _ a0 ws.length c0 _ rfl HF0.out.reads (ones_f32 _) ?c1 ?c2 HL.out.size ?_)
      case c1 => have := A1.out; unfold maxLen; omega
      case c2 => have := A1.out; omega
      intro v' w5 hown hgr hat
      obtain ⟨a', c', rfl⟩ := ownsRow_slice hown
      have HNX := Lib.hid (app_next HO.out HF0.out.2.2.2.1 hown hgr (Nat.le_refl _) HL.out)
      clear hown hgr hat r r3
      have HL5 := Lib.hid HNX.out.2
      have HO5 := Lib.hid HNX.out.1
      have HF15 := Lib.hid (HF1.out.kept HL5.out)
      have r := (HL5.out.cell (p := ⟨gp, op, none⟩) HG.out).trans HQ.out
      have r4 := (HL5.out.cell (p := ⟨lb, off + j * 5 + 4, none⟩) HB.out).trans Q4.out
      have e2 : tl.length + ws.length = (tl ++ ws).length := by simp
      rw [e2]
      clear e2
      go_wp2_with (at_builtin; refine wpList_append_any _ rfl (.tmp 25) (.tmp 33) _ rfl w.heap.size 22 i0 _ 1 4 Try.underlying25 HI.out HZ0.out HZ1.out HZ2.out rfl (by omega) (.slice a' (tl ++ ws).length c') (tl ++ ws).length _ rfl HO5.out.1 _ a1 bs.length c1 _ rfl HF15.out.reads (ones_f32 _) ?c1 ?c2 HL5.out.size ?_)
      case c1 => have := A2.out; unfold maxLen; omega
      case c2 => have := A2.out; omega
      intro v' w6 hown hgr hat
      obtain ⟨a'', c'', rfl⟩ := ownsRow_slice hown
      have e3 : tl.length + ws.length = (tl ++ ws).length := by simp
      rw [e3] at hgr
      have HNY := Lib.hid (app_next HO5.out HF15.out.2.2.2.1 (show w6.ownsRow w.heap.size 22 1 (.slice a'' ((tl ++ ws).length + bs.length) c'') ((tl ++ ws).length + bs.length) ((tl ++ ws).map (Value.float .f32) ++ bs.map (Value.float .f32)) by simpa using hown) hgr (Nat.le_refl _) HL5.out)
      clear hown hgr hat r r4
      go_wp2_with fail
      go_roundw
      case rel =>
        obtain ⟨t1, t2⟩ := HNY.out
        refine ⟨j + 1, a'', c'', by omega, by go_num, ?_, ?_, t2⟩
        · rw [HSUC.out, List.length_append, List.length_append]
        · rw [HSUC.out]; exact t1
      case measure => simp [intOf]; omega
    · obtain rfl : j = n := by omega
      have hall : parUp ls j = parOf (ls.map LayA.p) := by unfold parUp; rw [← HN.out, List.take_length]
      rw [hall] at HO ⊢
      clear hall
      have r := (HL.out.cell (p := ⟨gp, op, none⟩) HG.out).trans HQ.out
      go_wp2_with fail
      go_ret
      exact ⟨b, cp, rfl, HO.out, HL.out⟩
set_option maxRecDepth 20000 in
set_option maxHeartbeats 4000000 in
theorem c_params (g : Option Addr) (cap n : Nat) (ls : List LayA) (w : World) (h : LaysAt w g n cap ls) (hs : laySum (ls.map LayA.p) ≤ 432) (h6 : n ≤ 6) :
    Calls Try.prog 177 #[.agg #[.slice g n cap]] w (RetFs (parOf (ls.map LayA.p)) w) := by
  have hln : ls.length = n := h.1
  obtain ⟨i0, hi, hz0, hz1, hz2⟩ := info_parts info_f32
  have HI := Lib.hid hi
  have HZ0 := Lib.hid hz0
  have HZ1 := Lib.hid hz1
  have HZ2 := Lib.hid hz2
  have H := Lib.hid h
  have HS := Lib.hid hs
  have HN := Lib.hid hln
  have h6' : (n : Int) ≤ 6 := by omega
  have b0 := Lib.hid ((Below.refl w.heap.size w).alloc (Nat.le_refl _) (.cells #[.slice g n cap] 46))
  clear h hs hln hi hz0 hz1 hz2
  go_enter Try.func177, Try.ntmps177
  go_wp2
  go_loopw [3, 9] (fun s iv wr => ParRel ls n (w.heap.size + 1) w s iv wr) (fun _ iv _ => n - (intOf iv).toNat)
  case atStart => exact ⟨0, none, 0, Nat.zero_le _, rfl, rfl, ⟨World.ownsRow_nil _ _ _ _, fun _ h => by cases h⟩, b0.out⟩
  case round =>
    obtain ⟨j, b, cp, hj, rfl, rfl, ho, hbl⟩ := hrel
    have HO := Lib.hid ho
    have HL := Lib.hid hbl
    clear ho hbl
    by_cases hlt : j < n
    · have hlt' : (j : Int) < (n : Int) := by omega
      obtain ⟨lb, off, k, i, o, ws, bs, a0, c0, a1, c1, rfl, hbk, hx, q0, q1, q2, q3, q4, f0, f1⟩ := (H.out.kept HL.out).one hlt
      have hsuc := parUp_succ hx
      dsimp only at hsuc
      have hle := parUp_length ls (j + 1)
      rw [hsuc, List.length_append, List.length_append] at hle
      have hs432 := HS.out
      have A1 := Lib.hid (show (parUp ls j).length + ws.length ≤ 432 by omega)
      have A2 := Lib.hid (show (parUp ls j ++ ws).length + bs.length ≤ 432 by rw [List.length_append]; omega)
      have HSUC := Lib.hid hsuc
      obtain ⟨tl, htl⟩ : ∃ tl, parUp ls j = tl := ⟨_, rfl⟩
      rw [htl] at HO A1 A2 HSUC ⊢
      have HF0 := Lib.hid f0
      have HF1 := Lib.hid f1
      have HWF := Lib.hid (H.out.floats hx).2
      clear hx hsuc hle hs432 htl f0 f1 hbk
      have bal := (Below.refl wr.heap.size wr).alloc (Nat.le_refl _) (.cells #[.int .i64 k, .int .i64 i, .int .i64 o, .slice a0 ws.length c0, .slice a1 bs.length c1] 113)
      have HOA := Lib.hid (HO.out.kept bal)
      have HLA := Lib.hid (HL.out.trans (bal.mono HL.out.size))
      have HFA := Lib.hid (HF0.out.kept bal)
      have HFB := Lib.hid (HF1.out.kept bal)
      have KB := Lib.hid (Blk.new wr 113 #[.int .i64 k, .int .i64 i, .int .i64 o, .slice a0 ws.length c0, .slice a1 bs.length c1])
      have HSZ := Lib.hid (show w.heap.size + 1 ≤ (wr.alloc (.cells #[.int .i64 k, .int .i64 i, .int .i64 o, .slice a0 ws.length c0, .slice a1 bs.length c1] 113)).heap.size by have := HL.out.size; simp; omega)
      have NB := Lib.hid (show ∀ g, blk b = some g → g ≠ wr.heap.size from fun g h => Nat.ne_of_lt (HO.out.lt g h).2)
      clear bal
      go_wp2_with (at_builtin; refine wpList_append_any _ rfl (.tmp 13) (.tmp 15) _ rfl (w.heap.size + 1) 22 i0 _ 1 4 Try.underlying25 HI.out HZ0.out HZ1.out HZ2.out rfl (by omega) (.slice b tl.length cp) tl.length _ rfl HOA.out.1 _ a0 ws.length c0 _ rfl HFA.out.reads (ones_f32 _) ?c1 ?c2 HSZ.out ?_)
      case c1 => have := A1.out; unfold maxLen; omega
      case c2 => have := A1.out; omega
      intro v' w5 hown hgr hat
      obtain ⟨a', c', rfl⟩ := ownsRow_slice hown
      have HNX := Lib.hid (app_next HOA.out HFA.out.2.2.2.1 hown hgr (Nat.le_succ _) HLA.out)
      have K5 := Lib.hid (app_blk' KB.out hgr NB.out)
      have B5 := Lib.hid hgr.size
      clear hown hgr hat q0 q1 q2 q3 q4
      have HL5 := Lib.hid HNX.out.2
      have HO5 := Lib.hid HNX.out.1
      obtain ⟨p0, p1, p2, p3, p4, pl⟩ := tb5 K5.out
      have HF15 := Lib.hid (HWF.out.kept HL5.out)
      have e2 : tl.length + ws.length = (tl ++ ws).length := by simp
      rw [e2]
      clear e2
      go_wp2_with (at_builtin; refine wpList_append_any _ rfl (.tmp 17) (.tmp 19) _ rfl (w.heap.size + 1) 22 i0 _ 1 4 Try.underlying25 HI.out HZ0.out HZ1.out HZ2.out rfl (by omega) (.slice a' (tl ++ ws).length c') (tl ++ ws).length _ rfl HO5.out.1 _ a1 bs.length c1 _ rfl HF15.out.reads (ones_f32 _) ?c1 ?c2 (Nat.le_trans HSZ.out B5.out) ?_)
      case c1 => have := A2.out; unfold maxLen; omega
      case c2 => have := A2.out; omega
      intro v' w6 hown hgr hat
      obtain ⟨a'', c'', rfl⟩ := ownsRow_slice hown
      have e3 : tl.length + ws.length = (tl ++ ws).length := by simp
      rw [e3] at hgr
      have HNY := Lib.hid (app_next HO5.out HF15.out.2.2.2.1 (show w6.ownsRow (w.heap.size + 1) 22 1 (.slice a'' ((tl ++ ws).length + bs.length) c'') ((tl ++ ws).length + bs.length) ((tl ++ ws).map (Value.float .f32) ++ bs.map (Value.float .f32)) by simpa using hown) hgr (Nat.le_succ _) HL5.out)
      clear hown hgr hat p0 p1 p2 p3 p4 pl
      go_wp2_with fail
      go_roundw
      case rel =>
        obtain ⟨t1, t2⟩ := HNY.out
        refine ⟨j + 1, a'', c'', by omega, by go_num, ?_, ?_, t2⟩
        · rw [HSUC.out, List.length_append, List.length_append]
        · rw [HSUC.out]; exact t1
      case measure => simp [intOf]; omega
    · obtain rfl : j = n := by omega
      have hall : parUp ls j = parOf (ls.map LayA.p) := by unfold parUp; rw [← HN.out, List.take_length]
      rw [hall] at HO ⊢
      clear hall
      go_wp2_with fail
      go_ret
      exact ⟨b, cp, rfl, ⟨(OwnF.base HO.out (Nat.le_succ _)).1, HO.out.2⟩, HL.out⟩
end Go.Proofs.Ytaipegkkpkagnaa
