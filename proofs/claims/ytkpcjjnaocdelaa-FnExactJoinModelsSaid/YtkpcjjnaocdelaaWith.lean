/-
  WithParams: the model's side. Conditions: the cells can be read.
-/
import Derived.Test.YtkpcjjnaocdelaaPar
import Derived.Test.YtkpcjjnaocdelaaMark
namespace Go.Proofs.Ytkpcjjnaocdelaa
open Go.RowKit Go.Deep Go.WideShapes Go.ChangeShapes
set_option linter.unusedVariables false

/-- layers with other parameters, one after another -/
def withP : List LayP → List Nat → List LayP
  | [], _ => []
  | p :: ps, zs => { p with ws := zs.take p.ws.length, bs := (zs.drop p.ws.length).take p.bs.length } :: withP ps (zs.drop (p.ws.length + p.bs.length))
theorem withP_length (ps : List LayP) (zs : List Nat) : (withP ps zs).length = ps.length := by
  induction ps generalizing zs with
  | nil => rfl
  | cons p ps ih => simp [withP, ih]
theorem withP_append (a b : List LayP) (zs : List Nat) : withP (a ++ b) zs = withP a zs ++ withP b (zs.drop (laySum a)) := by
  induction a generalizing zs with
  | nil => simp [withP, laySum]
  | cons p a ih =>
    simp only [List.cons_append, withP, ih, List.drop_drop]
    congr 3
/-- the next layer -/
theorem withP_next {ls : List LayA} {j : Nat} {x : LayA} {zs : List Nat} (h : ls[j]? = some x) :
    withP ((ls.take (j + 1)).map LayA.p) zs = withP ((ls.take j).map LayA.p) zs ++ [{ x.p with ws := (zs.drop (laySum ((ls.take j).map LayA.p))).take x.p.ws.length, bs := (zs.drop (laySum ((ls.take j).map LayA.p) + x.p.ws.length)).take x.p.bs.length }] := by
  rw [List.take_add_one, h, List.map_append, withP_append]
  simp [withP, List.drop_drop]
/-- a model that the call made -/
def RetMd (ps : List LayP) (n : Nat) (w : World) (e : Ending) (w' : World) : Prop :=
  ∃ gs cap ys, e = .returned (.agg #[.slice gs n cap]) ∧ List.length ys = n ∧ ys.map LayA.p = ps ∧ OwnL w' w.heap.size [.sl 59 5 n gs cap (laysC ys)] ∧ (blL [.sl 59 5 n gs cap (laysC ys)]).Nodup ∧ Below w.heap.size w w'
def WithRel (ls : List LayA) (zs : List Nat) (n : Nat) (w : World) (av iv : Value) (wr : World) : Prop :=
  ∃ (j : Nat) (gs : Option Addr) (cp : Nat) (ys : List LayA), j ≤ n ∧ iv = .int .i64 j ∧ av = .int .i64 ((laySum ((ls.take j).map LayA.p) : Nat) : Int) ∧ ys.length = j ∧ ys.map LayA.p = withP ((ls.take j).map LayA.p) zs ∧
    Blk wr (w.heap.size + 1) 41 #[.slice gs j cp] ∧ Blk wr w.heap.size 41 #[.slice none 0 0] ∧ wr.ownsRow (w.heap.size + 2) 59 5 (.slice gs j cp) j (vs (laysC ys)) ∧ OwnL wr (w.heap.size + 2) (laysC ys) ∧ (layBl gs ys).Nodup ∧ Below w.heap.size w wr
theorem part_at {w : World} {a : Option Addr} {m c : Nat} {zs : List Nat} (h : IsFloats .f32 w a m c zs) (lo len : Nat) (hl : lo + len ≤ m) :
    IsFloats .f32 w (if c = lo then a else a.map (·.add lo)) len (c - lo) ((zs.drop lo).take len) := by
  have h1 := h.1
  have h2 := h.2.1
  by_cases hc : c = lo
  · subst hc
    obtain rfl : len = 0 := by omega
    rw [if_pos rfl, Nat.sub_self, List.take_zero]
    exact ⟨Nat.le_refl _, Nat.zero_le _, rfl, (fun _ h => by cases h), .inl rfl⟩
  · rw [if_neg hc]
    have hp := h.part lo (lo + len) (by omega) hl (c - lo) (by omega) (by omega)
    rw [Nat.add_sub_cancel_left] at hp
    exact hp
/-- the first list is stored into the layer's box -/
theorem with_store1 {w wr w2 : World} {B cp j : Nat} {gs b0 : Option Addr} {d0 n0 : Nat} {ws' : List Nat} {t : TypeId} {v0 v1 v2 v3 v4 : Value} {tm : TypeId} {x1 x0 : Value} {xs : List Value} {l : List Cl}
    (ho : OwnF w2 (wr.heap.size + 1) b0 d0 ws') (hk : Blk w2 wr.heap.size t #[v0, v1, v2, v3, v4]) (h1 : Blk w2 (w.heap.size + 1) tm #[x1]) (h0 : Blk w2 w.heap.size tm #[x0]) (hr : w2.ownsRow B 59 5 (.slice gs j cp) j xs) (hl : OwnL w2 B l) (hb : Below w.heap.size w w2)
    (rlt : ∀ g ∈ (blk gs).toList, B ≤ g ∧ g < wr.heap.size) (olt : ∀ g ∈ blL l, B ≤ g ∧ g < wr.heap.size) (hlt : w.heap.size + 1 < wr.heap.size) (hn : ws'.length = n0) :
    Blk (w2.setCell ⟨wr.heap.size, 3, none⟩ (.slice b0 n0 d0)) wr.heap.size t #[v0, v1, v2, .slice b0 n0 d0, v4] ∧ Blk (w2.setCell ⟨wr.heap.size, 3, none⟩ (.slice b0 n0 d0)) (w.heap.size + 1) tm #[x1] ∧ Blk (w2.setCell ⟨wr.heap.size, 3, none⟩ (.slice b0 n0 d0)) w.heap.size tm #[x0] ∧
    (w2.setCell ⟨wr.heap.size, 3, none⟩ (.slice b0 n0 d0)).ownsRow B 59 5 (.slice gs j cp) j xs ∧ OwnL (w2.setCell ⟨wr.heap.size, 3, none⟩ (.slice b0 n0 d0)) B l ∧ Below w.heap.size w (w2.setCell ⟨wr.heap.size, 3, none⟩ (.slice b0 n0 d0)) ∧ OwnF (w2.setCell ⟨wr.heap.size, 3, none⟩ (.slice b0 n0 d0)) (wr.heap.size + 1) b0 d0 ws' := by
  have hg : GrownIn w2 (w2.setCell ⟨wr.heap.size, 3, none⟩ (.slice b0 n0 d0)) [wr.heap.size] := (GrownIn.refl w2 [wr.heap.size]).setCell (p := ⟨wr.heap.size, 3, none⟩) (by simp) _
  have hk' := Joins.block_setCell (i := 3) hk (.slice b0 n0 d0)
  refine ⟨by simpa [Blk] using hk', h1.inn hg (by simp; omega), h0.inn hg (by simp; omega), ownsRow_in hr hg (fun g h => by have := (rlt g h).2; simp; omega), OwnL.apart hg _ hl (fun g h => by have := (olt g h).2; simp; omega), hb.setCell (p := ⟨wr.heap.size, 3, none⟩) (by simp; omega) _, ho.far (p := ⟨wr.heap.size, 3, none⟩) (by simp) _⟩
theorem with_store2 {w wr w2 : World} {B cp j : Nat} {gs b0 b1 : Option Addr} {d0 d1 n1 : Nat} {ws' bs' : List Nat} {t : TypeId} {v0 v1 v2 v3 v4 : Value} {tm : TypeId} {x1 x0 : Value} {xs : List Value} {l : List Cl}
    (ho : OwnF w2 (wr.heap.size + 1) b1 d1 bs') (hk : Blk w2 wr.heap.size t #[v0, v1, v2, v3, v4]) (h1 : Blk w2 (w.heap.size + 1) tm #[x1]) (h0 : Blk w2 w.heap.size tm #[x0]) (hr : w2.ownsRow B 59 5 (.slice gs j cp) j xs) (hl : OwnL w2 B l) (hb : Below w.heap.size w w2) (hp : OwnF w2 (wr.heap.size + 1) b0 d0 ws')
    (rlt : ∀ g ∈ (blk gs).toList, B ≤ g ∧ g < wr.heap.size) (olt : ∀ g ∈ blL l, B ≤ g ∧ g < wr.heap.size) (hlt : w.heap.size + 1 < wr.heap.size) (hn : bs'.length = n1) :
    Blk (w2.setCell ⟨wr.heap.size, 4, none⟩ (.slice b1 n1 d1)) wr.heap.size t #[v0, v1, v2, v3, .slice b1 n1 d1] ∧ Blk (w2.setCell ⟨wr.heap.size, 4, none⟩ (.slice b1 n1 d1)) (w.heap.size + 1) tm #[x1] ∧ Blk (w2.setCell ⟨wr.heap.size, 4, none⟩ (.slice b1 n1 d1)) w.heap.size tm #[x0] ∧
    (w2.setCell ⟨wr.heap.size, 4, none⟩ (.slice b1 n1 d1)).ownsRow B 59 5 (.slice gs j cp) j xs ∧ OwnL (w2.setCell ⟨wr.heap.size, 4, none⟩ (.slice b1 n1 d1)) B l ∧ Below w.heap.size w (w2.setCell ⟨wr.heap.size, 4, none⟩ (.slice b1 n1 d1)) ∧ OwnF (w2.setCell ⟨wr.heap.size, 4, none⟩ (.slice b1 n1 d1)) (wr.heap.size + 1) b0 d0 ws' ∧ OwnF (w2.setCell ⟨wr.heap.size, 4, none⟩ (.slice b1 n1 d1)) (wr.heap.size + 1) b1 d1 bs' := by
  have hg : GrownIn w2 (w2.setCell ⟨wr.heap.size, 4, none⟩ (.slice b1 n1 d1)) [wr.heap.size] := (GrownIn.refl w2 [wr.heap.size]).setCell (p := ⟨wr.heap.size, 4, none⟩) (by simp) _
  have hk' := Joins.block_setCell (i := 4) hk (.slice b1 n1 d1)
  refine ⟨by simpa [Blk] using hk', h1.inn hg (by simp; omega), h0.inn hg (by simp; omega), ownsRow_in hr hg (fun g h => by have := (rlt g h).2; simp; omega), OwnL.apart hg _ hl (fun g h => by have := (olt g h).2; simp; omega), hb.setCell (p := ⟨wr.heap.size, 4, none⟩) (by simp; omega) _, hp.far (p := ⟨wr.heap.size, 4, none⟩) (by simp) _, ho.far (p := ⟨wr.heap.size, 4, none⟩) (by simp) _⟩
theorem reads5 {w : World} {g : Nat} {t : TypeId} {v0 v1 v2 v3 v4 : Value} (h : Blk w g t #[v0, v1, v2, v3, v4]) : Reads w w.heap.size 5 (some ⟨g, 0, none⟩) 1 [v0, v1, v2, v3, v4] := by
  refine ⟨rfl, fun _ => ⟨_, rfl, h.lt, fun j u hu => ?_⟩⟩
  rw [add_plain, Nat.zero_add, h.cell j]
  simpa using hu
theorem ones5 (k i o : Int) (a b : Option Addr) {n m c d : Nat} : ∀ u ∈ [Value.int .i64 k, .int .i64 i, .int .i64 o, .slice a n c, .slice b m d], u.oneCell' = true := by
  intro u hu
  simp only [List.mem_cons, List.not_mem_nil, or_false] at hu
  rcases hu with rfl | rfl | rfl | rfl | rfl <;> rfl
/-- the layer is laid anew, ahead of the append -/
theorem with_new {w wr w4 : World} {B cp j n1 : Nat} {gs b0 b1 : Option Addr} {d0 d1 : Nat} {ws' bs' : List Nat} {t tm : TypeId} {u0 u1 u2 u3 x1 x0 v0 v1 v2 v3 v4 : Value} {xs : List Value} {l : List Cl}
    (h : Blk (w4.setCell ⟨wr.heap.size, 4, none⟩ (.slice b1 n1 d1)) wr.heap.size t #[u0, u1, u2, u3, .slice b1 n1 d1] ∧ Blk (w4.setCell ⟨wr.heap.size, 4, none⟩ (.slice b1 n1 d1)) (w.heap.size + 1) tm #[x1] ∧ Blk (w4.setCell ⟨wr.heap.size, 4, none⟩ (.slice b1 n1 d1)) w.heap.size tm #[x0] ∧
      (w4.setCell ⟨wr.heap.size, 4, none⟩ (.slice b1 n1 d1)).ownsRow B 59 5 (.slice gs j cp) j xs ∧ OwnL (w4.setCell ⟨wr.heap.size, 4, none⟩ (.slice b1 n1 d1)) B l ∧ Below w.heap.size w (w4.setCell ⟨wr.heap.size, 4, none⟩ (.slice b1 n1 d1)) ∧ OwnF (w4.setCell ⟨wr.heap.size, 4, none⟩ (.slice b1 n1 d1)) (wr.heap.size + 1) b0 d0 ws' ∧ OwnF (w4.setCell ⟨wr.heap.size, 4, none⟩ (.slice b1 n1 d1)) (wr.heap.size + 1) b1 d1 bs') :
    ((w4.setCell ⟨wr.heap.size, 4, none⟩ (.slice b1 n1 d1)).alloc (.cells #[v0, v1, v2, v3, v4] 59)).ownsRow B 59 5 (.slice gs j cp) j xs ∧
    Reads ((w4.setCell ⟨wr.heap.size, 4, none⟩ (.slice b1 n1 d1)).alloc (.cells #[v0, v1, v2, v3, v4] 59)) ((w4.setCell ⟨wr.heap.size, 4, none⟩ (.slice b1 n1 d1)).alloc (.cells #[v0, v1, v2, v3, v4] 59)).heap.size 5 (some ⟨w4.heap.size, 0, none⟩) 1 [v0, v1, v2, v3, v4] ∧
    Blk ((w4.setCell ⟨wr.heap.size, 4, none⟩ (.slice b1 n1 d1)).alloc (.cells #[v0, v1, v2, v3, v4] 59)) (w.heap.size + 1) tm #[x1] ∧ Blk ((w4.setCell ⟨wr.heap.size, 4, none⟩ (.slice b1 n1 d1)).alloc (.cells #[v0, v1, v2, v3, v4] 59)) w.heap.size tm #[x0] ∧
    OwnL ((w4.setCell ⟨wr.heap.size, 4, none⟩ (.slice b1 n1 d1)).alloc (.cells #[v0, v1, v2, v3, v4] 59)) B l ∧ Below w.heap.size w ((w4.setCell ⟨wr.heap.size, 4, none⟩ (.slice b1 n1 d1)).alloc (.cells #[v0, v1, v2, v3, v4] 59)) ∧
    OwnF ((w4.setCell ⟨wr.heap.size, 4, none⟩ (.slice b1 n1 d1)).alloc (.cells #[v0, v1, v2, v3, v4] 59)) (wr.heap.size + 1) b0 d0 ws' ∧ OwnF ((w4.setCell ⟨wr.heap.size, 4, none⟩ (.slice b1 n1 d1)).alloc (.cells #[v0, v1, v2, v3, v4] 59)) (wr.heap.size + 1) b1 d1 bs' := by
  obtain ⟨h1, h2, h3, h4, h5, h6, h7, h8⟩ := h
  have bal := (Below.refl (w4.setCell ⟨wr.heap.size, 4, none⟩ (.slice b1 n1 d1)).heap.size (w4.setCell ⟨wr.heap.size, 4, none⟩ (.slice b1 n1 d1))).alloc (Nat.le_refl _) (.cells #[v0, v1, v2, v3, v4] 59)
  have hk := Blk.new (w4.setCell ⟨wr.heap.size, 4, none⟩ (.slice b1 n1 d1)) 59 #[v0, v1, v2, v3, v4]
  have hk' : Blk ((w4.setCell ⟨wr.heap.size, 4, none⟩ (.slice b1 n1 d1)).alloc (.cells #[v0, v1, v2, v3, v4] 59)) w4.heap.size 59 #[v0, v1, v2, v3, v4] := by simpa using hk
  exact ⟨row_kept h4 bal, reads5 hk', h2.below bal, h3.below bal, OwnL.kept h5 bal, Below.next h6 bal, h7.kept bal, h8.kept bal⟩
/-- a layer is appended to those that the call made -/
theorem with_step {w6 w7 : World} {B N j cp c' : Nat} {gs a' : Option Addr} {ys : List LayA} {y : LayA}
    (hown : w7.ownsRow B 59 5 (.slice a' (j + 1) c') (j + 1) (vs (laysC ys) ++ vs y.cs)) (hgr : w6.grownBy w7 (Value.ownBlock (.slice gs j cp)))
    (hat : Value.ownBlock (.slice a' (j + 1) c') = Value.ownBlock (.slice gs j cp) ∨ Value.ownBlock (.slice a' (j + 1) c') = some w6.heap.size)
    (ho : OwnL w6 B (laysC ys)) (h0 : OwnF w6 (N + 1) y.a0 y.c0 y.p.ws) (h1 : OwnF w6 (N + 1) y.a1 y.c1 y.p.bs) (hap : ∀ g, blk y.a0 = some g → blk y.a1 ≠ some g)
    (rlt : ∀ g ∈ (blk gs).toList, B ≤ g ∧ g < N) (olt : ∀ g ∈ blL (laysC ys), B ≤ g ∧ g < N) (hnd : (layBl gs ys).Nodup) (hBN : B ≤ N) (hN : N < w6.heap.size) :
    w7.ownsRow B 59 5 (.slice a' (j + 1) c') (j + 1) (vs (laysC (ys ++ [y]))) ∧ OwnL w7 B (laysC (ys ++ [y])) ∧ (layBl a' (ys ++ [y])).Nodup ∧ GrownIn w6 w7 (blk gs).toList := by
  rw [ownBlock_slice] at hgr
  rw [ownBlock_slice, ownBlock_slice] at hat
  have hg := GrownIn.of_grown hgr
  have hnd' := List.nodup_append.1 hnd
  have hy0 : OwnL w6 B y.cs := LayA.own_iff.2 ⟨h0.base (by omega), h1.base (by omega)⟩
  have hyl : ∀ g ∈ blL y.cs, N < g ∧ g < w6.heap.size := by
    intro g hg'
    rw [LayA.bl_cs, List.mem_append] at hg'
    rcases hg' with h | h
    · have := ownsRow_lt h0.1 g h; omega
    · have := ownsRow_lt h1.1 g h; omega
  refine ⟨by rw [laysC_snoc, vs_append]; exact hown, ?_, ?_, hg⟩
  · rw [laysC_snoc, OwnL_append]
    exact ⟨OwnL.apart hg _ ho (fun g h h' => hnd'.2.2 g h' g h rfl), OwnL.apart hg _ hy0 (fun g h h' => by have := hyl g h; have := rlt g h'; omega)⟩
  · rw [layBl, laysC_snoc, blL_append]
    have hyn : (blL y.cs).Nodup := LayA.nodup hap
    have hyy : (blL (laysC ys) ++ blL y.cs).Nodup := List.nodup_append.2 ⟨hnd'.2.1, hyn, fun x hx z hz e => by have := olt x hx; have := hyl z hz; omega⟩
    refine List.nodup_append.2 ⟨nodup1 _, hyy, ?_⟩
    intro x hx z hz e
    subst e
    rw [List.mem_append] at hz
    rcases hat with h | h
    · rw [h] at hx
      rcases hz with hz | hz
      · exact hnd'.2.2 x hx x hz rfl
      · have := rlt x hx; have := hyl x hz; omega
    · rw [h] at hx
      simp only [Option.toList_some, List.mem_singleton] at hx
      rcases hz with hz | hz
      · have := olt x hz; omega
      · have := hyl x hz; omega
set_option maxRecDepth 20000 in
set_option maxHeartbeats 4000000 in
theorem c_l03With (gp op : Nat) (g : Option Addr) (cap n : Nat) (ls : List LayA) (a : Option Addr) (m c : Nat) (zs : List Nat) (w : World) (hgp : gp < w.heap.size) (hq : w.cell? ⟨gp, op, none⟩ = some (.slice g n cap)) (h : LaysAt w g n cap ls)
    (hz : IsFloats .f32 w a m c zs) (hm : m = laySum (ls.map LayA.p)) (hs : m ≤ 432) (h6 : n ≤ 6) :
    Calls Try.prog 130 #[.pointer (some ⟨gp, op, none⟩), .slice a m c] w (RetMd (withP (ls.map LayA.p) zs) n w) := by
  have hcm : c ≤ 9223372036854775807 := by have h2 := hz.2.1; unfold maxLen at h2; omega
  have hmc : m ≤ c := hz.1
  have HZ := Lib.hid hz
  have H := Lib.hid h
  have HM := Lib.hid hm
  have HQ := Lib.hid hq
  have HGP := Lib.hid hgp
  have hn6 : (n : Int) ≤ 6 := by omega
  have hln := h.1
  have HN := Lib.hid hln
  obtain ⟨i0, hi, hz0, hz1, hz2⟩ := info_parts info_lay
  have HI := Lib.hid hi
  have HZ0 := Lib.hid hz0
  have HZ1 := Lib.hid hz1
  have HZ2 := Lib.hid hz2
  clear hi hz0 hz1 hz2
  have hm4 : (m : Int) ≤ 432 := by omega
  clear h hz hm hgp hln
  go_enter Try.func130, Try.ntmps130
  go_wp2
  go_loopw [6, 7] (fun av iv wr => WithRel ls zs n w av iv wr) (fun _ iv _ => n - (intOf iv).toNat)
  case atStart =>
    have k1 := Blk.new (w.alloc (.cells #[.slice none 0 0] 41)) 41 #[.slice none 0 0]
    have k0 := (Blk.new w 41 #[.slice none 0 0]).below ((Below.refl _ _).alloc (Nat.le_refl _) (.cells #[.slice none 0 0] 41))
    simp only [World.size_alloc] at k1
    exact ⟨0, none, 0, [], Nat.zero_le _, rfl, by simp [laySum], rfl, rfl, k1, k0, World.ownsRow_nil _ _ _ _, by simp [laysC, OwnL], by simp [layBl, blk, laysC, blL], ((Below.refl _ _).alloc (Nat.le_refl _) _).alloc (by simp) _⟩
  case round =>
    obtain ⟨j, gs, cp, ys, hj, rfl, rfl, hyl, hyp, hk1, hk0, hrow, hown, hnd, hb⟩ := hrel
    have HYL := Lib.hid hyl
    have HYP := Lib.hid hyp
    have K1 := Lib.hid hk1
    have K0 := Lib.hid hk0
    have HR := Lib.hid hrow
    have HO := Lib.hid hown
    have HND := Lib.hid hnd
    have HB := Lib.hid hb
    obtain ⟨at_, hat⟩ : ∃ t, laySum ((ls.take j).map LayA.p) = t := ⟨_, rfl⟩
    have HAT := Lib.hid hat
    rw [hat]
    have r := (HB.out.cell (p := ⟨gp, op, none⟩) HGP.out).trans HQ.out
    clear hyl hyp hk1 hk0 hrow hown hnd hb hq
    by_cases hlt : j < n
    · have hlt' : (j : Int) < (n : Int) := by omega
      obtain ⟨b, off, k, i, o, ws, bs, a0, c0, a1, c1, rfl, hbk, hx, q0, q1, q2, q3, q4, f0, f1⟩ := (H.out.kept HB.out).one hlt
      have hst := laySum_take hx
      have htl := laySum_le (ls := ls) (j + 1)
      dsimp only at hst
      rw [hat] at hst
      have hfit : at_ + (ws.length + bs.length) ≤ m := by rw [HM.out]; omega
      have u1 : (at_ : Int) + (ws.length : Int) ≤ (m : Int) := by omega
      have u2 : (at_ : Int) + (ws.length : Int) + (bs.length : Int) ≤ (m : Int) := by omega
      have u3 : (at_ : Int) + (ws.length : Int) ≤ (c : Int) := by omega
      have u4 : (at_ : Int) + (ws.length : Int) + (bs.length : Int) ≤ (c : Int) := by omega
      have HX := Lib.hid hx
      have hw1 : ((zs.drop at_).take ws.length).length = ws.length := by rw [List.length_take, List.length_drop, HZ.out.2.2.1]; omega
      have hw2 : ((zs.drop (at_ + ws.length)).take bs.length).length = bs.length := by rw [List.length_take, List.length_drop, HZ.out.2.2.1]; omega
      obtain ⟨ws', hws'⟩ : ∃ l, (zs.drop at_).take ws.length = l := ⟨_, rfl⟩
      obtain ⟨bs', hbs'⟩ : ∃ l, (zs.drop (at_ + ws.length)).take bs.length = l := ⟨_, rfl⟩
      have F1 := Lib.hid (part_at HZ.out at_ ws.length (by omega))
      have F2 := Lib.hid (part_at HZ.out (at_ + ws.length) bs.length (by omega))
      rw [hws'] at F1 hw1
      rw [hbs'] at F2 hw2
      have HW1 := Lib.hid hw1
      have HW2 := Lib.hid hw2
      have HWS := Lib.hid hws'
      have HBS := Lib.hid hbs'
      have HST := Lib.hid hst
      have A1 := Lib.hid (show ws.length ≤ 1048576 by omega)
      have A2 := Lib.hid (show bs.length ≤ 1048576 by omega)
      have bal := (Below.refl wr.heap.size wr).alloc (Nat.le_refl _) (.cells #[.int .i64 k, .int .i64 i, .int .i64 o, .slice a0 ws.length c0, .slice a1 bs.length c1] 59)
      have HBa := Lib.hid (HB.out.trans (bal.mono HB.out.size))
      have KLa := Lib.hid (Blk.new wr 59 #[.int .i64 k, .int .i64 i, .int .i64 o, .slice a0 ws.length c0, .slice a1 bs.length c1])
      have K1a := Lib.hid (K1.out.below bal)
      have K0a := Lib.hid (K0.out.below bal)
      have HRa := Lib.hid (row_kept HR.out bal)
      have HOa := Lib.hid (OwnL.kept HO.out bal)
      have RLT := Lib.hid (ownsRow_lt HR.out)
      have OLT := Lib.hid (OwnL.lt _ HO.out)
      have LS := Lib.hid (show wr.heap.size < (wr.alloc (.cells #[.int .i64 k, .int .i64 i, .int .i64 o, .slice a0 ws.length c0, .slice a1 bs.length c1] 59)).heap.size by simp)
      clear hat hst htl hx f0 f1 bal hw1 hw2 hws' hbs' hfit
      have v1 : ((at_ : Int) + (ws.length : Int)).toNat = at_ + ws.length := by omega
      by_cases hc1 : c = at_
      · have hc0 := hc1.symm
        subst hc0
        have hw0 : ws.length = 0 := by omega
        have hb0 : bs.length = 0 := by omega
        have e1 : (if at_ = at_ then a else a.map (·.add at_)) = a := if_pos rfl
        have h2 : at_ + ws.length = at_ := by omega
        have h3 : at_ + bs.length = at_ := by omega
        have e2 : (if at_ = at_ + ws.length then a else a.map (·.add (at_ + ws.length))) = a := if_pos h2.symm
        rw [e1, Nat.sub_self, hw0] at F1
        rw [e2, h2, Nat.sub_self, hb0] at F2
        clear e1 e2 hw0 hb0
        go_wp2_with fail
        clear q0 q1 q2 q3 q4
        refine (c_l02Own _ _ _ ws' _ (F1.out.kept HBa.out) (Nat.zero_le _)).mono ?_
        rintro e w2 ⟨b0, d0, rfl, hf, bl⟩
        rw [HW1.out]
        have S1 := Lib.hid (with_store1 (d0 := d0) (b0 := b0) (hf.base LS.out) (KLa.out.below bl) (K1a.out.below bl) (K0a.out.below bl) (row_kept HRa.out bl) (OwnL.kept HOa.out bl) (Below.next HBa.out bl) RLT.out OLT.out K1.out.lt (HW1.out))
        have KL2 := Lib.hid (KLa.out.below bl)
        have LS2 := Lib.hid (Nat.lt_of_lt_of_le LS.out bl.size)
        clear hf bl
        obtain ⟨p0, p1, p2, p3, p4, pl⟩ := tb5 KL2.out
        obtain ⟨f0, f1, f2, f3, f4⟩ := KL2.out.layfz
        go_wp2_with fail
        clear p0 p1 p2 p3 p4 pl f0 f1 f2 f3 f4 KL2
        have sS := S1.out
        have hsz : (w2.setCell ⟨wr.heap.size, 3, none⟩ (.slice b0 ws.length d0)).heap.size = w2.heap.size := by simp
        generalize w2.setCell ⟨wr.heap.size, 3, none⟩ (.slice b0 ws.length d0) = w3 at sS hsz ⊢
        have LS3 := Lib.hid (show wr.heap.size < w3.heap.size by rw [hsz]; exact LS2.out)
        have T := Lib.hid sS
        clear sS hsz S1
        refine (c_l02Own _ _ _ bs' _ (F2.out.kept T.out.2.2.2.2.2.1) (Nat.zero_le _)).mono ?_
        rintro e w4 ⟨b1, d1, rfl, hf, bl⟩
        rw [HW2.out]
        have AP := Lib.hid (T.out.2.2.2.2.2.2.new_apart hf)
        have KL4 := Lib.hid (T.out.1.below bl)
        have U := Lib.hid (with_store2 (d1 := d1) (b1 := b1) (hf.base LS3.out) (T.out.1.below bl) (T.out.2.1.below bl) (T.out.2.2.1.below bl) (row_kept T.out.2.2.2.1 bl) (OwnL.kept T.out.2.2.2.2.1 bl) (Below.next T.out.2.2.2.2.2.1 bl) (T.out.2.2.2.2.2.2.kept bl) RLT.out OLT.out K1.out.lt HW2.out)
        have LS4 := Lib.hid (Nat.lt_of_lt_of_le LS3.out bl.size)
        have K14 := Lib.hid (T.out.2.1.below bl)
        have hne1 : w.heap.size + 1 ≠ wr.heap.size := Nat.ne_of_lt K1.out.lt
        have hne2 : wr.heap.size ≠ w.heap.size + 1 := Nat.ne_of_gt K1.out.lt
        clear hf bl T
        obtain ⟨p0, p1, p2, p3, p4, pl⟩ := tb5 KL4.out
        obtain ⟨f0, f1, f2, f3, f4⟩ := KL4.out.layfz
        obtain ⟨x0, xl⟩ := tb1 K14.out
        have W5 := Lib.hid (with_new (v0 := .int .i64 k) (v1 := .int .i64 i) (v2 := .int .i64 o) (v3 := .slice b0 ws.length d0) (v4 := .slice b1 bs.length d1) U.out)
        have SZ5 := Lib.hid (show w.heap.size + 2 ≤ ((w4.setCell ⟨wr.heap.size, 4, none⟩ (.slice b1 bs.length d1)).alloc (.cells #[.int .i64 k, .int .i64 i, .int .i64 o, .slice b0 ws.length d0, .slice b1 bs.length d1] 59)).heap.size by have := K1.out.lt; have := LS4.out; simp; omega)
        go_wp2_with (at_builtin; refine wpList_append_any _ rfl (.tmp 60) (.tmp 62) 39 rfl (w.heap.size + 2) 59 i0 (.agg #[.int .i64 0, .int .i64 0, .int .i64 0, .slice none 0 0, .slice none 0 0]) 5 72 Try.underlying39 HI.out HZ0.out HZ1.out HZ2.out rfl (by omega) (.slice gs j cp) j (vs (laysC ys)) rfl W5.out.1 _ (some ⟨w4.heap.size, 0, none⟩) 1 1 [.int .i64 k, .int .i64 i, .int .i64 o, .slice b0 ws.length d0, .slice b1 bs.length d1] rfl W5.out.2.1 (ones5 _ _ _ _ _) ?c1 ?c2 SZ5.out ?_)
        case c1 => unfold maxLen; omega
        case c2 => omega
        intro v' w7 hown hgr hat
        obtain ⟨a', c', rfl⟩ := ownsRow_slice hown
        clear p0 p1 p2 p3 p4 pl f0 f1 f2 f3 f4 x0 xl
        have hy : vs (⟨⟨k, i, o, ws', bs'⟩, b0, d0, b1, d1⟩ : LayA).cs = [.int .i64 k, .int .i64 i, .int .i64 o, .slice b0 ws.length d0, .slice b1 bs.length d1] := by
          rw [LayA.vs_cs]; simp only [LayA.cells, HW1.out, HW2.out]
        have ST := Lib.hid (with_step (y := ⟨⟨k, i, o, ws', bs'⟩, b0, d0, b1, d1⟩) (N := wr.heap.size) (by rw [hy]; exact hown) hgr (hat.imp_right (fun h => h.trans (by simp))) W5.out.2.2.2.2.1 W5.out.2.2.2.2.2.2.1 W5.out.2.2.2.2.2.2.2 AP.out RLT.out OLT.out HND.out (Nat.succ_le_of_lt K1.out.lt) (by have := LS4.out; simp; omega))
        have K17 := Lib.hid (W5.out.2.2.1.inn ST.out.2.2.2 (fun h => by have := (RLT.out _ h).1; omega))
        have K07 := Lib.hid (W5.out.2.2.2.1.inn ST.out.2.2.2 (fun h => by have := (RLT.out _ h).1; omega))
        have HB7 := Lib.hid (ST.out.2.2.2.below' W5.out.2.2.2.2.2.1 (fun g h => by have := (RLT.out _ h).1; omega))
        clear hy hown hgr hat hne1 hne2
        obtain ⟨x0, xl⟩ := tb1 K17.out
        have f0 := K17.out.frozen 0
        go_wp2_with fail
        clear x0 xl f0
        go_roundw
        case rel =>
          have hr1 : GrownIn w7 (w7.setCell ⟨w.heap.size + 1, 0, none⟩ (.slice a' (j + 1) c')) [w.heap.size + 1] := (GrownIn.refl w7 [w.heap.size + 1]).setCell (p := ⟨w.heap.size + 1, 0, none⟩) (by simp) _
          have hnx := withP_next (zs := zs) HX.out
          rw [HAT.out] at hnx
          dsimp only at hnx
          rw [HWS.out, HBS.out] at hnx
          have hk := Joins.block_setCell (i := 0) K17.out (.slice a' (j + 1) c')
          refine ⟨j + 1, a', c', ys ++ [⟨⟨k, i, o, ws', bs'⟩, b0, d0, b1, d1⟩], by omega, by go_num, ?_, by simp [HYL.out], ?_, by simpa [Blk] using hk, K07.out.inn hr1 (by simp), ownsRow_in ST.out.1 hr1 ?_, OwnL.apart hr1 _ ST.out.2.1 ?_, ST.out.2.2.1, HB7.out.setCell (p := ⟨w.heap.size + 1, 0, none⟩) (by simp) _⟩
          · rw [HST.out]; go_num
          · rw [hnx, List.map_append, HYP.out]; rfl
          · intro g hg
            have := (ownsRow_lt ST.out.1 g hg).1
            simp; omega
          · intro g hg
            have := (OwnL.lt _ ST.out.2.1 g hg).1
            simp; omega
        case measure => simp [intOf]; omega
      · by_cases hc2 : c = at_ + ws.length
        · subst hc2
          have hc1' : ¬ at_ + ws.length = at_ := hc1
          have hc3 : ¬ ws.length = 0 := by omega
          have hc4 : ¬ ws = [] := fun h => hc3 (by rw [h]; rfl)
          have hb0 : bs.length = 0 := by omega
          have h3 : at_ + ws.length + bs.length = at_ + ws.length := by omega
          have e1 : (if at_ + ws.length = at_ then a else a.map (·.add at_)) = a.map (·.add at_) := if_neg hc1
          have e2 : (if at_ + ws.length = at_ + ws.length then a else a.map (·.add (at_ + ws.length))) = a := if_pos rfl
          rw [e1, Nat.add_sub_cancel_left] at F1
          rw [e2, Nat.sub_self, hb0] at F2
          clear e1 e2 hc1 hb0
          go_wp2_with fail
          clear q0 q1 q2 q3 q4
          refine (c_l02Own _ _ _ ws' _ (F1.out.kept HBa.out) A1.out).mono ?_
          rintro e w2 ⟨b0, d0, rfl, hf, bl⟩
          rw [HW1.out]
          have S1 := Lib.hid (with_store1 (d0 := d0) (b0 := b0) (hf.base LS.out) (KLa.out.below bl) (K1a.out.below bl) (K0a.out.below bl) (row_kept HRa.out bl) (OwnL.kept HOa.out bl) (Below.next HBa.out bl) RLT.out OLT.out K1.out.lt (HW1.out))
          have KL2 := Lib.hid (KLa.out.below bl)
          have LS2 := Lib.hid (Nat.lt_of_lt_of_le LS.out bl.size)
          clear hf bl
          obtain ⟨p0, p1, p2, p3, p4, pl⟩ := tb5 KL2.out
          obtain ⟨f0, f1, f2, f3, f4⟩ := KL2.out.layfz
          go_wp2_with fail
          clear p0 p1 p2 p3 p4 pl f0 f1 f2 f3 f4 KL2
          have sS := S1.out
          have hsz : (w2.setCell ⟨wr.heap.size, 3, none⟩ (.slice b0 ws.length d0)).heap.size = w2.heap.size := by simp
          generalize w2.setCell ⟨wr.heap.size, 3, none⟩ (.slice b0 ws.length d0) = w3 at sS hsz ⊢
          have LS3 := Lib.hid (show wr.heap.size < w3.heap.size by rw [hsz]; exact LS2.out)
          have T := Lib.hid sS
          clear sS hsz S1
          refine (c_l02Own _ _ _ bs' _ (F2.out.kept T.out.2.2.2.2.2.1) (Nat.zero_le _)).mono ?_
          rintro e w4 ⟨b1, d1, rfl, hf, bl⟩
          rw [HW2.out]
          have AP := Lib.hid (T.out.2.2.2.2.2.2.new_apart hf)
          have KL4 := Lib.hid (T.out.1.below bl)
          have U := Lib.hid (with_store2 (d1 := d1) (b1 := b1) (hf.base LS3.out) (T.out.1.below bl) (T.out.2.1.below bl) (T.out.2.2.1.below bl) (row_kept T.out.2.2.2.1 bl) (OwnL.kept T.out.2.2.2.2.1 bl) (Below.next T.out.2.2.2.2.2.1 bl) (T.out.2.2.2.2.2.2.kept bl) RLT.out OLT.out K1.out.lt HW2.out)
          have LS4 := Lib.hid (Nat.lt_of_lt_of_le LS3.out bl.size)
          have K14 := Lib.hid (T.out.2.1.below bl)
          have hne1 : w.heap.size + 1 ≠ wr.heap.size := Nat.ne_of_lt K1.out.lt
          have hne2 : wr.heap.size ≠ w.heap.size + 1 := Nat.ne_of_gt K1.out.lt
          clear hf bl T
          obtain ⟨p0, p1, p2, p3, p4, pl⟩ := tb5 KL4.out
          obtain ⟨f0, f1, f2, f3, f4⟩ := KL4.out.layfz
          obtain ⟨x0, xl⟩ := tb1 K14.out
          have W5 := Lib.hid (with_new (v0 := .int .i64 k) (v1 := .int .i64 i) (v2 := .int .i64 o) (v3 := .slice b0 ws.length d0) (v4 := .slice b1 bs.length d1) U.out)
          have SZ5 := Lib.hid (show w.heap.size + 2 ≤ ((w4.setCell ⟨wr.heap.size, 4, none⟩ (.slice b1 bs.length d1)).alloc (.cells #[.int .i64 k, .int .i64 i, .int .i64 o, .slice b0 ws.length d0, .slice b1 bs.length d1] 59)).heap.size by have := K1.out.lt; have := LS4.out; simp; omega)
          go_wp2_with (at_builtin; refine wpList_append_any _ rfl (.tmp 60) (.tmp 62) 39 rfl (w.heap.size + 2) 59 i0 (.agg #[.int .i64 0, .int .i64 0, .int .i64 0, .slice none 0 0, .slice none 0 0]) 5 72 Try.underlying39 HI.out HZ0.out HZ1.out HZ2.out rfl (by omega) (.slice gs j cp) j (vs (laysC ys)) rfl W5.out.1 _ (some ⟨w4.heap.size, 0, none⟩) 1 1 [.int .i64 k, .int .i64 i, .int .i64 o, .slice b0 ws.length d0, .slice b1 bs.length d1] rfl W5.out.2.1 (ones5 _ _ _ _ _) ?c1 ?c2 SZ5.out ?_)
          case c1 => unfold maxLen; omega
          case c2 => omega
          intro v' w7 hown hgr hat
          obtain ⟨a', c', rfl⟩ := ownsRow_slice hown
          clear p0 p1 p2 p3 p4 pl f0 f1 f2 f3 f4 x0 xl
          have hy : vs (⟨⟨k, i, o, ws', bs'⟩, b0, d0, b1, d1⟩ : LayA).cs = [.int .i64 k, .int .i64 i, .int .i64 o, .slice b0 ws.length d0, .slice b1 bs.length d1] := by
            rw [LayA.vs_cs]; simp only [LayA.cells, HW1.out, HW2.out]
          have ST := Lib.hid (with_step (y := ⟨⟨k, i, o, ws', bs'⟩, b0, d0, b1, d1⟩) (N := wr.heap.size) (by rw [hy]; exact hown) hgr (hat.imp_right (fun h => h.trans (by simp))) W5.out.2.2.2.2.1 W5.out.2.2.2.2.2.2.1 W5.out.2.2.2.2.2.2.2 AP.out RLT.out OLT.out HND.out (Nat.succ_le_of_lt K1.out.lt) (by have := LS4.out; simp; omega))
          have K17 := Lib.hid (W5.out.2.2.1.inn ST.out.2.2.2 (fun h => by have := (RLT.out _ h).1; omega))
          have K07 := Lib.hid (W5.out.2.2.2.1.inn ST.out.2.2.2 (fun h => by have := (RLT.out _ h).1; omega))
          have HB7 := Lib.hid (ST.out.2.2.2.below' W5.out.2.2.2.2.2.1 (fun g h => by have := (RLT.out _ h).1; omega))
          clear hy hown hgr hat hne1 hne2
          obtain ⟨x0, xl⟩ := tb1 K17.out
          have f0 := K17.out.frozen 0
          go_wp2_with fail
          clear x0 xl f0
          go_roundw
          case rel =>
            have hr1 : GrownIn w7 (w7.setCell ⟨w.heap.size + 1, 0, none⟩ (.slice a' (j + 1) c')) [w.heap.size + 1] := (GrownIn.refl w7 [w.heap.size + 1]).setCell (p := ⟨w.heap.size + 1, 0, none⟩) (by simp) _
            have hnx := withP_next (zs := zs) HX.out
            rw [HAT.out] at hnx
            dsimp only at hnx
            rw [HWS.out, HBS.out] at hnx
            have hk := Joins.block_setCell (i := 0) K17.out (.slice a' (j + 1) c')
            refine ⟨j + 1, a', c', ys ++ [⟨⟨k, i, o, ws', bs'⟩, b0, d0, b1, d1⟩], by omega, by go_num, ?_, by simp [HYL.out], ?_, by simpa [Blk] using hk, K07.out.inn hr1 (by simp), ownsRow_in ST.out.1 hr1 ?_, OwnL.apart hr1 _ ST.out.2.1 ?_, ST.out.2.2.1, HB7.out.setCell (p := ⟨w.heap.size + 1, 0, none⟩) (by simp) _⟩
            · rw [HST.out]; go_num
            · rw [hnx, List.map_append, HYP.out]; rfl
            · intro g hg
              have := (ownsRow_lt ST.out.1 g hg).1
              simp; omega
            · intro g hg
              have := (OwnL.lt _ ST.out.2.1 g hg).1
              simp; omega
          case measure => simp [intOf]; omega
        · have e1 : (if c = at_ then a else a.map (·.add at_)) = a.map (·.add at_) := if_neg hc1
          have e2 : (if c = at_ + ws.length then a else a.map (·.add (at_ + ws.length))) = a.map (·.add (at_ + ws.length)) := if_neg hc2
          rw [e1] at F1
          rw [e2] at F2
          clear e1 e2
          go_wp2_with fail
          clear q0 q1 q2 q3 q4
          refine (c_l02Own _ _ _ ws' _ (F1.out.kept HBa.out) A1.out).mono ?_
          rintro e w2 ⟨b0, d0, rfl, hf, bl⟩
          rw [HW1.out]
          have S1 := Lib.hid (with_store1 (d0 := d0) (b0 := b0) (hf.base LS.out) (KLa.out.below bl) (K1a.out.below bl) (K0a.out.below bl) (row_kept HRa.out bl) (OwnL.kept HOa.out bl) (Below.next HBa.out bl) RLT.out OLT.out K1.out.lt (HW1.out))
          have KL2 := Lib.hid (KLa.out.below bl)
          have LS2 := Lib.hid (Nat.lt_of_lt_of_le LS.out bl.size)
          clear hf bl
          obtain ⟨p0, p1, p2, p3, p4, pl⟩ := tb5 KL2.out
          obtain ⟨f0, f1, f2, f3, f4⟩ := KL2.out.layfz
          go_wp2_with fail
          clear p0 p1 p2 p3 p4 pl f0 f1 f2 f3 f4 KL2
          have sS := S1.out
          have hsz : (w2.setCell ⟨wr.heap.size, 3, none⟩ (.slice b0 ws.length d0)).heap.size = w2.heap.size := by simp
          generalize w2.setCell ⟨wr.heap.size, 3, none⟩ (.slice b0 ws.length d0) = w3 at sS hsz ⊢
          have LS3 := Lib.hid (show wr.heap.size < w3.heap.size by rw [hsz]; exact LS2.out)
          have T := Lib.hid sS
          clear sS hsz S1
          refine (c_l02Own _ _ _ bs' _ (F2.out.kept T.out.2.2.2.2.2.1) A2.out).mono ?_
          rintro e w4 ⟨b1, d1, rfl, hf, bl⟩
          rw [HW2.out]
          have AP := Lib.hid (T.out.2.2.2.2.2.2.new_apart hf)
          have KL4 := Lib.hid (T.out.1.below bl)
          have U := Lib.hid (with_store2 (d1 := d1) (b1 := b1) (hf.base LS3.out) (T.out.1.below bl) (T.out.2.1.below bl) (T.out.2.2.1.below bl) (row_kept T.out.2.2.2.1 bl) (OwnL.kept T.out.2.2.2.2.1 bl) (Below.next T.out.2.2.2.2.2.1 bl) (T.out.2.2.2.2.2.2.kept bl) RLT.out OLT.out K1.out.lt HW2.out)
          have LS4 := Lib.hid (Nat.lt_of_lt_of_le LS3.out bl.size)
          have K14 := Lib.hid (T.out.2.1.below bl)
          have hne1 : w.heap.size + 1 ≠ wr.heap.size := Nat.ne_of_lt K1.out.lt
          have hne2 : wr.heap.size ≠ w.heap.size + 1 := Nat.ne_of_gt K1.out.lt
          clear hf bl T
          obtain ⟨p0, p1, p2, p3, p4, pl⟩ := tb5 KL4.out
          obtain ⟨f0, f1, f2, f3, f4⟩ := KL4.out.layfz
          obtain ⟨x0, xl⟩ := tb1 K14.out
          have W5 := Lib.hid (with_new (v0 := .int .i64 k) (v1 := .int .i64 i) (v2 := .int .i64 o) (v3 := .slice b0 ws.length d0) (v4 := .slice b1 bs.length d1) U.out)
          have SZ5 := Lib.hid (show w.heap.size + 2 ≤ ((w4.setCell ⟨wr.heap.size, 4, none⟩ (.slice b1 bs.length d1)).alloc (.cells #[.int .i64 k, .int .i64 i, .int .i64 o, .slice b0 ws.length d0, .slice b1 bs.length d1] 59)).heap.size by have := K1.out.lt; have := LS4.out; simp; omega)
          go_wp2_with (at_builtin; refine wpList_append_any _ rfl (.tmp 60) (.tmp 62) 39 rfl (w.heap.size + 2) 59 i0 (.agg #[.int .i64 0, .int .i64 0, .int .i64 0, .slice none 0 0, .slice none 0 0]) 5 72 Try.underlying39 HI.out HZ0.out HZ1.out HZ2.out rfl (by omega) (.slice gs j cp) j (vs (laysC ys)) rfl W5.out.1 _ (some ⟨w4.heap.size, 0, none⟩) 1 1 [.int .i64 k, .int .i64 i, .int .i64 o, .slice b0 ws.length d0, .slice b1 bs.length d1] rfl W5.out.2.1 (ones5 _ _ _ _ _) ?c1 ?c2 SZ5.out ?_)
          case c1 => unfold maxLen; omega
          case c2 => omega
          intro v' w7 hown hgr hat
          obtain ⟨a', c', rfl⟩ := ownsRow_slice hown
          clear p0 p1 p2 p3 p4 pl f0 f1 f2 f3 f4 x0 xl
          have hy : vs (⟨⟨k, i, o, ws', bs'⟩, b0, d0, b1, d1⟩ : LayA).cs = [.int .i64 k, .int .i64 i, .int .i64 o, .slice b0 ws.length d0, .slice b1 bs.length d1] := by
            rw [LayA.vs_cs]; simp only [LayA.cells, HW1.out, HW2.out]
          have ST := Lib.hid (with_step (y := ⟨⟨k, i, o, ws', bs'⟩, b0, d0, b1, d1⟩) (N := wr.heap.size) (by rw [hy]; exact hown) hgr (hat.imp_right (fun h => h.trans (by simp))) W5.out.2.2.2.2.1 W5.out.2.2.2.2.2.2.1 W5.out.2.2.2.2.2.2.2 AP.out RLT.out OLT.out HND.out (Nat.succ_le_of_lt K1.out.lt) (by have := LS4.out; simp; omega))
          have K17 := Lib.hid (W5.out.2.2.1.inn ST.out.2.2.2 (fun h => by have := (RLT.out _ h).1; omega))
          have K07 := Lib.hid (W5.out.2.2.2.1.inn ST.out.2.2.2 (fun h => by have := (RLT.out _ h).1; omega))
          have HB7 := Lib.hid (ST.out.2.2.2.below' W5.out.2.2.2.2.2.1 (fun g h => by have := (RLT.out _ h).1; omega))
          clear hy hown hgr hat hne1 hne2
          obtain ⟨x0, xl⟩ := tb1 K17.out
          have f0 := K17.out.frozen 0
          go_wp2_with fail
          clear x0 xl f0
          go_roundw
          case rel =>
            have hr1 : GrownIn w7 (w7.setCell ⟨w.heap.size + 1, 0, none⟩ (.slice a' (j + 1) c')) [w.heap.size + 1] := (GrownIn.refl w7 [w.heap.size + 1]).setCell (p := ⟨w.heap.size + 1, 0, none⟩) (by simp) _
            have hnx := withP_next (zs := zs) HX.out
            rw [HAT.out] at hnx
            dsimp only at hnx
            rw [HWS.out, HBS.out] at hnx
            have hk := Joins.block_setCell (i := 0) K17.out (.slice a' (j + 1) c')
            refine ⟨j + 1, a', c', ys ++ [⟨⟨k, i, o, ws', bs'⟩, b0, d0, b1, d1⟩], by omega, by go_num, ?_, by simp [HYL.out], ?_, by simpa [Blk] using hk, K07.out.inn hr1 (by simp), ownsRow_in ST.out.1 hr1 ?_, OwnL.apart hr1 _ ST.out.2.1 ?_, ST.out.2.2.1, HB7.out.setCell (p := ⟨w.heap.size + 1, 0, none⟩) (by simp) _⟩
            · rw [HST.out]; go_num
            · rw [hnx, List.map_append, HYP.out]; rfl
            · intro g hg
              have := (ownsRow_lt ST.out.1 g hg).1
              simp; omega
            · intro g hg
              have := (OwnL.lt _ ST.out.2.1 g hg).1
              simp; omega
          case measure => simp [intOf]; omega
    · obtain rfl : j = n := by omega
      obtain ⟨s1, sl1⟩ := tb1 K1.out
      obtain ⟨s0, sl0⟩ := tb1 K0.out
      have f0 := K0.out.frozen 0
      have hall : ys.map LayA.p = withP (ls.map LayA.p) zs := by rw [HYP.out, ← HN.out, List.take_length]
      have HA := Lib.hid hall
      have hr1 : GrownIn wr (wr.setCell ⟨w.heap.size, 0, none⟩ (.slice gs j cp)) [w.heap.size] := (GrownIn.refl wr [w.heap.size]).setCell (p := ⟨w.heap.size, 0, none⟩) (by simp) _
      have HR1 := Lib.hid hr1
      clear hall hr1
      go_wp2_with fail
      refine bodyPost_ret (v := .agg #[.slice gs j cp]) (by simp [results, Try.results130, go_sem, s0]) rfl ⟨gs, cp, ys, rfl, HYL.out, HA.out, ?_, by simpa [blL, Cl.bl, layBl] using HND.out, HB.out.setCell (p := ⟨w.heap.size, 0, none⟩) (Nat.le_refl _) _⟩
      refine OwnL.base (by omega : w.heap.size ≤ w.heap.size + 2) _ ?_
      simp only [OwnL, Cl.Own, and_true]
      refine ⟨ownsRow_in HR.out HR1.out ?_, OwnL.apart HR1.out _ HO.out ?_⟩
      · intro g hg
        have := (ownsRow_lt HR.out g hg).1
        simp; omega
      · intro g hg
        have := (OwnL.lt _ HO.out g hg).1
        simp; omega
end Go.Proofs.Ytkpcjjnaocdelaa
