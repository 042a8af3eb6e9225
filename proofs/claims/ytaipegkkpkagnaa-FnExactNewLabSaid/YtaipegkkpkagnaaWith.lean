/-
  WithParams: the model's side. Conditions: the cells can be read.
-/
import Derived.Test.YtaipegkkpkagnaaPar
import Derived.Test.YtaipegkkpkagnaaMark
namespace Go.Proofs.Ytaipegkkpkagnaa
open Go.RowKit Go.Deep Go.WideShapes Go.ChangeShapes
set_option linter.unusedVariables false

/-- layers with other parameters, one after another -/
def withP : List LayP → List Nat → List LayP
  | [], _ => []
  | p :: ps, zs => { p with ws := zs.take p.ws.length, bs := (zs.drop p.ws.length).take p.bs.length } :: withP ps (zs.drop (p.ws.length + p.bs.length))
theorem withP_length (ps : List LayP) (zs : List Nat) : (withP ps zs).length = ps.length := by
  induction ps generalizing zs with
  | nil => rfl
  | cons p ps ih => simp [withP, ih]
theorem withP_append (a b : List LayP) (zs : List Nat) : withP (a ++ b) zs = withP a zs ++ withP b (zs.drop (laySum a)) := by
  induction a generalizing zs with
  | nil => simp [withP, laySum]
  | cons p a ih =>
    simp only [List.cons_append, withP, ih, List.drop_drop]
    congr 3
/-- the next layer -/
theorem withP_next {ls : List LayA} {j : Nat} {x : LayA} {zs : List Nat} (h : ls[j]? = some x) :
    withP ((ls.take (j + 1)).map LayA.p) zs = withP ((ls.take j).map LayA.p) zs ++ [{ x.p with ws := (zs.drop (laySum ((ls.take j).map LayA.p))).take x.p.ws.length, bs := (zs.drop (laySum ((ls.take j).map LayA.p) + x.p.ws.length)).take x.p.bs.length }] := by
  rw [List.take_add_one, h, List.map_append, withP_append]
  simp [withP, List.drop_drop]
/-- a model that the call made -/
def RetMd (ps : List LayP) (n : Nat) (w : World) (e : Ending) (w' : World) : Prop :=
  ∃ gs cap ys, e = .returned (.agg #[.slice gs n cap]) ∧ List.length ys = n ∧ ys.map LayA.p = ps ∧ OwnL w' w.heap.size [.sl 113 5 n gs cap (laysC ys)] ∧ (blL [.sl 113 5 n gs cap (laysC ys)]).Nodup ∧ Below w.heap.size w w'
def WithRel (ls : List LayA) (zs : List Nat) (n : Nat) (w : World) (av iv : Value) (wr : World) : Prop :=
  ∃ (j : Nat) (gs : Option Addr) (cp : Nat) (ys : List LayA), j ≤ n ∧ iv = .int .i64 j ∧ av = .int .i64 ((laySum ((ls.take j).map LayA.p) : Nat) : Int) ∧ ys.length = j ∧ ys.map LayA.p = withP ((ls.take j).map LayA.p) zs ∧
    Blk wr (w.heap.size + 1) 46 #[.slice gs j cp] ∧ Blk wr w.heap.size 46 #[.slice none 0 0] ∧ wr.ownsRow (w.heap.size + 2) 113 5 (.slice gs j cp) j (vs (laysC ys)) ∧ OwnL wr (w.heap.size + 2) (laysC ys) ∧ (layBl gs ys).Nodup ∧ Below w.heap.size w wr
theorem part_at {w : World} {a : Option Addr} {m c : Nat} {zs : List Nat} (h : IsFloats .f32 w a m c zs) (lo len : Nat) (hl : lo + len ≤ m) :
    IsFloats .f32 w (if c = lo then a else a.map (·.add lo)) len (c - lo) ((zs.drop lo).take len) := by
  have h1 := h.1
  have h2 := h.2.1
  by_cases hc : c = lo
  · subst hc
    obtain rfl : len = 0 := by omega
    rw [if_pos rfl, Nat.sub_self, List.take_zero]
    exact ⟨Nat.le_refl _, Nat.zero_le _, rfl, (fun _ h => by cases h), .inl rfl⟩
  · rw [if_neg hc]
    have hp := h.part lo (lo + len) (by omega) hl (c - lo) (by omega) (by omega)
    rw [Nat.add_sub_cancel_left] at hp
    exact hp
/-- the first list is stored into the layer's box -/
theorem with_store1 {w wr w2 : World} {B cp j : Nat} {gs b0 : Option Addr} {d0 n0 : Nat} {ws' : List Nat} {t : TypeId} {v0 v1 v2 v3 v4 : Value} {tm : TypeId} {x1 x0 : Value} {xs : List Value} {l : List Cl}
    (ho : OwnF w2 (wr.heap.size + 1) b0 d0 ws') (hk : Blk w2 wr.heap.size t #[v0, v1, v2, v3, v4]) (h1 : Blk w2 (w.heap.size + 1) tm #[x1]) (h0 : Blk w2 w.heap.size tm #[x0]) (hr : w2.ownsRow B 113 5 (.slice gs j cp) j xs) (hl : OwnL w2 B l) (hb : Below w.heap.size w w2)
    (rlt : ∀ g ∈ (blk gs).toList, B ≤ g ∧ g < wr.heap.size) (olt : ∀ g ∈ blL l, B ≤ g ∧ g < wr.heap.size) (hlt : w.heap.size + 1 < wr.heap.size) (hn : ws'.length = n0) :
    Blk (w2.setCell ⟨wr.heap.size, 3, none⟩ (.slice b0 n0 d0)) wr.heap.size t #[v0, v1, v2, .slice b0 n0 d0, v4] ∧ Blk (w2.setCell ⟨wr.heap.size, 3, none⟩ (.slice b0 n0 d0)) (w.heap.size + 1) tm #[x1] ∧ Blk (w2.setCell ⟨wr.heap.size, 3, none⟩ (.slice b0 n0 d0)) w.heap.size tm #[x0] ∧
    (w2.setCell ⟨wr.heap.size, 3, none⟩ (.slice b0 n0 d0)).ownsRow B 113 5 (.slice gs j cp) j xs ∧ OwnL (w2.setCell ⟨wr.heap.size, 3, none⟩ (.slice b0 n0 d0)) B l ∧ Below w.heap.size w (w2.setCell ⟨wr.heap.size, 3, none⟩ (.slice b0 n0 d0)) ∧ OwnF (w2.setCell ⟨wr.heap.size, 3, none⟩ (.slice b0 n0 d0)) (wr.heap.size + 1) b0 d0 ws' := by
  have hg : GrownIn w2 (w2.setCell ⟨wr.heap.size, 3, none⟩ (.slice b0 n0 d0)) [wr.heap.size] := (GrownIn.refl w2 [wr.heap.size]).setCell (p := ⟨wr.heap.size, 3, none⟩) (by simp) _
  have hk' := Joins.block_setCell (i := 3) hk (.slice b0 n0 d0)
  refine ⟨by simpa [Blk] using hk', h1.inn hg (by simp; omega), h0.inn hg (by simp; omega), ownsRow_in hr hg (fun g h => by have := (rlt g h).2; simp; omega), OwnL.apart hg _ hl (fun g h => by have := (olt g h).2; simp; omega), hb.setCell (p := ⟨wr.heap.size, 3, none⟩) (by simp; omega) _, ho.far (p := ⟨wr.heap.size, 3, none⟩) (by simp) _⟩
theorem with_store2 {w wr w2 : World} {B cp j : Nat} {gs b0 b1 : Option Addr} {d0 d1 n1 : Nat} {ws' bs' : List Nat} {t : TypeId} {v0 v1 v2 v3 v4 : Value} {tm : TypeId} {x1 x0 : Value} {xs : List Value} {l : List Cl}
    (ho : OwnF w2 (wr.heap.size + 1) b1 d1 bs') (hk : Blk w2 wr.heap.size t #[v0, v1, v2, v3, v4]) (h1 : Blk w2 (w.heap.size + 1) tm #[x1]) (h0 : Blk w2 w.heap.size tm #[x0]) (hr : w2.ownsRow B 113 5 (.slice gs j cp) j xs) (hl : OwnL w2 B l) (hb : Below w.heap.size w w2) (hp : OwnF w2 (wr.heap.size + 1) b0 d0 ws')
    (rlt : ∀ g ∈ (blk gs).toList, B ≤ g ∧ g < wr.heap.size) (olt : ∀ g ∈ blL l, B ≤ g ∧ g < wr.heap.size) (hlt : w.heap.size + 1 < wr.heap.size) (hn : bs'.length = n1) :
    Blk (w2.setCell ⟨wr.heap.size, 4, none⟩ (.slice b1 n1 d1)) wr.heap.size t #[v0, v1, v2, v3, .slice b1 n1 d1] ∧ Blk (w2.setCell ⟨wr.heap.size, 4, none⟩ (.slice b1 n1 d1)) (w.heap.size + 1) tm #[x1] ∧ Blk (w2.setCell ⟨wr.heap.size, 4, none⟩ (.slice b1 n1 d1)) w.heap.size tm #[x0] ∧
    (w2.setCell ⟨wr.heap.size, 4, none⟩ (.slice b1 n1 d1)).ownsRow B 113 5 (.slice gs j cp) j xs ∧ OwnL (w2.setCell ⟨wr.heap.size, 4, none⟩ (.slice b1 n1 d1)) B l ∧ Below w.heap.size w (w2.setCell ⟨wr.heap.size, 4, none⟩ (.slice b1 n1 d1)) ∧ OwnF (w2.setCell ⟨wr.heap.size, 4, none⟩ (.slice b1 n1 d1)) (wr.heap.size + 1) b0 d0 ws' ∧ OwnF (w2.setCell ⟨wr.heap.size, 4, none⟩ (.slice b1 n1 d1)) (wr.heap.size + 1) b1 d1 bs' := by
  have hg : GrownIn w2 (w2.setCell ⟨wr.heap.size, 4, none⟩ (.slice b1 n1 d1)) [wr.heap.size] := (GrownIn.refl w2 [wr.heap.size]).setCell (p := ⟨wr.heap.size, 4, none⟩) (by simp) _
  have hk' := Joins.block_setCell (i := 4) hk (.slice b1 n1 d1)
  refine ⟨by simpa [Blk] using hk', h1.inn hg (by simp; omega), h0.inn hg (by simp; omega), ownsRow_in hr hg (fun g h => by have := (rlt g h).2; simp; omega), OwnL.apart hg _ hl (fun g h => by have := (olt g h).2; simp; omega), hb.setCell (p := ⟨wr.heap.size, 4, none⟩) (by simp; omega) _, hp.far (p := ⟨wr.heap.size, 4, none⟩) (by simp) _, ho.far (p := ⟨wr.heap.size, 4, none⟩) (by simp) _⟩
theorem reads5 {w : World} {g : Nat} {t : TypeId} {v0 v1 v2 v3 v4 : Value} (h : Blk w g t #[v0, v1, v2, v3, v4]) : Reads w w.heap.size 5 (some ⟨g, 0, none⟩) 1 [v0, v1, v2, v3, v4] := by
  refine ⟨rfl, fun _ => ⟨_, rfl, h.lt, fun j u hu => ?_⟩⟩
  rw [add_plain, Nat.zero_add, h.cell j]
  simpa using hu
theorem ones5 (k i o : Int) (a b : Option Addr) {n m c d : Nat} : ∀ u ∈ [Value.int .i64 k, .int .i64 i, .int .i64 o, .slice a n c, .slice b m d], u.oneCell' = true := by
  intro u hu
  simp only [List.mem_cons, List.not_mem_nil, or_false] at hu
  rcases hu with rfl | rfl | rfl | rfl | rfl <;> rfl
/-- the layer is laid anew, ahead of the append -/
theorem with_new {w wr w4 : World} {B cp j n1 : Nat} {gs b0 b1 : Option Addr} {d0 d1 : Nat} {ws' bs' : List Nat} {t tm : TypeId} {u0 u1 u2 u3 x1 x0 v0 v1 v2 v3 v4 : Value} {xs : List Value} {l : List Cl}
    (h : Blk (w4.setCell ⟨wr.heap.size, 4, none⟩ (.slice b1 n1 d1)) wr.heap.size t #[u0, u1, u2, u3, .slice b1 n1 d1] ∧ Blk (w4.setCell ⟨wr.heap.size, 4, none⟩ (.slice b1 n1 d1)) (w.heap.size + 1) tm #[x1] ∧ Blk (w4.setCell ⟨wr.heap.size, 4, none⟩ (.slice b1 n1 d1)) w.heap.size tm #[x0] ∧
      (w4.setCell ⟨wr.heap.size, 4, none⟩ (.slice b1 n1 d1)).ownsRow B 113 5 (.slice gs j cp) j xs ∧ OwnL (w4.setCell ⟨wr.heap.size, 4, none⟩ (.slice b1 n1 d1)) B l ∧ Below w.heap.size w (w4.setCell ⟨wr.heap.size, 4, none⟩ (.slice b1 n1 d1)) ∧ OwnF (w4.setCell ⟨wr.heap.size, 4, none⟩ (.slice b1 n1 d1)) (wr.heap.size + 1) b0 d0 ws' ∧ OwnF (w4.setCell ⟨wr.heap.size, 4, none⟩ (.slice b1 n1 d1)) (wr.heap.size + 1) b1 d1 bs') :
    ((w4.setCell ⟨wr.heap.size, 4, none⟩ (.slice b1 n1 d1)).alloc (.cells #[v0, v1, v2, v3, v4] 113)).ownsRow B 113 5 (.slice gs j cp) j xs ∧
    Reads ((w4.setCell ⟨wr.heap.size, 4, none⟩ (.slice b1 n1 d1)).alloc (.cells #[v0, v1, v2, v3, v4] 113)) ((w4.setCell ⟨wr.heap.size, 4, none⟩ (.slice b1 n1 d1)).alloc (.cells #[v0, v1, v2, v3, v4] 113)).heap.size 5 (some ⟨w4.heap.size, 0, none⟩) 1 [v0, v1, v2, v3, v4] ∧
    Blk ((w4.setCell ⟨wr.heap.size, 4, none⟩ (.slice b1 n1 d1)).alloc (.cells #[v0, v1, v2, v3, v4] 113)) (w.heap.size + 1) tm #[x1] ∧ Blk ((w4.setCell ⟨wr.heap.size, 4, none⟩ (.slice b1 n1 d1)).alloc (.cells #[v0, v1, v2, v3, v4] 113)) w.heap.size tm #[x0] ∧
    OwnL ((w4.setCell ⟨wr.heap.size, 4, none⟩ (.slice b1 n1 d1)).alloc (.cells #[v0, v1, v2, v3, v4] 113)) B l ∧ Below w.heap.size w ((w4.setCell ⟨wr.heap.size, 4, none⟩ (.slice b1 n1 d1)).alloc (.cells #[v0, v1, v2, v3, v4] 113)) ∧
    OwnF ((w4.setCell ⟨wr.heap.size, 4, none⟩ (.slice b1 n1 d1)).alloc (.cells #[v0, v1, v2, v3, v4] 113)) (wr.heap.size + 1) b0 d0 ws' ∧ OwnF ((w4.setCell ⟨wr.heap.size, 4, none⟩ (.slice b1 n1 d1)).alloc (.cells #[v0, v1, v2, v3, v4] 113)) (wr.heap.size + 1) b1 d1 bs' := by
  obtain ⟨h1, h2, h3, h4, h5, h6, h7, h8⟩ := h
  have bal := (Below.refl (w4.setCell ⟨wr.heap.size, 4, none⟩ (.slice b1 n1 d1)).heap.size (w4.setCell ⟨wr.heap.size, 4, none⟩ (.slice b1 n1 d1))).alloc (Nat.le_refl _) (.cells #[v0, v1, v2, v3, v4] 113)
  have hk := Blk.new (w4.setCell ⟨wr.heap.size, 4, none⟩ (.slice b1 n1 d1)) 113 #[v0, v1, v2, v3, v4]
  have hk' : Blk ((w4.setCell ⟨wr.heap.size, 4, none⟩ (.slice b1 n1 d1)).alloc (.cells #[v0, v1, v2, v3, v4] 113)) w4.heap.size 113 #[v0, v1, v2, v3, v4] := by simpa using hk
  exact ⟨row_kept h4 bal, reads5 hk', h2.below bal, h3.below bal, OwnL.kept h5 bal, Below.next h6 bal, h7.kept bal, h8.kept bal⟩
/-- a layer is appended to those that the call made -/
theorem with_step {w6 w7 : World} {B N j cp c' : Nat} {gs a' : Option Addr} {ys : List LayA} {y : LayA}
    (hown : w7.ownsRow B 113 5 (.slice a' (j + 1) c') (j + 1) (vs (laysC ys) ++ vs y.cs)) (hgr : w6.grownBy w7 (Value.ownBlock (.slice gs j cp)))
    (hat : Value.ownBlock (.slice a' (j + 1) c') = Value.ownBlock (.slice gs j cp) ∨ Value.ownBlock (.slice a' (j + 1) c') = some w6.heap.size)
    (ho : OwnL w6 B (laysC ys)) (h0 : OwnF w6 (N + 1) y.a0 y.c0 y.p.ws) (h1 : OwnF w6 (N + 1) y.a1 y.c1 y.p.bs) (hap : ∀ g, blk y.a0 = some g → blk y.a1 ≠ some g)
    (rlt : ∀ g ∈ (blk gs).toList, B ≤ g ∧ g < N) (olt : ∀ g ∈ blL (laysC ys), B ≤ g ∧ g < N) (hnd : (layBl gs ys).Nodup) (hBN : B ≤ N) (hN : N < w6.heap.size) :
    w7.ownsRow B 113 5 (.slice a' (j + 1) c') (j + 1) (vs (laysC (ys ++ [y]))) ∧ OwnL w7 B (laysC (ys ++ [y])) ∧ (layBl a' (ys ++ [y])).Nodup ∧ GrownIn w6 w7 (blk gs).toList := by
  rw [ownBlock_slice] at hgr
  rw [ownBlock_slice, ownBlock_slice] at hat
  have hg := GrownIn.of_grown hgr
  have hnd' := List.nodup_append.1 hnd
  have hy0 : OwnL w6 B y.cs := LayA.own_iff.2 ⟨h0.base (by omega), h1.base (by omega)⟩
  have hyl : ∀ g ∈ blL y.cs, N < g ∧ g < w6.heap.size := by
    intro g hg'
    rw [LayA.bl_cs, List.mem_append] at hg'
    rcases hg' with h | h
    · have := ownsRow_lt h0.1 g h; omega
    · have := ownsRow_lt h1.1 g h; omega
  refine ⟨by rw [laysC_snoc, vs_append]; exact hown, ?_, ?_, hg⟩
  · rw [laysC_snoc, OwnL_append]
    exact ⟨OwnL.apart hg _ ho (fun g h h' => hnd'.2.2 g h' g h rfl), OwnL.apart hg _ hy0 (fun g h h' => by have := hyl g h; have := rlt g h'; omega)⟩
  · rw [layBl, laysC_snoc, blL_append]
    have hyn : (blL y.cs).Nodup := LayA.nodup hap
    have hyy : (blL (laysC ys) ++ blL y.cs).Nodup := List.nodup_append.2 ⟨hnd'.2.1, hyn, fun x hx z hz e => by have := olt x hx; have := hyl z hz; omega⟩
    refine List.nodup_append.2 ⟨nodup1 _, hyy, ?_⟩
    intro x hx z hz e
    subst e
    rw [List.mem_append] at hz
    rcases hat with h | h
    · rw [h] at hx
      rcases hz with hz | hz
      · exact hnd'.2.2 x hx x hz rfl
      · have := rlt x hx; have := hyl x hz; omega
    · rw [h] at hx
      simp only [Option.toList_some, List.mem_singleton] at hx
      rcases hz with hz | hz
      · have := olt x hz; omega
      · have := hyl x hz; omega
end Go.Proofs.Ytaipegkkpkagnaa
