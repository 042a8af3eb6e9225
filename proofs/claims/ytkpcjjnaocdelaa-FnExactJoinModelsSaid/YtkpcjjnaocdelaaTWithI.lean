/-
  WithParams: the program's helpers (the copy of the layers, the next part). Conditions: the cells can be read.
-/
import Derived.Test.YtkpcjjnaocdelaaTWith
namespace Go.Proofs.Ytkpcjjnaocdelaa
open Go.RowKit Go.Deep Go.WideShapes Go.ChangeShapes
set_option linter.unusedVariables false

/-- layers that came in, as cells that may be read -/
theorem LaysAt.reads {w : World} {g : Option Addr} {n cap : Nat} {ls : List LayA} (h : LaysAt w g n cap ls) : Reads w w.heap.size 5 g n (vs (laysC ls)) := by
  obtain ⟨hl, h1, h2, h3, h4⟩ := h
  refine ⟨by rw [vs_length, laysC_length, hl], fun hn => ?_⟩
  rcases h4 with h4 | ⟨b, off, rfl, hb, hc⟩
  · omega
  · refine ⟨_, rfl, hb, fun j u hu => ?_⟩
    have hj : j < n * 5 := by
      have := (List.getElem?_eq_some_iff.1 hu).1
      rw [vs_length, laysC_length, hl] at this
      exact this
    rw [add_plain, hc j hj]
    exact hu
theorem ones_lays (ls : List LayA) : ∀ u ∈ vs (laysC ls), u.oneCell' = true := by
  intro u hu
  simp only [vs, laysC, List.mem_map, List.mem_flatMap] at hu
  obtain ⟨c, ⟨x, hx, hc⟩, rfl⟩ := hu
  have : c.v ∈ vs x.cs := List.mem_map.2 ⟨c, hc, rfl⟩
  rw [LayA.vs_cs] at this
  exact ones5 _ _ _ _ _ _ (by simpa [LayA.cells] using this)
theorem row_form {w : World} {B : Nat} {e : TypeId} {size n cs : Nat} {gs : Option Addr} {xs : List Value} (h : w.ownsRow B e size (.slice gs n cs) n xs) (hn : 0 < n) : ∃ g, gs = some ⟨g, 0, none⟩ := by
  rcases h.2 with ⟨_, h0⟩ | ⟨g, cap, cur, h1, _⟩
  · omega
  · simp only [Value.slice.injEq] at h1
    exact ⟨g, h1.1⟩
theorem row_mono {w : World} {B B' : Nat} {e : TypeId} {size n : Nat} {v : Value} {xs : List Value} (h : w.ownsRow B e size v n xs) (hb : B' ≤ B) : w.ownsRow B' e size v n xs :=
  ⟨h.1, h.2.imp_right fun ⟨g, cap, cur, he, hg, r⟩ => ⟨g, cap, cur, he, Nat.le_trans hb hg, r⟩⟩
/-- two cells of one layer of a row are set -/
theorem row_set2 (ys rest : List LayA) (x : LayA) (v3 v4 : Value) (j : Nat) (hj : ys.length = j) :
    ((vs (laysC (ys ++ x :: rest))).set (j * 5 + 3) v3).set (j * 5 + 4) v4 = vs (laysC ys) ++ ([.int .i64 x.p.k, .int .i64 x.p.i, .int .i64 x.p.o, v3, v4] ++ vs (laysC rest)) := by
  have hl : (vs (laysC ys)).length = j * 5 := by rw [vs_length, laysC_length, hj]
  rw [laysC_append, laysC_cons, vs_append, vs_append, LayA.vs_cs]
  rw [List.set_append_right _ _ (by omega), List.set_append_right _ _ (by omega), hl]
  simp [LayA.cells]
/-- the world behind the next part -/
theorem with_part {w wb x : World} {gd n cs gx base d0 : Nat} {b0 : Option Addr} {l0 : List Nat} {t t2 t5 : TypeId} {v v2 u : Value} {c5 : Array Value} {xs : List Value} {l : List Cl}
    (hf : OwnF x base b0 d0 l0) (bx : Below wb.heap.size wb x) (hbase : w.heap.size + 1 < base) (kl : Blk wb (w.heap.size + 1) t #[v]) (kr : Blk wb (w.heap.size + 2) t2 #[v2]) (kx : Blk wb gx t5 c5) (hgx : w.heap.size + 1 < gx)
    (ho : wb.ownsRow (w.heap.size + 3) 59 5 (.slice (some ⟨gd, 0, none⟩) n cs) n xs) (hgd : w.heap.size + 3 ≤ gd) (how : OwnL wb (gd + 1) l) (hb : Below w.heap.size w wb) :
    Blk (x.setCell ⟨w.heap.size + 1, 0, none⟩ u) (w.heap.size + 1) t #[u] ∧ Blk (x.setCell ⟨w.heap.size + 1, 0, none⟩ u) (w.heap.size + 2) t2 #[v2] ∧ Blk (x.setCell ⟨w.heap.size + 1, 0, none⟩ u) gx t5 c5 ∧
    (x.setCell ⟨w.heap.size + 1, 0, none⟩ u).ownsRow (w.heap.size + 3) 59 5 (.slice (some ⟨gd, 0, none⟩) n cs) n xs ∧ OwnL (x.setCell ⟨w.heap.size + 1, 0, none⟩ u) (gd + 1) l ∧ Below w.heap.size w (x.setCell ⟨w.heap.size + 1, 0, none⟩ u) ∧ OwnF (x.setCell ⟨w.heap.size + 1, 0, none⟩ u) base b0 d0 l0 := by
  have hg : GrownIn x (x.setCell ⟨w.heap.size + 1, 0, none⟩ u) [w.heap.size + 1] := (GrownIn.refl x [w.heap.size + 1]).setCell (p := ⟨w.heap.size + 1, 0, none⟩) (by simp) _
  have hk := Joins.block_setCell (i := 0) (kl.below bx) u
  refine ⟨by simpa [Blk] using hk, (kr.below bx).inn hg (by simp), (kx.below bx).inn hg (by simp; omega), ownsRow_in (row_kept ho bx) hg (fun g h => by simp [blk] at h; simp; omega), (OwnL.kept how bx).far (p := ⟨w.heap.size + 1, 0, none⟩) (by simp; omega) u, (Below.next hb bx).setCell (p := ⟨w.heap.size + 1, 0, none⟩) (by simp) u, hf.far (p := ⟨w.heap.size + 1, 0, none⟩) hbase u⟩
/-- the world behind a store into the row -/
theorem with_set {w x : World} {gd n cs gx base d0 q : Nat} {b0 : Option Addr} {l0 : List Nat} {t t2 t5 : TypeId} {v v2 u : Value} {c5 : Array Value} {xs : List Value} {l : List Cl}
    (hf : OwnF x base b0 d0 l0) (hbase : gd < base) (kl : Blk x (w.heap.size + 1) t #[v]) (kr : Blk x (w.heap.size + 2) t2 #[v2]) (kx : Blk x gx t5 c5) (hgx : gd < gx)
    (ho : x.ownsRow (w.heap.size + 3) 59 5 (.slice (some ⟨gd, 0, none⟩) n cs) n xs) (hgd : w.heap.size + 3 ≤ gd) (how : OwnL x (gd + 1) l) (hb : Below w.heap.size w x) :
    Blk (x.setCell ⟨gd, q, none⟩ u) (w.heap.size + 1) t #[v] ∧ Blk (x.setCell ⟨gd, q, none⟩ u) (w.heap.size + 2) t2 #[v2] ∧ Blk (x.setCell ⟨gd, q, none⟩ u) gx t5 c5 ∧
    (x.setCell ⟨gd, q, none⟩ u).ownsRow (w.heap.size + 3) 59 5 (.slice (some ⟨gd, 0, none⟩) n cs) n (xs.set q u) ∧ OwnL (x.setCell ⟨gd, q, none⟩ u) (gd + 1) l ∧ Below w.heap.size w (x.setCell ⟨gd, q, none⟩ u) ∧ OwnF (x.setCell ⟨gd, q, none⟩ u) base b0 d0 l0 := by
  have hg : GrownIn x (x.setCell ⟨gd, q, none⟩ u) [gd] := (GrownIn.refl x [gd]).setCell (p := ⟨gd, q, none⟩) (by simp) _
  exact ⟨kl.inn hg (by simp; omega), kr.inn hg (by simp; omega), kx.inn hg (by simp; omega), (ho.stored q u).1, how.far (p := ⟨gd, q, none⟩) (by simp) u, hb.setCell (p := ⟨gd, q, none⟩) (by simp; omega) u, hf.far (p := ⟨gd, q, none⟩) hbase u⟩
/-- the cells of the program's loop -/
def WRel (y : List LayA) (z : List Nat) (n gd cp : Nat) (w : World) (iv : Value) (wr : World) : Prop :=
  ∃ (j : Nat) (a' : Option Addr) (c' : Nat) (ys : List LayA), j ≤ n ∧ iv = .int .i64 j ∧ ys.length = j ∧ ys.map LayA.p = withP ((y.take j).map LayA.p) z ∧ wr.ownsRow (w.heap.size + 3) 59 5 (.slice (some ⟨gd, 0, none⟩) n cp) n (vs (laysC (ys ++ y.drop j))) ∧ OwnL wr (gd + 1) (laysC ys) ∧ (blL (laysC ys)).Nodup ∧
    Blk wr (w.heap.size + 1) 47 #[.slice a' (z.length - laySum ((y.take j).map LayA.p)) c'] ∧ IsFloats .f32 w a' (z.length - laySum ((y.take j).map LayA.p)) c' (z.drop (laySum ((y.take j).map LayA.p))) ∧ Blk wr (w.heap.size + 2) 41 #[.slice none 0 0] ∧ Below w.heap.size w wr
set_option maxRecDepth 20000 in
theorem c_cloneLays (g : Option Addr) (cap n : Nat) (ls : List LayA) (w : World) (h : LaysAt w g n cap ls) (h1 : 1 ≤ n) (h6 : n ≤ 6) :
    Calls Try.prog 148 #[.slice g n cap] w fun e w' => ∃ b c, e = .returned (.slice b n c) ∧ w'.ownsRow w.heap.size 59 5 (.slice b n c) n (vs (laysC ls)) ∧ Below w.heap.size w w' := by
  obtain ⟨i0, hi, hz0, hz1, hz2⟩ := info_parts info_lay
  have HI := Lib.hid hi
  have HZ0 := Lib.hid hz0
  have HZ1 := Lib.hid hz1
  have HZ2 := Lib.hid hz2
  have H := Lib.hid h
  obtain ⟨b, off, rfl, hb⟩ : ∃ b off, g = some ⟨b, off, none⟩ ∧ b < w.heap.size := by
    rcases h.2.2.2.2 with h0 | ⟨b, off, rfl, hb, _⟩
    · omega
    · exact ⟨b, off, rfl, hb⟩
  have hrun : (binOp BinOp.eql 39 (.slice (some ⟨b, off, none⟩) n cap) (.slice none 0 0)).run Try.prog w = .ok (.bool false) w := by
    have he : (Op.equalIn 10000 39 (.slice (some ⟨b, off, none⟩) n cap) (.slice none 0 0)).run Try.prog w = .ok false w := by
      rw [show (10000 : Nat) = 9999 + 1 from rfl, Op.equalIn]
      simp only [Sem.run_bind, run_underlying Try.underlying39, Result.andThen_ok]
      rfl
    simp only [binOp, Op.equal, Op.maxDepth, Sem.run_bind, he, Result.andThen_ok]
    rfl
  clear h hi hz0 hz1 hz2
  go_enter Try.func148, Try.ntmps148
  go_wp2_with (at_builtin; refine wpList_append_any _ rfl (.tmp 5) (.tmp 6) 39 rfl w.heap.size 59 i0 _ 5 72 Try.underlying39 HI.out HZ0.out HZ1.out HZ2.out rfl (by omega) (.slice (some ⟨w.heap.size, 0, none⟩) 0 0) 0 [] rfl (World.ownsRow_made w #[] 0 (Nat.le_refl _) (by decide) rfl) _ _ n cap _ rfl ((H.out.kept ((Below.refl _ _).alloc (Nat.le_refl _) _)).reads) (ones_lays _) (by simp only [maxLen]; omega) (by omega) (by simp) ?_; intro v1 w1 hown1 hg1 hat1; simp only [Nat.zero_add, List.nil_append] at hown1; have HO := Lib.hid hown1; have HG := Lib.hid hg1; clear hown1 hg1 hat1)
  go_ret
  obtain ⟨b, c, rfl⟩ := ownsRow_slice HO.out
  refine ⟨b, c, rfl, HO.out, ((Below.refl _ _).alloc (Nat.le_refl _) _).grown HG.out (by simp) (fun k hk => ?_)⟩
  simp [Value.ownBlock] at hk
  omega

set_option maxRecDepth 20000 in
theorem c_part (gb : Nat) (len m c : Nat) (a : Option Addr) (zs : List Nat) (w : World) (hq : Blk w gb 47 #[.slice a m c]) (hz : IsFloats .f32 w a m c zs) (hl : len ≤ m) (hm : m ≤ 1048576) :
    Calls Try.prog 147 #[.int .i64 len, .pointer (some ⟨gb, 0, none⟩)] w fun e w' => ∃ b cp w2, e = .returned (.slice b len cp) ∧ OwnF w2 w.heap.size b cp (zs.take len) ∧ Below w.heap.size w w2 ∧ w' = w2.setCell ⟨gb, 0, none⟩ (.slice (if c = len then a else a.map (·.add len)) (m - len) (c - len)) := by
  have hmc := hz.1
  have hcm : c ≤ 9223372036854775807 := by have h2 := hz.2.1; unfold maxLen at h2; omega
  have HZ := Lib.hid hz
  have HQ := Lib.hid hq
  obtain ⟨p0, pl⟩ := tb1 hq
  clear hz hq
  go_enter Try.func147, Try.ntmps147
  go_wp2_with fail
  clear p0 pl
  refine (c_copyOf a len c (zs.take len) w ?_ (by omega)).mono ?_
  · have hp := part_at HZ.out 0 len (by omega)
    rw [List.drop_zero, Nat.sub_zero] at hp
    by_cases hc : c = 0
    · subst hc
      rw [if_pos rfl] at hp
      exact hp
    · rw [if_neg hc] at hp
      cases a with
      | none => exact hp
      | some ad =>
        have e0 : ad.add 0 = ad := by cases ad; simp [Addr.add]
        simpa [e0] using hp
  rintro e w2 ⟨b, cp, rfl, ho, hb⟩
  have hl2 : (zs.take len).length = len := by rw [List.length_take, HZ.out.2.2.1]; omega
  rw [hl2]
  have HO := Lib.hid ho
  have HB := Lib.hid hb
  have K2 := Lib.hid (HQ.out.below hb)
  clear ho hb hl2
  obtain ⟨p0, pl⟩ := tb1 K2.out
  have f0 := K2.out.frozen 0
  by_cases hc : c = len
  · subst hc
    obtain rfl : m = c := by omega
    go_wp2_with fail
    go_ret
    exact ⟨b, cp, rfl, w2, HO.out, HB.out, rfl⟩
  · go_wp2_with fail
    go_ret
    exact ⟨b, cp, rfl, w2, HO.out, HB.out, rfl⟩
end Go.Proofs.Ytkpcjjnaocdelaa
