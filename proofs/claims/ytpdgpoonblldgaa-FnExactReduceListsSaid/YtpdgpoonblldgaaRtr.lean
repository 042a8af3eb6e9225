/-
  Sums in a tree: what the program answers. Conditions: 1 to 8 numbers that can be read.
-/
import Derived.Test.YtpdgpoonblldgaaRtv
import Derived.Test.YtpdgpoonblldgaaItk
import Derived.Test.YtpdgpoonblldgaaRdg
import Derived.Shelf.RegionOpen
namespace Go.Proofs.Ytpdgpoonblldgaa
open Go.RowKit Go.Shelf Go.Deep Go.WideShapes Go.ChangeShapes
set_option linter.unusedVariables false
set_option linter.unusedSimpArgs false
attribute [local go_sem] Oper.semAt_some

theorem ownFrom_ex {β γ : Type} {B : Nat} {I : β × γ → World → Prop} (h : OwnFrom B I) : OwnFrom B (fun s W => ∃ r, I (s, r) W) := fun s W W' row ⟨r, hs⟩ hg hr => ⟨r, h (s, r) W W' row hs hg hr⟩
theorem chLen_one {n k : Nat} (hk : k < chCnt n 2) : 1 ≤ chLen n 2 k ∧ chLen n 2 k ≤ 2 := by
  have := (chCnt_lt (n := n) (k := k) (m := 2) (by omega)).1 hk
  unfold chLen
  omega
def coll (D : Nat) : Deferred := { target := .collected D, args := #[] }
/-- what ranges over functions have left for the return: nothing -/
theorem leaves_many {F : Fence} {n : Nat} {P : Program} {fn : Func} {tmps : Array Value} {R : Ending → World → Prop} {B : Nat} : ∀ (Ds : List Nat) (w : World), Ds.Nodup → (∀ D ∈ Ds, B ≤ D ∧ w.heap[D]? = some (.deferred (some []))) →
    (∀ w', Below B w w' → LeavesIn F n P fn tmps R [] .returning w') → LeavesInM F n P fn tmps R (Ds.map coll) .returning w
  | [], w, _, _, h => h w (Below.refl _ _)
  | D :: Ds, w, hn, hk, h => by
    have hD := hk D (List.mem_cons_self ..)
    have hg := grownBy_putObj' w D (Obj.deferred none)
    refine ⟨by simp, .inl ⟨D, _, rfl, run_takeDeferred hD.2, leaves_many Ds _ (List.nodup_cons.1 hn).2 (fun D' h' => ?_) (fun w' hb => h w' (((Below.refl B w).grown hg (by have := (Array.getElem?_eq_some_iff.1 hD.2).1; omega) (fun k e => by cases e; exact hD.1)).trans hb))⟩⟩
    have h2 := hk D' (List.mem_cons_of_mem _ h')
    refine ⟨h2.1, (hg.block D' (Array.getElem?_eq_some_iff.1 h2.2).1 (fun e => ?_)).trans h2.2⟩
    cases e
    exact (List.nodup_cons.1 hn).1 h'
def lenV : Value → Nat
  | .slice _ n _ => n
  | _ => 0
def TreeI (V p : Nat) (w : World) (x : Act) (wr : World) : Prop :=
  ∃ (zs : List Nat) (a : Option Addr) (cap : Nat) (u5 u6 u7 u8 u9 u10 u11 u12 u13 u14 u15 u16 u17 u18 u19 u20 u21 u22 : Value) (Ds : List Nat),
    x = { tmps := #[.slice a zs.length cap, .int .i64 p, undef, .pointer (some ⟨w.heap.size, 0, none⟩), .float .f32 0, u5, u6, u7, u8, u9, u10, u11, u12, u13, u14, u15, u16, u17, u18, u19, u20, u21, u22], defers := Ds.map coll } ∧
    IsFloats .f32 wr a zs.length cap zs ∧ (1 ≤ zs.length ∧ zs.length ≤ 8) ∧ treeV (zs.map (canon .f32)) = V ∧ (wr.cell? ⟨w.heap.size, 0, none⟩ = some (.int .i64 p) ∧ w.heap.size < wr.heap.size) ∧ Below w.heap.size w wr ∧
    Ds.Nodup ∧ (∀ D ∈ Ds, w.heap.size ≤ D ∧ D < wr.heap.size ∧ wr.heap[D]? = some (.deferred (some [])))
theorem stepIn_append_own {F : Fence} {n : Nat} {P : Program} (w : World) {ops : Array Oper} {o : Oper} {a : Act} {K : Act → World → Prop} {Q : Exit → Act → World → Prop} {E : Prop}
    (hg : o.guard = none) (s x : Operand) (t : TypeId) (hop : o.op = Op.call { callee := Callee.builtin Builtin.append, args := #[s, x], argTypes := #[t, t] })
    (base : Nat) (e : TypeId) (i : TypeInfo) (z : Value) (size bytes : Nat) (h1 : P.underlying t = some (.slice e)) (h2 : P.info? e = some i) (h3 : i.zero = some z) (h4 : i.size = size) (h5 : i.bytes = bytes) (h6 : z.cells.size = size) (h7 : 0 < size)
    (v : Value) (k : Nat) (xs : List Value) (hs : a.eval s = v) (hown : w.ownsRow base e size v k xs) (ad : Addr) (m c : Nat) (news : List Value) (hx : a.eval x = .slice (some ad) m c) (hn : news.length = m * size)
    (hc : ∀ j u, news[j]? = some u → w.cell? (ad.add j) = some u) (h1c : ∀ u ∈ news, u.oneCell' = true) (b1 : k + m ≤ maxLen) (b2 : (k + m) * bytes ≤ 140737488355328) (b3 : base ≤ w.heap.size)
    (hK : ∀ v' w', w'.ownsRow base e size v' (k + m) (xs ++ news) → w.grownBy w' v.ownBlock → (v' = .slice none 0 0 ↔ v = .slice none 0 0 ∧ m = 0) → K (a.put o.dst v') w') :
    if Region.wanted o (yielded ops a.tmps) = true then Oper.wpIn F n P o a w K Q else E := by
  rw [if_pos (by simp [Region.wanted, hg])]
  obtain ⟨v', w', hrun, r1, r2, r3⟩ := run_append_own (P := P) w base t o.type e i z size bytes h1 h2 h3 h4 h5 h6 h7 v k xs hown ad m c news hn hc h1c b1 b2 b3
  unfold Oper.wpIn
  refine ⟨?_, ?_⟩
  · simp [Oper.about, hop, resolve, Target.leads, Sem.run_pure]
  · rw [Oper.semAt_plain F _ _ (by rw [hop]; intro c hc'; cases hc')]
    simp [execOp, hop, resolve, invoke, builtin, hs, hx, hrun, Result.andThen]
    exact hK _ _ r1 r2 r3
theorem boxed_own {β : Type} {B0 B : Nat} {t : TypeId} {v : Value} : OwnFrom B0 (fun (_ : β) W => Boxed W B t v) := fun s W W' row hs hg hr => hs.kept hg (fun e => by
  obtain ⟨_, o, ho, hc⟩ := hr B e.symm
  rw [show W.heap[B]? = _ from hs] at ho
  cases ho
  cases hc)
theorem boxed_other {W : World} {B S : Nat} {t : TypeId} {v v' : Value} (h : Boxed W B t v) (hne : S ≠ B) : Boxed (W.setCell ⟨S, 0, none⟩ v') B t v := by
  have h' : W.heap[B]? = _ := h
  show (W.setCell ⟨S, 0, none⟩ v').heap[B]? = _
  simp [World.setCell, Array.getElem?_modify, hne, h']
/-- what the body's rounds keep -/
def PairI (S n : Nat) (z : List Nat) (vb vn : Value) (wr : World) (pre : List (ChI n 2)) (W : World) : Prop :=
  (∃ rs : List Nat, (∃ v, Boxed W S 25 v ∧ W.ownsRow S 67 1 v rs.length (rs.map (Value.float .f32)) ∧ True) ∧
    (rs.length = pre.length ∧ rs.map (canon .f32) = pre.map (fun x => lineV (((z.drop (x.1 * 2)).take 2).map (canon .f32))) ∧ ∀ r ∈ rs, r < 2 ^ 32)) ∧ (pre.length ≤ 8 ∧ Below S wr W) ∧ (Boxed W (S + 1) 25 vb ∧ Boxed W (S + 1 + 1) 3 vn)
theorem pairI_own {S n B : Nat} {z : List Nat} {vb vn : Value} {wr : World} (h1 : S ≤ wr.heap.size) (h2 : S ≤ B) : OwnFrom B (PairI S n z vb vn wr) := by
  refine OwnFrom.and (ownFrom_ex (I := fun (s : List (ChI n 2) × List Nat) W => (∃ v, Boxed W S 25 v ∧ W.ownsRow S 67 1 v s.2.length (s.2.map (Value.float .f32)) ∧ True) ∧
    (s.2.length = s.1.length ∧ s.2.map (canon .f32) = s.1.map (fun x => lineV (((z.drop (x.1 * 2)).take 2).map (canon .f32))) ∧ ∀ r ∈ s.2, r < 2 ^ 32)) ?_) (OwnFrom.and (OwnFrom.and (ownFrom_pure _ (fun pre : List (ChI n 2) => pre.length ≤ 8)) (ownFrom_below h1 h2)) (OwnFrom.and boxed_own boxed_own))
  exact OwnFrom.and (Own.from (holdsRow_own S S 25 67 1 (fun s : List (ChI n 2) × List Nat => s.2.length) (fun s => s.2.map (Value.float .f32)) (fun _ _ => True)) _) (ownFrom_pure _ (fun s : List (ChI n 2) × List Nat => s.2.length = s.1.length ∧ s.2.map (canon .f32) = s.1.map (fun x => lineV (((z.drop (x.1 * 2)).take 2).map (canon .f32))) ∧ ∀ r ∈ s.2, r < 2 ^ 32))
/-- a round's end: the row has grown by the part's number, and lies in its box -/
theorem pair_end {S n B : Nat} {z : List Nat} {vb vn : Value} {wr W w5 w1 : World} {pre : List (ChI n 2)} {x : ChI n 2} {rs : List Nat} {v v' : Value} {r : Nat} {tmp : Obj}
    (hv : Boxed W S 25 v) (hrow : W.ownsRow S 67 1 v rs.length (rs.map (Value.float .f32))) (hl : rs.length = pre.length) (hc : rs.map (canon .f32) = pre.map (fun x => lineV (((z.drop (x.1 * 2)).take 2).map (canon .f32)))) (hlt : ∀ r ∈ rs, r < 2 ^ 32)
    (hpl : pre.length + 1 ≤ 8) (hB : Below S wr W) (hSW : S ≤ W.heap.size) (hx1 : Boxed W (S + 1) 25 vb) (hx2 : Boxed W (S + 1 + 1) 3 vn) (hb : Below W.heap.size W w5) (hr : canon .f32 r = lineV (((z.drop (x.1 * 2)).take 2).map (canon .f32))) (hr2 : r < 2 ^ 32)
    (hown : w1.ownsRow S 67 1 v' (rs.length + 1) (rs.map (Value.float .f32) ++ [.float .f32 r])) (hg : (w5.alloc tmp).grownBy w1 v.ownBlock) :
    KeepsFrom B W (w1.setCell ⟨S, 0, none⟩ v') ∧ KeepB (S + 1) (S + 1 + 1) W (w1.setCell ⟨S, 0, none⟩ v') ∧ PairI S n z vb vn wr (pre ++ [x]) (w1.setCell ⟨S, 0, none⟩ v') := by
  have hv5 : Boxed w5 S 25 v := (hb.block S hv.lt).trans hv
  have hrow5 : w5.ownsRow S 67 1 v rs.length (rs.map (Value.float .f32)) := hrow.kept (row := none) ⟨hb.os, hb.tape, hb.output, hb.size, fun j hj _ => hb.block j hj⟩ (Classical.em _)
  have hy1 : Boxed w5 (S + 1) 25 vb := (hb.block _ hx1.lt).trans hx1
  have hy2 : Boxed w5 (S + 1 + 1) 3 vn := (hb.block _ hx2.lt).trans hx2
  obtain ⟨hv1, hv2, hr3, hk2, hb2⟩ := hv5.appended (by decide) hrow5 (Nat.le_trans hSW hb.size) (Nat.le_refl _) hown hg
  have hz1 : Boxed (w1.setCell ⟨S, 0, none⟩ v') (S + 1) 25 vb := boxed_other ((hy1.alloc tmp).kept hg (hy1.not_row (by decide) hrow5)) (by omega)
  have hz2 : Boxed (w1.setCell ⟨S, 0, none⟩ v') (S + 1 + 1) 3 vn := boxed_other ((hy2.alloc tmp).kept hg (hy2.not_row (by decide) hrow5)) (by omega)
  refine ⟨(show KeepsFrom B W w5 from ⟨hb.size, fun k o _ hk _ => (hb.block k (Array.getElem?_eq_some_iff.1 hk).1).trans hk⟩).trans (hk2.from _), ⟨hz1.cell.trans hx1.cell.symm, hz2.cell.trans hx2.cell.symm⟩, ⟨rs ++ [r], ⟨v', hv2, by simpa using hr3, trivial⟩, by simp [hl], by simp [hc, hr], fun y hy => ?_⟩, ⟨by simpa using hpl, (hB.trans (hb.mono hSW)).trans hb2⟩, hz1, hz2⟩
  rcases List.mem_append.1 hy with h | h
  · exact hlt y h
  · rw [List.mem_singleton.1 h]; exact hr2
set_option maxRecDepth 100000 in
set_option maxHeartbeats 2000000 in
theorem x_addTree (zs : List Nat) (a : Option Addr) (n cap p : Nat) (w : World) (h : IsFloats .f32 w a n cap zs) (h1 : 1 ≤ n) (h8 : n ≤ 8) (hp : p ≤ 1048576) : Calls Try.prog 119 #[.slice a n cap, .int .i64 p] w (RetX (treeV (zs.map (canon .f32))) w) := by
  obtain ⟨i0, hi, hz0, hz1, hz2⟩ := info_parts info_f32
  have hln : zs.length = n := h.2.2.1
  subst hln
  refine (callsIn_wide (n := 7)).1 ?_
  refine callsIn_of_wp_marks Try.func119 rfl trivial ?_ rfl
  simp only [Try.ntmps119, List.size_toArray, List.length_cons, List.length_nil, Nat.reduceAdd, Nat.reduceSub, Array.replicate_succ, Array.replicate_zero, List.push_toArray, List.append_toArray, List.nil_append, List.cons_append]
  gi_wp2
  have hb0 : Below w.heap.size w (w.alloc (.cells #[.int .i64 p] 3)) := (Below.refl _ w).alloc (Nat.le_refl _) _
  have hc0 : (w.alloc (.cells #[.int .i64 p] 3)).cell? ⟨w.heap.size, 0, none⟩ = some (.int .i64 p) := (Blk.new w 3 #[.int .i64 p]).cell 0
  refine wpIn_loop (TreeI (treeV (zs.map (canon .f32))) p w) (fun x _ => lenV (x.tmps.getD 0 undef)) ⟨zs, a, cap, _, _, _, _, _, _, _, _, _, _, _, _, _, _, _, _, _, _, [], rfl, h.kept hb0, ⟨h1, h8⟩, rfl, ⟨hc0, cell_block hc0⟩, hb0, List.nodup_nil, fun _ h => by cases h⟩ ?_
  rintro _ wr ⟨z, b, cp, u5, u6, u7, u8, u9, u10, u11, u12, u13, u14, u15, u16, u17, u18, u19, u20, u21, u22, Ds, rfl, hz, ⟨z1, z8⟩, hV, ⟨hcp, hsz⟩, hbw, hnd, hds⟩
  have HZ := Lib.hid hz
  have HV := Lib.hid hV
  have HBW := Lib.hid hbw
  have HND := Lib.hid hnd
  have HDS := Lib.hid hds
  have HCP := Lib.hid hcp
  have HSZ := Lib.hid hsz
  clear h hV hbw hnd hds hb0 hc0 h1 h8 hz
  by_cases h2 : 2 ≤ z.length
  · have g1 : (1 : Int) < (z.length : Int) := by omega
    obtain ⟨bb, off, rfl⟩ := floats_some HZ.out z1
    have HCK := Lib.hid (fun W : World => (show Calls Try.prog 152 #[.slice (some ⟨bb, off, none⟩) z.length cp, .int .i64 2] W _ from c_chunk (some ⟨bb, off, none⟩) z.length cp 2 (by omega) W))
    gi_wp2_with fail
    refine ⟨trivial, (callsIn_wide.2 (HCK.out _)).mono ?_⟩
    rintro e w3 ⟨rfl, rfl⟩
    gi_wp2_with fail
    obtain ⟨W3, hW3⟩ : ∃ W3, ((wr.alloc (.cells #[.slice none 0 0] 25)).alloc (.cells #[.slice (some ⟨bb, off, none⟩) z.length cp] 25)).alloc (.cells #[.int .i64 2] 3) = W3 := ⟨_, rfl⟩
    have bO : Boxed W3 wr.heap.size 25 (.slice none 0 0) := by rw [← hW3]; exact ((Boxed.new wr _ _).alloc _).alloc _
    have bO1 : Boxed W3 (wr.heap.size + 1) 25 (.slice (some ⟨bb, off, none⟩) z.length cp) := by
      rw [← hW3]
      have h := (Boxed.new (wr.alloc (.cells #[.slice none 0 0] 25)) 25 (.slice (some ⟨bb, off, none⟩) z.length cp)).alloc (.cells #[.int .i64 2] 3)
      rwa [World.size_alloc] at h
    have bO2 : Boxed W3 (wr.heap.size + 1 + 1) 3 (.int .i64 2) := by
      rw [← hW3]
      have h := Boxed.new ((wr.alloc (.cells #[.slice none 0 0] 25)).alloc (.cells #[.slice (some ⟨bb, off, none⟩) z.length cp] 25)) 3 (.int .i64 2)
      rwa [World.size_alloc, World.size_alloc] at h
    have hbs := bO1.cell
    have hbn := bO2.cell
    have hs3 : W3.heap.size = wr.heap.size + 3 := by rw [← hW3]; simp
    have hB3 : Below wr.heap.size wr W3 := by rw [← hW3]; exact (((Below.refl _ wr).alloc (Nat.le_refl _) _).alloc (by simp) _).alloc (by simp; omega) _
    have HSW := Lib.hid (rfl : wr.heap.size = wr.heap.size)
    rw [hW3]
    clear hW3
    obtain ⟨S, hS⟩ : ∃ S, wr.heap.size = S := ⟨_, rfl⟩
    rw [hS] at bO bO1 bO2 hbs hbn hs3 hB3 ⊢
    have HS := Lib.hid hS
    clear HSW
    have hcnt : chCnt z.length 2 ≤ 8 := by unfold chCnt; omega
    refine wpIn_rangeFunc_ownG rfl (by omega) (gf := 177) (lb := #[.pointer (some ⟨S + 1, 0, none⟩), .pointer (some ⟨S + 1 + 1, 0, none⟩)]) rfl trivial (enters_of Try.func177 (by kernel_rfl) rfl)
      (chunk_stopsK 6 (S + 1) (S + 1 + 1) (by omega) (some ⟨bb, off, none⟩) z.length cp 2 (by omega) (by omega) (by omega) HZ.out.1 (.inr ⟨bb, off, rfl⟩) W3 (by omega) (by omega) hbs hbn) (fun h k => h.trans k) (keepB_b (by omega) (by omega)) (Below.refl _ _) (fun _ => rfl)
      (PairI S z.length z (.slice (some ⟨bb, off, none⟩) z.length cp) (.int .i64 2) wr) (fun _ _ _ => False) (pairI_own (by omega) (by omega)) (fun _ _ _ _ _ hs _ _ => hs) ⟨⟨[], ⟨_, bO, World.ownsRow_nil _ _ _ _, trivial⟩, rfl, rfl, by simp⟩, ⟨Nat.zero_le _, hB3⟩, bO1, bO2⟩
      (fun x => { tmps := #[.slice (some ⟨bb, off, none⟩) z.length cp, .int .i64 p, undef, .pointer (some ⟨w.heap.size, 0, none⟩), .float .f32 0, .pointer (some ⟨S, 0, none⟩), chW (some ⟨bb, off, none⟩) z.length 2 x.1, .slice (some ⟨bb, off, none⟩) z.length cp, .int .i64 z.length, .bool true, .slice (some ⟨bb, off, none⟩) z.length cp, .func (.func 177) #[] #[.pointer (some ⟨S + 1, 0, none⟩), .pointer (some ⟨S + 1 + 1, 0, none⟩)], chW (some ⟨bb, off, none⟩) z.length 2 x.1, u13, u14, u15, u16, u17, u18, u19, u20, u21, u22], defers := [] }) ?assign ?body ?done ?stop
    case assign =>
      intro l x W K hK
      gi_wp2
      exact hK
    case stop =>
      rintro D c pre W _ _ h _
      exact h.elim
    case done =>
      rintro D ys W hD hS2 ⟨⟨rs, ⟨v, hv, hrow, _⟩, hl, hc, hlt⟩, ⟨hpl, hB⟩, hx1, hx2⟩ hK
      have hcS := hv.cell
      gi_wp2
      obtain ⟨a', c', rfl⟩ : ∃ a' c', v = .slice a' rs.length c' := by
        rcases hrow.2 with ⟨rfl, h0⟩ | ⟨g, c, cur, rfl, _⟩
        · exact ⟨none, 0, by rw [h0]⟩
        · exact ⟨_, _, rfl⟩
      have hOF : OwnF W S a' c' rs := ⟨hrow, hlt⟩
      have hpair := pair_of_parts hc hS2
      have hyl : ys.length = (z.length + 1) / 2 := by
        have := congrArg List.length hS2
        rw [List.length_map, List.length_range] at this
        exact this.trans (pair_count _)
      have hbW : Below wr.heap.size wr W := by have h := HS.out; rw [h]; exact hB
      have hwS : w.heap.size < S := by have := HSZ.out; have := HS.out; omega
      have hDW := (Array.getElem?_eq_some_iff.1 hK).1
      have hSS := HS.out
      refine ⟨⟨rs, a', c', _, _, _, _, _, _, _, _, _, _, _, _, _, _, _, _, _, _, D :: Ds, rfl, hOF.isFloats, ⟨by omega, by omega⟩, ?_, ⟨(hB.cell (p := ⟨w.heap.size, 0, none⟩) hwS).trans HCP.out, by omega⟩, Below.next HBW.out hbW, List.nodup_cons.2 ⟨fun hm => by have := (HDS.out D hm).2.1; omega, HND.out⟩, fun D' hm => ?_⟩, ?_⟩
      · rw [hpair, treeV_pair (by simpa using h2)]
        exact HV.out
      · rcases List.mem_cons.1 hm with rfl | hm
        · exact ⟨by omega, hDW, hK⟩
        · obtain ⟨k1, k2, k3⟩ := HDS.out D' hm
          have := hbW.size
          exact ⟨k1, by omega, (hbW.block D' k2).trans k3⟩
      · show rs.length < z.length
        omega
    case body =>
      rintro l pre x W ⟨⟨rs, ⟨v, hv, hrow, _⟩, hl, hc, hlt⟩, ⟨hpl, hB⟩, hx1, hx2⟩ hpN
      have hcS := hv.cell
      have hfS := hv.frozen
      have HVL := Lib.hid hv.lt
      have hwS : w.heap.size < S := by have := HSZ.out; have := HS.out; omega
      have hcP := (hB.cell (p := ⟨w.heap.size, 0, none⟩) hwS).trans HCP.out
      have hSW : S ≤ W.heap.size := by have := hB.size; have := HS.out; omega
      have HPL := Lib.hid (show w.heap.size < W.heap.size by omega)
      have hk2 := Nat.le_of_lt ((chCnt_lt (n := z.length) (k := x.1) (m := 2) (by omega)).1 x.2)
      have hbW : Below wr.heap.size wr W := by have h := HS.out; rw [h]; exact hB
      have HAL := Lib.hid (fun (W' : World) (hb : Below W.heap.size W W') => (show Calls Try.prog 118 #[chW (some ⟨bb, off, none⟩) z.length 2 x.1, .int .i64 p] W' (RetX (lineV (((z.drop (x.1 * 2)).take 2).map (canon .f32))) W') by
        obtain ⟨q1, q2⟩ := parts_one (m := 2) ((HZ.out.kept hbW).kept hb) hk2
        rw [q2] at q1
        have q3 := chLen_one x.2
        exact x_addLine _ _ _ _ p W' q1 q3.1 (by omega)))
      have hv5 : ∀ w5, Below W.heap.size W w5 → Boxed w5 S 25 v ∧ w5.ownsRow S 67 1 v rs.length (rs.map (Value.float .f32)) := fun w5 hb => ⟨(hb.block S hv.lt).trans hv, hrow.kept (row := none) ⟨hb.os, hb.tape, hb.output, hb.size, fun j hj _ => hb.block j hj⟩ (Classical.em _)⟩
      have HL := Lib.hid hl
      have HPN := Lib.hid (show pre.length + 1 ≤ 8 by omega)
      have hrl : rs.length ≤ 8 := by omega
      clear hbW hl hpl hpN
      gi_wp2_with fail
      refine wpIn_region_any (by kernel_rfl) ?_
      try (change wpAnyIn _ _ _ _ _ _ _ _ _ (World.drew _))
      refine wpAnyIn_ready (rs := [0, 1, 2]) (by kernel_rfl) (by simp) ?_
      refine AllReadyIn.cons rfl (fun K hK => ?_) ?_
      · skip
        go_simp
        refine hK _ _ ?_
        clear hK K
        refine wpAnyIn_ready (rs := [1, 2]) (by kernel_rfl) (by simp) ?_
        refine AllReadyIn.cons rfl (fun K hK => ?_) ?_
        · skip
          go_simp
          refine hK _ _ ?_
          clear hK K
          refine wpAnyIn_ready (rs := [2]) (by kernel_rfl) (by simp) ?_
          refine AllReadyIn.cons rfl (fun K hK => ?_) AllReadyIn.nil
          go_simp
          refine hK _ _ ?_
          clear hK K
          refine wpAnyIn_ready (rs := [3]) (by kernel_rfl) (by simp) ?_
          refine AllReadyIn.cons rfl (fun K hK => ?_) AllReadyIn.nil
          go_simp
          refine ⟨trivial, (CallsIn.inRound l (callsIn_wide.2 (HAL.out _ (by simpa using (Below.refl W.heap.size W).drew)))).mono ?_⟩
          rintro e w5 ⟨r, rfl, hr, hr2, hb5⟩
          have hb5' : Below W.heap.size W w5 := ((Below.refl W.heap.size W).drew).trans hb5
          have HB5 := Lib.hid hb5'
          have hcS5 := (hb5'.cell (p := ⟨S, 0, none⟩) HVL.out).trans hcS
          have hcP5 := (hb5'.cell (p := ⟨w.heap.size, 0, none⟩) HPL.out).trans hcP
          have HV5 := Lib.hid (hv5 w5 hb5')
          have hn5 : ¬ w5.heap.size = S := by have := hb5'.size; have := HVL.out; omega
          have hn5' : ¬ S = w5.heap.size := by omega
          have hl5 : S < w5.heap.size := by have := hb5'.size; have := HVL.out; omega
          have HS5 := Lib.hid (Nat.le_trans hSW hb5'.size)
          clear hb5 hb5'
          refine hK _ _ ?_
          clear hK K
          refine wpAnyIn_ready (rs := [4]) (by kernel_rfl) (by simp) ?_
          refine AllReadyIn.cons rfl (fun K hK => ?_) AllReadyIn.nil
          go_simp
          refine hK _ _ ?_
          clear hK K
          refine wpAnyIn_ready (rs := [5]) (by kernel_rfl) (by simp) ?_
          refine AllReadyIn.cons rfl (fun K hK => ?_) AllReadyIn.nil
          refine stepIn_append_own _ rfl (.tmp 13) (.tmp 17) 25 rfl S 67 i0 (.float .f32 0) 1 4 Try.underlying25 hi hz0 hz1 hz2 rfl (by decide) v rs.length (rs.map (Value.float .f32)) rfl (HV5.out.2.alloc _) ⟨w5.heap.size, 0, none⟩ 1 1 [.float .f32 r] rfl rfl (cell_one_new _ _ _) (by simp [Value.oneCell']) (by unfold maxLen; omega) (by omega) (by have := HS5.out; simp; omega) ?_
          intro v' w1 hown' hgrow _
          obtain ⟨g', cap', rfl⟩ := ownsRow_succ hown'
          have hv1 : Boxed w1 S 25 v := (HV5.out.1.alloc _).kept hgrow (HV5.out.1.not_row (by decide) HV5.out.2)
          have hc1 := hv1.cell
          have hf1 := hv1.frozen
          refine hK _ _ ?_
          clear hK K
          refine wpAnyIn_ready (rs := [6]) (by kernel_rfl) (by simp) ?_
          refine AllReadyIn.cons rfl (fun K hK => ?_) AllReadyIn.nil
          go_simp
          refine hK _ _ ?_
          clear hK K
          refine wpAnyIn_done (by kernel_rfl) ?_ _
          gi_wp2_with fail
          exact pair_end hv hrow HL.out hc hlt (by have := HPN.out; omega) hB hSW hx1 hx2 HB5.out hr hr2 hown' hgrow
        refine AllReadyIn.cons rfl (fun K hK => ?_) AllReadyIn.nil
        go_simp
        refine hK _ _ ?_
        clear hK K
        refine wpAnyIn_ready (rs := [1]) (by kernel_rfl) (by simp) ?_
        refine AllReadyIn.cons rfl (fun K hK => ?_) AllReadyIn.nil
        go_simp
        refine hK _ _ ?_
        clear hK K
        refine wpAnyIn_ready (rs := [3]) (by kernel_rfl) (by simp) ?_
        refine AllReadyIn.cons rfl (fun K hK => ?_) AllReadyIn.nil
        go_simp
        refine ⟨trivial, (CallsIn.inRound l (callsIn_wide.2 (HAL.out _ (by simpa using (Below.refl W.heap.size W).drew)))).mono ?_⟩
        rintro e w5 ⟨r, rfl, hr, hr2, hb5⟩
        have hb5' : Below W.heap.size W w5 := ((Below.refl W.heap.size W).drew).trans hb5
        have HB5 := Lib.hid hb5'
        have hcS5 := (hb5'.cell (p := ⟨S, 0, none⟩) HVL.out).trans hcS
        have hcP5 := (hb5'.cell (p := ⟨w.heap.size, 0, none⟩) HPL.out).trans hcP
        have HV5 := Lib.hid (hv5 w5 hb5')
        have hn5 : ¬ w5.heap.size = S := by have := hb5'.size; have := HVL.out; omega
        have hn5' : ¬ S = w5.heap.size := by omega
        have hl5 : S < w5.heap.size := by have := hb5'.size; have := HVL.out; omega
        have HS5 := Lib.hid (Nat.le_trans hSW hb5'.size)
        clear hb5 hb5'
        refine hK _ _ ?_
        clear hK K
        refine wpAnyIn_ready (rs := [4]) (by kernel_rfl) (by simp) ?_
        refine AllReadyIn.cons rfl (fun K hK => ?_) AllReadyIn.nil
        go_simp
        refine hK _ _ ?_
        clear hK K
        refine wpAnyIn_ready (rs := [5]) (by kernel_rfl) (by simp) ?_
        refine AllReadyIn.cons rfl (fun K hK => ?_) AllReadyIn.nil
        refine stepIn_append_own _ rfl (.tmp 13) (.tmp 17) 25 rfl S 67 i0 (.float .f32 0) 1 4 Try.underlying25 hi hz0 hz1 hz2 rfl (by decide) v rs.length (rs.map (Value.float .f32)) rfl (HV5.out.2.alloc _) ⟨w5.heap.size, 0, none⟩ 1 1 [.float .f32 r] rfl rfl (cell_one_new _ _ _) (by simp [Value.oneCell']) (by unfold maxLen; omega) (by omega) (by have := HS5.out; simp; omega) ?_
        intro v' w1 hown' hgrow _
        obtain ⟨g', cap', rfl⟩ := ownsRow_succ hown'
        have hv1 : Boxed w1 S 25 v := (HV5.out.1.alloc _).kept hgrow (HV5.out.1.not_row (by decide) HV5.out.2)
        have hc1 := hv1.cell
        have hf1 := hv1.frozen
        refine hK _ _ ?_
        clear hK K
        refine wpAnyIn_ready (rs := [6]) (by kernel_rfl) (by simp) ?_
        refine AllReadyIn.cons rfl (fun K hK => ?_) AllReadyIn.nil
        go_simp
        refine hK _ _ ?_
        clear hK K
        refine wpAnyIn_done (by kernel_rfl) ?_ _
        gi_wp2_with fail
        exact pair_end hv hrow HL.out hc hlt (by have := HPN.out; omega) hB hSW hx1 hx2 HB5.out hr hr2 hown' hgrow
      refine AllReadyIn.cons rfl (fun K hK => ?_) ?_
      · skip
        go_simp
        refine hK _ _ ?_
        clear hK K
        refine wpAnyIn_ready (rs := [0, 2]) (by kernel_rfl) (by simp) ?_
        refine AllReadyIn.cons rfl (fun K hK => ?_) ?_
        · skip
          go_simp
          refine hK _ _ ?_
          clear hK K
          refine wpAnyIn_ready (rs := [2]) (by kernel_rfl) (by simp) ?_
          refine AllReadyIn.cons rfl (fun K hK => ?_) AllReadyIn.nil
          go_simp
          refine hK _ _ ?_
          clear hK K
          refine wpAnyIn_ready (rs := [3]) (by kernel_rfl) (by simp) ?_
          refine AllReadyIn.cons rfl (fun K hK => ?_) AllReadyIn.nil
          go_simp
          refine ⟨trivial, (CallsIn.inRound l (callsIn_wide.2 (HAL.out _ (by simpa using (Below.refl W.heap.size W).drew)))).mono ?_⟩
          rintro e w5 ⟨r, rfl, hr, hr2, hb5⟩
          have hb5' : Below W.heap.size W w5 := ((Below.refl W.heap.size W).drew).trans hb5
          have HB5 := Lib.hid hb5'
          have hcS5 := (hb5'.cell (p := ⟨S, 0, none⟩) HVL.out).trans hcS
          have hcP5 := (hb5'.cell (p := ⟨w.heap.size, 0, none⟩) HPL.out).trans hcP
          have HV5 := Lib.hid (hv5 w5 hb5')
          have hn5 : ¬ w5.heap.size = S := by have := hb5'.size; have := HVL.out; omega
          have hn5' : ¬ S = w5.heap.size := by omega
          have hl5 : S < w5.heap.size := by have := hb5'.size; have := HVL.out; omega
          have HS5 := Lib.hid (Nat.le_trans hSW hb5'.size)
          clear hb5 hb5'
          refine hK _ _ ?_
          clear hK K
          refine wpAnyIn_ready (rs := [4]) (by kernel_rfl) (by simp) ?_
          refine AllReadyIn.cons rfl (fun K hK => ?_) AllReadyIn.nil
          go_simp
          refine hK _ _ ?_
          clear hK K
          refine wpAnyIn_ready (rs := [5]) (by kernel_rfl) (by simp) ?_
          refine AllReadyIn.cons rfl (fun K hK => ?_) AllReadyIn.nil
          refine stepIn_append_own _ rfl (.tmp 13) (.tmp 17) 25 rfl S 67 i0 (.float .f32 0) 1 4 Try.underlying25 hi hz0 hz1 hz2 rfl (by decide) v rs.length (rs.map (Value.float .f32)) rfl (HV5.out.2.alloc _) ⟨w5.heap.size, 0, none⟩ 1 1 [.float .f32 r] rfl rfl (cell_one_new _ _ _) (by simp [Value.oneCell']) (by unfold maxLen; omega) (by omega) (by have := HS5.out; simp; omega) ?_
          intro v' w1 hown' hgrow _
          obtain ⟨g', cap', rfl⟩ := ownsRow_succ hown'
          have hv1 : Boxed w1 S 25 v := (HV5.out.1.alloc _).kept hgrow (HV5.out.1.not_row (by decide) HV5.out.2)
          have hc1 := hv1.cell
          have hf1 := hv1.frozen
          refine hK _ _ ?_
          clear hK K
          refine wpAnyIn_ready (rs := [6]) (by kernel_rfl) (by simp) ?_
          refine AllReadyIn.cons rfl (fun K hK => ?_) AllReadyIn.nil
          go_simp
          refine hK _ _ ?_
          clear hK K
          refine wpAnyIn_done (by kernel_rfl) ?_ _
          gi_wp2_with fail
          exact pair_end hv hrow HL.out hc hlt (by have := HPN.out; omega) hB hSW hx1 hx2 HB5.out hr hr2 hown' hgrow
        refine AllReadyIn.cons rfl (fun K hK => ?_) AllReadyIn.nil
        go_simp
        refine hK _ _ ?_
        clear hK K
        refine wpAnyIn_ready (rs := [0, 3]) (by kernel_rfl) (by simp) ?_
        refine AllReadyIn.cons rfl (fun K hK => ?_) ?_
        · skip
          go_simp
          refine hK _ _ ?_
          clear hK K
          refine wpAnyIn_ready (rs := [3]) (by kernel_rfl) (by simp) ?_
          refine AllReadyIn.cons rfl (fun K hK => ?_) AllReadyIn.nil
          go_simp
          refine ⟨trivial, (CallsIn.inRound l (callsIn_wide.2 (HAL.out _ (by simpa using (Below.refl W.heap.size W).drew)))).mono ?_⟩
          rintro e w5 ⟨r, rfl, hr, hr2, hb5⟩
          have hb5' : Below W.heap.size W w5 := ((Below.refl W.heap.size W).drew).trans hb5
          have HB5 := Lib.hid hb5'
          have hcS5 := (hb5'.cell (p := ⟨S, 0, none⟩) HVL.out).trans hcS
          have hcP5 := (hb5'.cell (p := ⟨w.heap.size, 0, none⟩) HPL.out).trans hcP
          have HV5 := Lib.hid (hv5 w5 hb5')
          have hn5 : ¬ w5.heap.size = S := by have := hb5'.size; have := HVL.out; omega
          have hn5' : ¬ S = w5.heap.size := by omega
          have hl5 : S < w5.heap.size := by have := hb5'.size; have := HVL.out; omega
          have HS5 := Lib.hid (Nat.le_trans hSW hb5'.size)
          clear hb5 hb5'
          refine hK _ _ ?_
          clear hK K
          refine wpAnyIn_ready (rs := [4]) (by kernel_rfl) (by simp) ?_
          refine AllReadyIn.cons rfl (fun K hK => ?_) AllReadyIn.nil
          go_simp
          refine hK _ _ ?_
          clear hK K
          refine wpAnyIn_ready (rs := [5]) (by kernel_rfl) (by simp) ?_
          refine AllReadyIn.cons rfl (fun K hK => ?_) AllReadyIn.nil
          refine stepIn_append_own _ rfl (.tmp 13) (.tmp 17) 25 rfl S 67 i0 (.float .f32 0) 1 4 Try.underlying25 hi hz0 hz1 hz2 rfl (by decide) v rs.length (rs.map (Value.float .f32)) rfl (HV5.out.2.alloc _) ⟨w5.heap.size, 0, none⟩ 1 1 [.float .f32 r] rfl rfl (cell_one_new _ _ _) (by simp [Value.oneCell']) (by unfold maxLen; omega) (by omega) (by have := HS5.out; simp; omega) ?_
          intro v' w1 hown' hgrow _
          obtain ⟨g', cap', rfl⟩ := ownsRow_succ hown'
          have hv1 : Boxed w1 S 25 v := (HV5.out.1.alloc _).kept hgrow (HV5.out.1.not_row (by decide) HV5.out.2)
          have hc1 := hv1.cell
          have hf1 := hv1.frozen
          refine hK _ _ ?_
          clear hK K
          refine wpAnyIn_ready (rs := [6]) (by kernel_rfl) (by simp) ?_
          refine AllReadyIn.cons rfl (fun K hK => ?_) AllReadyIn.nil
          go_simp
          refine hK _ _ ?_
          clear hK K
          refine wpAnyIn_done (by kernel_rfl) ?_ _
          gi_wp2_with fail
          exact pair_end hv hrow HL.out hc hlt (by have := HPN.out; omega) hB hSW hx1 hx2 HB5.out hr hr2 hown' hgrow
        refine AllReadyIn.cons rfl (fun K hK => ?_) AllReadyIn.nil
        go_simp
        refine ⟨trivial, (CallsIn.inRound l (callsIn_wide.2 (HAL.out _ (by simpa using (Below.refl W.heap.size W).drew)))).mono ?_⟩
        rintro e w5 ⟨r, rfl, hr, hr2, hb5⟩
        have hb5' : Below W.heap.size W w5 := ((Below.refl W.heap.size W).drew).trans hb5
        have HB5 := Lib.hid hb5'
        have hcS5 := (hb5'.cell (p := ⟨S, 0, none⟩) HVL.out).trans hcS
        have hcP5 := (hb5'.cell (p := ⟨w.heap.size, 0, none⟩) HPL.out).trans hcP
        have HV5 := Lib.hid (hv5 w5 hb5')
        have hn5 : ¬ w5.heap.size = S := by have := hb5'.size; have := HVL.out; omega
        have hn5' : ¬ S = w5.heap.size := by omega
        have hl5 : S < w5.heap.size := by have := hb5'.size; have := HVL.out; omega
        have HS5 := Lib.hid (Nat.le_trans hSW hb5'.size)
        clear hb5 hb5'
        refine hK _ _ ?_
        clear hK K
        refine wpAnyIn_ready (rs := [0, 4]) (by kernel_rfl) (by simp) ?_
        refine AllReadyIn.cons rfl (fun K hK => ?_) ?_
        · skip
          go_simp
          refine hK _ _ ?_
          clear hK K
          refine wpAnyIn_ready (rs := [4]) (by kernel_rfl) (by simp) ?_
          refine AllReadyIn.cons rfl (fun K hK => ?_) AllReadyIn.nil
          go_simp
          refine hK _ _ ?_
          clear hK K
          refine wpAnyIn_ready (rs := [5]) (by kernel_rfl) (by simp) ?_
          refine AllReadyIn.cons rfl (fun K hK => ?_) AllReadyIn.nil
          refine stepIn_append_own _ rfl (.tmp 13) (.tmp 17) 25 rfl S 67 i0 (.float .f32 0) 1 4 Try.underlying25 hi hz0 hz1 hz2 rfl (by decide) v rs.length (rs.map (Value.float .f32)) rfl (HV5.out.2.alloc _) ⟨w5.heap.size, 0, none⟩ 1 1 [.float .f32 r] rfl rfl (cell_one_new _ _ _) (by simp [Value.oneCell']) (by unfold maxLen; omega) (by omega) (by have := HS5.out; simp; omega) ?_
          intro v' w1 hown' hgrow _
          obtain ⟨g', cap', rfl⟩ := ownsRow_succ hown'
          have hv1 : Boxed w1 S 25 v := (HV5.out.1.alloc _).kept hgrow (HV5.out.1.not_row (by decide) HV5.out.2)
          have hc1 := hv1.cell
          have hf1 := hv1.frozen
          refine hK _ _ ?_
          clear hK K
          refine wpAnyIn_ready (rs := [6]) (by kernel_rfl) (by simp) ?_
          refine AllReadyIn.cons rfl (fun K hK => ?_) AllReadyIn.nil
          go_simp
          refine hK _ _ ?_
          clear hK K
          refine wpAnyIn_done (by kernel_rfl) ?_ _
          gi_wp2_with fail
          exact pair_end hv hrow HL.out hc hlt (by have := HPN.out; omega) hB hSW hx1 hx2 HB5.out hr hr2 hown' hgrow
        refine AllReadyIn.cons rfl (fun K hK => ?_) AllReadyIn.nil
        go_simp
        refine hK _ _ ?_
        clear hK K
        refine wpAnyIn_ready (rs := [0]) (by kernel_rfl) (by simp) ?_
        refine AllReadyIn.cons rfl (fun K hK => ?_) AllReadyIn.nil
        go_simp
        refine hK _ _ ?_
        clear hK K
        refine wpAnyIn_ready (rs := [5]) (by kernel_rfl) (by simp) ?_
        refine AllReadyIn.cons rfl (fun K hK => ?_) AllReadyIn.nil
        refine stepIn_append_own _ rfl (.tmp 13) (.tmp 17) 25 rfl S 67 i0 (.float .f32 0) 1 4 Try.underlying25 hi hz0 hz1 hz2 rfl (by decide) v rs.length (rs.map (Value.float .f32)) rfl (HV5.out.2.alloc _) ⟨w5.heap.size, 0, none⟩ 1 1 [.float .f32 r] rfl rfl (cell_one_new _ _ _) (by simp [Value.oneCell']) (by unfold maxLen; omega) (by omega) (by have := HS5.out; simp; omega) ?_
        intro v' w1 hown' hgrow _
        obtain ⟨g', cap', rfl⟩ := ownsRow_succ hown'
        have hv1 : Boxed w1 S 25 v := (HV5.out.1.alloc _).kept hgrow (HV5.out.1.not_row (by decide) HV5.out.2)
        have hc1 := hv1.cell
        have hf1 := hv1.frozen
        refine hK _ _ ?_
        clear hK K
        refine wpAnyIn_ready (rs := [6]) (by kernel_rfl) (by simp) ?_
        refine AllReadyIn.cons rfl (fun K hK => ?_) AllReadyIn.nil
        go_simp
        refine hK _ _ ?_
        clear hK K
        refine wpAnyIn_done (by kernel_rfl) ?_ _
        gi_wp2_with fail
        exact pair_end hv hrow HL.out hc hlt (by have := HPN.out; omega) hB hSW hx1 hx2 HB5.out hr hr2 hown' hgrow
      refine AllReadyIn.cons rfl (fun K hK => ?_) AllReadyIn.nil
      go_simp
      refine hK _ _ ?_
      clear hK K
      refine wpAnyIn_ready (rs := [0, 1]) (by kernel_rfl) (by simp) ?_
      refine AllReadyIn.cons rfl (fun K hK => ?_) ?_
      · skip
        go_simp
        refine hK _ _ ?_
        clear hK K
        refine wpAnyIn_ready (rs := [1]) (by kernel_rfl) (by simp) ?_
        refine AllReadyIn.cons rfl (fun K hK => ?_) AllReadyIn.nil
        go_simp
        refine hK _ _ ?_
        clear hK K
        refine wpAnyIn_ready (rs := [3]) (by kernel_rfl) (by simp) ?_
        refine AllReadyIn.cons rfl (fun K hK => ?_) AllReadyIn.nil
        go_simp
        refine ⟨trivial, (CallsIn.inRound l (callsIn_wide.2 (HAL.out _ (by simpa using (Below.refl W.heap.size W).drew)))).mono ?_⟩
        rintro e w5 ⟨r, rfl, hr, hr2, hb5⟩
        have hb5' : Below W.heap.size W w5 := ((Below.refl W.heap.size W).drew).trans hb5
        have HB5 := Lib.hid hb5'
        have hcS5 := (hb5'.cell (p := ⟨S, 0, none⟩) HVL.out).trans hcS
        have hcP5 := (hb5'.cell (p := ⟨w.heap.size, 0, none⟩) HPL.out).trans hcP
        have HV5 := Lib.hid (hv5 w5 hb5')
        have hn5 : ¬ w5.heap.size = S := by have := hb5'.size; have := HVL.out; omega
        have hn5' : ¬ S = w5.heap.size := by omega
        have hl5 : S < w5.heap.size := by have := hb5'.size; have := HVL.out; omega
        have HS5 := Lib.hid (Nat.le_trans hSW hb5'.size)
        clear hb5 hb5'
        refine hK _ _ ?_
        clear hK K
        refine wpAnyIn_ready (rs := [4]) (by kernel_rfl) (by simp) ?_
        refine AllReadyIn.cons rfl (fun K hK => ?_) AllReadyIn.nil
        go_simp
        refine hK _ _ ?_
        clear hK K
        refine wpAnyIn_ready (rs := [5]) (by kernel_rfl) (by simp) ?_
        refine AllReadyIn.cons rfl (fun K hK => ?_) AllReadyIn.nil
        refine stepIn_append_own _ rfl (.tmp 13) (.tmp 17) 25 rfl S 67 i0 (.float .f32 0) 1 4 Try.underlying25 hi hz0 hz1 hz2 rfl (by decide) v rs.length (rs.map (Value.float .f32)) rfl (HV5.out.2.alloc _) ⟨w5.heap.size, 0, none⟩ 1 1 [.float .f32 r] rfl rfl (cell_one_new _ _ _) (by simp [Value.oneCell']) (by unfold maxLen; omega) (by omega) (by have := HS5.out; simp; omega) ?_
        intro v' w1 hown' hgrow _
        obtain ⟨g', cap', rfl⟩ := ownsRow_succ hown'
        have hv1 : Boxed w1 S 25 v := (HV5.out.1.alloc _).kept hgrow (HV5.out.1.not_row (by decide) HV5.out.2)
        have hc1 := hv1.cell
        have hf1 := hv1.frozen
        refine hK _ _ ?_
        clear hK K
        refine wpAnyIn_ready (rs := [6]) (by kernel_rfl) (by simp) ?_
        refine AllReadyIn.cons rfl (fun K hK => ?_) AllReadyIn.nil
        go_simp
        refine hK _ _ ?_
        clear hK K
        refine wpAnyIn_done (by kernel_rfl) ?_ _
        gi_wp2_with fail
        exact pair_end hv hrow HL.out hc hlt (by have := HPN.out; omega) hB hSW hx1 hx2 HB5.out hr hr2 hown' hgrow
      refine AllReadyIn.cons rfl (fun K hK => ?_) AllReadyIn.nil
      go_simp
      refine hK _ _ ?_
      clear hK K
      refine wpAnyIn_ready (rs := [0, 3]) (by kernel_rfl) (by simp) ?_
      refine AllReadyIn.cons rfl (fun K hK => ?_) ?_
      · skip
        go_simp
        refine hK _ _ ?_
        clear hK K
        refine wpAnyIn_ready (rs := [3]) (by kernel_rfl) (by simp) ?_
        refine AllReadyIn.cons rfl (fun K hK => ?_) AllReadyIn.nil
        go_simp
        refine ⟨trivial, (CallsIn.inRound l (callsIn_wide.2 (HAL.out _ (by simpa using (Below.refl W.heap.size W).drew)))).mono ?_⟩
        rintro e w5 ⟨r, rfl, hr, hr2, hb5⟩
        have hb5' : Below W.heap.size W w5 := ((Below.refl W.heap.size W).drew).trans hb5
        have HB5 := Lib.hid hb5'
        have hcS5 := (hb5'.cell (p := ⟨S, 0, none⟩) HVL.out).trans hcS
        have hcP5 := (hb5'.cell (p := ⟨w.heap.size, 0, none⟩) HPL.out).trans hcP
        have HV5 := Lib.hid (hv5 w5 hb5')
        have hn5 : ¬ w5.heap.size = S := by have := hb5'.size; have := HVL.out; omega
        have hn5' : ¬ S = w5.heap.size := by omega
        have hl5 : S < w5.heap.size := by have := hb5'.size; have := HVL.out; omega
        have HS5 := Lib.hid (Nat.le_trans hSW hb5'.size)
        clear hb5 hb5'
        refine hK _ _ ?_
        clear hK K
        refine wpAnyIn_ready (rs := [4]) (by kernel_rfl) (by simp) ?_
        refine AllReadyIn.cons rfl (fun K hK => ?_) AllReadyIn.nil
        go_simp
        refine hK _ _ ?_
        clear hK K
        refine wpAnyIn_ready (rs := [5]) (by kernel_rfl) (by simp) ?_
        refine AllReadyIn.cons rfl (fun K hK => ?_) AllReadyIn.nil
        refine stepIn_append_own _ rfl (.tmp 13) (.tmp 17) 25 rfl S 67 i0 (.float .f32 0) 1 4 Try.underlying25 hi hz0 hz1 hz2 rfl (by decide) v rs.length (rs.map (Value.float .f32)) rfl (HV5.out.2.alloc _) ⟨w5.heap.size, 0, none⟩ 1 1 [.float .f32 r] rfl rfl (cell_one_new _ _ _) (by simp [Value.oneCell']) (by unfold maxLen; omega) (by omega) (by have := HS5.out; simp; omega) ?_
        intro v' w1 hown' hgrow _
        obtain ⟨g', cap', rfl⟩ := ownsRow_succ hown'
        have hv1 : Boxed w1 S 25 v := (HV5.out.1.alloc _).kept hgrow (HV5.out.1.not_row (by decide) HV5.out.2)
        have hc1 := hv1.cell
        have hf1 := hv1.frozen
        refine hK _ _ ?_
        clear hK K
        refine wpAnyIn_ready (rs := [6]) (by kernel_rfl) (by simp) ?_
        refine AllReadyIn.cons rfl (fun K hK => ?_) AllReadyIn.nil
        go_simp
        refine hK _ _ ?_
        clear hK K
        refine wpAnyIn_done (by kernel_rfl) ?_ _
        gi_wp2_with fail
        exact pair_end hv hrow HL.out hc hlt (by have := HPN.out; omega) hB hSW hx1 hx2 HB5.out hr hr2 hown' hgrow
      refine AllReadyIn.cons rfl (fun K hK => ?_) AllReadyIn.nil
      go_simp
      refine ⟨trivial, (CallsIn.inRound l (callsIn_wide.2 (HAL.out _ (by simpa using (Below.refl W.heap.size W).drew)))).mono ?_⟩
      rintro e w5 ⟨r, rfl, hr, hr2, hb5⟩
      have hb5' : Below W.heap.size W w5 := ((Below.refl W.heap.size W).drew).trans hb5
      have HB5 := Lib.hid hb5'
      have hcS5 := (hb5'.cell (p := ⟨S, 0, none⟩) HVL.out).trans hcS
      have hcP5 := (hb5'.cell (p := ⟨w.heap.size, 0, none⟩) HPL.out).trans hcP
      have HV5 := Lib.hid (hv5 w5 hb5')
      have hn5 : ¬ w5.heap.size = S := by have := hb5'.size; have := HVL.out; omega
      have hn5' : ¬ S = w5.heap.size := by omega
      have hl5 : S < w5.heap.size := by have := hb5'.size; have := HVL.out; omega
      have HS5 := Lib.hid (Nat.le_trans hSW hb5'.size)
      clear hb5 hb5'
      refine hK _ _ ?_
      clear hK K
      refine wpAnyIn_ready (rs := [0, 4]) (by kernel_rfl) (by simp) ?_
      refine AllReadyIn.cons rfl (fun K hK => ?_) ?_
      · skip
        go_simp
        refine hK _ _ ?_
        clear hK K
        refine wpAnyIn_ready (rs := [4]) (by kernel_rfl) (by simp) ?_
        refine AllReadyIn.cons rfl (fun K hK => ?_) AllReadyIn.nil
        go_simp
        refine hK _ _ ?_
        clear hK K
        refine wpAnyIn_ready (rs := [5]) (by kernel_rfl) (by simp) ?_
        refine AllReadyIn.cons rfl (fun K hK => ?_) AllReadyIn.nil
        refine stepIn_append_own _ rfl (.tmp 13) (.tmp 17) 25 rfl S 67 i0 (.float .f32 0) 1 4 Try.underlying25 hi hz0 hz1 hz2 rfl (by decide) v rs.length (rs.map (Value.float .f32)) rfl (HV5.out.2.alloc _) ⟨w5.heap.size, 0, none⟩ 1 1 [.float .f32 r] rfl rfl (cell_one_new _ _ _) (by simp [Value.oneCell']) (by unfold maxLen; omega) (by omega) (by have := HS5.out; simp; omega) ?_
        intro v' w1 hown' hgrow _
        obtain ⟨g', cap', rfl⟩ := ownsRow_succ hown'
        have hv1 : Boxed w1 S 25 v := (HV5.out.1.alloc _).kept hgrow (HV5.out.1.not_row (by decide) HV5.out.2)
        have hc1 := hv1.cell
        have hf1 := hv1.frozen
        refine hK _ _ ?_
        clear hK K
        refine wpAnyIn_ready (rs := [6]) (by kernel_rfl) (by simp) ?_
        refine AllReadyIn.cons rfl (fun K hK => ?_) AllReadyIn.nil
        go_simp
        refine hK _ _ ?_
        clear hK K
        refine wpAnyIn_done (by kernel_rfl) ?_ _
        gi_wp2_with fail
        exact pair_end hv hrow HL.out hc hlt (by have := HPN.out; omega) hB hSW hx1 hx2 HB5.out hr hr2 hown' hgrow
      refine AllReadyIn.cons rfl (fun K hK => ?_) AllReadyIn.nil
      go_simp
      refine hK _ _ ?_
      clear hK K
      refine wpAnyIn_ready (rs := [0]) (by kernel_rfl) (by simp) ?_
      refine AllReadyIn.cons rfl (fun K hK => ?_) AllReadyIn.nil
      go_simp
      refine hK _ _ ?_
      clear hK K
      refine wpAnyIn_ready (rs := [5]) (by kernel_rfl) (by simp) ?_
      refine AllReadyIn.cons rfl (fun K hK => ?_) AllReadyIn.nil
      refine stepIn_append_own _ rfl (.tmp 13) (.tmp 17) 25 rfl S 67 i0 (.float .f32 0) 1 4 Try.underlying25 hi hz0 hz1 hz2 rfl (by decide) v rs.length (rs.map (Value.float .f32)) rfl (HV5.out.2.alloc _) ⟨w5.heap.size, 0, none⟩ 1 1 [.float .f32 r] rfl rfl (cell_one_new _ _ _) (by simp [Value.oneCell']) (by unfold maxLen; omega) (by omega) (by have := HS5.out; simp; omega) ?_
      intro v' w1 hown' hgrow _
      obtain ⟨g', cap', rfl⟩ := ownsRow_succ hown'
      have hv1 : Boxed w1 S 25 v := (HV5.out.1.alloc _).kept hgrow (HV5.out.1.not_row (by decide) HV5.out.2)
      have hc1 := hv1.cell
      have hf1 := hv1.frozen
      refine hK _ _ ?_
      clear hK K
      refine wpAnyIn_ready (rs := [6]) (by kernel_rfl) (by simp) ?_
      refine AllReadyIn.cons rfl (fun K hK => ?_) AllReadyIn.nil
      go_simp
      refine hK _ _ ?_
      clear hK K
      refine wpAnyIn_done (by kernel_rfl) ?_ _
      gi_wp2_with fail
      exact pair_end hv hrow HL.out hc hlt (by have := HPN.out; omega) hB hSW hx1 hx2 HB5.out hr hr2 hown' hgrow
  · have g1 : ¬ (1 : Int) < (z.length : Int) := by omega
    obtain ⟨bb, off, rfl⟩ := floats_some HZ.out z1
    obtain ⟨y, rfl⟩ : ∃ y, z = [y] := by
      match z, z1, h2 with
      | [y], _, _ => exact ⟨y, rfl⟩
      | y :: y2 :: t, _, h2 => simp at h2
    have hcell : wr.cell? ⟨bb, off, none⟩ = some (.float .f32 y) := by
      rcases HZ.out.2.2.2.2 with h' | ⟨b', o', e, _, hc⟩
      · simp at h'
      · simp only [Option.some.injEq, Addr.mk.injEq] at e
        obtain ⟨rfl, rfl, _⟩ := e
        exact hc 0 (by simp)
    have hy := HZ.out.2.2.2.1 y (by simp)
    gi_wp2
    refine leaves_many (B := w.heap.size) Ds wr HND.out (fun D h => ⟨(HDS.out D h).1, (HDS.out D h).2.2⟩) (fun w' hb' => ?_)
    exact ⟨_, results_tmp rfl _ _ _, y, rfl, by rw [← HV.out, treeV_one rfl]; rfl, hy, HBW.out.trans hb'⟩
end Go.Proofs.Ytpdgpoonblldgaa
