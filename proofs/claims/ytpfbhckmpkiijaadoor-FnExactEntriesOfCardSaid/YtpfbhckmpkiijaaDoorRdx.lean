/-
  The reader's integers: bytes from the last one to the first. Conditions: the bytes are there, at most six.
-/
import Derived.Test.YtpfbhckmpkiijaaDoorRdr
import Derived.RangeFuncBox
import Derived.RangeFuncCalls
import Derived.RangeFuncWrites
import Derived.OwnWalkIn
import Derived.TacticsInMore
import Derived.LoopNIn
import Derived.LoopIn
namespace Go.Proofs.YtpfbhckmpkiijaaDoor
open Go.RowKit Go.Shelf Go.Deep Go.WideShapes Go.ChangeShapes
set_option linter.unusedVariables false
set_option linter.unusedSimpArgs false
attribute [local go_sem] Oper.semAt_some

/-- a place of a list of n -/
abbrev BkI (n : Nat) := { k : Nat // k < n }
/-- what the iterator hands over in round k: the index, and the byte there -/
def bkE (l : List UInt8) (k : Nat) : Array Value := #[.int .i64 ((l.length - 1 - k : Nat) : Int), .int .u8 ((l.getD (l.length - 1 - k) 0).toNat : Int)]
def KeepR (Bs Br : Nat) (W W' : World) : Prop := ∀ i, W'.cell? ⟨Bs, i, none⟩ = W.cell? ⟨Bs, i, none⟩ ∧ W'.cell? ⟨Br, i, none⟩ = W.cell? ⟨Br, i, none⟩
theorem KeepR.refl (Bs Br : Nat) (W : World) : KeepR Bs Br W W := fun _ => ⟨rfl, rfl⟩
theorem KeepR.trans {Bs Br : Nat} {A B C : World} (h : KeepR Bs Br A B) (k : KeepR Bs Br B C) : KeepR Bs Br A C := fun i => ⟨(k i).1.trans (h i).1, (k i).2.trans (h i).2⟩
theorem KeepR.of_below {Bs Br n : Nat} {A B : World} (h : Below n A B) (h1 : Bs < n) (h2 : Br < n) : KeepR Bs Br A B := fun i => ⟨h.cell (p := ⟨Bs, i, none⟩) h1, h.cell (p := ⟨Br, i, none⟩) h2⟩
theorem keepR_b {Bs Br : Nat} {w : World} (h1 : Bs < w.heap.size) (h2 : Br < w.heap.size) (W : World) (l : Nat) (o o' : Obj) (hl : w.heap.size ≤ l) (h : W.heap[l]? = some o) (hc : o.isCells = false) (hw : o.isWalk = false) : KeepR Bs Br W (W.putObj l o') :=
  KeepR.of_below (belowK_b (w := w) (Nat.le_refl _) W l o o' hl h hc hw) h1 h2
set_option maxRecDepth 100000 in
set_option maxHeartbeats 2000000 in
theorem bk_in (n lp Bs Br cap : Nat) (l : List UInt8) (hn : 1 ≤ n) (hlen : l.length ≤ 1048576) (J Jx : List (BkI l.length) → World → Prop) (W : World)
    (hY : ∀ pre x W1, J pre W1 → pre.length < l.length → YieldAt Fence.wide (n - 1) Tryd.prog lp (bkE l x.1) W1 fun e W' =>
      (e = .returned (.bool true) ∧ J (pre ++ [x]) W' ∧ KeepR Bs Br W1 W') ∨ (e = .returned (.bool false) ∧ Jx (pre ++ [x]) W'))
    (hBs : W.cell? ⟨Bs, 0, none⟩ = some (.slice (some ⟨Br, 0, none⟩) l.length cap)) (hBr : ∀ i (h : i < l.length), W.cell? ⟨Br, i, none⟩ = some (.int .u8 (l[i].toNat : Int))) (h0 : J [] W) :
    CallsIn Fence.wide n Tryd.prog 65 #[.func (.yield lp) #[] #[], .pointer (some ⟨Bs, 0, none⟩)] W fun e W' => (∃ v, e = .returned v) ∧
      ((∃ ys, ys.map Subtype.val = List.range l.length ∧ J ys W') ∨ (∃ pre, True ∧ Jx pre W')) := by
  refine callsIn_of_wp Tryd.func65 rfl trivial ?_ rfl
  simp only [Tryd.ntmps65, List.size_toArray, List.length_cons, List.length_nil, Nat.reduceAdd, Nat.reduceSub, Array.replicate_succ, Array.replicate_zero, List.push_toArray, List.append_toArray, List.nil_append, List.cons_append]
  have hl1 : (l.length : Int) ≤ 1048576 := by omega
  gi_wp2
  gi_loopw [3] (fun i wr => ∃ (k : Nat) (pre : List (BkI l.length)), k ≤ l.length ∧ pre.map Subtype.val = List.range k ∧ i = .int .i64 ((l.length : Int) - 1 - (k : Int)) ∧ J pre wr ∧ KeepR Bs Br W wr)
    (fun i _ => (intOf i + 1).toNat)
  case atStart => exact ⟨0, [], Nat.zero_le _, rfl, by simp, h0, KeepR.refl _ _ _⟩
  case round =>
    obtain ⟨k, pre, hk, hpre, rfl, hJs, hnx⟩ := hrel
    have hpl : pre.length = k := by have := congrArg List.length hpre; simpa using this
    have HPRE := Lib.hid hpre
    have hbs := (hnx 0).1.trans hBs
    by_cases hlt : k < l.length
    · obtain ⟨j, hj⟩ : ∃ j, l.length - 1 - k = j := ⟨_, rfl⟩
      have hji : (l.length : Int) - 1 - (k : Int) = (j : Int) := by omega
      have hjl : j < l.length := by omega
      have hbr := (hnx j).2.trans (hBr j hjl)
      obtain ⟨fn, tmps, assign, body, hy, hR⟩ := hY pre ⟨k, hlt⟩ wr hJs (by rw [hpl]; exact hlt)
      have HR := Lib.hid hR
      have hget : l.getD j 0 = l[j] := by rw [List.getD_eq_getElem?_getD, List.getElem?_eq_getElem hjl]; rfl
      simp only [bkE, hj, hget] at hy
      obtain ⟨b, hb⟩ : ∃ b, l[j] = b := ⟨_, rfl⟩
      rw [hb] at hbr hy
      have hj1 : (j : Int) < (l.length : Int) := by omega
      have hj0 : (0 : Int) ≤ (j : Int) := by omega
      have HJI := Lib.hid hji
      rw [hji]
      have HNX := Lib.hid hnx
      clear hR hJs hY hpre hnx hji hget hb
      gi_wp2
      refine HR.out.mono ?_
      rintro e W3 (⟨rfl, hJ3, hk3⟩ | ⟨rfl, hJx3⟩)
      · have hbs3 := ((HNX.out.trans hk3) 0).1.trans hBs
        gi_wp2
        go_roundw
        case rel =>
          refine ⟨k + 1, pre ++ [⟨k, hlt⟩], by omega, ?_, ?_, hJ3, HNX.out.trans hk3⟩
          · rw [List.map_append, List.range_succ]
            exact congrArg (· ++ [k]) HPRE.out
          · have := HJI.out
            exact congrArg (Value.int .i64) (by push_cast; omega)
        case measure => simp [intOf] <;> omega
      · gi_wp2
        refine bodyPost_ret (results_none rfl _ _ _) rfl ?_
        exact ⟨⟨_, rfl⟩, .inr ⟨_, trivial, hJx3⟩⟩
    · obtain rfl : k = l.length := by omega
      have hneg : (l.length : Int) - 1 - (l.length : Int) = -1 := by omega
      rw [hneg]
      gi_wp2
      go_end0
      exact ⟨⟨_, rfl⟩, .inl ⟨pre, hpre, hJs⟩⟩
theorem bk_stops (n Bs Br cap : Nat) (hn : 1 ≤ n) (l : List UInt8) (hlen : l.length ≤ 1048576) (w : World) (hBs0 : Bs < w.heap.size) (hBr0 : Br < w.heap.size)
    (hBs : w.cell? ⟨Bs, 0, none⟩ = some (.slice (some ⟨Br, 0, none⟩) l.length cap)) (hBr : ∀ i (h : i < l.length), w.cell? ⟨Br, i, none⟩ = some (.int .u8 (l[i].toNat : Int))) :
    SeqStopsK Fence.wide n Tryd.prog 65 #[.pointer (some ⟨Bs, 0, none⟩)] (fun x : BkI l.length => bkE l x.1) (KeepR Bs Br) (fun ys => ys.map Subtype.val = List.range l.length) (fun _ => True) l.length w := fun lp J Jx W hW hJ _ hY h0 =>
  bk_in n lp Bs Br cap l hn hlen J Jx W hY ((hW.cell (p := ⟨Bs, 0, none⟩) hBs0).trans hBs) (fun i h => (hW.cell (p := ⟨Br, i, none⟩) hBr0).trans (hBr i h)) h0
theorem below_alloc_set {w : World} {o : Obj} {g i : Nat} {v : Value} (hg : g < w.heap.size) : Below w.heap.size (w.setCell ⟨g, i, none⟩ v) ((w.alloc o).setCell ⟨g, i, none⟩ v) := by
  refine ⟨rfl, rfl, rfl, by simp [World.setCell], fun j hj => ?_⟩
  by_cases e : j = g
  · subst e
    have h1 : (w.alloc o).heap[j]? = w.heap[j]? := Below.heap_alloc w o j hj
    simp only [World.setCell, Array.getElem?_modify, h1]
  · rw [Below.heap_setCell _ _ _ _ e, Below.heap_setCell _ _ _ _ e]
    exact Below.heap_alloc w o j hj
theorem boxed_otherT {W : World} {B S i : Nat} {t : TypeId} {v v' : Value} (h : Boxed W B t v) (hne : S ≠ B) : Boxed (W.setCell ⟨S, i, none⟩ v') B t v := by
  have h' : W.heap[B]? = _ := h
  show (W.setCell ⟨S, i, none⟩ v').heap[B]? = _
  simp [World.setCell, Array.getElem?_modify, hne, h']
theorem boxed_ownX {β : Type} {B0 B : Nat} {t : TypeId} {f : β → Value} : OwnFrom B0 (fun (s : β) W => Boxed W B t (f s)) := fun s W W' row hs hg hr => hs.kept hg (fun e => by
  obtain ⟨_, o, ho, hc⟩ := hr B e.symm
  rw [show W.heap[B]? = _ from hs] at ho
  cases ho
  cases hc)
theorem cell_other {W : World} {S k i : Nat} {u : Value} (h : k ≠ S) : (W.setCell ⟨S, 0, none⟩ u).cell? ⟨k, i, none⟩ = W.cell? ⟨k, i, none⟩ := by
  unfold World.cell?
  rw [Below.heap_setCell _ _ _ _ h]
def bkF (l : List UInt8) (pre : List (BkI l.length)) : Nat := pre.foldl (fun n x => n * 256 + (l.getD (l.length - 1 - x.1) 0).toNat) 0
theorem bkF_snoc (l : List UInt8) (pre : List (BkI l.length)) (x : BkI l.length) : bkF l (pre ++ [x]) = bkF l pre * 256 + (l.getD (l.length - 1 - x.1) 0).toNat := by simp [bkF]
theorem bkF_lt (l : List UInt8) : ∀ (pre : List (BkI l.length)) (c : Nat), pre.length ≤ c → bkF l pre < 256 ^ c := by
  intro pre
  have : ∀ (xs : List (BkI l.length)) (n k : Nat), n < 256 ^ k → xs.foldl (fun n x => n * 256 + (l.getD (l.length - 1 - x.1) 0).toNat) n < 256 ^ (k + xs.length) := by
    intro xs
    induction xs with
    | nil => intro n k h; exact h
    | cons x xs ih =>
      intro n k h
      rw [List.foldl_cons, List.length_cons, show k + (xs.length + 1) = (k + 1) + xs.length by omega]
      refine ih _ _ ?_
      have hc := (l.getD (l.length - 1 - x.1) 0).toNat_lt
      rw [Nat.pow_succ]
      omega
  intro c hc
  have h := this pre 0 0 (by simp)
  rw [Nat.zero_add] at h
  exact Nat.lt_of_lt_of_le h (Nat.pow_le_pow_right (by decide) hc)
theorem bkF_all {l : List UInt8} {ys : List (BkI l.length)} (h : ys.map Subtype.val = List.range l.length) : bkF l ys = leN l := by
  have e1 : bkF l ys = ((ys.map Subtype.val).map fun k => l.getD (l.length - 1 - k) 0).foldl (fun n c => n * 256 + c.toNat) 0 := by
    rw [List.map_map, List.foldl_map]
    rfl
  have e2 : ((List.range l.length).map fun k => l.getD (l.length - 1 - k) 0) = l.reverse := by
    refine List.ext_getElem (by simp) fun i h1 h2 => ?_
    simp at h1
    rw [List.getElem_map, List.getElem_range, List.getElem_reverse, List.getD_eq_getElem?_getD, List.getElem?_eq_getElem (by omega)]
    rfl
  rw [e1, h, e2, List.foldl_reverse]
  rfl
theorem c_backward (a : Option Addr) (n c : Nat) (w : World) : Calls Tryd.prog 61 #[.slice a n c] w fun e w' => e = .returned (.func (.func 65) #[] #[.pointer (some ⟨w.heap.size, 0, none⟩)]) ∧ w' = w.alloc (.cells #[.slice a n c] 28) := by
  go_enter Tryd.func61, Tryd.ntmps61
  go_wp2
  go_ret
  exact ⟨rfl, rfl⟩
set_option maxRecDepth 100000 in
set_option maxHeartbeats 2000000 in
theorem c_intOf (g : Nat) (n : Int) (m : List UInt8) (w wb wt : World) (h6 : m.length ≤ 6) (hbs : wb.heap.size = w.heap.size)
    (ht : Calls Tryd.prog 54 #[.pointer (some ⟨g, 0, none⟩), .int .i64 n] (w.alloc (.cells #[.int .i64 0] 2)) fun e w' => e = .returned (.string ⟨m.toArray⟩) ∧ w' = wt)
    (B2 : Below w.heap.size wb wt) (X2 : Boxed wt w.heap.size 2 (.int .i64 0)) :
    Calls Tryd.prog 53 #[.pointer (some ⟨g, 0, none⟩), .int .i64 n] w fun e w' => e = .returned (.int .i64 (leN m : Int)) ∧ Below w.heap.size wb w' := by
  have HT := Lib.hid ht
  have hs2 : w.heap.size < wt.heap.size := X2.lt
  clear ht
  refine (callsIn_wide (n := 7)).1 ?_
  refine callsIn_of_wp_marks Tryd.func53 rfl trivial ?_ rfl
  simp only [Tryd.ntmps53, List.size_toArray, List.length_cons, List.length_nil, Nat.reduceAdd, Nat.reduceSub, Array.replicate_succ, Array.replicate_zero, List.push_toArray, List.append_toArray, List.nil_append, List.cons_append]
  gi_wp2_with fail
  refine ⟨trivial, (callsIn_wide.2 HT.out).mono ?_⟩
  rintro e w2 ⟨rfl, rfl⟩
  obtain ⟨C, R, ex, hcv, hR⟩ : ∃ C R ex, (convert 9 28 (.string ⟨m.toArray⟩)).run Tryd.prog w2 = .ok (.slice (some ⟨w2.heap.size, 0, none⟩) m.length C) (w2.drew.alloc (.cells R 5 ex)) ∧ ∀ i (h : i < m.length), R[i]? = some (.int .u8 (m[i].toNat : Int)) := by
    refine ⟨_, _, _, (run_bytes_of_string w2 9 28 5 ⟨m.toArray⟩ Tryd.underlying9 Tryd.underlying28 Tryd.underlying5).trans (by rw [size_mk]), fun i h => ?_⟩
    rw [bytesRow_at _ _ _ (by simpa using h)]
    simp
  have hb3 : Below w2.heap.size w2 (w2.alloc (.cells R 5 ex)).drew := ((Below.refl _ w2).alloc (Nat.le_refl _) _).drew
  have hrow : ∀ i (h : i < m.length), ((w2.alloc (.cells R 5 ex)).drew).cell? ⟨w2.heap.size, i, none⟩ = some (.int .u8 (m[i].toNat : Int)) := fun i h => by
    have e : ((w2.alloc (.cells R 5 ex)).drew).heap[w2.heap.size]? = some (.cells R 5 ex) := World.alloc_heap_new w2 _
    unfold World.cell?
    simp only [e]
    simpa using hR i h
  have hs3 : ((w2.alloc (.cells R 5 ex)).drew).heap.size = w2.heap.size + 1 := by simp [World.drew]
  have X3 : Boxed ((w2.alloc (.cells R 5 ex)).drew) w.heap.size 2 (.int .i64 0) := (hb3.block _ hs2).trans X2
  have B3 : Below w.heap.size wb ((w2.alloc (.cells R 5 ex)).drew) := B2.trans (hb3.mono (by omega))
  clear hR X2 B2 hb3
  gi_wp2_with fail
  generalize (w2.alloc (.cells R 5 ex)).drew = w3 at hs3 X3 B3 hrow ⊢
  have HCB := Lib.hid (fun W => c_backward (some ⟨w2.heap.size, 0, none⟩) m.length C W)
  refine ⟨trivial, (callsIn_wide.2 (HCB.out _)).mono ?_⟩
  rintro e w4 ⟨rfl, rfl⟩
  obtain ⟨T, hT⟩ : ∃ T, w3.heap.size = T := ⟨_, rfl⟩
  have bT := Boxed.new w3 28 (.slice (some ⟨w2.heap.size, 0, none⟩) m.length C)
  rw [hT] at bT
  have X4 : Boxed (w3.alloc (.cells #[.slice (some ⟨w2.heap.size, 0, none⟩) m.length C] 28)) w.heap.size 2 (.int .i64 0) := X3.alloc _
  have B4 : Below w.heap.size wb (w3.alloc (.cells #[.slice (some ⟨w2.heap.size, 0, none⟩) m.length C] 28)) := B3.alloc (by omega) _
  have R4 : ∀ i (h : i < m.length), (w3.alloc (.cells #[.slice (some ⟨w2.heap.size, 0, none⟩) m.length C] 28)).cell? ⟨w2.heap.size, i, none⟩ = some (.int .u8 (m[i].toNat : Int)) := fun i h => (((Below.refl w3.heap.size w3).alloc (Nat.le_refl _) _).cell (p := ⟨w2.heap.size, i, none⟩) (show w2.heap.size < w3.heap.size by omega)).trans (hrow i h)
  have hs4 : (w3.alloc (.cells #[.slice (some ⟨w2.heap.size, 0, none⟩) m.length C] 28)).heap.size = T + 1 := by simp [hT]
  have cT := bT.cell
  clear hrow X3 B3 HCB HT hcv
  simp only [hT]
  generalize w3.alloc (.cells #[.slice (some ⟨w2.heap.size, 0, none⟩) m.length C] 28) = w4 at X4 B4 R4 hs4 bT cT ⊢
  gi_wp2_with fail
  refine wpIn_rangeFunc_ownG rfl (by omega) (gf := 65) (lb := #[.pointer (some ⟨T, 0, none⟩)]) rfl trivial (enters_of Tryd.func65 (by kernel_rfl) rfl)
    (bk_stops 6 T w2.heap.size C (by omega) m (by omega) w4 (by omega) (by omega) cT R4) (fun h k => h.trans k) (keepR_b (by omega) (by omega)) (Below.refl _ _) (fun _ => rfl)
    (fun pre W => Boxed W w.heap.size 2 (.int .i64 (bkF m pre : Int)) ∧ Below w.heap.size wb W) (fun _ _ _ => False) (OwnFrom.and boxed_ownX (ownFrom_below (by omega) (by omega))) (fun _ _ _ _ _ hs _ _ => hs) ⟨X4, B4⟩
    (fun x => { tmps := #[.pointer (some ⟨g, 0, none⟩), .int .i64 n, undef, undef, .int .i64 0, .pointer (some ⟨w.heap.size, 0, none⟩), undef, .int .u8 ((m.getD (m.length - 1 - x.1) 0).toNat : Int), .pointer (some ⟨g, 0, none⟩), .int .i64 n, .string ⟨m.toArray⟩, .slice (some ⟨w2.heap.size, 0, none⟩) m.length C, .func (.func 65) #[] #[.pointer (some ⟨T, 0, none⟩)], .int .i64 ((m.length - 1 - x.1 : Nat) : Int), .int .u8 ((m.getD (m.length - 1 - x.1) 0).toNat : Int), undef, undef, undef, undef, undef, undef], defers := [] }) ?assign ?body ?done ?stop
  case assign =>
    intro l' x W K' hK
    simp only [bkE]
    gi_wp2
    exact hK
  case stop =>
    rintro D' c pre W _ _ h _
    exact h.elim
  case done =>
    rintro D' ys W hD hS2 ⟨hX, hB⟩ hK
    have hcS := hX.cell
    rw [bkF_all hS2] at hcS
    gi_wp2
    refine ⟨by simp, .inl ⟨_, _, rfl, run_takeDeferred hK, ?_⟩⟩
    exact ⟨_, results_tmp rfl _ _ _, rfl, hB.trans (belowK_b (w := w) (Nat.le_refl _) W D' _ _ (by omega) hK rfl rfl)⟩
  case body =>
    rintro l' pre x W ⟨hX, hB⟩ hpN
    have hcS := hX.cell
    have hfS := hX.frozen
    have hF : bkF m pre < 256 ^ 5 := bkF_lt m pre 5 (by omega)
    obtain ⟨F, hFF⟩ : ∃ F, bkF m pre = F := ⟨_, rfl⟩
    obtain ⟨c, hc⟩ : ∃ c, m.getD (m.length - 1 - x.1) 0 = c := ⟨_, rfl⟩
    have HSN := Lib.hid (show bkF m (pre ++ [x]) = F * 256 + c.toNat by rw [bkF_snoc, hFF, hc])
    rw [hFF] at hcS hF
    have hF5 : F ≤ 1099511627775 := by omega
    have hc8 := c.toNat_lt
    have hshl : IntKind.i64.wrap ((F : Int) * 2 ^ 8) = ((F * 256 : Nat) : Int) := by rw [IntKind.wrap_i64]; omega
    have hshl' : IntKind.i64.wrap ((F : Int) * 256) = ((F * 256 : Nat) : Int) := by rw [IntKind.wrap_i64]; omega
    have hor := or_byte (a := F) (b := c.toNat) (by omega) (by omega)
    have hkr : ∀ u, KeepR T w2.heap.size W (W.setCell ⟨w.heap.size, 0, none⟩ u) := fun u i => ⟨cell_other (by omega), cell_other (by omega)⟩
    have HKR := Lib.hid hkr
    have HB5 := Lib.hid hB
    have HX5 := Lib.hid hX
    clear hkr hB hX hFF hF
    simp only [hc]
    gi_wp2_with fail
    have e : bits .or .i64 ((F : Int) * 256) (c.toNat : Int) = ((F * 256 + c.toNat : Nat) : Int) := by
      have h := or_byte (a := F) (b := c.toNat) (by omega) (by omega)
      rw [← h]
      rfl
    rw [e]
    exact ⟨(KeepsOthers.setCell _ _ _).from _, HKR.out _, by rw [HSN.out]; exact HX5.out.set _, HB5.out.setCell (p := ⟨w.heap.size, 0, none⟩) (Nat.le_refl _) _⟩
theorem c_intYes (g n : Nat) (l : List UInt8) (w : World) (h : Blk w g 70 #[.string ⟨l.toArray⟩, .nilIface]) (hn : n ≤ l.length) (h6 : n ≤ 6) (hl : l.length ≤ 1048576) :
    Calls Tryd.prog 53 #[.pointer (some ⟨g, 0, none⟩), .int .i64 n] w fun e w' => e = .returned (.int .i64 (leN (l.take n) : Int)) ∧ Below w.heap.size (w.setCell ⟨g, 0, none⟩ (.string ⟨(l.drop n).toArray⟩)) w' := by
  have hgl := h.lt
  exact c_intOf g n (l.take n) w _ _ (by rw [List.length_take]; omega) (by simp [World.setCell]) (c_takeYes g n l _ (h.below ((Below.refl _ w).alloc (Nat.le_refl _) _)) hn hl) (below_alloc_set hgl) (boxed_otherT (Boxed.new w 2 (.int .i64 0)) (by omega))
theorem c_intErr (g : Nat) (n : Nat) (x : Value) (t : TypeId) (v : Value) (w : World) (h : Blk w g 70 #[x, .iface t v]) :
    Calls Tryd.prog 53 #[.pointer (some ⟨g, 0, none⟩), .int .i64 n] w fun e w' => e = .returned (.int .i64 0) ∧ Below w.heap.size w w' := by
  refine (c_intOf g n [] w w _ (by simp) rfl ((c_takeErr g n x t v _ (h.below ((Below.refl _ w).alloc (Nat.le_refl _) _)))) ((Below.refl _ w).alloc (Nat.le_refl _) _) (Boxed.new w 2 (.int .i64 0))).mono ?_
  rintro e w' ⟨rfl, hb⟩
  exact ⟨rfl, hb⟩
end Go.Proofs.YtpfbhckmpkiijaaDoor
