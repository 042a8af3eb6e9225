/-
  The bytes of a state: the model, the whole. Conditions: the state can be stored.
-/
import Derived.Test.YtpobdigmjfapbaaDoorStx
import Derived.Test.YtpobdigmjfapbaaDoorChs
namespace Go.Proofs.YtpobdigmjfapbaaDoor
open Go.RowKit Go.Deep Go.WideShapes Go.ChangeShapes
set_option linter.unusedVariables false
set_option linter.unusedSimpArgs false
attribute [local go_sem] World.drewN_zero
attribute [local go_sem] size_mk wb_length nb_length

def u8 (n : Int) : UInt8 := wbAt n.toNat 0
def layB (p : LayP) : List UInt8 := ([u8 p.k, u8 p.i, u8 p.o] ++ nb p.ws) ++ nb p.bs
def headB (ps : List LayP) : List UInt8 := [78, 78, 84, 49] ++ [u8 (ps.length : Nat)]
def laysB (ps : List LayP) (k : Nat) : List UInt8 := (ps.take k).flatMap layB
def slotsB (zs : List (List Nat)) (k : Nat) : List UInt8 := (zs.take k).flatMap nb
def coreB (q : TrsA) : List UInt8 := ((headB q.ps ++ laysB q.ps q.ps.length) ++ [u8 (q.zs.length : Nat)]) ++ slotsB q.zs q.zs.length ++ endB q
def checkN (l : List UInt8) : Nat := crcOf l ^^^ 4294967295
def storeB (q : TrsA) : List UInt8 := coreB q ++ wb (checkN (coreB q)) 4
theorem laysB_succ {ps : List LayP} {k : Nat} {p : LayP} (h : ps[k]? = some p) : laysB ps (k + 1) = laysB ps k ++ layB p := by
  unfold laysB
  rw [List.take_add_one, h, List.flatMap_append]
  simp
theorem slotsB_succ {zs : List (List Nat)} {k : Nat} {z : List Nat} (h : zs[k]? = some z) : slotsB zs (k + 1) = slotsB zs k ++ nb z := by
  unfold slotsB
  rw [List.take_add_one, h, List.flatMap_append]
  simp
theorem bytes_made (w : World) (l : List UInt8) (hl : l.length ≤ 100) : OwnB (w.alloc (.cells (Lib.byteCells l).toArray 5)) w.heap.size (some ⟨w.heap.size, 0, none⟩) l.length l := by
  refine ⟨by simp [Lib.byteCells], .inr ⟨w.heap.size, l.length, _, rfl, Nat.le_refl _, heap_alloc_new w _, Nat.le_refl _, by unfold maxLen; omega, by simp [Lib.byteCells], by rw [Nat.mul_one]; simp [Lib.byteCells, List.take_of_length_le]⟩⟩
theorem u8_val (n : Nat) (h : n ≤ 255) : ((u8 (n : Int)).toNat : Int) = (n : Int) := by
  unfold u8
  rw [wbAt_toNat, Int.toNat_natCast, Nat.pow_zero, Nat.div_one]
  omega
theorem ba_append (a b : List UInt8) : ((⟨a.toArray⟩ : ByteArray) ++ ⟨b.toArray⟩) = ⟨(a ++ b).toArray⟩ := by
  apply ByteArray.ext
  simp
theorem wrap8 (n : Nat) (h : n ≤ 255) : IntKind.u8.wrap (n : Int) = (n : Int) := by
  simp [IntKind.wrap, IntKind.bits, IntKind.signed]
  omega
theorem headB_len (ps : List LayP) : (headB ps).length = 5 := by simp [headB]
theorem layB_len (p : LayP) : (layB p).length = 3 + 4 * p.n := by
  simp only [layB, LayP.n, List.length_append, nb_length, List.length_cons, List.length_nil]
  omega
theorem laysB_len {ps : List LayP} (h : ∀ p ∈ ps, p.n ≤ 72) (k : Nat) : (laysB ps k).length ≤ 291 * k := by
  induction k with
  | zero => simp [laysB]
  | succ k ih =>
    by_cases hk : k < ps.length
    · have hx : ps[k]? = some ps[k] := List.getElem?_eq_getElem hk
      have h1 := h _ (List.getElem_mem hk)
      rw [laysB_succ hx, List.length_append, layB_len]
      omega
    · have e : laysB ps (k + 1) = laysB ps k := by unfold laysB; rw [List.take_of_length_le (by omega), List.take_of_length_le (by omega)]
      rw [e]
      omega
theorem slotsB_len {zs : List (List Nat)} (h : ∀ z ∈ zs, z.length ≤ 432) (k : Nat) : (slotsB zs k).length ≤ 1728 * k := by
  induction k with
  | zero => simp [slotsB]
  | succ k ih =>
    by_cases hk : k < zs.length
    · have hx : zs[k]? = some zs[k] := List.getElem?_eq_getElem hk
      have h1 := h _ (List.getElem_mem hk)
      rw [slotsB_succ hx, List.length_append, nb_length]
      omega
    · have e : slotsB zs (k + 1) = slotsB zs k := by unfold slotsB; rw [List.take_of_length_le (by omega), List.take_of_length_le (by omega)]
      rw [e]
      omega
theorem ret_str {a b : ByteArray} (h : a = b) : Ending.returned (.string a) = .returned (.string b) := by rw [h]
def SlRel (P : List UInt8) (zs : List (List Nat)) (n : Nat) (w : World) (s i : Value) (wr : World) : Prop := ∃ k : Nat, k ≤ n ∧ i = .int .i64 k ∧ s = .string ⟨(P ++ slotsB zs k).toArray⟩ ∧ Below w.heap.size w wr
def LaRel (ps : List LayP) (n : Nat) (w : World) (s i : Value) (wr : World) : Prop := ∃ k : Nat, k ≤ n ∧ i = .int .i64 k ∧ s = .string ⟨(headB ps ++ laysB ps k).toArray⟩ ∧ Below w.heap.size w wr
theorem wpAnyH_more {P : Program} {md : Region.Mode} {ops : Array Oper} {Q : Exit → Act → World → Prop} {S S' : World → Prop} (hS : ∀ w, S' w → S w) : ∀ (fuel : Nat) (listed : Array Bool) (a : Act) (w : World), wpAnyH P md ops Q S' fuel listed a w → wpAnyH P md ops Q S fuel listed a w
  | 0, _, _, _, h => h
  | fuel + 1, _, _, _, h => ⟨h.1, fun i hi => wpOp_mono (fun a' w' h' => ⟨hS _ h'.1, wpAnyH_more hS fuel _ a' w' h'.2⟩) (h.2 i hi)⟩
set_option maxRecDepth 20000 in
set_option maxHeartbeats 4000000 in
theorem c_l08Store (gt : Nat) (q : TrsA) (w : World) (h : TrsAt w q) (K : Blk w gt 51 q.cells) (hs : stbB q = true) :
    Calls Tryd.prog 56 #[.pointer (some ⟨gt, 0, none⟩)] w fun e w' => e = .returned (.string ⟨(storeB q).toArray⟩) ∧ Below w.heap.size w w' := by
  have HE := Lib.hid (fun W (hb : Below w.heap.size w W) => c_l08End gt q W (h.kept hb) (K.below hb) hs)
  obtain ⟨b1, b2, b3, b4, b5⟩ := stb_bounds hs
  have HVL := Lib.hid (vMod_all (stbB_parts hs).1)
  have HSL := Lib.hid (show ∀ z ∈ q.ss.map FlA.z, z.length ≤ 432 from fun z hz => by
    obtain ⟨x, hx, rfl⟩ := List.mem_map.1 hz
    have := (stbB_parts hs).2.2 x hx
    omega)
  obtain ⟨g, c, ls, g', c', ss, st, sd, sc⟩ := q
  simp only [TrsAt] at h
  obtain ⟨a1, a2, a3⟩ := h
  unfold TrsA.cells at K
  simp only [TrsA.ps] at K b1 b2 b3 b4 b5 HVL HSL
  obtain ⟨n, hn⟩ : ∃ n, ls.length = n := ⟨_, rfl⟩
  obtain ⟨m, hm⟩ : ∃ m, ss.length = m := ⟨_, rfl⟩
  rw [hn, hm] at K
  rw [hn] at a1 b1
  rw [hm] at a2 b3
  have HN := Lib.hid hn
  have HM := Lib.hid hm
  have A1 := Lib.hid a1
  have A2 := Lib.hid a2
  have KK := Lib.hid K
  have hn6 : (n : Int) ≤ 6 := by omega
  have hm4 : (m : Int) ≤ 4 := by omega
  have HC := (bytes_made w [u8 (n : Int)] (by simp)).string
  simp only [Lib.byteCells, List.map_cons, List.map_nil, List.length_cons, List.length_nil, u8_val n (by omega)] at HC
  obtain ⟨p0, p1, p2, p3, p4, p5⟩ := tbt5 KK.out
  clear hn hm a1 a2 K b1 b2 b3 b4 b5 hs
  go_enter Tryd.func56, Tryd.ntmps56
  go_wp2_with fail
  have al := (Below.refl w.heap.size w).alloc (Nat.le_refl _) (.cells #[.int .u8 (n : Int)] 5)
  have B0 := Lib.hid al
  clear al HC p0 p1 p2 p3 p4 p5
  generalize w.alloc (.cells #[.int .u8 (n : Int)] 5) = w0 at B0 ⊢
  go_loopw [3, 4] (fun s i wr => LaRel (ls.map LayA.p) n w s i wr) (fun _ i _ => n - (intOf i).toNat)
  case atStart => exact ⟨0, Nat.zero_le _, rfl, by rw [ba_append]; simp [headB, laysB, HN.out], B0.out⟩
  case round =>
    obtain ⟨j, hj, rfl, rfl, hb⟩ := hrel
    have HB := Lib.hid hb
    have hj0 : (0 : Int) ≤ (j : Int) := by omega
    obtain ⟨p0, p1, p2, p3, p4, p5⟩ := tbt5 (KK.out.below hb)
    clear hb B0
    by_cases hlt : j < n
    · have hlt' : (j : Int) < (n : Int) := by omega
      obtain ⟨lb, off, kk, ii, oo, ws, bs, a0, c0, a1, c1, rfl, hbk, hx, r0, r1, r2, r3, r4, g0, g1⟩ := (A1.out.kept HB.out).one hlt
      have hpx : (ls.map LayA.p)[j]? = some ⟨kk, ii, oo, ws, bs⟩ := by rw [List.getElem?_map, hx]; rfl
      have hv := HVL.out _ (List.mem_of_getElem? hpx)
      have hnn := vOne_n hv
      unfold vOne at hv
      rw [vLay_iff] at hv
      dsimp only at hv
      obtain ⟨⟨v1, v2⟩, ⟨v3, v4⟩, ⟨v5, v6⟩, _, _, _⟩ := hv
      obtain ⟨k1, rfl⟩ : ∃ x : Nat, kk = x := ⟨kk.toNat, by omega⟩
      obtain ⟨i1, rfl⟩ : ∃ x : Nat, ii = x := ⟨ii.toNat, by omega⟩
      obtain ⟨o1, rfl⟩ : ∃ x : Nat, oo = x := ⟨oo.toNat, by omega⟩
      have HS := Lib.hid (show headB (ls.map LayA.p) ++ laysB (ls.map LayA.p) (j + 1) = (headB (ls.map LayA.p) ++ laysB (ls.map LayA.p) j) ++ (([u8 (k1 : Int), u8 (i1 : Int), u8 (o1 : Int)] ++ nb ws) ++ nb bs) by rw [laysB_succ hpx, List.append_assoc]; rfl)
      have hws : ws.length ≤ 72 := by have : ws.length + bs.length ≤ 72 := hnn; omega
      have hbs : bs.length ≤ 72 := by have : ws.length + bs.length ≤ 72 := hnn; omega
      have hLL : (headB (ls.map LayA.p) ++ laysB (ls.map LayA.p) j).length ≤ 10000 := by
        have h1 := laysB_len (fun p hp => vOne_n (HVL.out p hp)) j
        rw [List.length_append, headB_len]
        omega
      obtain ⟨L, hL⟩ : ∃ L, headB (ls.map LayA.p) ++ laysB (ls.map LayA.p) j = L := ⟨_, rfl⟩
      rw [hL] at HS hLL ⊢
      have HF1 := Lib.hid (fun W (hb : Below wr.heap.size wr W) => c_l08Bytes a0 c0 ws W (g0.kept hb) (by omega))
      have HF2 := Lib.hid (fun W (hb : Below wr.heap.size wr W) => c_l08Bytes a1 c1 bs W (g1.kept hb) (by omega))
      have OB := Lib.hid (fun (W : World) => show OwnB (W.alloc (.cells #[.int .u8 (k1 : Int), .int .u8 (i1 : Int), .int .u8 (o1 : Int)] 5)) W.heap.size (some ⟨W.heap.size, 0, none⟩) 3 [u8 (k1 : Int), u8 (i1 : Int), u8 (o1 : Int)] from by
        have h := bytes_made W [u8 (k1 : Int), u8 (i1 : Int), u8 (o1 : Int)] (by simp)
        simpa only [Lib.byteCells, List.map_cons, List.map_nil, List.length_cons, List.length_nil, u8_val k1 (by omega), u8_val i1 (by omega), u8_val o1 (by omega)] using h)
      have t1 : ¬ 9223372036854775807 < 3 + 4 * ws.length := by omega
      have t2 : ¬ 9223372036854775807 < 3 + 4 * ws.length + 4 * bs.length := by omega
      have t3 : ¬ 9223372036854775807 < L.length + (3 + 4 * ws.length + 4 * bs.length) := by omega
      have y1 := wrap8 k1 (by omega)
      have y2 := wrap8 i1 (by omega)
      have y3 := wrap8 o1 (by omega)
      clear hx hpx hnn g0 g1 hL v1 v3 v5
      go_wp2_with fail
      have kb := Blk.new wr 105 #[.int .i64 (k1 : Int), .int .i64 (i1 : Int), .int .i64 (o1 : Int), .slice a0 ws.length c0, .slice a1 bs.length c1]
      have bal := (Below.refl wr.heap.size wr).alloc (Nat.le_refl _) (.cells #[.int .i64 (k1 : Int), .int .i64 (i1 : Int), .int .i64 (o1 : Int), .slice a0 ws.length c0, .slice a1 bs.length c1] 105)
      have KB := Lib.hid kb
      have BA := Lib.hid bal
      clear kb bal p0 p1 p2 p3 p4 p5 r0 r1 r2 r3 r4
      generalize wr.alloc (.cells #[.int .i64 (k1 : Int), .int .i64 (i1 : Int), .int .i64 (o1 : Int), .slice a0 ws.length c0, .slice a1 bs.length c1] 105) = wa at KB BA ⊢
      generalize wr.heap.size = ad at KB ⊢
      obtain ⟨p0, p1, p2, p3, p4, pl⟩ := tb5 KB.out
      have nwa : wa.heap.size ≠ ad := Nat.ne_of_gt pl
      have bl : Below wa.heap.size wa wa.drew := (Below.refl _ _).drew
      have K0 := Lib.hid (KB.out.below bl)
      have B0 := Lib.hid (Below.next BA.out bl)
      clear bl
      have E0 : (convert 22 9 (.slice (some ⟨wa.heap.size, 0, none⟩) 3 3)).run Tryd.prog ((wa.alloc (.cells #[.int .u8 (k1 : Int), .int .u8 (i1 : Int), .int .u8 (o1 : Int)] 5)).drew) = .ok (.string ⟨[u8 (k1 : Int), u8 (i1 : Int), u8 (o1 : Int)].toArray⟩) ((wa.alloc (.cells #[.int .u8 (k1 : Int), .int .u8 (i1 : Int), .int .u8 (o1 : Int)] 5)).drew) := (OB.out wa.drew).string
      refine wp_region_held_drew (S := fun w' => w'.cell? ⟨ad, 0, none⟩ = some (.int .i64 (k1 : Int)) ∧ w'.cell? ⟨ad, 1, none⟩ = some (.int .i64 (i1 : Int)) ∧ w'.cell? ⟨ad, 2, none⟩ = some (.int .i64 (o1 : Int)) ∧ w'.cell? ⟨ad, 3, none⟩ = some (.slice a0 ws.length c0) ∧ w'.cell? ⟨ad, 4, none⟩ = some (.slice a1 bs.length c1)) (by kernel_rfl) ?_ (fun hHeld => ?_)
      · (try dsimp only); go_keep
      refine wpAnyH_take (i := 0) (v := ?v1) rfl (by kernel_rfl) (by kernel_rfl) (by kernel_rfl) (fun _ _ _ h => h) (Or.inl ⟨by rfl, ?hy1⟩) (by assumption) ?rest1
      case hy1 => (intro w hSw; (try dsimp only at hSw); go_simp; try with_reducible rfl)
      try simp only [Act.put, List.setIfInBounds_toArray, List.set_cons_zero, List.set_cons_succ]
      refine wpAnyH_take (i := 1) (v := ?v2) rfl (by kernel_rfl) (by kernel_rfl) (by kernel_rfl) (fun _ _ _ h => h) (Or.inl ⟨by rfl, ?hy2⟩) (by assumption) ?rest2
      case hy2 => (intro w hSw; (try dsimp only at hSw); go_simp; try with_reducible rfl)
      try simp only [Act.put, List.setIfInBounds_toArray, List.set_cons_zero, List.set_cons_succ]
      refine wpAnyH_take (i := 2) (v := ?v3) rfl (by kernel_rfl) (by kernel_rfl) (by kernel_rfl) (fun _ _ _ h => h) (Or.inl ⟨by rfl, ?hy3⟩) (by assumption) ?rest3
      case hy3 => (intro w hSw; (try dsimp only at hSw); go_simp; try with_reducible rfl)
      try simp only [Act.put, List.setIfInBounds_toArray, List.set_cons_zero, List.set_cons_succ]
      refine wpAnyH_take (i := 3) (v := ?v4) rfl (by kernel_rfl) (by kernel_rfl) (by kernel_rfl) (fun _ _ _ h => h) (Or.inl ⟨by rfl, ?hy4⟩) (by assumption) ?rest4
      case hy4 => (intro w hSw; (try dsimp only at hSw); go_simp; try with_reducible rfl)
      try simp only [Act.put, List.setIfInBounds_toArray, List.set_cons_zero, List.set_cons_succ]
      refine wpAnyH_take (i := 4) (v := ?v5) rfl (by kernel_rfl) (by kernel_rfl) (by kernel_rfl) (fun _ _ _ h => h) (Or.inl ⟨by rfl, ?hy5⟩) (by assumption) ?rest5
      case hy5 => (intro w hSw; (try dsimp only at hSw); go_simp; try with_reducible rfl)
      try simp only [Act.put, List.setIfInBounds_toArray, List.set_cons_zero, List.set_cons_succ]
      refine wpAnyH_take (i := 5) (v := ?v6) rfl (by kernel_rfl) (by kernel_rfl) (by kernel_rfl) (fun _ _ _ h => h) (Or.inl ⟨by rfl, ?hy6⟩) (by assumption) ?rest6
      case hy6 => (intro w hSw; (try dsimp only at hSw); go_simp; try with_reducible rfl)
      try simp only [Act.put, List.setIfInBounds_toArray, List.set_cons_zero, List.set_cons_succ]
      refine wpAnyH_take (i := 6) (v := ?v7) rfl (by kernel_rfl) (by kernel_rfl) (by kernel_rfl) (fun _ _ _ h => h) (Or.inl ⟨by rfl, ?hy7⟩) (by assumption) ?rest7
      case hy7 => (intro w hSw; (try dsimp only at hSw); go_simp; try with_reducible rfl)
      try simp only [Act.put, List.setIfInBounds_toArray, List.set_cons_zero, List.set_cons_succ]
      refine wpAnyH_take (i := 7) (v := ?v8) rfl (by kernel_rfl) (by kernel_rfl) (by kernel_rfl) (fun _ _ _ h => h) (Or.inl ⟨by rfl, ?hy8⟩) (by assumption) ?rest8
      case hy8 => (intro w hSw; (try dsimp only at hSw); go_simp; try with_reducible rfl)
      try simp only [Act.put, List.setIfInBounds_toArray, List.set_cons_zero, List.set_cons_succ]
      refine wpAnyH_take (i := 8) (v := ?v9) rfl (by kernel_rfl) (by kernel_rfl) (by kernel_rfl) (fun _ _ _ h => h) (Or.inl ⟨by rfl, ?hy9⟩) (by assumption) ?rest9
      case hy9 => (intro w hSw; (try dsimp only at hSw); go_simp; try with_reducible rfl)
      try simp only [Act.put, List.setIfInBounds_toArray, List.set_cons_zero, List.set_cons_succ]
      refine wpAnyH_take (i := 9) (v := ?v10) rfl (by kernel_rfl) (by kernel_rfl) (by kernel_rfl) (fun _ _ _ h => h) (Or.inl ⟨by rfl, ?hy10⟩) (by assumption) ?rest10
      case hy10 => (intro w hSw; (try dsimp only at hSw); go_simp; try with_reducible rfl)
      try simp only [Act.put, List.setIfInBounds_toArray, List.set_cons_zero, List.set_cons_succ]
      refine wpAnyH_take (i := 12) (v := ?v11) rfl (by kernel_rfl) (by kernel_rfl) (by kernel_rfl) (fun _ _ _ h => h) (Or.inl ⟨by rfl, ?hy11⟩) (by assumption) ?rest11
      case hy11 => (intro w hSw; (try dsimp only at hSw); go_simp; try with_reducible rfl)
      try simp only [Act.put, List.setIfInBounds_toArray, List.set_cons_zero, List.set_cons_succ]
      refine wpAnyH_take (i := 13) (v := ?v12) rfl (by kernel_rfl) (by kernel_rfl) (by kernel_rfl) (fun _ _ _ h => h) (Or.inl ⟨by rfl, ?hy12⟩) (by assumption) ?rest12
      case hy12 => (intro w hSw; (try dsimp only at hSw); go_simp; try with_reducible rfl)
      try simp only [Act.put, List.setIfInBounds_toArray, List.set_cons_zero, List.set_cons_succ]
      refine wpAnyH_take (i := 16) (v := ?v13) rfl (by kernel_rfl) (by kernel_rfl) (by kernel_rfl) (fun _ _ _ h => h) (Or.inl ⟨by rfl, ?hy13⟩) (by assumption) ?rest13
      case hy13 => (intro w hSw; (try dsimp only at hSw); go_simp; try with_reducible rfl)
      try simp only [Act.put, List.setIfInBounds_toArray, List.set_cons_zero, List.set_cons_succ]
      refine wpAnyH_take (i := 17) (v := ?v14) rfl (by kernel_rfl) (by kernel_rfl) (by kernel_rfl) (fun _ _ _ h => h) (Or.inl ⟨by rfl, ?hy14⟩) (by assumption) ?rest14
      case hy14 => (intro w hSw; (try dsimp only at hSw); go_simp; try with_reducible rfl)
      try simp only [Act.put, List.setIfInBounds_toArray, List.set_cons_zero, List.set_cons_succ]
      refine wpAnyH_ready (rs := [10, 14]) (by kernel_rfl) (by simp) ?_
      refine AllReadyH.cons rfl (fun K hK => ?_) ?_
      · go_simp
        refine hK.out _ _ ?_ (fun hHeld => ?_)
        · (try dsimp only); (try go_keep)
        clear hK K
        try simp only [Act.put, List.setIfInBounds_toArray, List.set_cons_zero, List.set_cons_succ]
        refine wpAnyH_more (S' := fun w' => (w'.cell? ⟨ad, 0, none⟩ = some (.int .i64 (k1 : Int)) ∧ w'.cell? ⟨ad, 1, none⟩ = some (.int .i64 (i1 : Int)) ∧ w'.cell? ⟨ad, 2, none⟩ = some (.int .i64 (o1 : Int)) ∧ w'.cell? ⟨ad, 3, none⟩ = some (.slice a0 ws.length c0) ∧ w'.cell? ⟨ad, 4, none⟩ = some (.slice a1 bs.length c1)) ∧ (convert 22 9 (.slice (some ⟨wa.heap.size, 0, none⟩) 3 3)).run Tryd.prog w' = .ok (.string ⟨[u8 (k1 : Int), u8 (i1 : Int), u8 (o1 : Int)].toArray⟩) w') (fun _ h => h.1) _ _ _ _ ?_
        have H1 := And.intro hHeld E0
        refine wpAnyH_take (i := 11) (v := ?v15) rfl (by kernel_rfl) (by kernel_rfl) (by kernel_rfl) (fun _ _ _ h => h) (Or.inl ⟨by rfl, ?hy15⟩) (by assumption) ?rest15
        case hy15 => (intro w hSw; (try dsimp only at hSw); go_simp; try with_reducible rfl)
        try simp only [Act.put, List.setIfInBounds_toArray, List.set_cons_zero, List.set_cons_succ]
        refine wpAnyH_ready (rs := [14]) (by kernel_rfl) (by simp) ?_
        refine AllReadyH.cons rfl (fun K hK => ?_) AllReadyH.nil
        go_simp
        go_at_call_of 50 (Value.slice a0 ws.length c0)
        have al := (Below.refl wa.drew.heap.size wa.drew).alloc (Nat.le_refl _) (.cells #[.int .u8 (k1 : Int), .int .u8 (i1 : Int), .int .u8 (o1 : Int)] 5)
        have SB0 := Lib.hid (OB.out wa.drew)
        have K0b := Lib.hid (K0.out.below al)
        have B0b := Lib.hid (Below.next B0.out al)
        clear al
        refine (HF1.out (wa.drew.alloc (.cells #[.int .u8 (k1 : Int), .int .u8 (i1 : Int), .int .u8 (o1 : Int)] 5)) B0b.out).mono ?_
        rintro e w2 ⟨rfl, bl⟩
        have SB1 := Lib.hid (SB0.out.kept bl)
        have K1 := Lib.hid (K0b.out.below bl)
        have B1 := Lib.hid (Below.next B0b.out bl)
        clear bl p0 p1 p2 p3 p4 pl E0
        obtain ⟨p0, p1, p2, p3, p4, pl⟩ := tb5 K1.out
        have nw2 : w2.heap.size ≠ ad := Nat.ne_of_gt pl
        have E2 : (convert 22 9 (.slice (some ⟨wa.heap.size, 0, none⟩) 3 3)).run Tryd.prog w2 = .ok (.string ⟨[u8 (k1 : Int), u8 (i1 : Int), u8 (o1 : Int)].toArray⟩) w2 := SB1.out.string
        try go_wp2_with fail
        refine hK.out _ _ ⟨⟨p0, p1, p2, p3, p4⟩, E2⟩ (fun hHeld => ?_)
        clear hK K
        try simp only [Act.put, List.setIfInBounds_toArray, List.set_cons_zero, List.set_cons_succ]
        refine wpAnyH_take (i := 15) (v := ?v16) rfl (by kernel_rfl) (by kernel_rfl) (by kernel_rfl) (fun _ _ _ h => h) (Or.inl ⟨by rfl, ?hy16⟩) (by assumption) ?rest16
        case hy16 => (intro w hSw; (try dsimp only at hSw); go_simp; try with_reducible rfl)
        try simp only [Act.put, List.setIfInBounds_toArray, List.set_cons_zero, List.set_cons_succ]
        refine wpAnyH_ready (rs := [18]) (by kernel_rfl) (by simp) ?_
        refine AllReadyH.cons rfl (fun K hK => ?_) AllReadyH.nil
        go_simp
        go_at_call 50
        refine (HF2.out w2 B1.out).mono ?_
        rintro e w3 ⟨rfl, bl⟩
        have SB2 := Lib.hid (SB1.out.kept bl)
        have K2 := Lib.hid (K1.out.below bl)
        have B2 := Lib.hid (Below.next B1.out bl)
        clear bl p0 p1 p2 p3 p4 pl E2
        obtain ⟨p0, p1, p2, p3, p4, pl⟩ := tb5 K2.out
        have E3 : (convert 22 9 (.slice (some ⟨wa.heap.size, 0, none⟩) 3 3)).run Tryd.prog w3 = .ok (.string ⟨[u8 (k1 : Int), u8 (i1 : Int), u8 (o1 : Int)].toArray⟩) w3 := SB2.out.string
        try go_wp2_with fail
        refine hK.out _ _ ⟨⟨p0, p1, p2, p3, p4⟩, E3⟩ (fun hHeld => ?_)
        clear hK K
        try simp only [Act.put, List.setIfInBounds_toArray, List.set_cons_zero, List.set_cons_succ]
        refine wpAnyH_take (i := 19) (v := ?v17) rfl (by kernel_rfl) (by kernel_rfl) (by kernel_rfl) (fun _ _ _ h => h) (Or.inl ⟨by rfl, ?hy17⟩) (by assumption) ?rest17
        case hy17 => (intro w hSw; (try dsimp only at hSw); go_simp; try with_reducible rfl)
        try simp only [Act.put, List.setIfInBounds_toArray, List.set_cons_zero, List.set_cons_succ]
        refine wpAnyH_take (i := 20) (v := ?v18) rfl (by kernel_rfl) (by kernel_rfl) (by kernel_rfl) (fun _ _ _ h => h) (Or.inl ⟨by rfl, ?hy18⟩) (by assumption) ?rest18
        case hy18 => (intro w hSw; (try dsimp only at hSw); go_simp; try with_reducible rfl)
        try simp only [Act.put, List.setIfInBounds_toArray, List.set_cons_zero, List.set_cons_succ]
        first
          | refine wpAnyH_take (i := 21) (v := ?vz4) rfl (by kernel_rfl) (by kernel_rfl) (by kernel_rfl) (fun _ _ _ h => h) (Or.inl ⟨by rfl, (by intro w hSw; (try dsimp only at hSw); go_simp; try with_reducible rfl)⟩) (by assumption) ?_
          | refine wpAnyH_ready (rs := [21]) (by kernel_rfl) (by simp) (AllReadyH.cons rfl (fun K hK => ?_) AllReadyH.nil)
            go_simp
            refine hK.out _ _ (by assumption) (fun hHeld => ?_)
            clear hK K
        try simp only [Act.put, List.setIfInBounds_toArray, List.set_cons_zero, List.set_cons_succ]
        refine wpAnyH_done (by kernel_rfl) ?_ _
        go_wp2_with fail
        go_roundw
        case rel => first | exact ⟨j + 1, hlt, by go_num, by rw [HS.out, ← ba_append, ← ba_append, ← ba_append], Below.next HB.out B2.out⟩ | exact ⟨j + 1, hlt, by go_num, by rw [HS.out, ← ba_append, ← ba_append, ← ba_append], Below.next HB.out (B2.out.alloc B2.out.size _)⟩
        case measure => simp [intOf]; omega
      refine AllReadyH.cons rfl (fun K hK => ?_) ?_
      · skip
        go_simp
        go_at_call_of 50 (Value.slice a0 ws.length c0)
        refine (HF1.out wa.drew B0.out).mono ?_
        rintro e w2 ⟨rfl, bl⟩
        have K1 := Lib.hid (K0.out.below bl)
        have B1 := Lib.hid (Below.next B0.out bl)
        clear bl p0 p1 p2 p3 p4 pl E0
        obtain ⟨p0, p1, p2, p3, p4, pl⟩ := tb5 K1.out
        have nw2 : w2.heap.size ≠ ad := Nat.ne_of_gt pl
        try go_wp2_with fail
        refine hK.out _ _ ⟨p0, p1, p2, p3, p4⟩ (fun hHeld => ?_)
        clear hK K
        try simp only [Act.put, List.setIfInBounds_toArray, List.set_cons_zero, List.set_cons_succ]
        refine wpAnyH_ready (rs := [10, 18]) (by kernel_rfl) (by simp) ?_
        refine AllReadyH.cons rfl (fun K hK => ?_) ?_
        · go_simp
          refine hK.out _ _ ?_ (fun hHeld2 => ?_)
          · (try dsimp only); (try go_keep)
          clear hK K
          try simp only [Act.put, List.setIfInBounds_toArray, List.set_cons_zero, List.set_cons_succ]
          refine wpAnyH_more (S' := fun w' => (w'.cell? ⟨ad, 0, none⟩ = some (.int .i64 (k1 : Int)) ∧ w'.cell? ⟨ad, 1, none⟩ = some (.int .i64 (i1 : Int)) ∧ w'.cell? ⟨ad, 2, none⟩ = some (.int .i64 (o1 : Int)) ∧ w'.cell? ⟨ad, 3, none⟩ = some (.slice a0 ws.length c0) ∧ w'.cell? ⟨ad, 4, none⟩ = some (.slice a1 bs.length c1)) ∧ (convert 22 9 (.slice (some ⟨w2.heap.size, 0, none⟩) 3 3)).run Tryd.prog w' = .ok (.string ⟨[u8 (k1 : Int), u8 (i1 : Int), u8 (o1 : Int)].toArray⟩) w') (fun _ h => h.1) _ _ _ _ ?_
          have E2 : (convert 22 9 (.slice (some ⟨w2.heap.size, 0, none⟩) 3 3)).run Tryd.prog (w2.alloc (.cells #[.int .u8 (k1 : Int), .int .u8 (i1 : Int), .int .u8 (o1 : Int)] 5)) = .ok (.string ⟨[u8 (k1 : Int), u8 (i1 : Int), u8 (o1 : Int)].toArray⟩) (w2.alloc (.cells #[.int .u8 (k1 : Int), .int .u8 (i1 : Int), .int .u8 (o1 : Int)] 5)) := (OB.out w2).string
          have H1 := And.intro hHeld2 E2
          refine wpAnyH_take (i := 11) (v := ?v19) rfl (by kernel_rfl) (by kernel_rfl) (by kernel_rfl) (fun _ _ _ h => h) (Or.inl ⟨by rfl, ?hy19⟩) (by assumption) ?rest19
          case hy19 => (intro w hSw; (try dsimp only at hSw); go_simp; try with_reducible rfl)
          try simp only [Act.put, List.setIfInBounds_toArray, List.set_cons_zero, List.set_cons_succ]
          refine wpAnyH_take (i := 15) (v := ?v20) rfl (by kernel_rfl) (by kernel_rfl) (by kernel_rfl) (fun _ _ _ h => h) (Or.inl ⟨by rfl, ?hy20⟩) (by assumption) ?rest20
          case hy20 => (intro w hSw; (try dsimp only at hSw); go_simp; try with_reducible rfl)
          try simp only [Act.put, List.setIfInBounds_toArray, List.set_cons_zero, List.set_cons_succ]
          refine wpAnyH_ready (rs := [18]) (by kernel_rfl) (by simp) ?_
          refine AllReadyH.cons rfl (fun K hK => ?_) AllReadyH.nil
          go_simp
          go_at_call 50
          have al := (Below.refl w2.heap.size w2).alloc (Nat.le_refl _) (.cells #[.int .u8 (k1 : Int), .int .u8 (i1 : Int), .int .u8 (o1 : Int)] 5)
          have SB1 := Lib.hid (OB.out w2)
          have K1b := Lib.hid (K1.out.below al)
          have B1b := Lib.hid (Below.next B1.out al)
          clear al
          refine (HF2.out (w2.alloc (.cells #[.int .u8 (k1 : Int), .int .u8 (i1 : Int), .int .u8 (o1 : Int)] 5)) B1b.out).mono ?_
          rintro e w3 ⟨rfl, bl⟩
          have SB2 := Lib.hid (SB1.out.kept bl)
          have K2 := Lib.hid (K1b.out.below bl)
          have B2 := Lib.hid (Below.next B1b.out bl)
          clear bl p0 p1 p2 p3 p4 pl E2
          obtain ⟨p0, p1, p2, p3, p4, pl⟩ := tb5 K2.out
          have E3 : (convert 22 9 (.slice (some ⟨w2.heap.size, 0, none⟩) 3 3)).run Tryd.prog w3 = .ok (.string ⟨[u8 (k1 : Int), u8 (i1 : Int), u8 (o1 : Int)].toArray⟩) w3 := SB2.out.string
          try go_wp2_with fail
          refine hK.out _ _ ⟨⟨p0, p1, p2, p3, p4⟩, E3⟩ (fun hHeld => ?_)
          clear hK K
          try simp only [Act.put, List.setIfInBounds_toArray, List.set_cons_zero, List.set_cons_succ]
          refine wpAnyH_take (i := 19) (v := ?v21) rfl (by kernel_rfl) (by kernel_rfl) (by kernel_rfl) (fun _ _ _ h => h) (Or.inl ⟨by rfl, ?hy21⟩) (by assumption) ?rest21
          case hy21 => (intro w hSw; (try dsimp only at hSw); go_simp; try with_reducible rfl)
          try simp only [Act.put, List.setIfInBounds_toArray, List.set_cons_zero, List.set_cons_succ]
          refine wpAnyH_take (i := 20) (v := ?v22) rfl (by kernel_rfl) (by kernel_rfl) (by kernel_rfl) (fun _ _ _ h => h) (Or.inl ⟨by rfl, ?hy22⟩) (by assumption) ?rest22
          case hy22 => (intro w hSw; (try dsimp only at hSw); go_simp; try with_reducible rfl)
          try simp only [Act.put, List.setIfInBounds_toArray, List.set_cons_zero, List.set_cons_succ]
          first
            | refine wpAnyH_take (i := 21) (v := ?vz5) rfl (by kernel_rfl) (by kernel_rfl) (by kernel_rfl) (fun _ _ _ h => h) (Or.inl ⟨by rfl, (by intro w hSw; (try dsimp only at hSw); go_simp; try with_reducible rfl)⟩) (by assumption) ?_
            | refine wpAnyH_ready (rs := [21]) (by kernel_rfl) (by simp) (AllReadyH.cons rfl (fun K hK => ?_) AllReadyH.nil)
              go_simp
              refine hK.out _ _ (by assumption) (fun hHeld => ?_)
              clear hK K
          try simp only [Act.put, List.setIfInBounds_toArray, List.set_cons_zero, List.set_cons_succ]
          refine wpAnyH_done (by kernel_rfl) ?_ _
          go_wp2_with fail
          go_roundw
          case rel => first | exact ⟨j + 1, hlt, by go_num, by rw [HS.out, ← ba_append, ← ba_append, ← ba_append], Below.next HB.out B2.out⟩ | exact ⟨j + 1, hlt, by go_num, by rw [HS.out, ← ba_append, ← ba_append, ← ba_append], Below.next HB.out (B2.out.alloc B2.out.size _)⟩
          case measure => simp [intOf]; omega
        refine AllReadyH.cons rfl (fun K hK => ?_) ?_
        · skip
          go_simp
          go_at_call 50
          refine (HF2.out w2 B1.out).mono ?_
          rintro e w3 ⟨rfl, bl⟩
          have K2 := Lib.hid (K1.out.below bl)
          have B2 := Lib.hid (Below.next B1.out bl)
          clear bl p0 p1 p2 p3 p4 pl
          obtain ⟨p0, p1, p2, p3, p4, pl⟩ := tb5 K2.out
          have nw3 : w3.heap.size ≠ ad := Nat.ne_of_gt pl
          try go_wp2_with fail
          refine hK.out _ _ ⟨p0, p1, p2, p3, p4⟩ (fun hHeld => ?_)
          clear hK K
          try simp only [Act.put, List.setIfInBounds_toArray, List.set_cons_zero, List.set_cons_succ]
          refine wpAnyH_ready (rs := [10]) (by kernel_rfl) (by simp) ?_
          refine AllReadyH.cons rfl (fun K hK => ?_) AllReadyH.nil
          go_simp
          refine hK.out _ _ ?_ (fun hHeld3 => ?_)
          · (try dsimp only); (try go_keep)
          clear hK K
          try simp only [Act.put, List.setIfInBounds_toArray, List.set_cons_zero, List.set_cons_succ]
          refine wpAnyH_more (S' := fun w' => (w'.cell? ⟨ad, 0, none⟩ = some (.int .i64 (k1 : Int)) ∧ w'.cell? ⟨ad, 1, none⟩ = some (.int .i64 (i1 : Int)) ∧ w'.cell? ⟨ad, 2, none⟩ = some (.int .i64 (o1 : Int)) ∧ w'.cell? ⟨ad, 3, none⟩ = some (.slice a0 ws.length c0) ∧ w'.cell? ⟨ad, 4, none⟩ = some (.slice a1 bs.length c1)) ∧ (convert 22 9 (.slice (some ⟨w3.heap.size, 0, none⟩) 3 3)).run Tryd.prog w' = .ok (.string ⟨[u8 (k1 : Int), u8 (i1 : Int), u8 (o1 : Int)].toArray⟩) w') (fun _ h => h.1) _ _ _ _ ?_
          have E3 : (convert 22 9 (.slice (some ⟨w3.heap.size, 0, none⟩) 3 3)).run Tryd.prog (w3.alloc (.cells #[.int .u8 (k1 : Int), .int .u8 (i1 : Int), .int .u8 (o1 : Int)] 5)) = .ok (.string ⟨[u8 (k1 : Int), u8 (i1 : Int), u8 (o1 : Int)].toArray⟩) (w3.alloc (.cells #[.int .u8 (k1 : Int), .int .u8 (i1 : Int), .int .u8 (o1 : Int)] 5)) := (OB.out w3).string
          have H1 := And.intro hHeld3 E3
          refine wpAnyH_take (i := 11) (v := ?v23) rfl (by kernel_rfl) (by kernel_rfl) (by kernel_rfl) (fun _ _ _ h => h) (Or.inl ⟨by rfl, ?hy23⟩) (by assumption) ?rest23
          case hy23 => (intro w hSw; (try dsimp only at hSw); go_simp; try with_reducible rfl)
          try simp only [Act.put, List.setIfInBounds_toArray, List.set_cons_zero, List.set_cons_succ]
          refine wpAnyH_take (i := 15) (v := ?v24) rfl (by kernel_rfl) (by kernel_rfl) (by kernel_rfl) (fun _ _ _ h => h) (Or.inl ⟨by rfl, ?hy24⟩) (by assumption) ?rest24
          case hy24 => (intro w hSw; (try dsimp only at hSw); go_simp; try with_reducible rfl)
          try simp only [Act.put, List.setIfInBounds_toArray, List.set_cons_zero, List.set_cons_succ]
          refine wpAnyH_take (i := 19) (v := ?v25) rfl (by kernel_rfl) (by kernel_rfl) (by kernel_rfl) (fun _ _ _ h => h) (Or.inl ⟨by rfl, ?hy25⟩) (by assumption) ?rest25
          case hy25 => (intro w hSw; (try dsimp only at hSw); go_simp; try with_reducible rfl)
          try simp only [Act.put, List.setIfInBounds_toArray, List.set_cons_zero, List.set_cons_succ]
          refine wpAnyH_take (i := 20) (v := ?v26) rfl (by kernel_rfl) (by kernel_rfl) (by kernel_rfl) (fun _ _ _ h => h) (Or.inl ⟨by rfl, ?hy26⟩) (by assumption) ?rest26
          case hy26 => (intro w hSw; (try dsimp only at hSw); go_simp; try with_reducible rfl)
          try simp only [Act.put, List.setIfInBounds_toArray, List.set_cons_zero, List.set_cons_succ]
          first
            | refine wpAnyH_take (i := 21) (v := ?vz5) rfl (by kernel_rfl) (by kernel_rfl) (by kernel_rfl) (fun _ _ _ h => h) (Or.inl ⟨by rfl, (by intro w hSw; (try dsimp only at hSw); go_simp; try with_reducible rfl)⟩) (by assumption) ?_
            | refine wpAnyH_ready (rs := [21]) (by kernel_rfl) (by simp) (AllReadyH.cons rfl (fun K hK => ?_) AllReadyH.nil)
              go_simp
              refine hK.out _ _ (by assumption) (fun hHeld => ?_)
              clear hK K
          try simp only [Act.put, List.setIfInBounds_toArray, List.set_cons_zero, List.set_cons_succ]
          refine wpAnyH_done (by kernel_rfl) ?_ _
          go_wp2_with fail
          go_roundw
          case rel => first | exact ⟨j + 1, hlt, by go_num, by rw [HS.out, ← ba_append, ← ba_append, ← ba_append], Below.next HB.out B2.out⟩ | exact ⟨j + 1, hlt, by go_num, by rw [HS.out, ← ba_append, ← ba_append, ← ba_append], Below.next HB.out (B2.out.alloc B2.out.size _)⟩
          case measure => simp [intOf]; omega
        exact AllReadyH.nil
      exact AllReadyH.nil
    · obtain rfl : j = n := by omega
      have HC2 := (bytes_made wr [u8 (m : Int)] (by simp)).string
      simp only [Lib.byteCells, List.map_cons, List.map_nil, List.length_cons, List.length_nil, u8_val m (by omega)] at HC2
      have hLL : (headB (ls.map LayA.p) ++ laysB (ls.map LayA.p) j).length ≤ 10000 := by
        have h1 := laysB_len (fun p hp => vOne_n (HVL.out p hp)) j
        rw [List.length_append, headB_len]
        omega
      obtain ⟨L, hL⟩ : ∃ L, headB (ls.map LayA.p) ++ laysB (ls.map LayA.p) j = L := ⟨_, rfl⟩
      have HLL := Lib.hid hL
      rw [hL] at hLL ⊢
      clear hL
      go_wp2_with fail
      have B1 := Lib.hid (Below.next HB.out ((Below.refl wr.heap.size wr).alloc (Nat.le_refl _) (.cells #[.int .u8 (m : Int)] 5)))
      clear HC2 p0 p1 p2 p3 p4 p5
      generalize wr.alloc (.cells #[.int .u8 (m : Int)] 5) = w1 at B1 ⊢
      have hLM : (L ++ [u8 (m : Int)]).length ≤ 10001 := by rw [List.length_append]; simp; omega
      rw [show (({ data := L.toArray } : ByteArray) ++ { data := #[u8 (m : Int)] }) = ⟨(L ++ [u8 (m : Int)]).toArray⟩ from ba_append L [u8 (m : Int)]]
      have HM1 := Lib.hid (show ∀ P, (headB (ls.map LayA.p) ++ laysB (ls.map LayA.p) j) ++ [u8 (m : Int)] = P → coreB ⟨g, c, ls, g', c', ss, st, sd, sc⟩ = P ++ slotsB (ss.map FlA.z) m ++ endB ⟨g, c, ls, g', c', ss, st, sd, sc⟩ from fun P hP => by
        subst hP
        simp only [coreB, TrsA.ps, TrsA.zs, List.length_map, HN.out, HM.out])
      rw [HLL.out] at HM1
      generalize L ++ [u8 (m : Int)] = P at hLM HM1 ⊢
      go_loopw [3, 6] (fun s i wr => SlRel P (ss.map FlA.z) m w s i wr) (fun _ i _ => m - (intOf i).toNat)
      case atStart => exact ⟨0, Nat.zero_le _, rfl, by simp [slotsB], B1.out⟩
      case round =>
        obtain ⟨i, hi, rfl, rfl, hb⟩ := hrel
        have HB2 := Lib.hid hb
        have hi0 : (0 : Int) ≤ (i : Int) := by omega
        obtain ⟨p0, p1, p2, p3, p4, p5⟩ := tbt5 (KK.out.below hb)
        clear hb
        have hPL : (P ++ slotsB (ss.map FlA.z) i).length ≤ 20001 := by
          have h1 := slotsB_len (HSL.out) i
          rw [List.length_append]
          omega
        by_cases hlt : i < m
        · have hlt' : (i : Int) < (m : Int) := by omega
          obtain ⟨b9, off, z, a, c9, rfl, hbk, hx, qq, f⟩ := (A2.out.kept HB2.out).one hlt
          have hzx : (ss.map FlA.z)[i]? = some z := by rw [List.getElem?_map, hx]; rfl
          have hz := HSL.out _ (List.mem_of_getElem? hzx)
          have HS := Lib.hid (show P ++ slotsB (ss.map FlA.z) (i + 1) = (P ++ slotsB (ss.map FlA.z) i) ++ nb z by rw [slotsB_succ hzx, List.append_assoc])
          obtain ⟨X, hX⟩ : ∃ X, P ++ slotsB (ss.map FlA.z) i = X := ⟨_, rfl⟩
          rw [hX] at HS hPL ⊢
          have HF := Lib.hid (c_l08Bytes a c9 z wr f (by omega))
          have t1 : ¬ 9223372036854775807 < X.length + 4 * z.length := by omega
          clear hx hzx f hX
          go_wp2_with fail
          refine HF.out.mono ?_
          rintro e w2 ⟨rfl, bl⟩
          have HB3 := Lib.hid (Below.next HB2.out bl)
          clear bl p0 p1 p2 p3 p4 p5 qq
          go_wp2_with fail
          go_roundw
          case rel => exact ⟨i + 1, hlt, by go_num, by rw [HS.out, ← ba_append], HB3.out⟩
          case measure => simp [intOf]; omega
        · obtain rfl : i = m := by omega
          have hend : (endB ⟨g, c, ls, g', c', ss, st, sd, sc⟩).length ≤ 100 := by simp only [endB, List.length_append, wb_length, nb_length, List.length_cons, List.length_nil]; omega
          have HCO := Lib.hid (HM1.out _ rfl)
          obtain ⟨E, hE⟩ : ∃ E, endB ⟨g, c, ls, g', c', ss, st, sd, sc⟩ = E := ⟨_, rfl⟩
          rw [hE] at HE hend HCO
          obtain ⟨X, hX⟩ : ∃ X, P ++ slotsB (ss.map FlA.z) i = X := ⟨_, rfl⟩
          rw [hX] at HCO hPL ⊢
          have HST := Lib.hid (show storeB ⟨g, c, ls, g', c', ss, st, sd, sc⟩ = (X ++ E) ++ wb (checkN (X ++ E)) 4 by unfold storeB; rw [HCO.out])
          have t1 : ¬ 9223372036854775807 < X.length + E.length := by omega
          clear hE hX
          go_wp2_with fail
          clear p0 p1 p2 p3 p4 p5
          refine (HE.out _ HB2.out).mono ?_
          rintro e w2 ⟨rfl, bl⟩
          have HB3 := Lib.hid (Below.next HB2.out bl)
          clear bl
          go_wp2_with fail
          rw [ba_append]
          have hxe : (X ++ E).length ≤ 20200 := by rw [List.length_append]; omega
          clear t1
          generalize X ++ E = Y at hxe HST ⊢
          have t2 : ¬ 9223372036854775807 < Y.length + 4 := by omega
          have hcn : checkN Y < 4294967296 := xor_lt32 (crcOf_lt Y) (by decide)
          refine (c_l08Check ⟨Y.toArray⟩ (by rw [size_mk]; unfold maxLen; omega) _).mono ?_
          rintro e w3 ⟨rfl, rfl⟩
          rw [show vCheck (⟨Y.toArray⟩ : ByteArray).data.toList = ((checkN Y : Nat) : Int) from rfl]
          go_wp2_with fail
          refine (c_l08Word (checkN Y) 4 (by omega) (by omega) _).mono ?_
          rintro e w4 ⟨rfl, bl⟩
          have HB4 := Lib.hid (Below.next HB3.out bl)
          clear bl
          go_wp2_with fail
          go_ret
          exact ⟨ret_str ((ba_append Y (wb (checkN Y) 4)).trans (by rw [HST.out])), HB4.out⟩
end Go.Proofs.YtpobdigmjfapbaaDoor
