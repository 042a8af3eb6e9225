/-
  StoreTraining and StoredSize: the model and the program. Conditions: the state can be read.
-/
import Derived.Test.YtpobdigmjfapbaaDoorStw
import Derived.Test.YtpobdigmjfapbaaDoorNby
import Derived.Test.YtpobdigmjfapbaaDoorChp
namespace Go.Proofs.YtpobdigmjfapbaaDoor
open Go.RowKit Go.Deep Go.WideShapes Go.ChangeShapes
set_option linter.unusedVariables false
attribute [local go_sem] World.drewN_zero
attribute [local go_sem] size_mk wb_length nb_length

theorem LaysAt.fl {w : World} {g : Option Addr} {n cap : Nat} {ls : List LayA} (h : LaysAt w g n cap ls) {i : Nat} (hi : i < n) {k ii o : Int} {ws bs : List Nat} {a0 a1 : Option Addr} {c0 c1 : Nat} (hx : ls[i]? = some ⟨⟨k, ii, o, ws, bs⟩, a0, c0, a1, c1⟩) : IsFloats .f32 w a0 ws.length c0 ws ∧ IsFloats .f32 w a1 bs.length c1 bs := by
  obtain ⟨_, _, _, _, _, _, _, _, _, _, _, _, _, hx', _, _, _, _, _, f0, f1⟩ := h.one hi
  rw [hx] at hx'
  cases hx'
  exact ⟨f0, f1⟩
theorem SSAt.fl {w : World} {g : Option Addr} {n cap : Nat} {ls : List FlA} (h : SSAt w g n cap ls) {i : Nat} (hi : i < n) {z : List Nat} {a : Option Addr} {c : Nat} (hx : ls[i]? = some ⟨z, a, c⟩) : IsFloats .f32 w a z.length c z := by
  obtain ⟨_, _, _, _, _, _, _, hx', _, f⟩ := h.one hi
  rw [hx] at hx'
  cases hx'
  exact f
def vStoreTraining (q : TrsA) : ByteArray × Bool := if stbB q = true then (⟨(storeB q).toArray⟩, true) else (⟨#[]⟩, false)
def WlRel (ps : List LayP) (n : Nat) (w : World) (B b : Nat) (iv : Value) (wr : World) : Prop := ∃ k : Nat, k ≤ n ∧ iv = .int .i64 k ∧ IsW wr B b (headB ps ++ laysB ps k) ∧ Below B w wr
def WsRel (P : List UInt8) (zs : List (List Nat)) (n : Nat) (w : World) (B b : Nat) (iv : Value) (wr : World) : Prop := ∃ k : Nat, k ≤ n ∧ iv = .int .i64 k ∧ IsW wr B b (P ++ slotsB zs k) ∧ Below B w wr
set_option maxRecDepth 20000 in
set_option maxHeartbeats 4000000 in
theorem t_iStoreTraining (q : TrsA) (w : World) (h : TrsAt w q) : Calls Tryd.prog 29 #[.agg q.cells] w (RetY (vStoreTraining q).1 (vStoreTraining q).2 w) := by
  have HST := Lib.hid (fun W (hb : Below w.heap.size w W) => t_iIsStorable q W (h.kept hb))
  unfold vStoreTraining
  cases hs : stbB q with
  | false =>
    rw [if_neg (by decide)]
    rw [hs] at HST
    obtain ⟨g, c, ls, g', c', ss, st, sd, sc⟩ := q
    unfold TrsA.cells at *
    simp only at HST ⊢
    have K := Lib.hid (Blk.new w 51 #[.slice g ls.length c, .slice g' ss.length c', .int .i64 st, .int .i64 sd, .float .f32 sc])
    have B := Lib.hid ((Below.refl w.heap.size w).alloc (Nat.le_refl _) (.cells #[.slice g ls.length c, .slice g' ss.length c', .int .i64 st, .int .i64 sd, .float .f32 sc] 51))
    clear h hs
    go_enter Tryd.func29, Tryd.ntmps29
    go_wp2_with fail
    refine (HST.out _ B.out).mono ?_
    rintro e w2 ⟨rfl, hb⟩
    have B2 := Lib.hid (Below.next B.out hb)
    clear hb
    go_wp2_with fail
    go_ret2
    exact ⟨rfl, B2.out⟩
  | true =>
    rw [if_pos rfl]
    have HEN := Lib.hid (fun B b l W (hi : IsW W B b l) hB hl => c_ending q hs h.2.2 B b l W hi hB hl)
    rw [hs] at HST
    obtain ⟨b1, b2, b3, b4, b5⟩ := stb_bounds hs
    have HVL := Lib.hid (vMod_all (stbB_parts hs).1)
    have HSL := Lib.hid (show ∀ z ∈ q.ss.map FlA.z, z.length ≤ 432 from fun z hz => by
      obtain ⟨x, hx, rfl⟩ := List.mem_map.1 hz
      have := (stbB_parts hs).2.2 x hx
      omega)
    have HSB := Lib.hid (show ∀ X, (((headB q.ps ++ laysB q.ps q.ls.length) ++ wb q.ss.length 1) ++ slotsB q.zs q.ss.length) = X → storeB q = (X ++ endB q) ++ wb (checkN (X ++ endB q)) 4 from fun X hX => by
      subst hX
      simp only [storeB, coreB, TrsA.ps, TrsA.zs, List.length_map, wb_one])
    obtain ⟨g, c, ls, g', c', ss, st, sd, sc⟩ := q
    simp only [TrsAt] at h
    obtain ⟨a1, a2, a3⟩ := h
    unfold TrsA.cells at *
    simp only [TrsA.ps, TrsA.zs] at HST HEN HVL HSL HSB b1 b2 b3 b4 b5 ⊢
    obtain ⟨n, hn⟩ : ∃ n, ls.length = n := ⟨_, rfl⟩
    obtain ⟨m, hm⟩ : ∃ m, ss.length = m := ⟨_, rfl⟩
    rw [hn, hm] at HST HEN HSB
    rw [hn, hm]
    rw [hn] at a1 b1
    rw [hm] at a2 b3
    have A1 := Lib.hid a1
    have A2 := Lib.hid a2
    have hn6 : (n : Int) ≤ 6 := by omega
    have hm4 : (m : Int) ≤ 4 := by omega
    have K := Lib.hid (Blk.new w 51 #[.slice g n c, .slice g' m c', .int .i64 st, .int .i64 sd, .float .f32 sc])
    have B := Lib.hid ((Below.refl w.heap.size w).alloc (Nat.le_refl _) (.cells #[.slice g n c, .slice g' m c', .int .i64 st, .int .i64 sd, .float .f32 sc] 51))
    have HN := Lib.hid hn
    clear a1 a2 a3 b1 b2 b3 b4 b5 hs hn hm
    go_enter Tryd.func29, Tryd.ntmps29
    go_wp2_with fail
    refine (HST.out _ B.out).mono ?_
    rintro e w2 ⟨rfl, hb⟩
    have B2 := Lib.hid (Below.next B.out hb)
    have K2 := Lib.hid (K.out.below hb)
    have I0 := Lib.hid (isW_new w2)
    have al := (Below.refl w2.heap.size w2).alloc (Nat.le_refl _) (.cells #[.slice none 0 0, .int .i64 0, .int .i8 0] 75)
    have B0 := Lib.hid al
    have HW0 := Lib.hid (c_WriteString w2.heap.size w2.heap.size [] [78, 78, 84, 49] _ I0.out al.size (by simp))
    clear hb al
    go_wp2_with fail
    refine HW0.out.mono ?_
    rintro e w3 ⟨rfl, hi, hb, _⟩
    have I3 := Lib.hid hi
    have B3 := Lib.hid (B0.out.trans hb)
    have K3 := Lib.hid (K2.out.below B3.out)
    clear hi hb
    obtain ⟨p0, p1, p2, p3, p4, p5⟩ := tbt5 K3.out
    go_wp2_with fail
    clear p0 p1 p2 p3 p4 p5
    refine (c_integer n 1 (by omega) (by omega) w2.heap.size w2.heap.size _ w3 I3.out B3.out.size (by simp)).mono ?_
    rintro e w4 ⟨rfl, hi, hb, _⟩
    have I4 := Lib.hid (show IsW w4 w2.heap.size w2.heap.size (headB (ls.map LayA.p) ++ laysB (ls.map LayA.p) 0) by simpa [headB, laysB, wb_one, HN.out] using hi)
    have B4 := Lib.hid (B3.out.trans hb)
    have K4 := Lib.hid (K2.out.below B4.out)
    clear hi hb
    obtain ⟨p0, p1, p2, p3, p4, p5⟩ := tbt5 K4.out
    go_wp2_with fail
    clear p0 p1 p2 p3 p4 p5
    go_loopw [23] (fun iv wr => WlRel (ls.map LayA.p) n w2 w2.heap.size w2.heap.size iv wr) (fun iv _ => n - (intOf iv).toNat)
    case atStart => exact ⟨0, Nat.zero_le _, rfl, I4.out, B4.out⟩
    case round =>
      obtain ⟨j, hj, rfl, hi, hb⟩ := hrel
      have HI := Lib.hid hi
      have HB := Lib.hid hb
      have hj0 : (0 : Int) ≤ (j : Int) := by omega
      have HLL := Lib.hid (show (headB (ls.map LayA.p) ++ laysB (ls.map LayA.p) j).length ≤ 10000 by
        have h1 := laysB_len (fun p hp => vOne_n (HVL.out p hp)) j
        rw [List.length_append, headB_len]
        omega)
      clear hi hb
      by_cases hlt : j < n
      · have hlt' : (j : Int) < (n : Int) := by omega
        have BB := Lib.hid (Below.next B2.out HB.out)
        obtain ⟨lb, off, kk, ii, oo, ws, bs, a0, c0, a1, c1, rfl, hbk, hx, r0, r1, r2, r3, r4, g0, g1⟩ := (A1.out.kept BB.out).one hlt
        have hpx : (ls.map LayA.p)[j]? = some ⟨kk, ii, oo, ws, bs⟩ := by rw [List.getElem?_map, hx]; rfl
        have hv := HVL.out _ (List.mem_of_getElem? hpx)
        have hnn := vOne_n hv
        unfold vOne at hv
        rw [vLay_iff] at hv
        dsimp only at hv
        obtain ⟨⟨v1, v2⟩, ⟨v3, v4⟩, ⟨v5, v6⟩, _, _, _⟩ := hv
        obtain ⟨k1, rfl⟩ : ∃ x : Nat, kk = x := ⟨kk.toNat, by omega⟩
        obtain ⟨i1, rfl⟩ : ∃ x : Nat, ii = x := ⟨ii.toNat, by omega⟩
        obtain ⟨o1, rfl⟩ : ∃ x : Nat, oo = x := ⟨oo.toNat, by omega⟩
        have HS := Lib.hid (show headB (ls.map LayA.p) ++ laysB (ls.map LayA.p) (j + 1) = (headB (ls.map LayA.p) ++ laysB (ls.map LayA.p) j) ++ layB ⟨k1, i1, o1, ws, bs⟩ by rw [laysB_succ hpx, List.append_assoc])
        have hws : ws.length ≤ 72 := by have : ws.length + bs.length ≤ 72 := hnn; omega
        have hbs : bs.length ≤ 72 := by have : ws.length + bs.length ≤ 72 := hnn; omega
        obtain ⟨L, hL⟩ : ∃ L, headB (ls.map LayA.p) ++ laysB (ls.map LayA.p) j = L := ⟨_, rfl⟩
        rw [hL] at HS HI HLL
        have HF := Lib.hid (fun W (hb : Below w2.heap.size w2 W) => ((A1.out.kept (Below.next B2.out hb)).fl hlt hx))
        have al := (Below.refl wr.heap.size wr).alloc (Nat.le_refl _) (.cells #[.int .i64 (k1 : Int), .int .i64 (i1 : Int), .int .i64 (o1 : Int), .slice a0 ws.length c0, .slice a1 bs.length c1] 105)
        have I1 := Lib.hid (HI.out.old al)
        have B1 := Lib.hid (HB.out.trans (al.mono HB.out.size))
        have HW := Lib.hid (c_wLayer k1 i1 o1 a0 a1 c0 c1 ws bs (by omega) (by omega) (by omega) w2.heap.size w2.heap.size L _ (fun W hb => (HF.out W (B1.out.trans hb)).1) (fun W hb => (HF.out W (B1.out.trans hb)).2) hws hbs I1.out B1.out.size (by have := HLL.out; omega))
        clear hx hpx hnn g0 g1 hL v1 v3 v5 al
        go_wp2_with fail
        refine HW.out.mono ?_
        rintro e w5 ⟨rfl, hi, hb⟩
        have I5 := Lib.hid hi
        have B5 := Lib.hid (B1.out.trans hb)
        clear hi hb r0 r1 r2 r3 r4
        go_wp2_with fail
        go_roundw
        case rel => exact ⟨j + 1, hlt, by go_num, by rw [HS.out]; exact I5.out, B5.out⟩
        case measure => simp [intOf]; omega
      · obtain rfl : j = n := by omega
        obtain ⟨L, hL⟩ : ∃ L, headB (ls.map LayA.p) ++ laysB (ls.map LayA.p) j = L := ⟨_, rfl⟩
        rw [hL] at HI HLL HSB
        have K5 := Lib.hid (K2.out.below HB.out)
        have HW := Lib.hid (c_integer m 1 (by omega) (by omega) w2.heap.size w2.heap.size L wr HI.out HB.out.size (by have := HLL.out; omega))
        clear hL
        obtain ⟨p0, p1, p2, p3, p4, p5⟩ := tbt5 K5.out
        go_wp2_with fail
        clear p0 p1 p2 p3 p4 p5
        refine HW.out.mono ?_
        rintro e w5 ⟨rfl, hi, hb, _⟩
        have hP5 : (L ++ wb m 1).length ≤ 10001 := by have := HLL.out; rw [List.length_append, wb_length]; omega
        obtain ⟨P, hP⟩ : ∃ P, L ++ wb m 1 = P := ⟨_, rfl⟩
        rw [hP] at hi hP5 HSB
        have HPL := Lib.hid hP5
        have I5 := Lib.hid (show IsW w5 w2.heap.size w2.heap.size (P ++ slotsB (ss.map FlA.z) 0) by simpa [slotsB] using hi)
        have B5 := Lib.hid (HB.out.trans hb)
        have K6 := Lib.hid (K2.out.below B5.out)
        clear hi hb hP hP5
        obtain ⟨p0, p1, p2, p3, p4, p5⟩ := tbt5 K6.out
        go_wp2_with fail
        clear p0 p1 p2 p3 p4 p5
        go_loopw [37] (fun iv wr => WsRel P (ss.map FlA.z) m w2 w2.heap.size w2.heap.size iv wr) (fun iv _ => m - (intOf iv).toNat)
        case atStart => exact ⟨0, Nat.zero_le _, rfl, I5.out, B5.out⟩
        case round =>
          obtain ⟨i, hi9, rfl, hi, hb⟩ := hrel
          have HI6 := Lib.hid hi
          have HB6 := Lib.hid hb
          have hi0 : (0 : Int) ≤ (i : Int) := by omega
          have HXL := Lib.hid (show (P ++ slotsB (ss.map FlA.z) i).length ≤ 20001 by
            have h1 := slotsB_len (HSL.out) i
            have h2 := HPL.out
            rw [List.length_append]
            omega)
          clear hi hb
          by_cases hlt : i < m
          · have hlt' : (i : Int) < (m : Int) := by omega
            have BB := Lib.hid (Below.next B2.out HB6.out)
            obtain ⟨b9, off, z, a, c9, rfl, hbk, hx, qq, f⟩ := (A2.out.kept BB.out).one hlt
            have hzx : (ss.map FlA.z)[i]? = some z := by rw [List.getElem?_map, hx]; rfl
            have hz := HSL.out _ (List.mem_of_getElem? hzx)
            have HS := Lib.hid (show P ++ slotsB (ss.map FlA.z) (i + 1) = (P ++ slotsB (ss.map FlA.z) i) ++ nb z by rw [slotsB_succ hzx, List.append_assoc])
            obtain ⟨X, hX⟩ : ∃ X, P ++ slotsB (ss.map FlA.z) i = X := ⟨_, rfl⟩
            rw [hX] at HS HXL HI6
            have HF := Lib.hid (fun W (hb : Below w2.heap.size w2 W) => ((A2.out.kept (Below.next B2.out hb)).fl hlt hx))
            have HW := Lib.hid (c_wNumbers a c9 z w2.heap.size w2.heap.size X wr (fun W hb _ => HF.out W (HB6.out.trans hb)) (by omega) HI6.out HB6.out.size (by have := HXL.out; omega))
            clear hx hzx f hX
            go_wp2_with fail
            refine HW.out.mono ?_
            rintro e w7 ⟨rfl, hi, hb, _⟩
            have I7 := Lib.hid hi
            have B7 := Lib.hid (HB6.out.trans hb)
            clear hi hb qq
            go_wp2_with fail
            go_roundw
            case rel => exact ⟨i + 1, hlt, by go_num, by rw [HS.out]; exact I7.out, B7.out⟩
            case measure => simp [intOf]; omega
          · obtain rfl : i = m := by omega
            have HXS := HSB.out _ rfl
            have HW0 := HEN.out w2.heap.size w2.heap.size _ wr HI6.out HB6.out.size (by have := HXL.out; omega)
            rw [← HXS] at HW0
            have HW := Lib.hid HW0
            clear HXS HW0
            have K7 := Lib.hid (K2.out.below HB6.out)
            obtain ⟨p0, p1, p2, p3, p4, p5⟩ := tbt5 K7.out
            go_wp2_with fail
            clear p0 p1 p2 p3 p4 p5
            refine HW.out.mono ?_
            rintro e w7 ⟨rfl, hb⟩
            have B7 := Lib.hid (Below.next B2.out (HB6.out.trans hb))
            clear hb
            go_wp2_with fail
            go_ret2
            exact ⟨rfl, B7.out⟩

theorem storeB_le {q : TrsA} (hs : stbB q = true) : (storeB q).length ≤ 30000 := by
  obtain ⟨b1, b2, b3, b4, b5⟩ := stb_bounds hs
  have HVL := vMod_all (stbB_parts hs).1
  have h1 := laysB_len (fun p hp => vOne_n (HVL p hp)) q.ps.length
  have h2 := slotsB_len (zs := q.zs) (fun z hz => by
    obtain ⟨x, hx, rfl⟩ := List.mem_map.1 hz
    have := (stbB_parts hs).2.2 x hx
    omega) q.zs.length
  have h3 : q.zs.length = q.ss.length := by simp [TrsA.zs]
  have h4 : q.ps.length = q.ls.length := by simp [TrsA.ps]
  simp only [storeB, coreB, endB, List.length_append, wb_length, nb_length, headB_len, List.length_cons, List.length_nil]
  omega
def vStoredSize (q : TrsA) : Int × Bool := if stbB q = true then (((storeB q).length : Nat), true) else (0, false)
theorem t_sStoreTraining (q : TrsA) (w : World) (h : TrsAt w q) : Calls Tryd.prog 28 #[.agg q.cells] w (RetY (vStoreTraining q).1 (vStoreTraining q).2 w) := by
  have HC := Lib.hid (fun gt W (hb : Below w.heap.size w W) K => c_l08Is gt q W (h.kept hb) K)
  have HD := Lib.hid (fun gt W (hb : Below w.heap.size w W) K hs => c_l08Store gt q W (h.kept hb) K hs)
  unfold vStoreTraining
  obtain ⟨s, hs⟩ : ∃ s, stbB q = s := ⟨_, rfl⟩
  have HS := Lib.hid hs
  rw [hs] at HC ⊢
  obtain ⟨g, c, ls, g', c', ss, st, sd, sc⟩ := q
  unfold TrsA.cells at *
  simp only at HC HD ⊢
  have K := Lib.hid (Blk.new w 51 #[.slice g ls.length c, .slice g' ss.length c', .int .i64 st, .int .i64 sd, .float .f32 sc])
  have B := Lib.hid ((Below.refl w.heap.size w).alloc (Nat.le_refl _) (.cells #[.slice g ls.length c, .slice g' ss.length c', .int .i64 st, .int .i64 sd, .float .f32 sc] 51))
  clear h hs
  cases s with
  | false =>
    rw [if_neg (by decide)]
    go_enter Tryd.func28, Tryd.ntmps28
    go_wp2_with fail
    refine (HC.out _ _ B.out K.out).mono ?_
    rintro e w2 ⟨rfl, hb⟩
    have B2 := Lib.hid (Below.next B.out hb)
    clear hb
    go_wp2_with fail
    go_ret2
    exact ⟨rfl, B2.out⟩
  | true =>
    rw [if_pos rfl]
    go_enter Tryd.func28, Tryd.ntmps28
    go_wp2_with fail
    refine (HC.out _ _ B.out K.out).mono ?_
    rintro e w2 ⟨rfl, hb⟩
    have B2 := Lib.hid (Below.next B.out hb)
    have K2 := Lib.hid (K.out.below hb)
    clear hb
    go_wp2_with fail
    refine (HD.out _ _ B2.out K2.out HS.out).mono ?_
    rintro e w3 ⟨rfl, hb⟩
    have B3 := Lib.hid (Below.next B2.out hb)
    clear hb
    go_wp2_with fail
    go_ret2
    exact ⟨rfl, B3.out⟩
theorem t_sStoredSize (q : TrsA) (w : World) (h : TrsAt w q) : Calls Tryd.prog 24 #[.agg q.cells] w (RetN (vStoredSize q).1 (vStoredSize q).2 w) := by
  have HC := Lib.hid (fun gt W (hb : Below w.heap.size w W) K => c_l08Is gt q W (h.kept hb) K)
  have HD := Lib.hid (fun gt W (hb : Below w.heap.size w W) K hs => c_l08Store gt q W (h.kept hb) K hs)
  have HLE := Lib.hid (@storeB_le q)
  unfold vStoredSize
  obtain ⟨s, hs⟩ : ∃ s, stbB q = s := ⟨_, rfl⟩
  have HS := Lib.hid hs
  rw [hs] at HC ⊢
  obtain ⟨g, c, ls, g', c', ss, st, sd, sc⟩ := q
  unfold TrsA.cells at *
  simp only at HC HD ⊢
  have K := Lib.hid (Blk.new w 51 #[.slice g ls.length c, .slice g' ss.length c', .int .i64 st, .int .i64 sd, .float .f32 sc])
  have B := Lib.hid ((Below.refl w.heap.size w).alloc (Nat.le_refl _) (.cells #[.slice g ls.length c, .slice g' ss.length c', .int .i64 st, .int .i64 sd, .float .f32 sc] 51))
  clear h hs
  cases s with
  | false =>
    rw [if_neg (by decide)]
    go_enter Tryd.func24, Tryd.ntmps24
    go_wp2_with fail
    refine (HC.out _ _ B.out K.out).mono ?_
    rintro e w2 ⟨rfl, hb⟩
    have B2 := Lib.hid (Below.next B.out hb)
    clear hb
    go_wp2_with fail
    go_ret2
    exact ⟨rfl, B2.out⟩
  | true =>
    rw [if_pos rfl]
    have hle := HLE.out HS.out
    generalize storeB ⟨g, c, ls, g', c', ss, st, sd, sc⟩ = X at HD hle ⊢
    have t1 : ¬ 9223372036854775807 < X.length := by omega
    go_enter Tryd.func24, Tryd.ntmps24
    go_wp2_with fail
    refine (HC.out _ _ B.out K.out).mono ?_
    rintro e w2 ⟨rfl, hb⟩
    have B2 := Lib.hid (Below.next B.out hb)
    have K2 := Lib.hid (K.out.below hb)
    clear hb
    go_wp2_with fail
    refine (HD.out _ _ B2.out K2.out HS.out).mono ?_
    rintro e w3 ⟨rfl, hb⟩
    have B3 := Lib.hid (Below.next B2.out hb)
    clear hb
    go_wp2_with fail
    go_ret2
    exact ⟨rfl, B3.out⟩
theorem t_iStoredSize (q : TrsA) (w : World) (h : TrsAt w q) : Calls Tryd.prog 26 #[.agg q.cells] w (RetN (vStoredSize q).1 (vStoredSize q).2 w) := by
  have HC := Lib.hid (fun W (hb : Below w.heap.size w W) => t_iStoreTraining q W (h.kept hb))
  have HV := Lib.hid (show vStoredSize q = ((((vStoreTraining q).1.size : Nat) : Int), (vStoreTraining q).2) by
    unfold vStoredSize vStoreTraining
    split
    · rw [size_mk]
    · rfl)
  have hle : (vStoreTraining q).1.size ≤ 30000 := by
    unfold vStoreTraining
    split
    · rename_i hs
      rw [size_mk]
      exact storeB_le hs
    · exact Nat.zero_le _
  rw [HV.out]
  obtain ⟨X, hX⟩ : ∃ X, (vStoreTraining q).1 = X := ⟨_, rfl⟩
  obtain ⟨b, hb⟩ : ∃ b, (vStoreTraining q).2 = b := ⟨_, rfl⟩
  rw [hX, hb] at HC
  rw [hX] at hle
  rw [hX, hb]
  obtain ⟨g, c, ls, g', c', ss, st, sd, sc⟩ := q
  unfold TrsA.cells at *
  simp only at HC ⊢
  have K := Lib.hid (Blk.new w 51 #[.slice g ls.length c, .slice g' ss.length c', .int .i64 st, .int .i64 sd, .float .f32 sc])
  have B := Lib.hid ((Below.refl w.heap.size w).alloc (Nat.le_refl _) (.cells #[.slice g ls.length c, .slice g' ss.length c', .int .i64 st, .int .i64 sd, .float .f32 sc] 51))
  have t1 : ¬ 9223372036854775807 < X.size := by omega
  clear h hX hb HV
  go_enter Tryd.func26, Tryd.ntmps26
  go_wp2_with fail
  refine (HC.out _ B.out).mono ?_
  rintro e w2 ⟨rfl, hb⟩
  have B2 := Lib.hid (Below.next B.out hb)
  clear hb
  go_wp2_with fail
  go_ret2
  exact ⟨rfl, B2.out⟩
end Go.Proofs.YtpobdigmjfapbaaDoor
