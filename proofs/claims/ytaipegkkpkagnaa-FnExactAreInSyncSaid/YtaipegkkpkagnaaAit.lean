/-
  AreInSync: what the model and the program answer. Conditions: the cells can be read.
-/
import Derived.Test.YtaipegkkpkagnaaAis
import Derived.Test.YtaipegkkpkagnaaFun
import Derived.Laws.Rows
namespace Go.Proofs.Ytaipegkkpkagnaa
open Go.RowKit Go.Deep Go.WideShapes Go.ChangeShapes
set_option linter.unusedVariables false
set_option linter.unusedSimpArgs false

theorem off_step {b : Bool} {A B : Prop} (h : b = false) (k : B) : if b = true then A else B := by rw [if_neg (by simp [h])]; exact k
theorem yields_row1 {P : Program} {ops : Array Oper} {S : World → Prop} {o : Oper} {a : Act} (hgd : o.guard = none) (ty : TypeId) (x : Operand) (ho : o.op = .load ty x) (g : Nat) (hx : a.eval x = .pointer (some ⟨g, 0, none⟩)) (t : TypeId) (cs : Array Value) (d : TypeDesc)
    (hg : ∀ w, S w → w.heap[g]? = some (.cells cs t (0, 0))) (hu : P.underlying ty = some d) (hd : (match d with | .struct _ | .array _ _ => true | _ => false) = true) (hi : (P.info? ty).map (·.size) = some cs.size) : YieldsIf P ops S o (.agg cs) a := by
  refine .inl ⟨by simp [Region.wanted, hgd], fun w hw => ?_⟩
  unfold execOp
  simp only [ho, hx, Instr.loadAt, Instr.sureAddr, Sem.run_bind, Sem.run_pure, Result.andThen_ok, run_loadVar_row w g t ty cs (0, 0) d (hg w hw) hu hd hi]
theorem all_P (f : List LayP → Bool) (ls : List ModA) : (ls.map ModA.P).all f = ls.all fun x => f x.P := by rw [List.all_map]; rfl
theorem sync_len (ms : List (List LayP)) (h : ¬ (1 ≤ ms.length ∧ ms.length ≤ 8)) : vAreInSync ms = false := by
  unfold vAreInSync
  cases hb : (decide (1 ≤ ms.length) && decide (ms.length ≤ 8)) with
  | false => rfl
  | true => simp only [Bool.and_eq_true, decide_eq_true_eq] at hb; exact absurd hb h
theorem sync_in (ms : List (List LayP)) (h1 : 1 ≤ ms.length) (h2 : ms.length ≤ 8) : vAreInSync ms = ms.all (syncOne (ms.getD 0 [])) := by
  unfold vAreInSync
  rw [decide_eq_true h1, decide_eq_true h2]
  rfl
theorem first_P {ls : List ModA} {x : ModA} (h : ls[0]? = some x) : (ls.map ModA.P).getD 0 [] = x.P := by
  cases ls with
  | nil => simp at h
  | cons y ys =>
    simp only [List.getElem?_cons_zero, Option.some.injEq] at h
    subst h
    rfl
def SyRel (ls : List ModA) (m0 : List LayP) (w : World) (i : Value) (wr : World) : Prop := ∃ k : Nat, k ≤ ls.length ∧ i = .int .i64 k ∧ (ls.take k).all (fun x => syncOne m0 x.P) = true ∧ Below w.heap.size w wr
theorem sy_next {m0 : List LayP} {ls : List ModA} {k : Nat} {x : ModA} (h : (ls.take k).all (fun x => syncOne m0 x.P) = true) (hx : ls[k]? = some x) (hg : syncOne m0 x.P = true) : (ls.take (k + 1)).all (fun x => syncOne m0 x.P) = true := by
  rw [List.take_add_one, hx, List.all_append, h]
  simp [hg]
theorem sy_no {m0 : List LayP} {ls : List ModA} {k : Nat} {x : ModA} (hx : ls[k]? = some x) (hg : syncOne m0 x.P = false) : (ls.all fun x => syncOne m0 x.P) = false := by
  rw [List.all_eq_false]
  exact ⟨x, List.mem_of_getElem? hx, by simp [hg]⟩
theorem sy_first {m0 : List LayP} {ls : List ModA} {k : Nat} {x0 x : ModA} (h : (ls.take k).all (fun x => syncOne m0 x.P) = true) (h0 : ls[0]? = some x0) (hx : ls[k]? = some x) (hv : vMod x.P = true) : vMod x0.P = true := by
  cases k with
  | zero => rw [h0] at hx; cases hx; exact hv
  | succ k =>
    have hm : x0 ∈ ls.take (k + 1) := by
      cases ls with
      | nil => simp at h0
      | cons y ys => simp only [List.getElem?_cons_zero, Option.some.injEq] at h0; subst h0; simp
    have h1 := List.all_eq_true.1 h x0 hm
    simp only [syncOne, Bool.and_eq_true] at h1
    exact h1.1
set_option maxRecDepth 100000 in
set_option maxHeartbeats 4000000 in
theorem t_sAreInSync (g : Option Addr) (c : Nat) (ls : List ModA) (w : World) (h : MdsAt w g ls.length c ls) : Calls Try.prog 27 #[.slice g ls.length c] w (RetB (vAreInSync (ls.map ModA.P)) w) := by
  obtain ⟨n, hn⟩ : ∃ n, ls.length = n := ⟨_, rfl⟩
  have hmax : n ≤ 9223372036854775807 := by have h1 := h.2.1; have h2 := h.2.2.1; unfold maxLen at h2; omega
  have H := Lib.hid h
  have HN := Lib.hid hn
  rw [hn]
  by_cases hr : 1 ≤ n ∧ n ≤ 8
  case neg =>
    rw [sync_len _ (by rw [List.length_map, hn]; exact hr)]
    have HI := Lib.hid (c_l00In (n : Int) 1 8 false (by
      cases hb : (decide ((1 : Int) ≤ (n : Int)) && decide ((n : Int) ≤ 8)) with
      | false => rfl
      | true => simp only [Bool.and_eq_true, decide_eq_true_eq] at hb; exact absurd ⟨by omega, by omega⟩ hr))
    clear h hn hr
    go_enter Try.func27, Try.ntmps27
    go_wp2_with fail
    refine (HI.out _).mono ?_
    rintro e w2 ⟨rfl, rfl⟩
    go_wp2_with fail
    go_ret
    exact ⟨rfl, Below.refl _ _⟩
  case pos =>
  rw [sync_in _ (by rw [List.length_map, hn]; exact hr.1) (by rw [List.length_map, hn]; exact hr.2), all_P]
  obtain ⟨m0, hm0⟩ : ∃ m, (ls.map ModA.P).getD 0 [] = m := ⟨_, rfl⟩
  have HM0 := Lib.hid hm0
  rw [hm0]
  have HI := Lib.hid (c_l00In (n : Int) 1 8 true (by
    have h1 : (1 : Int) ≤ (n : Int) := by omega
    have h2 : (n : Int) ≤ 8 := by omega
    rw [decide_eq_true h1, decide_eq_true h2]; rfl))
  have HR := Lib.hid hr.1
  have hn8 : n ≤ 8 := hr.2
  clear h hn hr hm0
  go_enter Try.func27, Try.ntmps27
  go_wp2_with fail
  refine (HI.out _).mono ?_
  rintro e w2 ⟨rfl, rfl⟩
  go_wp2_with fail
  go_loopw [3] (fun iv wr => SyRel ls m0 w iv wr) (fun iv _ => n - (intOf iv).toNat)
  case atStart => exact ⟨0, Nat.zero_le _, rfl, by simp, Below.refl _ _⟩
  case round =>
    obtain ⟨k, hk, rfl, hz, hb⟩ := hrel
    have HZ := Lib.hid hz
    have HB := Lib.hid hb
    have hk0 : (0 : Int) ≤ (k : Int) := by omega
    rw [HN.out] at hk
    clear hz hb
    by_cases hlt : k < n
    · have hlt' : (k : Int) < (n : Int) := by omega
      have hn0 : (0 : Int) < (n : Int) := by omega
      have hn00 : 0 < n := by omega
      have hn01 : (0 : Int) ≤ 0 := by omega
      have hat := H.out.kept HB.out
      rw [HN.out] at hat
      obtain ⟨b, off, a0, c0, z0, hg0, hbk, hx0, q0, f0⟩ := hat.one (i := 0) (by omega)
      obtain ⟨b', off', a, c1, z, rfl, hbk', hx, q1, f1⟩ := hat.one hlt
      obtain ⟨rfl, rfl, _⟩ : b' = b ∧ off' = off ∧ True := by simp only [Option.some.injEq, Addr.mk.injEq] at hg0; exact ⟨hg0.1, hg0.2.1, trivial⟩
      rw [Nat.add_zero] at q0
      have HX := Lib.hid hx
      have HF := Lib.hid (show m0 = z0.map LayA.p by rw [← HM0.out, first_P hx0]; rfl)
      have HX0 := Lib.hid hx0
      obtain ⟨v, hv⟩ : ∃ v, vMod (z.map LayA.p) = v := ⟨_, rfl⟩
      have HIS := Lib.hid (fun (W : World) (hb : Below wr.heap.size wr W) => c_l03Is b' (off' + k) a c1 z.length z v hv W ((hb.cell hbk).trans q1) (f1.kept hb))
      cases v with
      | false =>
        have HNO := Lib.hid (sy_no (m0 := m0) HX.out (by show (vMod (z.map LayA.p) && _) = false; rw [hv]; rfl))
        have HIQ := Lib.hid (fun i => HIS.out (wr.drewN i) (below_drewN (Below.refl _ _) i))
        clear hat hx hx0 q0 q1 f0 f1 hg0 hv HIS
        go_wp2_with fail
        go_quiet ((go_at_call 84; exact quiet_drawn (HIQ.out _)))
        have HB2 := Lib.hid (Below.next HB.out (below_drewN (Below.refl wr.heap.size wr) nq))
        go_wp2_with fail
        go_ret
        exact ⟨ret_b HNO.out.symm, HB2.out⟩
      | true =>
        have hv0 : vMod (z0.map LayA.p) = true := sy_first HZ.out HX0.out HX.out hv
        obtain ⟨s, hs⟩ : ∃ s, sameP (z0.map LayA.p) (z.map LayA.p) = s := ⟨_, rfl⟩
        have HSM := Lib.hid (fun (W : World) (hb : Below wr.heap.size wr W) => c_l10Same b' off' b' (off' + k) a0 a c0 c1 z0 z W (Nat.lt_of_lt_of_le hbk hb.size) (Nat.lt_of_lt_of_le hbk hb.size) ((hb.cell hbk).trans q0) ((hb.cell hbk).trans q1) (f0.kept hb) (f1.kept hb) hv0 hv)
        rw [hs] at HSM
        have hso : syncOne m0 (ModA.P ⟨a, c1, z⟩) = s := by
          show (vMod (z.map LayA.p) && sameP (z.map LayA.p) m0) = s
          rw [hv, HF.out, sameP_comm, hs]; rfl
        cases s with
        | false =>
          have HNO := Lib.hid (sy_no (m0 := m0) HX.out hso)
          clear hat hx hx0 q0 q1 f0 f1 hg0 hv hv0 hs hso
          go_wp2_with fail
          first
            | (go_region_held3 (fun _ => True) (trivial)
               (first
                 | (go_at_call 84
                    refine (HIS.out _ ((Below.refl _ _).drew)).mono ?_
                    rintro e w2 ⟨rfl, dn⟩
                    have HB1 := Lib.hid (Below.next ((Below.refl wr.heap.size wr).drew) dn.below)
                    clear dn)
                 | (go_at_call 85
                    refine (HSM.out _ HB1.out).mono ?_
                    rintro e w3 ⟨rfl, bl⟩
                    have HB2 := Lib.hid (Below.next HB.out (Below.next HB1.out bl))
                    clear bl)))
            | fail
          all_goals
            go_wp2_with fail
            go_ret
            exact ⟨ret_b HNO.out.symm, HB2.out⟩
        | true =>
          have HNX := Lib.hid (sy_next HZ.out HX.out hso)
          clear hat hx hx0 q0 q1 f0 f1 hg0 hv hv0 hs hso
          go_wp2_with fail
          first
            | (go_region_held3 (fun _ => True) (trivial)
               (first
                 | (go_at_call 84
                    refine (HIS.out _ ((Below.refl _ _).drew)).mono ?_
                    rintro e w2 ⟨rfl, dn⟩
                    have HB1 := Lib.hid (Below.next ((Below.refl wr.heap.size wr).drew) dn.below)
                    clear dn)
                 | (go_at_call 85
                    refine (HSM.out _ HB1.out).mono ?_
                    rintro e w3 ⟨rfl, bl⟩
                    have HB2 := Lib.hid (Below.next HB.out (Below.next HB1.out bl))
                    clear bl)))
            | fail
          all_goals
            go_wp2_with fail
            go_roundw
            case rel => exact ⟨k + 1, by rw [HN.out]; omega, by go_num, HNX.out, HB2.out⟩
            case measure => simp [intOf]; omega
    · obtain rfl : k = n := by omega
      have HNN := Lib.hid (show (ls.all fun x => syncOne m0 x.P) = true by have h1 := HZ.out; rwa [List.take_of_length_le (by rw [HN.out]; exact Nat.le_refl _)] at h1)
      go_wp2_with fail
      go_ret
      exact ⟨ret_b HNN.out.symm, HB.out⟩
def AllMRel (p : List LayP → Bool) (ls : List ModA) (w : World) (i : Value) (wr : World) : Prop := ∃ k : Nat, k ≤ ls.length ∧ i = .int .i64 k ∧ (ls.take k).all (fun x => p x.P) = true ∧ Below w.heap.size w wr
theorem allM_next {p : List LayP → Bool} {ls : List ModA} {k : Nat} {x : ModA} (h : (ls.take k).all (fun x => p x.P) = true) (hx : ls[k]? = some x) (hg : p x.P = true) : (ls.take (k + 1)).all (fun x => p x.P) = true := by
  rw [List.take_add_one, hx, List.all_append, h]
  simp [hg]
theorem allM_no {p : List LayP → Bool} {ls : List ModA} {k : Nat} {x : ModA} (hx : ls[k]? = some x) (hg : p x.P = false) : ls.all (fun x => p x.P) = false := by
  rw [List.all_eq_false]
  exact ⟨x, List.mem_of_getElem? hx, by simp [hg]⟩
set_option maxHeartbeats 1000000 in
theorem c_indexM (F : FuncId) (caps : Array Value) (p : List LayP → Bool) (g : Option Addr) (n cap : Nat) (ls : List ModA) (w : World) (h : MdsAt w g n cap ls) (hE : ∀ (xs : Array Value) (wr : World), (callFunc F xs).run Try.prog wr = .ok (.enter F xs) wr)
    (hF : ∀ (a : Option Addr) (c : Nat) (z : List LayA) (wr : World), Below w.heap.size w wr → LaysAt w a z.length c z → Calls Try.prog F (#[.agg #[.slice a z.length c]] ++ caps) wr fun e w' => e = .returned (.bool (!p (z.map LayA.p))) ∧ Below wr.heap.size wr w') :
    Calls Try.prog 186 #[.slice g n cap, .func (.func F) #[] caps] w fun e w' => (∃ r : Int, e = .returned (.int .i64 r) ∧ decide (0 ≤ r) = !(ls.all fun x => p x.P)) ∧ Below w.heap.size w w' := by
  have H := Lib.hid h
  have HC := Lib.hid hF
  have hmax : n ≤ 9223372036854775807 := by have h1 := h.2.1; have h2 := h.2.2.1; unfold maxLen at h2; omega
  have HN := Lib.hid h.1
  clear h hF
  go_enter Try.func186, Try.ntmps186
  go_wp2_with fail
  go_loopw [8] (fun i wr => AllMRel p ls w i wr) (fun i _ => n - (intOf i).toNat)
  case atStart => exact ⟨0, Nat.zero_le _, rfl, by simp, Below.refl _ _⟩
  case round =>
    obtain ⟨k, hk, rfl, hz, hb⟩ := hrel
    have HZ := Lib.hid hz
    have HB := Lib.hid hb
    have hk0 : (0 : Int) ≤ (k : Int) := by omega
    rw [HN.out] at hk
    clear hz hb
    by_cases hlt : k < n
    · have hlt' : (k : Int) < (n : Int) := by omega
      obtain ⟨b, off, a, c, z, rfl, hbk, hx, q0, f0⟩ := (H.out.kept HB.out).one hlt
      have f1 := H.out.2.2.2.1 _ (List.mem_of_getElem? hx)
      have HX := Lib.hid hx
      have HG := Lib.hid (HC.out a c z wr HB.out f1)
      clear hx f0 f1
      cases hg : p (z.map LayA.p) with
      | false =>
        have HY := Lib.hid (allM_no HX.out hg)
        rw [hg] at HG
        clear hg
        go_wp2_with fail
        refine HG.out.mono ?_
        rintro e w2 ⟨rfl, bl⟩
        have HB2 := Lib.hid (Below.next HB.out bl)
        clear bl
        go_wp2_with fail
        go_ret
        exact ⟨⟨_, rfl, by rw [HY.out]; exact decide_eq_true hk0⟩, HB2.out⟩
      | true =>
        have HNN := Lib.hid (allM_next HZ.out HX.out hg)
        rw [hg] at HG
        clear hg
        go_wp2_with fail
        refine HG.out.mono ?_
        rintro e w2 ⟨rfl, bl⟩
        have HB2 := Lib.hid (Below.next HB.out bl)
        clear bl
        go_wp2_with fail
        go_roundw
        case rel => exact ⟨k + 1, by rw [HN.out]; omega, by go_num, HNN.out, HB2.out⟩
        case measure => simp [intOf]; omega
    · obtain rfl : k = n := by omega
      have HNN := Lib.hid (show (ls.all fun x => p x.P) = true by have h1 := HZ.out; rwa [List.take_of_length_le (by rw [HN.out]; exact Nat.le_refl _)] at h1)
      go_wp2_with fail
      go_ret
      exact ⟨⟨_, rfl, by rw [HNN.out]; rfl⟩, HB.out⟩
theorem c_containsM (F : FuncId) (caps : Array Value) (p : List LayP → Bool) (g : Option Addr) (n cap : Nat) (ls : List ModA) (w : World) (h : MdsAt w g n cap ls) (hE : ∀ (xs : Array Value) (wr : World), (callFunc F xs).run Try.prog wr = .ok (.enter F xs) wr)
    (hF : ∀ (a : Option Addr) (c : Nat) (z : List LayA) (wr : World), Below w.heap.size w wr → LaysAt w a z.length c z → Calls Try.prog F (#[.agg #[.slice a z.length c]] ++ caps) wr fun e w' => e = .returned (.bool (!p (z.map LayA.p))) ∧ Below wr.heap.size wr w') :
    Calls Try.prog 151 #[.slice g n cap, .func (.func F) #[] caps] w fun e w' => e = .returned (.bool (!(ls.all fun x => p x.P))) ∧ Below w.heap.size w w' := by
  have HI := Lib.hid (c_indexM F caps p g n cap ls w h hE hF)
  clear h hF
  go_enter Try.func151, Try.ntmps151
  go_wp2_with fail
  refine HI.out.mono ?_
  rintro e w2 ⟨⟨r, rfl, hr⟩, bl⟩
  have HR := Lib.hid hr
  have HB := Lib.hid bl
  clear hr bl
  go_wp2_with fail
  go_ret
  exact ⟨ret_b (by rw [← HR.out]), HB.out⟩
theorem c_sameModels (g g' : Option Addr) (c c' : Nat) (ls ls' : List LayA) (w : World) (h : LaysAt w g ls.length c ls) (h' : LaysAt w g' ls'.length c' ls') :
    Calls Try.prog 90 #[.agg #[.slice g ls.length c], .agg #[.slice g' ls'.length c']] w fun e w' => e = .returned (.bool (sameP (ls.map LayA.p) (ls'.map LayA.p))) ∧ Below w.heap.size w w' := by
  have hs : sameLs ls ls' = sameP (ls.map LayA.p) (ls'.map LayA.p) := by simp [sameLs, sameP, List.map_map, Function.comp_def]
  have HL := Lib.hid (fun W (hb : Below w.heap.size w W) => c_EqLs g g' c c' ls.length ls'.length ls ls' W (h.kept hb) (h'.kept hb))
  rw [hs] at HL
  have B := Lib.hid (((Below.refl w.heap.size w).alloc (Nat.le_refl _) (.cells #[.slice g ls.length c] 46)).alloc (by simp) (.cells #[.slice g' ls'.length c'] 46))
  clear h h' hs
  go_enter Try.func90, Try.ntmps90
  go_wp2_with fail
  refine (HL.out _ B.out).mono ?_
  rintro e w2 ⟨rfl, hb⟩
  have B2 := Lib.hid (Below.next B.out hb)
  clear hb
  go_wp2_with fail
  go_ret
  exact ⟨rfl, B2.out⟩
theorem x_inSync (bx : Nat) (g : Option Addr) (n cap : Nat) (ls : List ModA) (m0 : List LayP) (hm : (ls.map ModA.P).getD 0 [] = m0) (h1 : 1 ≤ n) (a : Option Addr) (c : Nat) (z : List LayA) (w : World) (hbx : bx < w.heap.size) (q : w.cell? ⟨bx, 0, none⟩ = some (.slice g n cap)) (h : MdsAt w g n cap ls) (hz : LaysAt w a z.length c z) :
    Calls Try.prog 88 (#[.agg #[.slice a z.length c]] ++ #[.pointer (some ⟨bx, 0, none⟩)]) w fun e w' => e = .returned (.bool (syncOne m0 (z.map LayA.p))) ∧ Below w.heap.size w w' := by
  obtain ⟨b, off, a0, c0, z0, rfl, hbk, hx0, q0, f0⟩ := h.one (i := 0) (by omega)
  rw [Nat.add_zero] at q0
  have hf : m0 = z0.map LayA.p := by rw [← hm, first_P hx0]; rfl
  subst hf
  show Calls Try.prog 88 #[.agg #[.slice a z.length c], .pointer (some ⟨bx, 0, none⟩)] _ _
  obtain ⟨v, hv⟩ : ∃ v, vMod (z.map LayA.p) = v := ⟨_, rfl⟩
  obtain ⟨s, hs⟩ : ∃ s, sameP (z.map LayA.p) (z0.map LayA.p) = s := ⟨_, rfl⟩
  have HO := Lib.hid (show syncOne (z0.map LayA.p) (z.map LayA.p) = (v && s) by unfold syncOne; rw [hv, hs])
  have HVM := Lib.hid (fun W (hb : Below w.heap.size w W) => (show Calls Try.prog 89 #[.agg #[.slice a z.length c]] W (RetB v W) by rw [← hv]; exact c_iValidModel a c z.length z _ rfl W (hz.kept hb)))
  have HSM := Lib.hid (fun W (hb : Below w.heap.size w W) => (show Calls Try.prog 90 #[.agg #[.slice a z.length c], .agg #[.slice a0 z0.length c0]] W (RetB s W) by rw [← hs]; exact c_sameModels a a0 c c0 z z0 W (hz.kept hb) (f0.kept hb)))
  have K := Lib.hid (Blk.new w 46 #[.slice a z.length c])
  have B := Lib.hid ((Below.refl w.heap.size w).alloc (Nat.le_refl _) (.cells #[.slice a z.length c] 46))
  have Q := Lib.hid q
  have Q0 := Lib.hid q0
  have L1 := Lib.hid hbx
  have L2 := Lib.hid hbk
  have hn0 : (0 : Int) < (n : Int) := by omega
  have hn00 : 0 < n := by omega
  clear h hz q q0 f0 hx0 hv hs hm
  rw [HO.out]
  cases v with
  | false =>
    go_enter Try.func88, Try.ntmps88
    go_upto_region 1 with fail
    generalize w.alloc (.cells #[.slice a z.length c] 46) = w1 at K B ⊢
    obtain ⟨p0, pl⟩ := tb1 K.out
    have r0 := (B.out.cell L1.out).trans Q.out
    have r1 := (B.out.cell L2.out).trans Q0.out
    go_wp2_with fail
    have K1 := K.out.below ((Below.refl w1.heap.size w1).drew)
    refine wp_region_held_drew (S := fun w' => Blk w' w.heap.size 46 #[.slice a z.length c]) (by kernel_rfl) K1 (fun hS => ?_)
    refine wpAnyH_take (i := 0) (v := .agg #[.slice a z.length c]) rfl (by kernel_rfl) (by kernel_rfl) (by kernel_rfl) (fun _ _ _ h => h) (yields_row1 rfl 46 (.tmp 2) rfl w.heap.size rfl 46 #[.slice a z.length c] _ (fun w h => h) Try.underlying46 rfl (by kernel_rfl)) hS ?_
    try simp only [Act.put, List.setIfInBounds_toArray, List.set_cons_zero, List.set_cons_succ]
    clear hS K1
    refine wpAnyH_ready (rs := [1]) (by kernel_rfl) (by simp) ?_
    refine AllReadyH.cons rfl (fun K0 hK => ?_) AllReadyH.nil
    go_simp
    refine (HVM.out _ B.out.drew).mono ?_
    rintro e w2 ⟨rfl, bl⟩
    have B2 := Lib.hid (Below.next B.out.drew bl)
    refine hK.out _ _ (K.out.below (Below.next ((Below.refl _ _).drew) bl)) (fun hS => ?_)
    clear hK K0 bl p0 pl r0 r1
    try simp only [Act.put, List.setIfInBounds_toArray, List.set_cons_zero, List.set_cons_succ]
    refine wpAnyH_take (i := 2) (v := .bool false) rfl (by kernel_rfl) (by kernel_rfl) (by kernel_rfl) (fun _ _ _ h => h) (Or.inl ⟨by rfl, by intro w hSw; rfl⟩) hS ?_
    try simp only [Act.put, List.setIfInBounds_toArray, List.set_cons_zero, List.set_cons_succ]
    refine wpAnyH_take (i := 3) (v := undef) rfl (by kernel_rfl) (by kernel_rfl) (by kernel_rfl) (fun _ _ _ h => h) (Or.inr ⟨by rfl, rfl⟩) hS ?_
    try simp only [Act.put, List.setIfInBounds_toArray, List.set_cons_zero, List.set_cons_succ]
    refine wpAnyH_take (i := 4) (v := undef) rfl (by kernel_rfl) (by kernel_rfl) (by kernel_rfl) (fun _ _ _ h => h) (Or.inr ⟨by rfl, rfl⟩) hS ?_
    try simp only [Act.put, List.setIfInBounds_toArray, List.set_cons_zero, List.set_cons_succ]
    refine wpAnyH_take (i := 5) (v := undef) rfl (by kernel_rfl) (by kernel_rfl) (by kernel_rfl) (fun _ _ _ h => h) (Or.inr ⟨by rfl, rfl⟩) hS ?_
    try simp only [Act.put, List.setIfInBounds_toArray, List.set_cons_zero, List.set_cons_succ]
    refine wpAnyH_take (i := 6) (v := undef) rfl (by kernel_rfl) (by kernel_rfl) (by kernel_rfl) (fun _ _ _ h => h) (Or.inr ⟨by rfl, rfl⟩) hS ?_
    try simp only [Act.put, List.setIfInBounds_toArray, List.set_cons_zero, List.set_cons_succ]
    refine wpAnyH_ready (rs := [7]) (by kernel_rfl) (by simp) ?_
    refine AllReadyH.cons rfl (fun K0 hK => ?_) AllReadyH.nil
    refine off_step rfl ?_
    refine hK.out _ _ hS (fun _ => ?_)
    clear hK K0
    try simp only [Act.put, List.setIfInBounds_toArray, List.set_cons_zero, List.set_cons_succ]
    refine wpAnyH_ready (rs := [8]) (by kernel_rfl) (by simp) ?_
    refine AllReadyH.cons rfl (fun K0 hK => ?_) AllReadyH.nil
    go_simp
    refine hK.out _ _ hS (fun _ => ?_)
    clear hK K0
    try simp only [Act.put, List.setIfInBounds_toArray, List.set_cons_zero, List.set_cons_succ]
    refine wpAnyH_ready (rs := [9]) (by kernel_rfl) (by simp) ?_
    refine AllReadyH.cons rfl (fun K0 hK => ?_) AllReadyH.nil
    go_simp
    refine hK.out _ _ hS (fun _ => ?_)
    clear hK K0
    try simp only [Act.put, List.setIfInBounds_toArray, List.set_cons_zero, List.set_cons_succ]
    refine wpAnyH_done (by kernel_rfl) ?_ _
    go_wp2_with fail
    go_ret
    exact ⟨rfl, B2.out⟩
  | true =>
    go_enter Try.func88, Try.ntmps88
    go_upto_region 1 with fail
    generalize w.alloc (.cells #[.slice a z.length c] 46) = w1 at K B ⊢
    obtain ⟨p0, pl⟩ := tb1 K.out
    have r0 := (B.out.cell L1.out).trans Q.out
    have r1 := (B.out.cell L2.out).trans Q0.out
    go_wp2_with fail
    first
      | (go_region_held3 (fun w' => w'.cell? ⟨w.heap.size, 0, none⟩ = some (.slice a z.length c) ∧ w'.cell? ⟨bx, 0, none⟩ = some (.slice (some ⟨b, off, none⟩) n cap) ∧ w'.cell? ⟨b, off, none⟩ = some (.slice a0 z0.length c0)) (go_keep)
         (first
           | (go_at_call 89
              refine (HVM.out _ B.out.drew).mono ?_
              rintro e w2 ⟨rfl, bl⟩
              have B2 := Lib.hid (Below.next B.out.drew bl)
              have K2 := K.out.below (Below.next ((Below.refl _ _).drew) bl)
              have KK2 := Lib.hid K2
              clear p0 pl r0 r1 bl
              obtain ⟨p0, pl⟩ := tb1 K2
              have r0 := (B2.out.cell L1.out).trans Q.out
              have r1 := (B2.out.cell L2.out).trans Q0.out
              clear K2)
           | (go_at_call 90
              refine (HSM.out _ B2.out).mono ?_
              rintro e w3 ⟨rfl, bl⟩
              have B3 := Lib.hid (Below.next B2.out bl)
              have K3 := KK2.out.below bl
              clear p0 pl r0 r1 bl
              obtain ⟨p0, pl⟩ := tb1 K3
              have r0 := (B3.out.cell L1.out).trans Q.out
              have r1 := (B3.out.cell L2.out).trans Q0.out)))
      | fail
    all_goals
      go_wp2_with fail
      go_ret
      exact ⟨rfl, B3.out⟩
set_option maxHeartbeats 1000000 in
theorem c_isAllM (g : Option Addr) (n cap : Nat) (ls : List ModA) (m0 : List LayP) (hm : (ls.map ModA.P).getD 0 [] = m0) (h1 : 1 ≤ n) (bx : Nat) (w : World) (hbx : bx < w.heap.size) (q : w.cell? ⟨bx, 0, none⟩ = some (.slice g n cap)) (h : MdsAt w g n cap ls) :
    Calls Try.prog 87 #[.slice g n cap, .func (.func 88) #[] #[.pointer (some ⟨bx, 0, none⟩)]] w fun e w' => e = .returned (.bool (ls.all fun x => syncOne m0 x.P)) ∧ Below w.heap.size w w' := by
  have K := Lib.hid (Blk.new w 133 #[.func (.func 88) #[] #[.pointer (some ⟨bx, 0, none⟩)]])
  have al := (Below.refl w.heap.size w).alloc (Nat.le_refl _) (.cells #[.func (.func 88) #[] #[.pointer (some ⟨bx, 0, none⟩)]] 133)
  have B := Lib.hid al
  have HF := Lib.hid (h.kept al)
  have hE := enters_of Try.func88 (by kernel_rfl) (by kernel_rfl)
  generalize hw0 : w.alloc (.cells #[.func (.func 88) #[] #[.pointer (some ⟨bx, 0, none⟩)]] 133) = w0 at K al B HF
  have H1 : ∀ (a : Option Addr) (c : Nat) (z : List LayA) (wr : World), Below w0.heap.size w0 wr → LaysAt w0 a z.length c z → Calls Try.prog 152 (#[.agg #[.slice a z.length c]] ++ #[.pointer (some ⟨w.heap.size, 0, none⟩)]) wr fun e w' => e = .returned (.bool (!syncOne m0 (z.map LayA.p))) ∧ Below wr.heap.size wr w' := by
    intro a c z wr hb hz
    show Calls Try.prog 152 #[.agg #[.slice a z.length c], .pointer (some ⟨w.heap.size, 0, none⟩)] _ _
    have KW := K.out.below hb
    have bal := (Below.refl wr.heap.size wr).alloc (Nat.le_refl _) (.cells #[.slice a z.length c] 46)
    have KM := Blk.new wr 46 #[.slice a z.length c]
    have K2 := KW.below bal
    have hb2 := Below.next hb bal
    have HX := Lib.hid (x_inSync bx g n cap ls m0 hm h1 a c z _ (Nat.lt_of_lt_of_le hbx (Below.next al hb2).size) (((Below.next al hb2).cell hbx).trans q) (HF.out.kept hb2) (hz.kept hb2))
    have BB := Lib.hid bal
    obtain ⟨v, hv⟩ : ∃ v, syncOne m0 (z.map LayA.p) = v := ⟨_, rfl⟩
    rw [hv] at HX ⊢
    clear hz hb KW bal hb2 hv h q hm al
    go_enter Try.func152, Try.ntmps152
    go_upto_region 1 with fail
    generalize wr.alloc (.cells #[.slice a z.length c] 46) = w1 at KM K2 HX BB ⊢
    obtain ⟨p0, pl⟩ := tb1 KM
    obtain ⟨q0, ql⟩ := tb1 K2
    clear KM K2
    go_wp2_with fail
    refine HX.out.mono ?_
    rintro e w2 ⟨rfl, bl⟩
    have B2 := Lib.hid (Below.next BB.out bl)
    clear bl
    go_wp2_with fail
    go_ret
    exact ⟨rfl, B2.out⟩
  have HC := Lib.hid (c_containsM 152 #[.pointer (some ⟨w.heap.size, 0, none⟩)] (fun x => syncOne m0 x) g n cap ls _ HF.out (enters_of Try.func152 (by kernel_rfl) (by kernel_rfl)) H1)
  clear H1 h al q
  go_enter Try.func87, Try.ntmps87
  go_wp2_with fail
  refine HC.out.mono ?_
  rintro e w2 ⟨rfl, bl⟩
  have HB2 := Lib.hid (Below.next B.out bl)
  clear bl
  go_wp2_with fail
  go_ret
  exact ⟨ret_b (by simp), HB2.out⟩
theorem t_iAreInSync (g : Option Addr) (c : Nat) (ls : List ModA) (w : World) (h : MdsAt w g ls.length c ls) : Calls Try.prog 29 #[.slice g ls.length c] w (RetB (vAreInSync (ls.map ModA.P)) w) := by
  obtain ⟨n, hn⟩ : ∃ n, ls.length = n := ⟨_, rfl⟩
  have hmax : n ≤ 9223372036854775807 := by have h1 := h.2.1; have h2 := h.2.2.1; unfold maxLen at h2; omega
  have K := Lib.hid (Blk.new w 66 #[.slice g n c])
  have B := Lib.hid ((Below.refl w.heap.size w).alloc (Nat.le_refl _) (.cells #[.slice g n c] 66))
  have H := Lib.hid h
  have HN := Lib.hid hn
  rw [hn]
  by_cases h1 : 1 ≤ n
  case neg =>
    rw [sync_len _ (by rw [List.length_map, hn]; omega)]
    have h1' : (n : Int) < 1 := by omega
    clear h hn h1
    go_enter Try.func29, Try.ntmps29
    go_wp2_with fail
    go_ret
    exact ⟨rfl, B.out⟩
  case pos =>
  by_cases h2 : n ≤ 8
  case neg =>
    rw [sync_len _ (by rw [List.length_map, hn]; omega)]
    have h1' : ¬ (n : Int) < 1 := by omega
    have h2' : (n : Int) > 8 := by omega
    clear h hn h1 h2
    go_enter Try.func29, Try.ntmps29
    go_wp2_with fail
    go_ret
    exact ⟨rfl, B.out⟩
  case pos =>
  rw [sync_in _ (by rw [List.length_map, hn]; exact h1) (by rw [List.length_map, hn]; exact h2), all_P]
  obtain ⟨m0, hm0⟩ : ∃ m, (ls.map ModA.P).getD 0 [] = m := ⟨_, rfl⟩
  rw [hm0]
  have HM0 := Lib.hid hm0
  clear hm0
  obtain ⟨vv, hvv⟩ : ∃ v, (ls.all fun x => syncOne m0 x.P) = v := ⟨_, rfl⟩
  have h1' : ¬ (n : Int) < 1 := by omega
  have h2' : ¬ (n : Int) > 8 := by omega
  have hat := h.kept B.out
  rw [hn] at hat
  have hc := c_isAllM g n c ls m0 HM0.out h1 w.heap.size _ K.out.lt (K.out.cell 0) hat
  rw [hvv] at hc ⊢
  have HC := Lib.hid hc
  clear h hn h1 h2 hat hc hvv
  go_enter Try.func29, Try.ntmps29
  go_wp2_with fail
  refine HC.out.mono ?_
  rintro e w2 ⟨rfl, bl⟩
  have B2 := Lib.hid (Below.next B.out bl)
  clear bl
  go_wp2_with fail
  go_ret
  exact ⟨rfl, B2.out⟩
end Go.Proofs.Ytaipegkkpkagnaa
