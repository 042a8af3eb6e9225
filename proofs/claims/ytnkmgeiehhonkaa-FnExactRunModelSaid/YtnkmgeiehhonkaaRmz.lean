/-
  RunModel: what the model answers. Conditions: the cells can be read.
-/
import Derived.Test.YtnkmgeiehhonkaaRmt
namespace Go.Proofs.Ytnkmgeiehhonkaa
open Go.RowKit Go.Deep Go.WideShapes Go.ChangeShapes
set_option linter.unusedVariables false
set_option linter.unusedSimpArgs false

set_option maxRecDepth 20000 in
set_option maxHeartbeats 2000000 in
theorem c_sRunA (ps : List LayP) (n : Nat) (g : Option Addr) (c : Nat) (y : List LayA) (r cc : Int) (z : List Nat) (a : Option Addr) (ca : Nat) (w : World) (hp : y.map LayA.p = ps) (h : LaysAt w g n c y) (hx : IsFloats .f32 w a z.length ca z) (hm : vMod ps = false) :
    Calls Try.prog 69 #[.agg #[.slice g n c], .agg #[.int .i64 r, .int .i64 cc, .slice a z.length ca]] w (RetT (vRunModel ps r cc z).1 (vRunModel ps r cc z).2.1 (vRunModel ps r cc z).2.2.1 (vRunModel ps r cc z).2.2.2 w) := by
  have hmax : z.length ≤ 9223372036854775807 := by have h1 := hx.1; have h2 := hx.2.1; unfold maxLen at h2; omega
  obtain ⟨k0, l0, q0, b0⟩ := run_boxes w (.slice g n c) (.int .i64 r) (.int .i64 cc) (.slice a z.length ca)
  have B0 := Lib.hid b0
  have H0 := Lib.hid (h.kept b0)
  have HX := Lib.hid (hx.kept b0)
  have K0 := Lib.hid k0
  have L0 := Lib.hid l0
  have Q0 := Lib.hid q0
  have HP := Lib.hid hp
  have HM := Lib.hid hm
  rw [vRun_no (by rw [hm]; rfl)]
  clear b0 k0 l0 q0 h hx hp hm
  go_enter Try.func69, Try.ntmps69
  go_upto_region 1 with fail
  generalize ((w.alloc (.cells #[.slice g n c] 92)).alloc (.cells #[.int .i64 r, .int .i64 cc, .slice a z.length ca] 69)).alloc (.cells #[.int .i64 0, .int .i64 0, .slice none 0 0] 69) = w3 at B0 H0 HX K0 L0 Q0 ⊢
  obtain ⟨p0, pl⟩ := tb1 K0.out
  obtain ⟨t0, t1, t2, tl⟩ := tb L0.out
  obtain ⟨s0, s1, s2, sl⟩ := tb Q0.out
  obtain ⟨fq0, fq1, fq2⟩ := tbf Q0.out
  have D1 := Lib.hid (fun k => c_l03Is w.heap.size 0 g c n y false (by rw [HP.out]; exact HM.out) (w3.drewN k) p0 (H0.out.kept (below_drewN (Below.refl _ _) k)))
  go_quiet ((go_at_call 109; exact quiet_drawn (D1.out _)))
  go_wp2_with fail
  exact bodyPost_ret (v := .tuple #[.agg #[.int .i64 0, .int .i64 0, .slice none 0 0], .bool false]) (by simp [results, Try.results69, go_sem, s0, s1, s2]) rfl ⟨none, 0, [], rfl, nil_own _ _, rfl, (((below_drewN B0.out _).setCell (by simp; omega) _).setCell (by simp; omega) _).setCell (by simp; omega) _⟩
set_option maxRecDepth 20000 in
set_option maxHeartbeats 2000000 in
theorem c_sRunB (ps : List LayP) (n : Nat) (g : Option Addr) (c : Nat) (y : List LayA) (r cc : Int) (z : List Nat) (a : Option Addr) (ca : Nat) (w : World) (hp : y.map LayA.p = ps) (h : LaysAt w g n c y) (hx : IsFloats .f32 w a z.length ca z) (hm : vMod ps = true) (hv : vokB r cc z.length = false) :
    Calls Try.prog 69 #[.agg #[.slice g n c], .agg #[.int .i64 r, .int .i64 cc, .slice a z.length ca]] w (RetT (vRunModel ps r cc z).1 (vRunModel ps r cc z).2.1 (vRunModel ps r cc z).2.2.1 (vRunModel ps r cc z).2.2.2 w) := by
  have hmax : z.length ≤ 9223372036854775807 := by have h1 := hx.1; have h2 := hx.2.1; unfold maxLen at h2; omega
  obtain ⟨k0, l0, q0, b0⟩ := run_boxes w (.slice g n c) (.int .i64 r) (.int .i64 cc) (.slice a z.length ca)
  have B0 := Lib.hid b0
  have H0 := Lib.hid (h.kept b0)
  have HX := Lib.hid (hx.kept b0)
  have K0 := Lib.hid k0
  have L0 := Lib.hid l0
  have Q0 := Lib.hid q0
  have HP := Lib.hid hp
  have HM := Lib.hid hm
  have HV := Lib.hid hv
  rw [vRun_no (by rw [hv]; simp)]
  clear b0 k0 l0 q0 h hx hp hm hv
  go_enter Try.func69, Try.ntmps69
  go_upto_region 1 with fail
  generalize ((w.alloc (.cells #[.slice g n c] 92)).alloc (.cells #[.int .i64 r, .int .i64 cc, .slice a z.length ca] 69)).alloc (.cells #[.int .i64 0, .int .i64 0, .slice none 0 0] 69) = w3 at B0 H0 HX K0 L0 Q0 ⊢
  obtain ⟨p0, pl⟩ := tb1 K0.out
  obtain ⟨t0, t1, t2, tl⟩ := tb L0.out
  obtain ⟨s0, s1, s2, sl⟩ := tb Q0.out
  obtain ⟨fq0, fq1, fq2⟩ := tbf Q0.out
  have D1 := Lib.hid (fun k => c_l03Is w.heap.size 0 g c n y true (by rw [HP.out]; exact HM.out) (w3.drewN k) p0 (H0.out.kept (below_drewN (Below.refl _ _) k)))
  have D2 := Lib.hid (fun k => c_l02Is (w.heap.size + 1) 0 r cc a z.length ca false HV.out hmax (w3.drewN k) t0 t1 t2)
  go_quiet ((first | (go_at_call 109; exact quiet_drawn (D1.out _)) | (go_at_call 131; exact quiet_drawn (D2.out _))))
  go_wp2_with fail
  exact bodyPost_ret (v := .tuple #[.agg #[.int .i64 0, .int .i64 0, .slice none 0 0], .bool false]) (by simp [results, Try.results69, go_sem, s0, s1, s2]) rfl ⟨none, 0, [], rfl, nil_own _ _, rfl, (((below_drewN B0.out _).setCell (by simp; omega) _).setCell (by simp; omega) _).setCell (by simp; omega) _⟩
set_option maxRecDepth 20000 in
set_option maxHeartbeats 2000000 in
theorem c_sRunC (ps : List LayP) (n : Nat) (g : Option Addr) (c : Nat) (y : List LayA) (R C : Nat) (z : List Nat) (a : Option Addr) (ca : Nat) (w : World) (hp : y.map LayA.p = ps) (h : LaysAt w g n c y) (hx : IsFloats .f32 w a z.length ca z) (r1 : 1 ≤ R) (r2 : R ≤ 16) (c1 : 1 ≤ C) (c2 : C ≤ 16) (hz : z.length = R * C) (hv : vokB R C z.length = true) (hm : vMod ps = true) (hg : goesIn ps C = false) :
    Calls Try.prog 69 #[.agg #[.slice g n c], .agg #[.int .i64 (R : Int), .int .i64 (C : Int), .slice a z.length ca]] w (RetT (vRunModel ps R C z).1 (vRunModel ps R C z).2.1 (vRunModel ps R C z).2.2.1 (vRunModel ps R C z).2.2.2 w) := by
  have hmax : z.length ≤ 9223372036854775807 := by have h1 := hx.1; have h2 := hx.2.1; unfold maxLen at h2; omega
  obtain ⟨k0, l0, q0, b0⟩ := run_boxes w (.slice g n c) (.int .i64 (R : Int)) (.int .i64 (C : Int)) (.slice a z.length ca)
  have B0 := Lib.hid b0
  have H0 := Lib.hid (h.kept b0)
  have HX := Lib.hid (hx.kept b0)
  have K0 := Lib.hid k0
  have L0 := Lib.hid l0
  have Q0 := Lib.hid q0
  have HP := Lib.hid hp
  obtain ⟨p, hp0⟩ : ∃ p, ps[0]? = some p := ⟨_, List.getElem?_eq_getElem (by have := mod_len hm; omega)⟩
  have HPI := Lib.hid (show (y.map LayA.p)[0]? = some p by rw [hp]; exact hp0)
  obtain ⟨pi, hpi⟩ : ∃ q, p.i = q := ⟨_, rfl⟩
  have HPP := Lib.hid hpi
  have hgi := goesIn_at (m := C) hp0
  rw [hpi] at hgi
  have hne : ((C : Int) != pi) = true := by
    rw [hgi, decide_eq_false_iff_not] at hg
    simpa using hg
  have HM := Lib.hid hm
  have HV := Lib.hid hv
  rw [vRun_no (by rw [show ((C : Int)).toNat = C from rfl, hg]; simp)]
  clear b0 k0 l0 q0 h hx hp hm hv hz hg hp0 hpi hgi
  go_enter Try.func69, Try.ntmps69
  go_upto_region 1 with fail
  generalize ((w.alloc (.cells #[.slice g n c] 92)).alloc (.cells #[.int .i64 (R : Int), .int .i64 (C : Int), .slice a z.length ca] 69)).alloc (.cells #[.int .i64 0, .int .i64 0, .slice none 0 0] 69) = w3 at B0 H0 HX K0 L0 Q0 ⊢
  obtain ⟨p0, pl⟩ := tb1 K0.out
  obtain ⟨t0, t1, t2, tl⟩ := tb L0.out
  obtain ⟨s0, s1, s2, sl⟩ := tb Q0.out
  obtain ⟨fq0, fq1, fq2⟩ := tbf Q0.out
  have D1 := Lib.hid (fun k => c_l03Is w.heap.size 0 g c n y true (by rw [HP.out]; exact HM.out) (w3.drewN k) p0 (H0.out.kept (below_drewN (Below.refl _ _) k)))
  have D2 := Lib.hid (fun k => c_l02Is (w.heap.size + 1) 0 R C a z.length ca true HV.out hmax (w3.drewN k) t0 t1 t2)
  have d3 := fun k => c_l03In w.heap.size 0 g c n y p (w3.drewN k) p0 (H0.out.kept (below_drewN (Below.refl _ _) k)) HPI.out
  rw [HPP.out] at d3
  have D3 := Lib.hid d3
  clear d3
  go_quiet ((first | (go_at_call 109; exact quiet_drawn (D1.out _)) | (go_at_call 131; exact quiet_drawn (D2.out _)) | (go_at_call 124; exact quiet_left (D3.out _))))
  go_wp2_with fail
  exact bodyPost_ret (v := .tuple #[.agg #[.int .i64 0, .int .i64 0, .slice none 0 0], .bool false]) (by simp [results, Try.results69, go_sem, s0, s1, s2]) rfl ⟨none, 0, [], rfl, nil_own _ _, rfl, (((below_drewN B0.out _).setCell (by simp; omega) _).setCell (by simp; omega) _).setCell (by simp; omega) _⟩
set_option maxRecDepth 20000 in
set_option maxHeartbeats 2000000 in
theorem c_sRunD (ps : List LayP) (n : Nat) (g : Option Addr) (c : Nat) (y : List LayA) (R C : Nat) (z : List Nat) (a : Option Addr) (ca : Nat) (w : World) (hp : y.map LayA.p = ps) (h : LaysAt w g n c y) (hx : IsFloats .f32 w a z.length ca z) (r1 : 1 ≤ R) (r2 : R ≤ 16) (c1 : 1 ≤ C) (c2 : C ≤ 16) (hz : z.length = R * C) (hv : vokB R C z.length = true) (hm : vMod ps = true) (hg : goesIn ps C = true) :
    Calls Try.prog 69 #[.agg #[.slice g n c], .agg #[.int .i64 (R : Int), .int .i64 (C : Int), .slice a z.length ca]] w (RetT (vRunModel ps R C z).1 (vRunModel ps R C z).2.1 (vRunModel ps R C z).2.2.1 (vRunModel ps R C z).2.2.2 w) := by
  have hmax : z.length ≤ 9223372036854775807 := by have h1 := hx.1; have h2 := hx.2.1; unfold maxLen at h2; omega
  obtain ⟨k0, l0, q0, b0⟩ := run_boxes w (.slice g n c) (.int .i64 (R : Int)) (.int .i64 (C : Int)) (.slice a z.length ca)
  have B0 := Lib.hid b0
  have H0 := Lib.hid (h.kept b0)
  have HX := Lib.hid (hx.kept b0)
  have K0 := Lib.hid k0
  have L0 := Lib.hid l0
  have Q0 := Lib.hid q0
  have HP := Lib.hid hp
  obtain ⟨p, hp0⟩ : ∃ p, ps[0]? = some p := ⟨_, List.getElem?_eq_getElem (by have := mod_len hm; omega)⟩
  have HPI := Lib.hid (show (y.map LayA.p)[0]? = some p by rw [hp]; exact hp0)
  obtain ⟨pi, hpi⟩ : ∃ q, p.i = q := ⟨_, rfl⟩
  have HPP := Lib.hid hpi
  have hgi := goesIn_at (m := C) hp0
  rw [hpi] at hgi
  have hne : ((C : Int) != pi) = false := by
    rw [hgi, decide_eq_true_eq] at hg
    simpa using hg
  have HM := Lib.hid hm
  have HV := Lib.hid hv
  have HZ := Lib.hid hz
  have HGO := Lib.hid hg
  obtain ⟨pp, O, hpl, hpo, o1, o2, hO⟩ := last_at hm
  have HLO := Lib.hid hO
  have HLP := Lib.hid (show ps.length = n by rw [← hp, List.length_map]; exact h.1)
  rw [vRun_yes hm hv hg, HLP.out, hO]
  dsimp only
  clear b0 k0 l0 q0 h hx hp hm hv hz hg hp0 hpi hgi hpl hpo hO
  go_enter Try.func69, Try.ntmps69
  go_upto_region 1 with fail
  generalize ((w.alloc (.cells #[.slice g n c] 92)).alloc (.cells #[.int .i64 (R : Int), .int .i64 (C : Int), .slice a z.length ca] 69)).alloc (.cells #[.int .i64 0, .int .i64 0, .slice none 0 0] 69) = w3 at B0 H0 HX K0 L0 Q0 ⊢
  obtain ⟨p0, pl⟩ := tb1 K0.out
  obtain ⟨t0, t1, t2, tl⟩ := tb L0.out
  obtain ⟨s0, s1, s2, sl⟩ := tb Q0.out
  obtain ⟨fq0, fq1, fq2⟩ := tbf Q0.out
  have D1 := Lib.hid (fun k => c_l03Is w.heap.size 0 g c n y true (by rw [HP.out]; exact HM.out) (w3.drewN k) p0 (H0.out.kept (below_drewN (Below.refl _ _) k)))
  have D2 := Lib.hid (fun k => c_l02Is (w.heap.size + 1) 0 R C a z.length ca true HV.out hmax (w3.drewN k) t0 t1 t2)
  have d3 := fun k => c_l03In w.heap.size 0 g c n y p (w3.drewN k) p0 (H0.out.kept (below_drewN (Below.refl _ _) k)) HPI.out
  rw [HPP.out] at d3
  have D3 := Lib.hid d3
  clear d3
  go_quiet ((first | (go_at_call 109; exact quiet_drawn (D1.out _)) | (go_at_call 131; exact quiet_drawn (D2.out _)) | (go_at_call 124; exact quiet_left (D3.out _))))
  go_upto_region 3 with fail
  have bd := below_drewN (Below.refl w3.heap.size w3) nq
  have HR := Lib.hid (c_l03Rows w.heap.size (w.heap.size + 1) g c n y R C O a ca z (w3.drewN nq) p0 (by rw [HP.out]; exact HM.out) (by rw [HP.out]; exact HGO.out) (H0.out.kept bd) (by rw [HP.out]; exact HLO.out) o2 t0 t1 t2 (HX.out.kept bd) r2 c1 c2 HZ.out)
  have B1 := Lib.hid (Below.next B0.out bd)
  have Q1 := Lib.hid (Q0.out.below bd)
  clear bd p0 pl t0 t1 t2 tl s0 s1 s2 sl fq0 fq1 fq2
  go_wp2_with fail
  refine HR.out.mono ?_
  rintro e w5 ⟨b, cc, ys, rfl, hf, hy, bl⟩
  rw [HP.out] at hy
  have HW := Lib.hid (hf.base (B' := w.heap.size) B1.out.size)
  have HY := Lib.hid hy
  have B5 := Lib.hid (Below.next B1.out bl)
  have Q5 := Lib.hid (Q1.out.below bl)
  clear hf hy bl
  obtain ⟨s0, s1, s2, sl⟩ := tb Q5.out
  obtain ⟨fq0, fq1, fq2⟩ := tbf Q5.out
  go_wp2_with fail
  exact bodyPost_ret (v := .tuple #[.agg #[.int .i64 R, .int .i64 O, .slice b ys.length cc], .bool true]) (by simp [results, Try.results69, go_sem, s0, s1, s2]) rfl ⟨b, cc, ys, rfl, HW.out.off (store3 Q5.out).2 Q5.out (by decide), HY.out, ((B5.out.setCell (by simp; omega) _).setCell (by simp; omega) _).setCell (by simp; omega) _⟩
theorem t_sRunModel (ps : List LayP) (n : Nat) (g : Option Addr) (c : Nat) (y : List LayA) (r cc : Int) (z : List Nat) (a : Option Addr) (ca : Nat) (w : World) (hp : y.map LayA.p = ps) (h : LaysAt w g n c y) (hx : IsFloats .f32 w a z.length ca z) :
    Calls Try.prog 69 #[.agg #[.slice g n c], .agg #[.int .i64 r, .int .i64 cc, .slice a z.length ca]] w (RetT (vRunModel ps r cc z).1 (vRunModel ps r cc z).2.1 (vRunModel ps r cc z).2.2.1 (vRunModel ps r cc z).2.2.2 w) := by
  cases hm : vMod ps with
  | false => exact c_sRunA ps n g c y r cc z a ca w hp h hx hm
  | true =>
    cases hv : vokB r cc z.length with
    | false => exact c_sRunB ps n g c y r cc z a ca w hp h hx hm hv
    | true =>
      obtain ⟨R, C, rfl, rfl, r1, r2, c1, c2, hz⟩ := vok_nat hv
      cases hg : goesIn ps C with
      | false => exact c_sRunC ps n g c y R C z a ca w hp h hx r1 r2 c1 c2 hz hv hm hg
      | true => exact c_sRunD ps n g c y R C z a ca w hp h hx r1 r2 c1 c2 hz hv hm hg
end Go.Proofs.Ytnkmgeiehhonkaa
