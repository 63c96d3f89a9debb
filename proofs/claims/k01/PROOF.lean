import PyProof.Rows.All
import Wide.All
import OpenK.AllK
import Wide.FinOn
import HandS.ForMost
import HandS.IsInst
import HandS.Wide
import HandS.Gcd
import HandS.Evl
import HandS.More
import PySem.Challenge.RW_doubleledger_k01_lowest_and_changed
set_option Elab.async false
set_option linter.all false
set_option maxRecDepth 100000
set_option maxHeartbeats 4000000
namespace My
open PySem PySem.Spec PyProof.Rows L2 Evl

/-! ### a def of the text, by its name; what it promises -/
structure Df (K : PySem.W.Frag) (mg : Str → Option Value) (x : Str) (st : Stmt) (ps : List Str) : Prop where
  ex : ∃ (f : Addr) (fd : FuncData), Fun K x x st f fd ∧ mg x = some (.ref f) ∧ Binds K fd ps []
structure Kn (P : Program) (w : World) (K : PySem.W.Frag) (mg : Str → Option Value) (base : Heap) (k : Nat) (x : Str) (sp : Sp) : Prop where
  ex : ∃ (f : Addr) (fd : FuncData) (ps : List Str), FnOk P w K mg base CX0 k f fd ps sp ∧ mg x = some (.ref f) ∧ PySem.W.keepIn K (.ref f) = true ∧ Binds K fd ps []
section
variable {P : Program} {w : World} {K : PySem.W.Frag} {mg : Str → Option Value} {base : Heap}
theorem Df.ok {x : Str} {st : Stmt} {N ps : List Str} {k : Nat} {sp : Sp} (D : Df K mg x st ps) (S : FnScope N ps (defScope st)) (len : ∀ vs H Q E, sp vs H Q E → vs.length = ps.length)
    (hbody : ∀ (f : Addr) (cdv : Value) (A : Around) (outer : List Env) (s : Shared) (H : Hp) (vs : List V) (Q : VK) (E : XK), Room k (A.deeper (envOfC x (defScope st) s.heap.objs.size f cdv)) → sp vs H Q E →
      ∃ t, PSs (cxOf CX0 P w K mg base N x (defScope st) f cdv A outer s H E).nox (defBody st) t ∧ t { nx := fun _ H' => Q .non H', rt := Q } (start N vs) H) : Kn P w K mg base (k + 1) x sp := by
  obtain ⟨f, fd, F, hm, hb⟩ := D.ex
  exact ⟨f, fd, ps, F.ok S len fun cdv A outer s H vs Q E hr h => hbody f cdv A outer s H vs Q E hr h, hm, F.kp, hb⟩
theorem okF {x : Str} {st : Stmt} {f : Addr} {fd : FuncData} {N ps : List Str} {k : Nat} {sp : Sp} (F : Fun K x x st f fd) (S : FnScope N ps (defScope st)) (len : ∀ vs H Q E, sp vs H Q E → vs.length = ps.length)
    (hbody : ∀ (f : Addr) (cdv : Value) (A : Around) (outer : List Env) (s : Shared) (H : Hp) (vs : List V) (Q : VK) (E : XK), Room k (A.deeper (envOfC x (defScope st) s.heap.objs.size f cdv)) → sp vs H Q E →
      ∃ t, PSs (cxOf CX0 P w K mg base N x (defScope st) f cdv A outer s H E).nox (defBody st) t ∧ t { nx := fun _ H' => Q .non H', rt := Q } (start N vs) H) : FnOk P w K mg base CX0 (k + 1) f fd ps sp :=
  F.ok S len (hbody f)
theorem df_mk {h : Heap} {x : Str} {st : Stmt} {ps : List Str} {f : Addr} {oc : Value} {od an : Option Addr} {osl : Array (Option Value)} {kV doc pm cdv ct : Value} (X : K.In h) (G : h.Ns mainGlobals mg)
    (a : PySem.W.nsIn K mainGlobals x = some (some (.ref f))) (l : K.lookup f = some ⟨oc, od, .func (PySem.W.fnOf x x (defArgs st) (defBody st) (defScope st) .none kV doc pm an cdv ct), osl⟩)
    (c : PySem.W.codeIn K cdv x = true) (k : PySem.W.keepIn K (.ref f) = true)
    (b : ∀ (kV doc pm : Value) (an : Option Addr) (cdv ct : Value) (us : List Value), us.length = ps.length → bindArgs (PySem.W.fnOf x x (defArgs st) (defBody st) (defScope st) .none kV doc pm an cdv ct) ⟨us, []⟩ = pure (ps.zip us)) : Df K mg x st ps := by
  have F := fun_mk (st := st) l c k
  exact ⟨f, _, F, PySem.W.mg_of X G a, F.binds b⟩
end
section
variable {X : Cx} {k j : Nat} {x : Str} {sp : Sp} {p pos : Pos} {e : Expr} {es : List Expr} {t : TA}
theorem pc1 (c : Kn X.prog X.w X.K X.mg X.base k x sp) (hr : Room j X.A) (hk : k ≤ j) (hg : Gl X x) (ha : PA X (e :: es) t)
    (hdb : (x == ("__debug__" : Str)) = false := by decide) (he : starEach (e :: es) X.env = (false, eval e X.env) :: starEach es X.env := by rfl) (hpl : (backTo pos (starEach es X.env)).any (·.1) = false := by rfl) :
    PE X (.Call (.Name x p) (e :: es) [] pos) (tCall sp [] E0 t) := by
  obtain ⟨f, fd, ps, F, hm, kp, b⟩ := c.ex
  exact pe_call F (hr.mono hk) hg hm kp b .nil pass0 ha hdb he hpl
theorem pc0 (c : Kn X.prog X.w X.K X.mg X.base k x sp) (hr : Room j X.A) (hk : k ≤ j) (hg : Gl X x)
    (hdb : (x == ("__debug__" : Str)) = false := by decide) :
    PE X (.Call (.Name x p) [] [] pos) (tCall sp [] E0 tNil) := by
  obtain ⟨f, fd, ps, F, hm, kp, b⟩ := c.ex
  exact pe_call0 F (hr.mono hk) hg hm kp b .nil pass0 hdb
end
/-! ### more of Ev -/
section
variable {K : PySem.W.Frag} {σ : L2.St} {H H' : Hp} {ta tb te tx : TE} {t u : TT} {x y z v : V} {r : R2}
/-- a call that hands back a value, heap kept or grown -/
theorem ev_c1 {sp : Sp} {vs : List V} {E : XK} {ta : TA} (h : EvA ta σ H vs) (hs : ∀ H1, Ex H H1 → ∀ Q : VK, (∀ H2, Ex H1 H2 → Q z H2) → ∀ E : XK, sp vs H1 Q E) : Ev (tCall sp [] E ta) σ H z :=
  ev_call h (by rw [List.append_nil]; exact hs)
theorem eu_c1 {sp : Sp} {vs xs : List V} {E : XK} {ta : TA} (h : EvA ta σ H vs) (hs : ∀ H1, Ex H H1 → ∀ Q : VK, (∀ p H2, H1 p = none → Ex H1 H2 → H2 p = some (.tup xs) → Q (.ref p) H2) → ∀ E : XK, sp vs H1 Q E) : EvU (tCall sp [] E ta) σ H xs := fun H1 e Q q =>
  h H1 e _ fun H2 e2 => by
    show sp (vs ++ []) H2 Q _
    rw [List.append_nil]
    exact hs H2 (e.trans e2) Q (fun p H3 hp e3 h3 => q p H3 (fresh_back e2 hp) (e2.trans e3) h3) _
end
/-- a cell of the script -/
theorem sp_cell {K : PySem.W.Frag} {H : Hp} {l : Addr} {ns : List Int} (j : Nat) (hS : SqL K H l (ns.map V.int)) : ∀ H1, Ex H H1 → ∀ Q : VK, (∀ H2, Ex H1 H2 → Q (.int (cellOf ns j)) H2) → ∀ E : XK, spCell K [.ref l, .int (j : Nat)] H1 Q E :=
  fun H1 e Q q E => ⟨l, ns, j, rfl, ex_l e hS, q H1 (Ex.refl _)⟩
end My

namespace Prf
open PySem PySem.Spec PyProof.Rows L2 Evl My
def topS (i : Nat) : Stmt := PySem.Challenge.pw_doubleledger_k01_lowest_and_changed.main.body.getD i (.Pass ⟨0, 0, 0, 0⟩)
abbrev s_lowest : Stmt := topS 2
theorem sc_lowest : FnScope ["top", "bottom", "shared"] ["top", "bottom"] (defScope s_lowest) := ⟨rfl, rfl, rfl, by decide +kernel, rfl, by decide +kernel, by decide +kernel⟩
abbrev s_changed : Stmt := topS 3
theorem sc_changed : FnScope ["amount", "one", "other", "top1", "bottom1", "top2", "bottom2"] ["amount", "one", "other"] (defScope s_changed) := ⟨rfl, rfl, rfl, by decide +kernel, rfl, by decide +kernel, by decide +kernel⟩
abbrev s__law_cell : Stmt := topS 5
theorem sc__law_cell : FnScope ["_law_script", "_law_k"] ["_law_script", "_law_k"] (defScope s__law_cell) := ⟨rfl, rfl, rfl, by decide +kernel, rfl, by decide +kernel, by decide +kernel⟩
abbrev s__law_whole : Stmt := topS 6
theorem sc__law_whole : FnScope ["_law_found"] ["_law_found"] (defScope s__law_whole) := ⟨rfl, rfl, rfl, by decide +kernel, rfl, by decide +kernel, by decide +kernel⟩
abbrev s__law_common : Stmt := topS 7
theorem sc__law_common : FnScope ["_law_one", "_law_other", "_law_rest"] ["_law_one", "_law_other"] (defScope s__law_common) := ⟨rfl, rfl, rfl, by decide +kernel, rfl, by decide +kernel, by decide +kernel⟩
abbrev s__law_changed : Stmt := topS 8
theorem sc__law_changed : FnScope ["_law_script", "_law_way", "_law_amount", "_law_most", "_law_one", "_law_other", "_law_found", "_law_value", "_law_each"] ["_law_script"] (defScope s__law_changed) := ⟨rfl, rfl, rfl, by decide +kernel, rfl, by decide +kernel, by decide +kernel⟩
abbrev s_law : Stmt := topS 9
theorem sc_law : FnScope ["_law_script", "_law_way", "_law_top", "_law_bottom", "_law_found"] ["_law_script"] (defScope s_law) := ⟨rfl, rfl, rfl, by decide +kernel, rfl, by decide +kernel, by decide +kernel⟩
/-- what the top has written, and what it left -/
structure Bs (K : PySem.W.Frag) (mg : Str → Option Value) : Prop where
  d_lowest : Df K mg "lowest" s_lowest ["top", "bottom"]
  d_changed : Df K mg "changed" s_changed ["amount", "one", "other"]
  d__law_cell : Df K mg "_law_cell" s__law_cell ["_law_script", "_law_k"]
  d__law_whole : Df K mg "_law_whole" s__law_whole ["_law_found"]
  d__law_common : Df K mg "_law_common" s__law_common ["_law_one", "_law_other"]
  d__law_changed : Df K mg "_law_changed" s__law_changed ["_law_script"]
  d_law : Df K mg "law" s_law ["_law_script"]
  b_bool : mg "bool" = none
  b_int : mg "int" = none
  b_isinstance : mg "isinstance" = none
  b_len : mg "len" = none
  b_tuple : mg "tuple" = none
  g_gcd : mg "gcd" = some (.builtin "math.gcd")
section
variable {P : Program} {w : World} {K : PySem.W.Frag} {mg : Str → Option Value} {base : Heap}
/-! ### numbers -/
theorem iteBT {b : Bool} {A B : Prop} (e : b = true) (h : A) : if b = true then A else B := by
  rw [if_pos e]
  exact h
theorem cw {i j : Int} (ha : i.natAbs < 2 ^ 400) (hb : j.natAbs < 2 ^ 400) : CMulW i j := wide_mul ha hb (by decide) (by decide) (by decide)
theorem cd {i j : Int} (h : 0 < j) (hb : j.natAbs < 2 ^ 400) : CDivW i j := wide_div h hb (by decide) (by decide)
def gI (a b : Int) : Int := ((Nat.gcd a.natAbs b.natAbs : Nat) : Int)
theorem iteBF {b : Bool} {A B : Prop} (e : b = false) (h : B) : if b = true then A else B := by
  rw [e]
  exact iteF h
theorem q_bl {Q : VK} {b : Bool} {H : Hp} (e : b = true) (h : Q (.bl true) H) : Q (.bl b) H := by
  rw [e]
  exact h
theorem nb_f {p : Prop} [Decidable p] (h : p) : (!decide p) = false := by
  rw [decide_eq_true h]
  rfl
theorem gcd_mod (y x : Int) : Int.gcd y (x % y) = Int.gcd y x := by
  have e : x % y = x + y * (-(x / y)) := by
    have := Int.emod_def x y
    rw [Int.mul_neg]
    omega
  rw [e, Int.gcd_add_mul_left_right]
theorem gI_pos {a b : Int} (h : 0 < b) : 0 < gI a b := by
  unfold gI
  have : 0 < Nat.gcd a.natAbs b.natAbs := Nat.gcd_pos_of_pos_right _ (by omega)
  omega
theorem gI_dvd_left (a b : Int) : gI a b ∣ a := by
  unfold gI
  exact Int.gcd_dvd_left ..
theorem gI_dvd_right (a b : Int) : gI a b ∣ b := by
  unfold gI
  exact Int.gcd_dvd_right ..
/-! ### promises -/
def spWhole : Sp := fun vs H Q _ => ∃ i : Int, vs = [.int i] ∧ Q (.bl true) H
def spLowest : Sp := fun vs H Q _ => ∃ a b : Int, vs = [.int a, .int b] ∧ 0 < b ∧ b.natAbs < 2 ^ 400 ∧ ∀ p, H p = none → Q (.ref p) (upd H p (.tup [.int (a / gI a b), .int (b / gI a b)]))
def spChanged (K : PySem.W.Frag) : Sp := fun vs H Q _ => ∃ (a t1 b1 t2 b2 : Int) (p q : Addr), vs = [.int a, .ref p, .ref q] ∧ SqT K H p [.int t1, .int b1] ∧ SqT K H q [.int t2, .int b2] ∧
  a.natAbs < 2 ^ 101 ∧ t1.natAbs < 2 ^ 30 ∧ b1.natAbs < 2 ^ 30 ∧ t2.natAbs < 2 ^ 30 ∧ b2.natAbs < 2 ^ 30 ∧ 0 < b1 ∧ 0 < t2 ∧ Q (.int (a * t1 * b2 / (b1 * t2))) H
def spCommon : Sp := fun vs H Q _ => ∃ a b : Int, vs = [.int a, .int b] ∧ 0 < b ∧ Q (.int (gI a b)) H
def spLaw (K : PySem.W.Frag) : Sp := fun vs H Q _ => ∃ (a : Addr) (ns : List Int), vs = [.ref a] ∧ SqL K H a (ns.map V.int) ∧ ns.length ≤ 63 ∧ ∀ H', Q (.bl true) H'
/-- lowest; slots ["top", "bottom", "shared"] -/
theorem kn_lowest (B : Bs K mg) : Kn P w K mg base 1 "lowest" spLowest := by
  refine B.d_lowest.ok sc_lowest (fun vs H Q E h => ?_) (fun f cdv A outer s H vs Q E hr h => ?_)
  · obtain ⟨a, b, rfl, _⟩ := h; rfl
  · obtain ⟨a, b, rfl, hb, hw, q⟩ := h
    refine ⟨_, (pss_cons (ps_set (i := 2) sc_lowest.nd rfl (Or.inl rfl) (pe_callBfun cr_gcd (by rfl) B.g_gcd (pa_cons (pv 0) (pa_cons (pv 1) pa_nil))))
      (pss_one (ps_ret (pe_tup (pa_cons (pe_op op_fdivW (pv 0) (pv 2)) (pa_cons (pe_op op_fdivW (pv 1) (pv 2)) pa_nil)))))), ?_⟩
    have hg := gI_pos (a := a) hb
    have hgw : (gI a b).natAbs < 2 ^ 400 := by
      have := Int.le_of_dvd hb (gI_dvd_right a b)
      omega
    refine ⟨_, rfl, _, rfl, a, b, rfl, ?_⟩
    refine ⟨_, rfl, _, rfl, a, gI a b, rfl, rfl, cd hg hgw, _, rfl, _, rfl, b, gI a b, rfl, rfl, cd hg hgw, by show 2 ≤ sizeLine; decide, fun p hp => ?_⟩
    exact q p hp
/-- changed; slots ["amount", "one", "other", "top1", "bottom1", "top2", "bottom2"] -/
theorem kn_changed (B : Bs K mg) : Kn P w K mg base 1 "changed" (spChanged K) := by
  refine B.d_changed.ok sc_changed (fun vs H Q E h => ?_) (fun f cdv A outer s H vs Q E hr h => ?_)
  · obtain ⟨a, t1, b1, t2, b2, p, q, rfl, _⟩ := h; rfl
  · obtain ⟨a, t1, b1, t2, b2, p, q, rfl, hp, hq, wa, w1, w2, w3, w4, g1, g2, k⟩ := h
    refine ⟨_, (pss_cons (ps_asg (pv 1) (pg_tup rfl (pgs_cons (pg_name (i := 3) sc_changed.nd rfl (Or.inl rfl)) (pgs_cons (pg_name (i := 4) sc_changed.nd rfl (Or.inl rfl)) pgs_nil))))
      (pss_cons (ps_asg (pv 2) (pg_tup rfl (pgs_cons (pg_name (i := 5) sc_changed.nd rfl (Or.inl rfl)) (pgs_cons (pg_name (i := 6) sc_changed.nd rfl (Or.inl rfl)) pgs_nil))))
      (pss_one (ps_ret (pe_op op_fdivW (pe_op op_mulW (pe_op op_mulW (pv 0) (pv 3)) (pv 6)) (pe_op op_mulW (pv 4) (pv 5))))))), ?_⟩
    refine ⟨_, rfl, p, _, rfl, hp, rfl, _, _, rfl, _, _, rfl, rfl, ?_⟩
    refine ⟨_, rfl, q, _, rfl, hq, rfl, _, _, rfl, _, _, rfl, rfl, ?_⟩
    have m1 : (a * t1).natAbs < 2 ^ (101 + 30) := wide_lt wa w1
    have m2 : (b1 * t2).natAbs < 2 ^ (30 + 30) := wide_lt w2 w3
    refine ⟨_, rfl, _, rfl, _, _, rfl, rfl, wide_mul wa w1 (by decide) (by decide) (by decide), _, rfl, _, _, rfl, rfl, wide_mul m1 w4 (by decide) (by decide) (by decide), ?_⟩
    refine ⟨_, rfl, _, rfl, _, _, rfl, rfl, wide_mul w2 w3 (by decide) (by decide) (by decide), _, _, rfl, rfl, wide_div (Int.mul_pos g1 g2) m2 (by decide) (by decide), ?_⟩
    exact k
/-- _law_cell; slots ["_law_script", "_law_k"] -/
theorem kn__law_cell (B : Bs K mg) : Kn P w K mg base 1 "_law_cell" (spCell K) := by
  refine B.d__law_cell.ok sc__law_cell (fun vs H Q E h => ?_) (fun f cdv A outer s H vs Q E hr h => ?_)
  · obtain ⟨l, ns, j, rfl, _⟩ := h; rfl
  · obtain ⟨l, ns, j, rfl, hS, q⟩ := h
    refine ⟨_, (pss_cons (ps_if (pt_cmpR op_lt (pv 1) (pe_callB call_len_seq (by rfl) B.b_len (by decide +kernel) (pa_cons (pv 0) pa_nil)) (nomark _)) (pss_one (ps_ret (pe_ix ix_list (pv 0) (pv 1) (fun _ _ => rfl)))) pss_nil)
      (pss_one (ps_ret pe_int))), ?_⟩
    refine ⟨_, rfl, _, rfl, l, ns.map V.int, rfl, .inl hS, _, _, rfl, rfl, _, rfl, ite2 (fun e => ?_) (fun e => ?_)⟩
    · have e1 := of_decide_eq_true e
      rw [List.length_map] at e1
      exact ⟨_, rfl, _, rfl, l, _, _, _, rfl, rfl, hS, atI_cell (by omega), q⟩
    · have e1 : ¬ j < ns.length := fun z => e (decide_eq_true (by rw [List.length_map]; omega))
      rw [cell_out e1] at q
      exact q
/-- _law_whole; slots ["_law_found"] -/
theorem kn__law_whole (B : Bs K mg) : Kn P w K mg base 1 "_law_whole" spWhole := by
  refine B.d__law_whole.ok sc__law_whole (fun vs H Q E h => ?_) (fun f cdv A outer s H vs Q E hr h => ?_)
  · obtain ⟨i, rfl, _⟩ := h; rfl
  · obtain ⟨i, rfl, q⟩ := h
    refine ⟨_, (pss_one (ps_ret (pe_and (pe_callB call_isi (by rfl) B.b_isinstance (by decide +kernel) (pa_cons (pv 0) (pa_cons (pe_bltn (v := .ty "int") (by rfl) B.b_int (by decide +kernel) rfl) pa_nil))) (pe_one (pe_not (pe_callB call_isi (by rfl) B.b_isinstance (by decide +kernel) (pa_cons (pv 0) (pa_cons (pe_bltn (v := .ty "bool") (by rfl) B.b_bool (by decide +kernel) rfl) pa_nil)))))))), ?_⟩
    refine ⟨_, rfl, .int i, .ty "int", _, _, true, rfl, .ty "int", .base (.int i), kit_ty (by decide +kernel), _, rfl, ?_⟩
    refine iteT ?_
    refine ⟨_, rfl, .int i, .ty "bool", _, _, false, rfl, .ty "bool", .base (.int i), kit_ty (by decide +kernel), _, rfl, ?_⟩
    exact q
/-- _law_common; slots ["_law_one", "_law_other", "_law_rest"] -/
theorem kn__law_common (B : Bs K mg) : Kn P w K mg base 1 "_law_common" spCommon := by
  refine B.d__law_common.ok sc__law_common (fun vs H Q E h => ?_) (fun f cdv A outer s H vs Q E hr h => ?_)
  · obtain ⟨a, b, rfl, _⟩ := h; rfl
  · obtain ⟨a, b, rfl, hb, q⟩ := h
    refine ⟨_, (pss_cons (ps_while PassesOwn.never (pt_cmpR op_ne (pv 1) pe_int (nomark _)) (pss_cons (ps_set (i := 2) sc__law_common.nd rfl (Or.inl rfl) (pe_op op_mod (pv 0) (pv 1)))
      (pss_cons (ps_set (i := 0) sc__law_common.nd rfl (Or.inl rfl) (pv 1))
      (pss_one (ps_set (i := 1) sc__law_common.nd rfl (Or.inl rfl) (pv 2))))))
      (pss_one (ps_ret (pv 0)))), ?_⟩
    refine ⟨fun m σ H' => H' = H ∧ ∃ (x y : Int) (z : Option V), σ = [some (.int x), some (.int y), z] ∧ m = y.natAbs ∧ 0 ≤ y ∧ (y = 0 → 0 ≤ x) ∧ gI x y = gI a b, ⟨_, rfl, a, b, none, rfl, rfl, by omega, by omega, rfl⟩, ?_⟩
    rintro m σ H' ⟨rfl, x, y, z, rfl, rfl, y0, hx, hg⟩
    refine ⟨_, rfl, rfl, _, rfl, ?_⟩
    by_cases hy : y = 0
    · subst hy
      refine iteF ?_
      refine ⟨_, rfl, ?_⟩
      have e : x = gI a b := by
        rw [← hg]
        unfold gI
        rw [show (0 : Int).natAbs = 0 from rfl, Nat.gcd_zero_right]
        have := hx rfl
        omega
      rw [← e] at q
      exact q
    · have e1 : (!decide (V.int y = V.int 0)) = true := by
        rw [decide_eq_false fun z => hy (V.int.inj z)]
        rfl
      refine iteBT e1 ?_
      refine ⟨fun σ' H'' => H'' = H' ∧ σ' = [some (.int y), some (.int (x % y)), some (.int (x % y))], ?_, ?_⟩
      · rintro σ' H'' ⟨rfl, rfl⟩
        have p1 := Int.emod_nonneg x hy
        have p2 := Int.emod_lt_of_pos x (show 0 < y by omega)
        refine ⟨_, ?_, rfl, y, x % y, _, rfl, rfl, p1, fun _ => y0, ?_⟩
        · omega
        · rw [← hg]
          unfold gI
          have : Int.gcd y (x % y) = Int.gcd x y := by
            rw [Int.gcd_comm x y]
            exact gcd_mod y x
          exact congrArg _ this
      · exact ⟨_, rfl, _, rfl, _, _, rfl, rfl, by omega, _, rfl, _, rfl, rfl, rfl⟩
theorem cell_mod {x m : Int} (h : 0 < m) : 0 ≤ x % m ∧ x % m < m := ⟨Int.emod_nonneg _ (by omega), Int.emod_lt_of_pos _ h⟩
theorem p30 : ((10 : Int) ^ (30 : Int).toNat) = 1000000000000000000000000000000 := by decide
theorem p9 : ((10 : Int) ^ (9 : Int).toNat) = 1000000000 := by decide
theorem cpow {j : Int} (h : 0 ≤ j ∧ j ≤ 1000) : CPow 10 j := ⟨h.1, by omega, by decide⟩
/-- _law_changed; slots ["_law_script", "_law_way", "_law_amount", "_law_most", "_law_one", "_law_other", "_law_found", "_law_value", "_law_each"] -/
theorem kn__law_changed (B : Bs K mg) : Kn P w K mg base 2 "_law_changed" (spLaw K) := by
  have c_changed : Kn P w K mg base 1 "changed" (spChanged K) := kn_changed B
  have c__law_whole : Kn P w K mg base 1 "_law_whole" spWhole := kn__law_whole B
  have c__law_cell : Kn P w K mg base 1 "_law_cell" (spCell K) := kn__law_cell B
  refine B.d__law_changed.ok sc__law_changed (fun vs H Q E h => ?_) (fun f cdv A outer s H vs Q E hr h => ?_)
  · obtain ⟨l, ns, rfl, _⟩ := h; rfl
  · obtain ⟨l, ns, rfl, hS, hl, k⟩ := h
    refine ⟨_, (pss_cons (ps_set (i := 1) sc__law_changed.nd rfl (Or.inl rfl) (pc1 c__law_cell hr (by decide) rfl (pa_cons (pv 0) (pa_cons pe_int pa_nil))))
      (pss_cons (ps_set (i := 2) sc__law_changed.nd rfl (Or.inl rfl) (pe_op op_mod (pc1 c__law_cell hr (by decide) rfl (pa_cons (pv 0) (pa_cons pe_int pa_nil))) (pe_op op_add (pe_op op_pow pe_int pe_int) pe_int)))
      (pss_cut (ps_if (pt_cmpR op_eq (pe_op op_mod (pv 1) pe_int) pe_int (nomark _)) (pss_one (ps_set (i := 2) sc__law_changed.nd rfl (Or.inl rfl) (pe_op op_mod (pc1 c__law_cell hr (by decide) rfl (pa_cons (pv 0) (pa_cons pe_int pa_nil))) pe_int))) pss_nil)
      (pss_cons (ps_set (i := 3) sc__law_changed.nd rfl (Or.inl rfl) (pe_op op_pow pe_int pe_int))
      (pss_cut (ps_if (pt_cmpR op_eq (pe_op op_mod (pe_op op_fdivW (pv 1) pe_int) pe_int) pe_int (nomark _)) (pss_one (ps_set (i := 3) sc__law_changed.nd rfl (Or.inl rfl) pe_int)) pss_nil)
      (pss_cons (ps_set (i := 4) sc__law_changed.nd rfl (Or.inl rfl) (pe_tup (pa_cons (pe_op op_add pe_int (pe_op op_mod (pc1 c__law_cell hr (by decide) rfl (pa_cons (pv 0) (pa_cons pe_int pa_nil))) (pv 3))) (pa_cons (pe_op op_add pe_int (pe_op op_mod (pc1 c__law_cell hr (by decide) rfl (pa_cons (pv 0) (pa_cons pe_int pa_nil))) (pv 3))) pa_nil))))
      (pss_cons (ps_set (i := 5) sc__law_changed.nd rfl (Or.inl rfl) (pe_tup (pa_cons (pe_op op_add pe_int (pe_op op_mod (pc1 c__law_cell hr (by decide) rfl (pa_cons (pv 0) (pa_cons pe_int pa_nil))) (pv 3))) (pa_cons (pe_op op_add pe_int (pe_op op_mod (pc1 c__law_cell hr (by decide) rfl (pa_cons (pv 0) (pa_cons pe_int pa_nil))) (pv 3))) pa_nil))))
      (pss_cons (ps_set (i := 6) sc__law_changed.nd rfl (Or.inl rfl) (pc1 c_changed hr (by decide) rfl (pa_cons (pv 2) (pa_cons (pv 4) (pa_cons (pv 5) pa_nil)))))
      (pss_cons (ps_if (pt_not (pt_val (pc1 c__law_whole hr (by decide) rfl (pa_cons (pv 6) pa_nil)))) (pss_one (ps_ret pe_bl)) pss_nil)
      (pss_cons (ps_set (i := 7) sc__law_changed.nd rfl (Or.inl rfl) (pe_op op_mulW (pe_op op_mulW (pv 2) (pe_ix ix_tup (pv 4) pe_int (fun _ _ => rfl))) (pe_ix ix_tup (pv 5) pe_int (fun _ _ => rfl))))
      (pss_cons (ps_set (i := 8) sc__law_changed.nd rfl (Or.inl rfl) (pe_op op_mulW (pe_ix ix_tup (pv 5) pe_int (fun _ _ => rfl)) (pe_ix ix_tup (pv 4) pe_int (fun _ _ => rfl))))
      (pss_cons (ps_if (PW.pt (pw_or (pt_cmpR op_lt (pc1 c_changed hr (by decide) rfl (pa_cons (pe_op op_add (pv 2) pe_int) (pa_cons (pv 5) (pa_cons (pv 4) pa_nil)))) pe_int (nomark _)) (pw_or1 (pt_cmpR op_ne (pc1 c_changed hr (by decide) rfl (pa_cons (pv 2) (pa_cons (pv 4) (pa_cons (pv 5) pa_nil)))) (pv 6) (nomark _))))) (pss_one (ps_ret pe_bl)) pss_nil)
      (pss_one (ps_ret (pe_and (pe_cmpR op_le (pe_op op_mulW (pv 6) (pv 8)) (pv 7) (nomark _)) (pe_one (pe_cmpR op_lt (pv 7) (pe_op op_mulW (pe_op op_add (pv 6) pe_int) (pv 8)) (nomark _)))))))))))))))))), ?_⟩
    -- way, amount
    refine ⟨_, rfl, l, ns, 9, rfl, hS, ?_⟩
    refine ⟨_, rfl, l, ns, 4, rfl, hS, _, _, rfl, rfl, cpow (by decide), _, _, rfl, rfl, _, _, rfl, rfl, by show (0 : Int) < 10 ^ (30 : Int).toNat + 1; decide, ?_⟩
    refine ⟨fun σ H' => H' = H ∧ ∃ am : Int, 0 ≤ am ∧ am ≤ 1000000000000000000000000000000 ∧ σ = [some (.ref l), some (.int (cellOf ns 9)), some (.int am), none, none, none, none, none, none], ?_, ?_⟩
    · refine ⟨_, rfl, _, _, rfl, rfl, by show (0 : Int) < 2; decide, rfl, _, rfl, ite2 (fun _ => ?_) (fun _ => ?_)⟩
      · refine ⟨_, rfl, l, ns, 4, rfl, hS, _, _, rfl, rfl, by show (0 : Int) < 100; decide, rfl, _, ?_, ?_, rfl⟩
        · exact (cell_mod (by decide)).1
        · have := (cell_mod (x := cellOf ns 4) (m := 100) (by decide)).2
          omega
      · refine ⟨rfl, _, (cell_mod (by decide)).1, ?_, rfl⟩
        have := (cell_mod (x := cellOf ns 4) (m := 10 ^ (30 : Int).toNat + 1) (by decide)).2
        rw [p30] at this
        rw [p30]
        omega
    rintro σ H' ⟨rfl, am, a0, a1, rfl⟩
    -- most
    refine ⟨_, _, rfl, rfl, cpow (by decide), ?_⟩
    refine ⟨fun σ H1 => H1 = H' ∧ ∃ mo : Int, 0 < mo ∧ mo ≤ 1000000000 ∧ σ = [some (.ref l), some (.int (cellOf ns 9)), some (.int am), some (.int mo), none, none, none, none, none], ?_, ?_⟩
    · refine ⟨_, rfl, _, _, rfl, rfl, wide_div (by decide) (b := 2) (by decide) (by decide) (by decide), _, _, rfl, rfl, by show (0 : Int) < 2; decide, rfl, _, rfl, ite2 (fun _ => ?_) (fun _ => ?_)⟩
      · exact ⟨rfl, 9, by decide, by decide, rfl⟩
      · exact ⟨rfl, _, by decide, by decide, rfl⟩
    rintro σ H1 ⟨rfl, mo, m0, m1, rfl⟩
    -- one, other
    have R : ∀ j : Nat, 1 ≤ 1 + cellOf ns j % mo ∧ 1 + cellOf ns j % mo ≤ 1000000000 := fun j => by
      have := cell_mod (x := cellOf ns j) m0
      omega
    refine ⟨_, rfl, l, ns, 5, rfl, hS, _, rfl, _, _, rfl, rfl, m0, _, _, rfl, rfl, _, rfl, l, ns, 6, rfl, hS, _, rfl, _, _, rfl, rfl, m0, _, _, rfl, rfl, by show 2 ≤ sizeLine; decide, fun p hp => ?_⟩
    have hS1 := ex_l (Ex.new (o := .tup [.int (1 + cellOf ns 5 % mo), .int (1 + cellOf ns 6 % mo)]) hp) hS
    refine ⟨_, rfl, l, ns, 7, rfl, hS1, _, rfl, _, _, rfl, rfl, m0, _, _, rfl, rfl, _, rfl, l, ns, 8, rfl, hS1, _, rfl, _, _, rfl, rfl, m0, _, _, rfl, rfl, by show 2 ≤ sizeLine; decide, fun q hq => ?_⟩
    have r5 := R 5
    have r6 := R 6
    have r7 := R 7
    have r8 := R 8
    have hqq : SqT K (upd (upd H1 p (.tup [.int (1 + cellOf ns 5 % mo), .int (1 + cellOf ns 6 % mo)])) q (.tup [.int (1 + cellOf ns 7 % mo), .int (1 + cellOf ns 8 % mo)])) q [.int (1 + cellOf ns 7 % mo), .int (1 + cellOf ns 8 % mo)] := st_of upd_same
    have hpp : SqT K (upd (upd H1 p (.tup [.int (1 + cellOf ns 5 % mo), .int (1 + cellOf ns 6 % mo)])) q (.tup [.int (1 + cellOf ns 7 % mo), .int (1 + cellOf ns 8 % mo)])) p [.int (1 + cellOf ns 5 % mo), .int (1 + cellOf ns 6 % mo)] := ex_t (Ex.new hq) (st_of upd_same)
    -- found
    refine ⟨_, rfl, _, rfl, _, rfl, am, (1 + cellOf ns 5 % mo), (1 + cellOf ns 6 % mo), (1 + cellOf ns 7 % mo), (1 + cellOf ns 8 % mo), p, q, rfl, hpp, hqq, by omega, by omega, by omega, by omega, by omega, by omega, by omega, ?_⟩
    refine ⟨_, rfl, _, rfl, _, rfl, ?_⟩
    refine iteF ?_
    have wa : am.natAbs < 2 ^ 101 := by omega
    have w1 : (1 + cellOf ns 5 % mo).natAbs < 2 ^ 30 := by omega
    have w2 : (1 + cellOf ns 6 % mo).natAbs < 2 ^ 30 := by omega
    have w3 : (1 + cellOf ns 7 % mo).natAbs < 2 ^ 30 := by omega
    have w4 : (1 + cellOf ns 8 % mo).natAbs < 2 ^ 30 := by omega
    have m1 : (am * (1 + cellOf ns 5 % mo)).natAbs < 2 ^ (101 + 30) := wide_lt wa w1
    -- value, each
    refine ⟨_, rfl, _, rfl, _, _, _, _, rfl, rfl, hpp, atI_nat (j := 0) rfl, _, _, rfl, rfl, wide_mul wa w1 (by decide) (by decide) (by decide), _, rfl, _, _, _, _, rfl, rfl, hqq, atI_nat (j := 1) rfl, _, _, rfl, rfl, wide_mul m1 w4 (by decide) (by decide) (by decide), ?_⟩
    refine ⟨_, rfl, _, _, _, _, rfl, rfl, hqq, atI_nat (j := 0) rfl, _, rfl, _, _, _, _, rfl, rfl, hpp, atI_nat (j := 1) rfl, _, _, rfl, rfl, wide_mul w3 w2 (by decide) (by decide) (by decide), ?_⟩
    -- changed(amount + 1, other, one) < 0
    have ne : 0 ≤ (am + 1) * (1 + cellOf ns 7 % mo) * (1 + cellOf ns 6 % mo) / ((1 + cellOf ns 8 % mo) * (1 + cellOf ns 5 % mo)) := Int.ediv_nonneg (Int.mul_nonneg (Int.mul_nonneg (by omega) (by omega)) (by omega)) (Int.mul_nonneg (by omega) (by omega))
    refine ⟨_, rfl, _, _, rfl, rfl, _, rfl, _, rfl, am + 1, (1 + cellOf ns 7 % mo), (1 + cellOf ns 8 % mo), (1 + cellOf ns 5 % mo), (1 + cellOf ns 6 % mo), q, p, rfl, hqq, hpp, by omega, w3, w4, w1, w2, by omega, by omega, _, _, rfl, rfl, _, rfl, ?_⟩
    refine iteBF (decide_eq_false (by omega)) ?_
    refine ⟨_, rfl, _, rfl, _, rfl, am, (1 + cellOf ns 5 % mo), (1 + cellOf ns 6 % mo), (1 + cellOf ns 7 % mo), (1 + cellOf ns 8 % mo), p, q, rfl, hpp, hqq, wa, w1, w2, w3, w4, by omega, by omega, _, rfl, rfl, _, rfl, ?_⟩
    refine iteBF (nb_f rfl) ?_
    -- the end
    have po : 0 < (1 + cellOf ns 6 % mo) * (1 + cellOf ns 7 % mo) := Int.mul_pos (by omega) (by omega)
    have me : (1 + cellOf ns 6 % mo) * (1 + cellOf ns 7 % mo) = (1 + cellOf ns 7 % mo) * (1 + cellOf ns 6 % mo) := Int.mul_comm _ _
    have l1 := Int.ediv_mul_le (am * (1 + cellOf ns 5 % mo) * (1 + cellOf ns 8 % mo)) (show (1 + cellOf ns 6 % mo) * (1 + cellOf ns 7 % mo) ≠ 0 by omega)
    have l2 := Int.lt_ediv_add_one_mul_self (am * (1 + cellOf ns 5 % mo) * (1 + cellOf ns 8 % mo)) po
    have f0 : 0 ≤ am * (1 + cellOf ns 5 % mo) * (1 + cellOf ns 8 % mo) / ((1 + cellOf ns 6 % mo) * (1 + cellOf ns 7 % mo)) := Int.ediv_nonneg (Int.mul_nonneg (Int.mul_nonneg (by omega) (by omega)) (by omega)) (by omega)
    have f1 : am * (1 + cellOf ns 5 % mo) * (1 + cellOf ns 8 % mo) / ((1 + cellOf ns 6 % mo) * (1 + cellOf ns 7 % mo)) ≤ am * (1 + cellOf ns 5 % mo) * (1 + cellOf ns 8 % mo) := Int.ediv_le_self _ (Int.mul_nonneg (Int.mul_nonneg (by omega) (by omega)) (by omega))
    have m2 : (am * (1 + cellOf ns 5 % mo) * (1 + cellOf ns 8 % mo)).natAbs < 2 ^ (101 + 30 + 30) := wide_lt m1 w4
    have mt : ((1 + cellOf ns 7 % mo) * (1 + cellOf ns 6 % mo)).natAbs < 2 ^ (30 + 30) := wide_lt w3 w2
    refine ⟨_, rfl, _, rfl, _, _, rfl, rfl, wide_mul (wide_le f0 f1 m2) mt (by decide) (by decide) (by decide), _, rfl, _, _, rfl, rfl, _, rfl, ?_⟩
    rw [me] at l1 l2 f0 f1 ⊢
    refine iteBT (decide_eq_true l1) ?_
    refine ⟨_, rfl, _, rfl, _, _, rfl, rfl, _, rfl, _, _, rfl, rfl, wide_mul (a := 162) (by omega) mt (by decide) (by decide) (by decide), _, _, rfl, rfl, ?_⟩
    exact q_bl (Q := Q) (decide_eq_true l2) (k _)
theorem low_cross {a b : Int} : a / gI a b * b = a * (b / gI a b) := by
  obtain ⟨x, hx⟩ := gI_dvd_left a b
  obtain ⟨y, hy⟩ := gI_dvd_right a b
  by_cases h : gI a b = 0
  · rw [h] at hx hy ⊢
    rw [Int.ediv_zero, Int.ediv_zero, Int.zero_mul, Int.mul_zero]
  · have e1 : a / gI a b = x := by
      conv => lhs; lhs; rw [hx]
      exact Int.mul_ediv_cancel_left x h
    have e2 : b / gI a b = y := by
      conv => lhs; lhs; rw [hy]
      exact Int.mul_ediv_cancel_left y h
    rw [e1, e2]
    conv => lhs; rhs; rw [hy]
    conv => rhs; lhs; rw [hx]
    rw [← Int.mul_assoc, Int.mul_comm x]
theorem low_one {a b : Int} (h : 0 < b) : gI (a / gI a b) (b / gI a b) = 1 := by
  have hg := gI_pos (a := a) h
  have hp : 0 < Int.gcd a b := by
    have : (Int.gcd a b : Int) = gI a b := rfl
    omega
  have e : Int.gcd (a / (Int.gcd a b : Int)) (b / (Int.gcd a b : Int)) = 1 := Int.gcd_ediv_gcd_ediv_gcd hp
  unfold gI
  have e2 : ((Int.gcd (a / (Int.gcd a b : Int)) (b / (Int.gcd a b : Int)) : Nat) : Int) = 1 := by rw [e]; rfl
  exact e2
theorem low_pos {a b : Int} (h : 0 < b) : 1 ≤ b / gI a b := by
  have hg := gI_pos (a := a) h
  obtain ⟨y, hy⟩ := gI_dvd_right a b
  have e2 : b / gI a b = y := by
    conv => lhs; lhs; rw [hy]
    exact Int.mul_ediv_cancel_left y (by omega)
  rw [e2]
  by_cases hy0 : y ≤ 0
  · have : gI a b * y ≤ 0 := Int.mul_nonpos_of_nonneg_of_nonpos (by omega) hy0
    omega
  · omega
theorem low_le {a b : Int} (h : 0 < b) : (a / gI a b).natAbs ≤ a.natAbs := by
  have hg := gI_pos (a := a) h
  obtain ⟨y, hy⟩ := gI_dvd_left a b
  have e2 : a / gI a b = y := by
    conv => lhs; lhs; rw [hy]
    exact Int.mul_ediv_cancel_left y (by omega)
  rw [e2]
  have e3 : a.natAbs = (gI a b).natAbs * y.natAbs := by
    conv => lhs; rw [hy]
    exact Int.natAbs_mul _ _
  rw [e3]
  exact Nat.le_mul_of_pos_left _ (by omega)
theorem low_le2 {a b : Int} (h : 0 < b) : (b / gI a b).natAbs ≤ b.natAbs := by
  have hg := gI_pos (a := a) h
  obtain ⟨y, hy⟩ := gI_dvd_right a b
  have e2 : b / gI a b = y := by
    conv => lhs; lhs; rw [hy]
    exact Int.mul_ediv_cancel_left y (by omega)
  rw [e2]
  have e3 : b.natAbs = (gI a b).natAbs * y.natAbs := by
    conv => lhs; rw [hy]
    exact Int.natAbs_mul _ _
  rw [e3]
  exact Nat.le_mul_of_pos_left _ (by omega)
theorem p40 : ((10 : Int) ^ (40 : Int).toNat) = 10000000000000000000000000000000000000000 := by decide
theorem p20 : ((10 : Int) ^ (20 : Int).toNat) = 100000000000000000000 := by decide
theorem p6 : ((10 : Int) ^ (6 : Int).toNat) = 1000000 := by decide
/-- law; slots ["_law_script", "_law_way", "_law_top", "_law_bottom", "_law_found"] -/
theorem fok_law {f : Addr} {fd : FuncData} (F : Fun K "law" "law" s_law f fd) (B : Bs K mg) : FnOk P w K mg base CX0 3 f fd ["_law_script"] (spLaw K) := by
  have c__law_changed : Kn P w K mg base 2 "_law_changed" (spLaw K) := kn__law_changed B
  have c_lowest : Kn P w K mg base 1 "lowest" spLowest := kn_lowest B
  have c__law_common : Kn P w K mg base 1 "_law_common" spCommon := kn__law_common B
  have c__law_whole : Kn P w K mg base 1 "_law_whole" spWhole := kn__law_whole B
  have c__law_cell : Kn P w K mg base 1 "_law_cell" (spCell K) := kn__law_cell B
  refine okF F sc_law (fun vs H Q E h => ?_) (fun f cdv A outer s H vs Q E hr h => ?_)
  · obtain ⟨l, ns, rfl, _⟩ := h; rfl
  · obtain ⟨l, ns, rfl, hS, hl, k⟩ := h
    refine ⟨_, (pss_cons (ps_set (i := 1) sc_law.nd rfl (Or.inl rfl) (pc1 c__law_cell hr (by decide) rfl (pa_cons (pv 0) (pa_cons pe_int pa_nil))))
      (pss_cons (ps_set (i := 2) sc_law.nd rfl (Or.inl rfl) (pe_op op_sub (pe_op op_mod (pc1 c__law_cell hr (by decide) rfl (pa_cons (pv 0) (pa_cons pe_int pa_nil))) (pe_op op_add (pe_op op_mulW pe_int (pe_op op_pow pe_int pe_int)) pe_int)) (pe_op op_pow pe_int pe_int)))
      (pss_cons (ps_set (i := 3) sc_law.nd rfl (Or.inl rfl) (pe_op op_add pe_int (pe_op op_mod (pc1 c__law_cell hr (by decide) rfl (pa_cons (pv 0) (pa_cons pe_int pa_nil))) (pe_op op_pow pe_int pe_int))))
      (pss_cut (ps_if (pt_cmpR op_eq (pe_op op_mod (pv 1) pe_int) pe_int (nomark _)) (pss_cons (ps_set (i := 2) sc_law.nd rfl (Or.inl rfl) (pe_op op_sub (pe_op op_mod (pc1 c__law_cell hr (by decide) rfl (pa_cons (pv 0) (pa_cons pe_int pa_nil))) pe_int) pe_int))
      (pss_one (ps_set (i := 3) sc_law.nd rfl (Or.inl rfl) (pe_op op_add pe_int (pe_op op_mod (pc1 c__law_cell hr (by decide) rfl (pa_cons (pv 0) (pa_cons pe_int pa_nil))) pe_int))))) pss_nil)
      (pss_cut (ps_if (pt_cmpR op_eq (pe_op op_mod (pe_op op_fdivW (pv 1) pe_int) pe_int) pe_int (nomark _)) (pss_cons (ps_set (i := 2) sc_law.nd rfl (Or.inl rfl) (pe_op op_mulW (pv 2) (pe_op op_add pe_int (pe_op op_mod (pc1 c__law_cell hr (by decide) rfl (pa_cons (pv 0) (pa_cons pe_int pa_nil))) (pe_op op_pow pe_int pe_int)))))
      (pss_one (ps_set (i := 3) sc_law.nd rfl (Or.inl rfl) (pe_op op_mulW (pv 3) (pe_op op_add pe_int (pe_op op_mod (pc1 c__law_cell hr (by decide) rfl (pa_cons (pv 0) (pa_cons pe_int pa_nil))) (pe_op op_pow pe_int pe_int))))))) pss_nil)
      (pss_cons (ps_set (i := 4) sc_law.nd rfl (Or.inl rfl) (pc1 c_lowest hr (by decide) rfl (pa_cons (pv 2) (pa_cons (pv 3) pa_nil))))
      (pss_cons (ps_if (PW.pt (pw_or (pt_not (pt_val (pe_callB call_isi (by rfl) B.b_isinstance (by decide +kernel) (pa_cons (pv 4) (pa_cons (pe_bltn (v := .ty "tuple") (by rfl) B.b_tuple (by decide +kernel) rfl) pa_nil))))) (pw_or1 (pt_cmpR op_ne (pe_callB call_len_seq (by rfl) B.b_len (by decide +kernel) (pa_cons (pv 4) pa_nil)) pe_int (nomark _))))) (pss_one (ps_ret pe_bl)) pss_nil)
      (pss_cons (ps_if (PW.pt (pw_or (pt_not (pt_val (pc1 c__law_whole hr (by decide) rfl (pa_cons (pe_ix ix_tup (pv 4) pe_int (fun _ _ => rfl)) pa_nil)))) (pw_or (pt_not (pt_val (pc1 c__law_whole hr (by decide) rfl (pa_cons (pe_ix ix_tup (pv 4) pe_int (fun _ _ => rfl)) pa_nil)))) (pw_or1 (pt_cmpR op_lt (pe_ix ix_tup (pv 4) pe_int (fun _ _ => rfl)) pe_int (nomark _)))))) (pss_one (ps_ret pe_bl)) pss_nil)
      (pss_cons (ps_if (PW.pt (pw_or (pt_cmpR op_ne (pe_op op_mulW (pe_ix ix_tup (pv 4) pe_int (fun _ _ => rfl)) (pv 3)) (pe_op op_mulW (pv 2) (pe_ix ix_tup (pv 4) pe_int (fun _ _ => rfl))) (nomark _)) (pw_or1 (pt_cmpR op_ne (pc1 c__law_common hr (by decide) rfl (pa_cons (pe_ix ix_tup (pv 4) pe_int (fun _ _ => rfl)) (pa_cons (pe_ix ix_tup (pv 4) pe_int (fun _ _ => rfl)) pa_nil))) pe_int (nomark _))))) (pss_one (ps_ret pe_bl)) pss_nil)
      (pss_cons (ps_if (PW.pt (pw_or (pt_cmpR op_lt (pe_ix ix_tup (pc1 c_lowest hr (by decide) rfl (pa_cons (pe_op op_add (pv 2) pe_int) (pa_cons (pv 3) pa_nil))) pe_int (fun _ _ => rfl)) pe_int (nomark _)) (pw_or1 (pt_cmpR (op_neD hr.units) (pc1 c_lowest hr (by decide) rfl (pa_cons (pv 2) (pa_cons (pv 3) pa_nil))) (pv 4) (nomark _))))) (pss_one (ps_ret pe_bl)) pss_nil)
      (pss_one (ps_ret (pc1 c__law_changed hr (by decide) rfl (pa_cons (pv 0) pa_nil)))))))))))))), ?_⟩
    -- way, top, bottom
    refine ⟨_, rfl, l, ns, 2, rfl, hS, ?_⟩
    refine ⟨_, rfl, l, ns, 0, rfl, hS, _, _, rfl, rfl, cpow (by decide), _, _, rfl, rfl, wide_mul (a := 2) (b := 200) (by decide) (by decide) (by decide) (by decide) (by decide), _, _, rfl, rfl, _, _, rfl, rfl, by show (0 : Int) < 2 * 10 ^ (40 : Int).toNat + 1; decide, _, _, rfl, rfl, cpow (by decide), _, _, rfl, rfl, ?_⟩
    refine ⟨_, rfl, l, ns, 1, rfl, hS, _, _, rfl, rfl, cpow (by decide), _, _, rfl, rfl, by show (0 : Int) < 10 ^ (20 : Int).toNat; decide, _, _, rfl, rfl, ?_⟩
    refine ⟨fun σ H' => H' = H ∧ ∃ T B : Int, T.natAbs < 2 ^ 136 ∧ 1 ≤ B ∧ B.natAbs < 2 ^ 70 ∧ σ = [some (.ref l), some (.int (cellOf ns 2)), some (.int T), some (.int B), none], ?_, ?_⟩
    · refine ⟨_, rfl, _, _, rfl, rfl, by show (0 : Int) < 2; decide, rfl, _, rfl, ite2 (fun _ => ?_) (fun _ => ?_)⟩
      · refine ⟨_, rfl, l, ns, 0, rfl, hS, _, _, rfl, rfl, by show (0 : Int) < 25; decide, _, _, rfl, rfl, ?_⟩
        refine ⟨_, rfl, l, ns, 1, rfl, hS, _, _, rfl, rfl, by show (0 : Int) < 12; decide, _, _, rfl, rfl, rfl, _, _, ?_, ?_, ?_, rfl⟩
        · have := cell_mod (x := cellOf ns 0) (m := 25) (by decide)
          show (cellOf ns 0 % 25 - 12).natAbs < _
          omega
        · have := cell_mod (x := cellOf ns 1) (m := 12) (by decide)
          show 1 ≤ 1 + cellOf ns 1 % 12
          omega
        · have := cell_mod (x := cellOf ns 1) (m := 12) (by decide)
          show (1 + cellOf ns 1 % 12).natAbs < _
          omega
      · refine ⟨rfl, _, _, ?_, ?_, ?_, rfl⟩
        · have := cell_mod (x := cellOf ns 0) (m := 2 * 10 ^ (40 : Int).toNat + 1) (by decide)
          rw [p40] at this
          show (cellOf ns 0 % (2 * 10 ^ (40 : Int).toNat + 1) - 10 ^ (40 : Int).toNat).natAbs < _
          rw [p40]
          omega
        · have := cell_mod (x := cellOf ns 1) (m := 10 ^ (20 : Int).toNat) (by decide)
          show 1 ≤ 1 + cellOf ns 1 % 10 ^ (20 : Int).toNat
          omega
        · have := cell_mod (x := cellOf ns 1) (m := 10 ^ (20 : Int).toNat) (by decide)
          rw [p20] at this
          show (1 + cellOf ns 1 % 10 ^ (20 : Int).toNat).natAbs < _
          rw [p20]
          omega
    rintro σ H' ⟨rfl, T, B, hT, hB, hBw, rfl⟩
    refine ⟨fun σ H1 => H1 = H' ∧ ∃ T B : Int, T.natAbs < 2 ^ 160 ∧ 1 ≤ B ∧ B.natAbs < 2 ^ 100 ∧ σ = [some (.ref l), some (.int (cellOf ns 2)), some (.int T), some (.int B), none], ?_, ?_⟩
    · refine ⟨_, rfl, _, _, rfl, rfl, wide_div (by decide) (b := 2) (by decide) (by decide) (by decide), _, _, rfl, rfl, by show (0 : Int) < 2; decide, rfl, _, rfl, ite2 (fun _ => ?_) (fun _ => ?_)⟩
      · have hc := cell_mod (x := cellOf ns 3) (m := 10 ^ (6 : Int).toNat) (by decide)
        have hc2 : (1 + cellOf ns 3 % 10 ^ (6 : Int).toNat).natAbs < 2 ^ 20 := by
          rw [p6] at hc ⊢
          omega
        refine ⟨_, rfl, _, rfl, l, ns, 3, rfl, hS, _, _, rfl, rfl, cpow (by decide), _, _, rfl, rfl, by show (0 : Int) < 10 ^ (6 : Int).toNat; decide, _, _, rfl, rfl, _, _, rfl, rfl, wide_mul hT hc2 (by decide) (by decide) (by decide), ?_⟩
        refine ⟨_, rfl, _, rfl, l, ns, 3, rfl, hS, _, _, rfl, rfl, cpow (by decide), _, _, rfl, rfl, by show (0 : Int) < 10 ^ (6 : Int).toNat; decide, _, _, rfl, rfl, _, _, rfl, rfl, wide_mul hBw hc2 (by decide) (by decide) (by decide), rfl, _, _, ?_, ?_, ?_, rfl⟩
        · exact Nat.lt_of_lt_of_le (wide_lt hT hc2) (by decide)
        · exact Int.mul_pos (show 0 < B by omega) (show 0 < 1 + cellOf ns 3 % 10 ^ (6 : Int).toNat by omega)
        · exact Nat.lt_of_lt_of_le (wide_lt hBw hc2) (by decide)
      · exact ⟨rfl, T, B, Nat.lt_of_lt_of_le hT (by decide), hB, Nat.lt_of_lt_of_le hBw (by decide), rfl⟩
    clear hT hB hBw T B
    rintro σ H1 ⟨rfl, T, B, hT, hB, hBw, rfl⟩
    have B0 : 0 < B := by omega
    have Bw : B.natAbs < 2 ^ 400 := Nat.lt_of_lt_of_le hBw (by decide)
    -- found
    refine ⟨_, rfl, _, rfl, T, B, rfl, B0, Bw, fun p hp => ?_⟩
    have e1 : Ex H1 (upd H1 p (.tup [.int (T / gI T B), .int (B / gI T B)])) := Ex.new hp
    have hp1 : (upd H1 p (.tup [.int (T / gI T B), .int (B / gI T B)])) p = some (.tup [.int (T / gI T B), .int (B / gI T B)]) := upd_same
    generalize upd H1 p (.tup [.int (T / gI T B), .int (B / gI T B)]) = H2 at e1 hp1 ⊢
    have hT2 : SqT K H2 p [.int (T / gI T B), .int (B / gI T B)] := st_of hp1
    refine ⟨_, rfl, .ref p, .ty "tuple", _, _, true, rfl, .ty "tuple", .base (.tup hp1), kit_ty (by decide +kernel), _, rfl, ?_⟩
    refine iteF ?_
    refine ⟨_, rfl, p, _, rfl, .inr hT2, rfl, _, rfl, ?_⟩
    refine iteBF (nb_f rfl) ?_
    -- whole numbers
    refine ⟨_, rfl, _, _, _, _, rfl, rfl, hT2, atI_nat (j := 0) rfl, _, rfl, _, rfl, ?_⟩
    refine iteF ?_
    refine ⟨_, rfl, _, _, _, _, rfl, rfl, hT2, atI_nat (j := 1) rfl, _, rfl, _, rfl, ?_⟩
    refine iteF ?_
    refine ⟨_, rfl, _, _, _, _, rfl, rfl, hT2, atI_nat (j := 1) rfl, _, _, rfl, rfl, _, rfl, ?_⟩
    have lp := low_pos (a := T) B0
    refine iteBF (decide_eq_false (by omega)) ?_
    -- the same fraction
    have w1 := Nat.lt_of_le_of_lt (low_le (a := T) B0) hT
    have w2 := Nat.lt_of_le_of_lt (low_le2 (a := T) B0) hBw
    refine ⟨_, rfl, _, _, _, _, rfl, rfl, hT2, atI_nat (j := 0) rfl, _, rfl, _, _, rfl, rfl, wide_mul w1 hBw (by decide) (by decide) (by decide), _, rfl, _, rfl, _, _, _, _, rfl, rfl, hT2, atI_nat (j := 1) rfl, _, _, rfl, rfl, wide_mul hT w2 (by decide) (by decide) (by decide), rfl, _, rfl, ?_⟩
    refine iteBF (nb_f (congrArg V.int low_cross)) ?_
    refine ⟨_, rfl, _, _, _, _, rfl, rfl, hT2, atI_nat (j := 0) rfl, _, rfl, _, _, _, _, rfl, rfl, hT2, atI_nat (j := 1) rfl, _, _, rfl, by omega, rfl, _, rfl, ?_⟩
    refine iteBF (nb_f (congrArg V.int (low_one B0))) ?_
    -- lowest(top + 1, bottom)[1]
    refine ⟨_, rfl, _, _, rfl, rfl, _, rfl, T + 1, B, rfl, B0, Bw, fun p2 hp2 => ?_⟩
    have hS2 := ex_l e1 hS
    have e2 : Ex H2 (upd H2 p2 (.tup [.int ((T + 1) / gI (T + 1) B), .int (B / gI (T + 1) B)])) := Ex.new hp2
    refine ⟨_, _, _, _, rfl, rfl, st_of upd_same, atI_nat (j := 1) rfl, _, _, rfl, rfl, _, rfl, ?_⟩
    have lp2 := low_pos (a := T + 1) B0
    refine iteBF (decide_eq_false (by omega)) ?_
    generalize upd H2 p2 (.tup [.int ((T + 1) / gI (T + 1) B), .int (B / gI (T + 1) B)]) = H3 at e2 ⊢
    have hT3 := ex_t e2 hT2
    -- lowest(top, bottom) != found
    refine ⟨_, rfl, _, rfl, T, B, rfl, B0, Bw, fun p3 hp3 => ?_⟩
    have e3 : Ex H3 (upd H3 p3 (.tup [.int (T / gI T B), .int (B / gI T B)])) := Ex.new hp3
    refine ⟨_, rfl, .tuple [.int (T / gI T B), .int (B / gI T B)], .tuple [.int (T / gI T B), .int (B / gI T B)], .tup (st_of upd_same) (.cons (.int _) (.cons (.int _) .nil)), .tup (ex_t e3 hT3) (.cons (.int _) (.cons (.int _) .nil)), rfl, rfl, _, rfl, ?_⟩
    refine iteBF (by rw [SeqAt.eqv_refl _ rfl]; rfl) ?_
    -- the other half
    exact ⟨_, rfl, l, ns, rfl, ex_l e3 (ex_l e2 hS2), hl, k⟩

end
theorem all_mk {l : PySem.W.OpenLaw} {w : World} {K : PySem.W.Frag} {h : Heap} {mg : Str → Option Value} {fa : Addr} (X : K.In h) (G : h.Ns mainGlobals mg) (hfa : mg "law" = some (.ref fa))
    {f0 : Addr} {od0 an0 : Option Addr} {sl0 : Array (Option Value)} {oc0 kV0 dc0 pm0 cd0 ct0 : Value}
    (a0 : PySem.W.nsIn K mainGlobals "lowest" = some (some (.ref f0))) (l0 : K.lookup f0 = some ⟨oc0, od0, .func (PySem.W.fnOf "lowest" "lowest" (defArgs s_lowest) (defBody s_lowest) (defScope s_lowest) .none kV0 dc0 pm0 an0 cd0 ct0), sl0⟩) (c0 : PySem.W.codeIn K cd0 "lowest" = true) (k0 : PySem.W.keepIn K (.ref f0) = true)
    {f1 : Addr} {od1 an1 : Option Addr} {sl1 : Array (Option Value)} {oc1 kV1 dc1 pm1 cd1 ct1 : Value}
    (a1 : PySem.W.nsIn K mainGlobals "changed" = some (some (.ref f1))) (l1 : K.lookup f1 = some ⟨oc1, od1, .func (PySem.W.fnOf "changed" "changed" (defArgs s_changed) (defBody s_changed) (defScope s_changed) .none kV1 dc1 pm1 an1 cd1 ct1), sl1⟩) (c1 : PySem.W.codeIn K cd1 "changed" = true) (k1 : PySem.W.keepIn K (.ref f1) = true)
    {f2 : Addr} {od2 an2 : Option Addr} {sl2 : Array (Option Value)} {oc2 kV2 dc2 pm2 cd2 ct2 : Value}
    (a2 : PySem.W.nsIn K mainGlobals "_law_cell" = some (some (.ref f2))) (l2 : K.lookup f2 = some ⟨oc2, od2, .func (PySem.W.fnOf "_law_cell" "_law_cell" (defArgs s__law_cell) (defBody s__law_cell) (defScope s__law_cell) .none kV2 dc2 pm2 an2 cd2 ct2), sl2⟩) (c2 : PySem.W.codeIn K cd2 "_law_cell" = true) (k2 : PySem.W.keepIn K (.ref f2) = true)
    {f3 : Addr} {od3 an3 : Option Addr} {sl3 : Array (Option Value)} {oc3 kV3 dc3 pm3 cd3 ct3 : Value}
    (a3 : PySem.W.nsIn K mainGlobals "_law_whole" = some (some (.ref f3))) (l3 : K.lookup f3 = some ⟨oc3, od3, .func (PySem.W.fnOf "_law_whole" "_law_whole" (defArgs s__law_whole) (defBody s__law_whole) (defScope s__law_whole) .none kV3 dc3 pm3 an3 cd3 ct3), sl3⟩) (c3 : PySem.W.codeIn K cd3 "_law_whole" = true) (k3 : PySem.W.keepIn K (.ref f3) = true)
    {f4 : Addr} {od4 an4 : Option Addr} {sl4 : Array (Option Value)} {oc4 kV4 dc4 pm4 cd4 ct4 : Value}
    (a4 : PySem.W.nsIn K mainGlobals "_law_common" = some (some (.ref f4))) (l4 : K.lookup f4 = some ⟨oc4, od4, .func (PySem.W.fnOf "_law_common" "_law_common" (defArgs s__law_common) (defBody s__law_common) (defScope s__law_common) .none kV4 dc4 pm4 an4 cd4 ct4), sl4⟩) (c4 : PySem.W.codeIn K cd4 "_law_common" = true) (k4 : PySem.W.keepIn K (.ref f4) = true)
    {f5 : Addr} {od5 an5 : Option Addr} {sl5 : Array (Option Value)} {oc5 kV5 dc5 pm5 cd5 ct5 : Value}
    (a5 : PySem.W.nsIn K mainGlobals "_law_changed" = some (some (.ref f5))) (l5 : K.lookup f5 = some ⟨oc5, od5, .func (PySem.W.fnOf "_law_changed" "_law_changed" (defArgs s__law_changed) (defBody s__law_changed) (defScope s__law_changed) .none kV5 dc5 pm5 an5 cd5 ct5), sl5⟩) (c5 : PySem.W.codeIn K cd5 "_law_changed" = true) (k5 : PySem.W.keepIn K (.ref f5) = true)
    {f6 : Addr} {od6 an6 : Option Addr} {sl6 : Array (Option Value)} {oc6 kV6 dc6 pm6 cd6 ct6 : Value}
    (a6 : PySem.W.nsIn K mainGlobals "law" = some (some (.ref f6))) (l6 : K.lookup f6 = some ⟨oc6, od6, .func (PySem.W.fnOf "law" "law" (defArgs s_law) (defBody s_law) (defScope s_law) .none kV6 dc6 pm6 an6 cd6 ct6), sl6⟩) (c6 : PySem.W.codeIn K cd6 "law" = true) (k6 : PySem.W.keepIn K (.ref f6) = true)
    (z_bool : PySem.W.nsIn K mainGlobals "bool" = some none)
    (z_int : PySem.W.nsIn K mainGlobals "int" = some none)
    (z_isinstance : PySem.W.nsIn K mainGlobals "isinstance" = some none)
    (z_len : PySem.W.nsIn K mainGlobals "len" = some none)
    (z_tuple : PySem.W.nsIn K mainGlobals "tuple" = some none)
    (z_gcd : PySem.W.nsIn K mainGlobals "gcd" = some (some (.builtin "math.gcd")))
    : ∃ fd : FuncData, (∀ (s : Shared) (v : Value), BindsTo s fd ⟨[v], []⟩ [("_law_script", v)]) ∧ ∀ base : Heap, K.In base → base.Ns mainGlobals mg → FnOk l.prog w K mg base CX0 3 fa fd ["_law_script"] (spLaw K) := by
  have B : Bs K mg := ⟨df_mk X G a0 l0 c0 k0 fun _ _ _ _ _ _ us hl => match us, hl with | [_, _], _ => rfl,
    df_mk X G a1 l1 c1 k1 fun _ _ _ _ _ _ us hl => match us, hl with | [_, _, _], _ => rfl,
    df_mk X G a2 l2 c2 k2 fun _ _ _ _ _ _ us hl => match us, hl with | [_, _], _ => rfl,
    df_mk X G a3 l3 c3 k3 fun _ _ _ _ _ _ us hl => match us, hl with | [_], _ => rfl,
    df_mk X G a4 l4 c4 k4 fun _ _ _ _ _ _ us hl => match us, hl with | [_, _], _ => rfl,
    df_mk X G a5 l5 c5 k5 fun _ _ _ _ _ _ us hl => match us, hl with | [_], _ => rfl,
    df_mk X G a6 l6 c6 k6 fun _ _ _ _ _ _ us hl => match us, hl with | [_], _ => rfl,
    PySem.W.mg_none_of X G z_bool,
    PySem.W.mg_none_of X G z_int,
    PySem.W.mg_none_of X G z_isinstance,
    PySem.W.mg_none_of X G z_len,
    PySem.W.mg_none_of X G z_tuple,
    PySem.W.mg_of X G z_gcd⟩
  have e := hfa.symm.trans (PySem.W.mg_of X G a6)
  cases e
  have F := fun_mk (st := s_law) l6 c6 k6
  refine ⟨PySem.W.fnOf "law" "law" (defArgs s_law) (defBody s_law) (defScope s_law) .none kV6 dc6 pm6 an6 cd6 ct6, fun s v => .of_eq rfl, fun base _ _ => ?_⟩
  exact fok_law F B
end Prf
open PySem PySem.W PyProof.Rows
set_option maxHeartbeats 0 in
theorem PySem.Challenge.cw_doubleledger_k01_lowest_and_changed_holds : PySem.Challenge.rw_doubleledger_k01_lowest_and_changed.Holds := by
  w_on; o_law; k_head; (case hw => w_witness2)
  k_fill
  refine L2.walk_of (l := PySem.Challenge.rw_doubleledger_k01_lowest_and_changed) (n := 63) (k := 3) (x := "_law_script") (CX := fun _ => L2.CX0) (sp := fun w => (Prf.spLaw _)) rfl (by decide) rfl ⟨rfl, by decide, by decide⟩ (fun w h Y => PySem.W.kIn_of Y) ?F (fun _ _ a ns hl _ hS => ⟨a, ns, rfl, hS, hl, fun _ => rfl⟩) (fun _ _ _ _ _ h => h)
  case F =>
    intro w mg fa h KX G hmg
    refine' Prf.all_mk KX G hmg ?a0 ?l0 ?c0 ?k0 ?a1 ?l1 ?c1 ?k1 ?a2 ?l2 ?c2 ?k2 ?a3 ?l3 ?c3 ?k3 ?a4 ?l4 ?c4 ?k4 ?a5 ?l5 ?c5 ?k5 ?a6 ?l6 ?c6 ?k6 ?z_bool ?z_int ?z_isinstance ?z_len ?z_tuple ?z_gcd
    (case a0 => k_is)
    (case l0 => k_is)
    (case c0 => k_is)
    (case k0 => k_is)
    (case a1 => k_is)
    (case l1 => k_is)
    (case c1 => k_is)
    (case k1 => k_is)
    (case a2 => k_is)
    (case l2 => k_is)
    (case c2 => k_is)
    (case k2 => k_is)
    (case a3 => k_is)
    (case l3 => k_is)
    (case c3 => k_is)
    (case k3 => k_is)
    (case a4 => k_is)
    (case l4 => k_is)
    (case c4 => k_is)
    (case k4 => k_is)
    (case a5 => k_is)
    (case l5 => k_is)
    (case c5 => k_is)
    (case k5 => k_is)
    (case a6 => k_is)
    (case l6 => k_is)
    (case c6 => k_is)
    (case k6 => k_is)
    (case z_bool => k_is)
    (case z_int => k_is)
    (case z_isinstance => k_is)
    (case z_len => k_is)
    (case z_tuple => k_is)
    (case z_gcd => k_is)
