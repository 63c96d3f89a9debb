import PyProof.Rows.All
import Wide.All
import OpenK.AllK
import Wide.FinOn
import HandS.ForMost
import HandS.IsInst
import HandS.Wide
import HandS.Gcd
import HandS.Evl
import HandS.More
import HandS.ForExc
import HandS.ExcIs
import HandS.HotCalls
import HandS.TryMany
import HandS.AnyAll
import PyProof.GenCompD
import PyProof.SumAny
import HandS.Dict
import HandS.SetKeys
import HandS.Flow
import KE.KNestM
import HandS.Walk
import HandS.Lambda
import HandS.EndTab
import PySem.Challenge.RW_doubleledger_k03_rates_by_days
set_option Elab.async false
set_option linter.all false
set_option maxRecDepth 100000
set_option maxHeartbeats 4000000
namespace My
open PySem PySem.Spec PyProof.Rows L2 Evl

/-! ### a def of the text, by its name; what it promises -/
structure Df (K : PySem.W.Frag) (mg : Str → Option Value) (x : Str) (st : Stmt) (ps : List Str) : Prop where
  ex : ∃ (f : Addr) (fd : FuncData), Fun K x x st f fd ∧ mg x = some (.ref f) ∧ Binds K fd ps []
structure Kn (P : Program) (w : World) (K : PySem.W.Frag) (mg : Str → Option Value) (base : Heap) (k : Nat) (x : Str) (sp : Sp) : Prop where
  ex : ∃ (f : Addr) (fd : FuncData) (ps : List Str), FnOk P w K mg base CX0 k f fd ps sp ∧ mg x = some (.ref f) ∧ PySem.W.keepIn K (.ref f) = true ∧ Binds K fd ps []
section
variable {P : Program} {w : World} {K : PySem.W.Frag} {mg : Str → Option Value} {base : Heap}
theorem Df.ok {x : Str} {st : Stmt} {N ps : List Str} {k : Nat} {sp : Sp} (D : Df K mg x st ps) (S : FnScope N ps (defScope st)) (len : ∀ vs H Q E, sp vs H Q E → vs.length = ps.length)
    (hbody : ∀ (f : Addr) (cdv : Value) (A : Around) (outer : List Env) (s : Shared) (H : Hp) (vs : List V) (Q : VK) (E : XK), Room k (A.deeper (envOfC x (defScope st) s.heap.objs.size f cdv)) → sp vs H Q E →
      ∃ t, PSs (cxOf CX0 P w K mg base N x (defScope st) f cdv A outer s H E).nox (defBody st) t ∧ t { nx := fun _ H' => Q .non H', rt := Q } (start N vs) H) : Kn P w K mg base (k + 1) x sp := by
  obtain ⟨f, fd, F, hm, hb⟩ := D.ex
  exact ⟨f, fd, ps, F.ok S len fun cdv A outer s H vs Q E hr h => hbody f cdv A outer s H vs Q E hr h, hm, F.kp, hb⟩
theorem okF {x : Str} {st : Stmt} {f : Addr} {fd : FuncData} {N ps : List Str} {k : Nat} {sp : Sp} (F : Fun K x x st f fd) (S : FnScope N ps (defScope st)) (len : ∀ vs H Q E, sp vs H Q E → vs.length = ps.length)
    (hbody : ∀ (f : Addr) (cdv : Value) (A : Around) (outer : List Env) (s : Shared) (H : Hp) (vs : List V) (Q : VK) (E : XK), Room k (A.deeper (envOfC x (defScope st) s.heap.objs.size f cdv)) → sp vs H Q E →
      ∃ t, PSs (cxOf CX0 P w K mg base N x (defScope st) f cdv A outer s H E).nox (defBody st) t ∧ t { nx := fun _ H' => Q .non H', rt := Q } (start N vs) H) : FnOk P w K mg base CX0 (k + 1) f fd ps sp :=
  F.ok S len (hbody f)
theorem df_mk {h : Heap} {x : Str} {st : Stmt} {ps : List Str} {f : Addr} {oc : Value} {od an : Option Addr} {osl : Array (Option Value)} {kV doc pm cdv ct : Value} (X : K.In h) (G : h.Ns mainGlobals mg)
    (a : PySem.W.nsIn K mainGlobals x = some (some (.ref f))) (l : K.lookup f = some ⟨oc, od, .func (PySem.W.fnOf x x (defArgs st) (defBody st) (defScope st) .none kV doc pm an cdv ct), osl⟩)
    (c : PySem.W.codeIn K cdv x = true) (k : PySem.W.keepIn K (.ref f) = true)
    (b : ∀ (kV doc pm : Value) (an : Option Addr) (cdv ct : Value) (us : List Value), us.length = ps.length → bindArgs (PySem.W.fnOf x x (defArgs st) (defBody st) (defScope st) .none kV doc pm an cdv ct) ⟨us, []⟩ = pure (ps.zip us)) : Df K mg x st ps := by
  have F := fun_mk (st := st) l c k
  exact ⟨f, _, F, PySem.W.mg_of X G a, F.binds b⟩
end
section
variable {X : Cx} {k j : Nat} {x : Str} {sp : Sp} {p pos : Pos} {e : Expr} {es : List Expr} {t : TA}
theorem pc1 (c : Kn X.prog X.w X.K X.mg X.base k x sp) (hr : Room j X.A) (hk : k ≤ j) (hg : Gl X x) (ha : PA X (e :: es) t)
    (hdb : (x == ("__debug__" : Str)) = false := by decide) (he : starEach (e :: es) X.env = (false, eval e X.env) :: starEach es X.env := by rfl) (hpl : (backTo pos (starEach es X.env)).any (·.1) = false := by rfl) :
    PE X (.Call (.Name x p) (e :: es) [] pos) (tCall sp [] E0 t) := by
  obtain ⟨f, fd, ps, F, hm, kp, b⟩ := c.ex
  exact pe_call F (hr.mono hk) hg hm kp b .nil pass0 ha hdb he hpl
theorem pc0 (c : Kn X.prog X.w X.K X.mg X.base k x sp) (hr : Room j X.A) (hk : k ≤ j) (hg : Gl X x)
    (hdb : (x == ("__debug__" : Str)) = false := by decide) :
    PE X (.Call (.Name x p) [] [] pos) (tCall sp [] E0 tNil) := by
  obtain ⟨f, fd, ps, F, hm, kp, b⟩ := c.ex
  exact pe_call0 F (hr.mono hk) hg hm kp b .nil pass0 hdb
end
/-! ### more of Ev -/
section
variable {K : PySem.W.Frag} {σ : L2.St} {H H' : Hp} {ta tb te tx : TE} {t u : TT} {x y z v : V} {r : R2}
/-- a call that hands back a value, heap kept or grown -/
theorem ev_c1 {sp : Sp} {vs : List V} {E : XK} {ta : TA} (h : EvA ta σ H vs) (hs : ∀ H1, Ex H H1 → ∀ Q : VK, (∀ H2, Ex H1 H2 → Q z H2) → ∀ E : XK, sp vs H1 Q E) : Ev (tCall sp [] E ta) σ H z :=
  ev_call h (by rw [List.append_nil]; exact hs)
theorem eu_c1 {sp : Sp} {vs xs : List V} {E : XK} {ta : TA} (h : EvA ta σ H vs) (hs : ∀ H1, Ex H H1 → ∀ Q : VK, (∀ p H2, H1 p = none → Ex H1 H2 → H2 p = some (.tup xs) → Q (.ref p) H2) → ∀ E : XK, sp vs H1 Q E) : EvU (tCall sp [] E ta) σ H xs := fun H1 e Q q =>
  h H1 e _ fun H2 e2 => by
    show sp (vs ++ []) H2 Q _
    rw [List.append_nil]
    exact hs H2 (e.trans e2) Q (fun p H3 hp e3 h3 => q p H3 (fresh_back e2 hp) (e2.trans e3) h3) _
end
/-- a cell of the script -/
theorem sp_cell {K : PySem.W.Frag} {H : Hp} {l : Addr} {ns : List Int} (j : Nat) (hS : SqL K H l (ns.map V.int)) : ∀ H1, Ex H H1 → ∀ Q : VK, (∀ H2, Ex H1 H2 → Q (.int (cellOf ns j)) H2) → ∀ E : XK, spCell K [.ref l, .int (j : Nat)] H1 Q E :=
  fun H1 e Q q E => ⟨l, ns, j, rfl, ex_l e hS, q H1 (Ex.refl _)⟩
end My

namespace My
open PySem PySem.Spec PyProof.Rows L2 Evl
/-- any(o.values()): a dict whose values are whole numbers -/
def tAnyVals (td : TE) : TE := fun σ H Q => td σ H fun x H1 => ∃ (d : Addr) (kvs : List (Key × V)) (ns : List Int),
  x = V.ref d ∧ H1 d = some (.dK kvs) ∧ kvs.map (·.2) = ns.map V.int ∧ Q (.bl (ns.any fun n => decide (n ≠ 0))) H1
theorem any_ix : ∀ ns : List Int, (List.range ns.length).any (fun i => decide (ns.getD i 0 ≠ 0)) = ns.any fun n => decide (n ≠ 0)
  | [] => rfl
  | n :: ns => by
    rw [List.length_cons, List.range_succ_eq_map, List.any_cons, List.any_map, List.any_cons, ← any_ix ns]
    congr 1
theorem kv_here : ∀ {kvs : List (Key × V)} {vs : List (Key × Value)} {i : Nat} {k : Key} {u : Value}, KV kvs vs → vs[i]? = some (k, u) → ∃ x, kvs[i]? = some (k, x) ∧ RelV x u
  | _, _, _, _, _, .nil, e => by simp at e
  | _, _, 0, _, _, .cons (a := a) r _, e => by
    have e := Option.some.inj e
    subst e
    exact ⟨_, congrArg some (Prod.ext r.1 rfl), r.2⟩
  | _, _, i + 1, k, u, .cons _ t, e => by
    obtain ⟨x, h1, h2⟩ := kv_here (i := i) t (by simpa using e)
    exact ⟨x, by simpa using h1, h2⟩
section
variable {X : Cx} {o : Expr} {p pos apos mpos : Pos} {td : TE}
theorem pe_anyVals (calm : X.calm = true) (gl : Gl X "any") (no : X.mg "any" = none) (ho : PE X o td)
    (h1 : attributeBase o "values" X.env (eval o X.env) = eval o X.env := by rfl) (h2 : (apos.endLine == mpos.line) = true := by rfl)
    (h3 : starEach [Expr.Call (.Attribute o "values" apos) [] [] mpos] X.env
      = [(false, eval (Expr.Call (.Attribute o "values" apos) [] [] mpos) X.env)] := by rfl) :
    PE X (.Call (.Name "any" p) [.Call (.Attribute o "values" apos) [] [] mpos] [] pos) (tAnyVals td) := by
  refine ⟨fun pins s σ H Q I h => ?_⟩
  refine wpAny_Call_Name_kw (ld_blt I gl no (u := .builtin "any") (by first
    | rfl
    | decide +kernel) ?_ (by decide) (by decide))
  rw [h3]
  refine PySem.callWith_builtin1 (wpAny_Call_method0_late h1 h2 (thn (ho.run pins s σ H _ I h) fun v s1 got => ?_))
  obtain ⟨x, H1, I1, r1, d, kvs, ns, ex, hd, hv, q⟩ := got
  subst ex
  obtain rfl : v = Value.ref d := r1
  obtain ⟨_, nosys, vs, rel, isd⟩ := dk_of I1.hok hd
  obtain ⟨ep, at0⟩ := isd.dictAt
  have at1 := at0
  obtain ⟨ob, es, hob, exact0, hdat, _, _, _⟩ := at1
  refine ⟨"dict", "dict.values", F.plainAttrs_dict, F.slot_dict_values, F.type_dict_values, ⟨ob, hob, exact0.1⟩, fun b e => ?_,
    Calls.callWith_builtin rfl (PySem.evalArgs_none ?_)⟩
  · cases e
    exact ⟨ob, hob, exact0.2.1⟩
  refine call_meetsIn F.slot_dict_values ⟨ob, hob, exact0.1⟩ F.entry_dict_values (F.args_dict_values_1 _)
    (meets_dict_values (mixKind X.prog X.w) d nosys) ⟨⟨vs, isd⟩, ?_⟩
  generalize eV : s1.heap.push { cls := .type "dict_values", data := .fields #[.ref d] } = hV
  have old : ∀ b u, s1.heap.get? b = some u → hV.get? b = some u := fun b u e => by
    rw [← eV]
    exact Heap.get?_push_of_some _ e
  have atV : hV.DictAt (mixKind X.prog X.w) d vs ep := at0.keep old
  have view : hV.get? s1.heap.objs.size = some { cls := .type "dict_values", data := .fields #[.ref d] } := by
    rw [← eV]
    exact Heap.get?_push_size _ rfl
  have size : hV.objs.size = s1.heap.objs.size + 1 := by
    rw [← eV]
    exact Heap.size_push _ _
  have small : d < s1.heap.objs.size := Heap.lt_size hob
  have len : vs.length = ns.length := by
    have e1 := congrArg List.length hv
    rw [List.length_map, List.length_map] at e1
    have e2 := KV.length rel
    omega
  refine call_any_walk (wpAny_pyIter_values (v := s1.heap.objs.size) (d := d) ⟨_, view, rfl, rfl⟩ atV ?_)
  refine ⟨_, _, _, _, _, _, fun i => decide (ns.getD i 0 ≠ 0), rfl,
    Walks.dictValues (knd := mixKind X.prog X.w) (A := X.A.in1) (I.ok.hd calm) hV.objs.size d
      (by rw [size]; exact Nat.ne_of_lt (Nat.lt_succ_of_lt small)) vs ep,
    ⟨⟨_, Heap.get?_push_size _ rfl, rfl, rfl⟩, atV.keep fun b u e => Heap.get?_push_of_some _ e⟩, ?_, fun h' tk hk => ?_⟩
  · intro i v s2 Q2 E2 hP hQ
    obtain ⟨k, hk⟩ := hP
    obtain ⟨x, g1, g2⟩ := kv_here rel hk
    have e1 : (kvs.map (·.2))[i]? = some x := by
      rw [List.getElem?_map, g1]
      rfl
    rw [hv, List.getElem?_map] at e1
    obtain ⟨j, hj, e2⟩ := Option.map_eq_some_iff.mp e1
    subst e2
    obtain ⟨t, e3⟩ := g2
    have e3 : v = Value.int j t := e3
    rw [e3]
    have e4 : ns.getD i 0 = j := by
      rw [List.getD_eq_getElem?_getD, hj]
      rfl
    have hQ : Q2 (decide (ns.getD i 0 ≠ 0)) s2 := hQ
    rw [e4] at hQ
    refine PySem.P.truthy_int ?_
    have e5 : (j != 0) = decide (j ≠ 0) := by
      by_cases z : j = 0
      · subst z
        rfl
      · rw [decide_eq_true z]
        exact bne_iff_ne.mpr z
    rw [e5]
    exact hQ
  · refine ⟨.bl _, H1, I1.kept (t' := tk) fun b u e => hk b u (fun hmem => ?_) (Heap.get?_push_of_some _ (old b u e)), rfl, ?_⟩
    · have e1 : b = hV.objs.size := List.mem_singleton.mp hmem
      have e2 := Heap.lt_size e
      rw [e1, size] at e2
      exact absurd e2 (Nat.not_lt.mpr (Nat.le_succ _))
    · have e1 : ((List.range vs.length).any fun i => decide (ns.getD i 0 ≠ 0)) = ns.any fun n => decide (n ≠ 0) := by
        rw [len]
        exact any_ix ns
      rw [e1]
      exact q
end
end My

namespace My
open PySem PySem.Spec PyProof.Rows L2 Evl
/-! ### tests whose answer is known -/
theorem iteBT {b : Bool} {A B : Prop} (e : b = true) (h : A) : if b = true then A else B := by
  rw [if_pos e]
  exact h
theorem iteBF {b : Bool} {A B : Prop} (e : b = false) (h : B) : if b = true then A else B := by
  rw [e]
  exact iteF h
theorem nb_f {p : Prop} [Decidable p] (h : p) : (!decide p) = false := by
  rw [decide_eq_true h]
  rfl
theorem nb_t {p : Prop} [Decidable p] (h : ¬ p) : (!decide p) = true := by
  rw [decide_eq_false h]
  rfl
theorem q_bl {Q : VK} {b c : Bool} {H : Hp} (e : b = c) (h : Q (.bl c) H) : Q (.bl b) H := by
  rw [e]
  exact h
/-! ### pairs of lists -/
theorem pr_get {α β : Type} {F : α → β → Prop} : ∀ {xs : List α} {ys : List β} {i : Nat} {x : α}, Paired F xs ys → xs[i]? = some x → ∃ y, ys[i]? = some y ∧ F x y
  | _, _, _, _, .nil, e => by simp at e
  | _, _, 0, _, .cons r _, e => by
    have e := Option.some.inj e
    subst e
    exact ⟨_, rfl, r⟩
  | _, _, i + 1, _, .cons _ t, e => by
    obtain ⟨y, h1, h2⟩ := pr_get (i := i) t (by simpa using e)
    exact ⟨y, by simpa using h1, h2⟩
theorem refs_get {rs : List Addr} {i : Nat} {x : V} (h : (rs.map V.ref)[i]? = some x) : ∃ r, rs[i]? = some r ∧ x = .ref r := by
  rw [List.getElem?_map] at h
  cases e : rs[i]? with
  | none =>
    rw [e] at h
    cases h
  | some r =>
    rw [e] at h
    exact ⟨r, rfl, (Option.some.inj h).symm⟩
theorem ints_get {ns : List Int} {i : Nat} {x : V} (h : (ns.map V.int)[i]? = some x) : ∃ n, ns[i]? = some n ∧ x = .int n := by
  rw [List.getElem?_map] at h
  cases e : ns[i]? with
  | none =>
    rw [e] at h
    cases h
  | some r =>
    rw [e] at h
    exact ⟨r, rfl, (Option.some.inj h).symm⟩
/-! ### heaps -/
theorem sqt_mut {K : PySem.W.Frag} {H : Hp} {a r : Addr} {xs ys : List V} {o : HO} (h : H a = some (.lst ys)) (t : SqT K H r xs) : SqT K (upd H a o) r xs := by
  rcases t with (t | ⟨ob, t⟩) | t
  · exact .inl (.inl (by rw [upd_ne (ne_of t h (by intro z; cases z))]; exact t))
  · exact .inl (.inr ⟨ob, by rw [upd_ne (ne_of t h (by intro z; cases z))]; exact t⟩)
  · exact .inr t
/-! ### lines: account, currency, amount -/
abbrev Line := Str × Str × Int
def lineV (l : Line) : List V := [.str l.1, .str l.2.1, .int l.2.2]
def lineD (l : Line) : PyData := .tuple [.str l.1, .str l.2.1, .int l.2.2]
def lineOk (l : Line) : Bool := PyData.strOk l.1 && PyData.strOk l.2.1
def LinesIn (K : PySem.W.Frag) (H : Hp) (rs : List Addr) (L : List Line) : Prop := Paired (fun r l => SqT K H r (lineV l)) rs L
theorem LinesIn.ex {K : PySem.W.Frag} {H H' : Hp} {rs : List Addr} {L : List Line} (e : Ex H H') (h : LinesIn K H rs L) : LinesIn K H' rs L := Paired.mapP h fun _ _ t => ex_t e t
theorem LinesIn.mut {K : PySem.W.Frag} {H : Hp} {a : Addr} {ys : List V} {o : HO} {rs : List Addr} {L : List Line} (ha : H a = some (.lst ys)) (h : LinesIn K H rs L) : LinesIn K (upd H a o) rs L := Paired.mapP h fun _ _ t => sqt_mut ha t
theorem LinesIn.snoc {K : PySem.W.Frag} {H : Hp} {rs : List Addr} {L : List Line} {r : Addr} {l : Line} (h : LinesIn K H rs L) (t : SqT K H r (lineV l)) : LinesIn K H (rs ++ [r]) (L ++ [l]) := Paired.snoc h t
theorem LinesIn.dp {K : PySem.W.Frag} {H : Hp} : ∀ {rs : List Addr} {L : List Line}, LinesIn K H rs L → DpAll K H (rs.map V.ref) (L.map lineD)
  | _, _, .nil => .nil
  | _, _, .cons t r => .cons (.tup t (.cons (.str _) (.cons (.str _) (.cons (.int _) .nil)))) (LinesIn.dp r)
theorem lines_can : ∀ {L : List Line}, (∀ l ∈ L, lineOk l = true) → PyData.canLayAll0 (L.map lineD) = true
  | [], _ => rfl
  | l :: L, h => by
    have h1 := h l List.mem_cons_self
    unfold lineOk at h1
    rw [Bool.and_eq_true] at h1
    have h2 := lines_can (L := L) fun x hx => h x (List.mem_cons_of_mem _ hx)
    show (PyData.canLay0 (lineD l) && PyData.canLayAll0 (L.map lineD)) = true
    rw [h2, Bool.and_true]
    show (PyData.strOk l.1 && (PyData.strOk l.2.1 && (true && true))) = true
    rw [h1.1, h1.2]
    rfl
theorem lines_deep : ∀ L : List Line, PyData.depthAll (L.map lineD) ≤ 1
  | [] => Nat.zero_le _
  | l :: L => by
    have h := lines_deep L
    show max (PyData.depth (lineD l)) (PyData.depthAll (L.map lineD)) ≤ 1
    exact Nat.max_le.mpr ⟨Nat.le_refl _, h⟩
theorem lines_shaped {L : List Line} (h : ∀ l ∈ L, lineOk l = true) : SeqAt.shaped (.list (L.map lineD)) = true := by
  have h1 := lines_can h
  have h2 := lines_deep L
  show (PyData.canLayAll0 (L.map lineD) && decide (PyData.depthAll (L.map lineD) + 1 ≤ 64)) = true
  rw [h1, decide_eq_true (by omega)]
  rfl
/-- the sum of the amounts in a currency -/
def sumOf (c : Str) : List Line → Int
  | [] => 0
  | l :: L => (if l.2.1 = c then l.2.2 else 0) + sumOf c L
theorem sumOf_append (c : Str) : ∀ L M : List Line, sumOf c (L ++ M) = sumOf c L + sumOf c M
  | [], M => by show sumOf c M = 0 + sumOf c M; omega
  | l :: L, M => by
    show (if l.2.1 = c then l.2.2 else 0) + sumOf c (L ++ M) = (if l.2.1 = c then l.2.2 else 0) + sumOf c L + sumOf c M
    rw [sumOf_append c L M]
    omega
theorem sumOf_one (c : Str) (l : Line) : sumOf c [l] = if l.2.1 = c then l.2.2 else 0 := by
  show (if l.2.1 = c then l.2.2 else 0) + 0 = _
  omega
theorem sumOf_none {c : Str} : ∀ {L : List Line}, (∀ l ∈ L, l.2.1 ≠ c) → sumOf c L = 0
  | [], _ => rfl
  | l :: L, h => by
    show (if l.2.1 = c then l.2.2 else 0) + sumOf c L = 0
    rw [if_neg (h l List.mem_cons_self), sumOf_none fun x hx => h x (List.mem_cons_of_mem _ hx)]
    rfl
theorem take_snoc {α : Type} {L : List α} {i : Nat} {l : α} (h : L[i]? = some l) : L.take (i + 1) = L.take i ++ [l] := by
  rw [List.take_add_one, h]
  rfl
/-- balanced in each currency -/
def balB (L : List Line) : Bool := L.all fun l => decide (sumOf l.2.1 L = 0)
theorem balB_iff {L : List Line} : balB L = true ↔ ∀ c, sumOf c L = 0 := by
  unfold balB
  rw [List.all_eq_true]
  constructor
  · intro h c
    by_cases hc : ∃ l ∈ L, l.2.1 = c
    · obtain ⟨l, hl, rfl⟩ := hc
      exact of_decide_eq_true (h l hl)
    · exact sumOf_none fun l hl e => hc ⟨l, hl, e⟩
  · intro h l _
    exact decide_eq_true (h _)
/-! ### the dict of the sums -/
structure Tally (kvs : List (Key × V)) (L : List Line) : Prop where
  nd : (kvs.map (·.1)).Nodup
  len : kvs.length ≤ L.length
  at' : ∀ c, valV kvs (.inr c : Key) = if c ∈ L.map (·.2.1) then some (.int (sumOf c L)) else none
  txt : ∀ p ∈ kvs, ∃ c, p.1 = (.inr c : Key)
theorem Tally.nil : Tally [] [] := ⟨List.nodup_nil, Nat.le_refl _, fun _ => rfl, fun _ h => absurd h (by simp)⟩
theorem put_keys {kvs : List (Key × V)} {k : Key} {v w : V} (h : valV kvs k = some w) : (putK kvs k v).map (·.1) = kvs.map (·.1) := by
  have ha : (kvs.any fun kv => decide (kv.1 = k)) = true := by
    rw [valV_any, h]
    rfl
  unfold putK
  rw [if_pos ha, List.map_map]
  refine List.map_congr_left fun p _ => ?_
  show (if p.1 = k then (p.1, v) else p).1 = p.1
  split <;> rfl
theorem Tally.old {kvs : List (Key × V)} {L : List Line} (T : Tally kvs L) (c : Str) : (valV kvs (.inr c : Key)).getD (.int 0) = .int (sumOf c L) := by
  rw [T.at']
  split
  · rfl
  · next h =>
    rw [sumOf_none fun l hl e => h (List.mem_map.mpr ⟨l, hl, e⟩)]
    rfl
theorem Tally.put {kvs : List (Key × V)} {L : List Line} (T : Tally kvs L) (l : Line) : Tally (putK kvs (.inr l.2.1) (.int (sumOf l.2.1 L + l.2.2))) (L ++ [l]) := by
  refine ⟨?_, ?_, fun c => ?_, ?_⟩
  · cases e : valV kvs (.inr l.2.1 : Key) with
    | none => exact nd_putK _ T.nd e
    | some w =>
      rw [put_keys e]
      exact T.nd
  · rw [List.length_append]
    cases e : valV kvs (.inr l.2.1 : Key) with
    | none =>
      rw [putK_new _ e, List.length_append]
      exact Nat.add_le_add_right T.len _
    | some w =>
      have := congrArg List.length (put_keys (v := .int (sumOf l.2.1 L + l.2.2)) e)
      rw [List.length_map, List.length_map] at this
      rw [this]
      exact Nat.le_succ_of_le T.len
  · rw [valV_put, T.at', sumOf_append, sumOf_one, List.map_append]
    by_cases e : c = l.2.1
    · subst e
      rw [if_pos rfl, if_pos (by simp), if_pos rfl]
    · rw [if_neg (fun z => e (Sum.inr.inj z)), if_neg (show ¬ l.2.1 = c from fun z => e z.symm), Int.add_zero]
      have : c ∈ L.map (·.2.1) ++ [l].map (·.2.1) ↔ c ∈ L.map (·.2.1) := by
        rw [List.mem_append]
        constructor
        · rintro (h | h)
          · exact h
          · exact absurd (by simpa using h) e
        · exact .inl
      simp only [this]
  · intro p hp
    cases e : valV kvs (.inr l.2.1 : Key) with
    | none =>
      rw [putK_new _ e] at hp
      rcases List.mem_append.mp hp with h | h
      · exact T.txt p h
      · rw [List.mem_singleton.mp h]
        exact ⟨_, rfl⟩
    | some w =>
      have hk : p.1 ∈ kvs.map (·.1) := by
        rw [← put_keys (v := .int (sumOf l.2.1 L + l.2.2)) e]
        exact List.mem_map_of_mem hp
      obtain ⟨q, hq, eq⟩ := List.mem_map.mp hk
      obtain ⟨c, hc⟩ := T.txt q hq
      exact ⟨c, by rw [← eq]; exact hc⟩
theorem valV_here : ∀ {kvs : List (Key × V)}, (kvs.map (·.1)).Nodup → ∀ p ∈ kvs, valV kvs p.1 = some p.2
  | [], _, _, h => absurd h (by simp)
  | q :: r, nd, p, h => by
    rw [List.map_cons, List.nodup_cons] at nd
    rcases List.mem_cons.mp h with e | h
    · subst e
      exact valV_pos rfl
    · rw [valV_neg fun e => nd.1 (by rw [e]; exact List.mem_map_of_mem h)]
      exact valV_here nd.2 p h
theorem valV_mem {k : Key} {v : V} : ∀ {kvs : List (Key × V)}, valV kvs k = some v → (k, v) ∈ kvs
  | [], h => by cases h
  | q :: r, h => by
    by_cases e : q.1 = k
    · rw [valV_pos e] at h
      have h := Option.some.inj h
      subst e
      subst h
      exact List.mem_cons_self
    · rw [valV_neg e] at h
      exact List.mem_cons_of_mem _ (valV_mem h)
def keyS : Key → Str
  | .inr c => c
  | .inl _ => Str.empty
theorem Tally.vals {kvs : List (Key × V)} {L : List Line} (T : Tally kvs L) : kvs.map (·.2) = (kvs.map fun p => sumOf (keyS p.1) L).map V.int := by
  rw [List.map_map]
  refine List.map_congr_left fun p hp => ?_
  obtain ⟨c, hc⟩ := T.txt p hp
  have h := valV_here T.nd p hp
  rw [hc, T.at'] at h
  show p.2 = V.int (sumOf (keyS p.1) L)
  rw [hc]
  by_cases m : c ∈ L.map (·.2.1)
  · rw [if_pos m] at h
    exact (Option.some.inj h).symm
  · rw [if_neg m] at h
    cases h
theorem Tally.any {kvs : List (Key × V)} {L : List Line} (T : Tally kvs L) : (!(kvs.map fun p => sumOf (keyS p.1) L).any fun n => decide (n ≠ 0)) = balB L := by
  rw [Bool.eq_iff_iff, Bool.not_eq_true', ← Bool.not_eq_true]
  rw [balB_iff, List.any_eq_true]
  constructor
  · intro h c
    by_cases m : c ∈ L.map (·.2.1)
    · have e := T.at' c
      rw [if_pos m] at e
      by_cases z : sumOf c L = 0
      · exact z
      · exact absurd ⟨_, List.mem_map_of_mem (valV_mem e), decide_eq_true z⟩ h
    · exact sumOf_none fun l hl e => m (List.mem_map.mpr ⟨l, hl, e⟩)
  · rintro h ⟨n, hn, z⟩
    obtain ⟨p, _, rfl⟩ := List.mem_map.mp hn
    exact of_decide_eq_true z (h _)
end My

namespace My
open PySem PySem.Spec PyProof.Rows L2 Evl
/-! ### methods and makers that may raise, called where the wish hangs on the slots -/
section
variable {X : Cx} {CX : CXT} {k : Nat} {f C : Addr} {fd : FuncData} {ps : List Str} {sp : Sp} {E : L2.St → XK} {x m : Str} {p pos apos : Pos} {e o : Expr} {es : List Expr} {to : TE} {t : TA}
def tMethS (C : Addr) (m : Str) (sp : Sp) (E : L2.St → XK) (to : TE) (t : TA) : TE := fun σ H Q => to σ H fun v H1 =>
  ∃ a dx fs, v = .ref a ∧ H1 a = some (.ins C dx fs) ∧ fs.lookup m = none ∧ t σ H1 fun vs H2 => sp (v :: vs) H2 Q (E σ)
theorem pe_methS {pl : Sem Bool} (ho : PE X o to) (c : Cls X.K C) (hm : Meth X.K C m f) (F : FnOk X.prog X.w X.K X.mg X.base CX k f fd ps sp) (room : Room k X.A)
    (bind : Binds X.K fd ps []) (pass : ∀ σ, PassesAt CX X σ (E σ)) (ha : PA X (e :: es) t)
    (h1 : starEach (e :: es) X.env = (false, eval e X.env) :: starEach es X.env := by rfl)
    (h2 : (backTo pos (starEach es X.env)).any (·.1) = false := by rfl)
    (h3 : eval (.Call (.Attribute o m apos) (e :: es) [] pos) X.env = (do
      let v ← eval o X.env
      standAt apos.atName
      let (g, first) ← holding [v] (getMethod v m pl)
      callWith pos g first (backTo pos (starEach (e :: es) X.env)) (backToKw pos (keywordEach [] X.env))) := by rfl) :
    PE X (.Call (.Attribute o m apos) (e :: es) [] pos) (tMethS C m sp E to t) := by
  refine ⟨fun pins s σ H Q I h => ?_⟩
  refine PySem.W.methodCall_KW (pl := pl) (thn (ho.run pins s σ H _ I h) fun u s1 got => ?_) h3
  obtain ⟨v, H1, I1, rv, a, dx, fs, ev, ea, no, q⟩ := got
  subst ev
  obtain rfl : u = Value.ref a := rv
  refine getmeth_ok I1 ea c hm no ?_
  have args := ha.run pos pins s1 σ H1 _ I1 q
  refine PySem.W.callWith_K (first := [.ref a]) (h₀ := X.base) I.ok.mod.kin hm.kp (thn args fun us s2 got => ?_) h1 h2
  obtain ⟨vs, H2, I2, r, q2⟩ := got
  exact ⟨I2.kIn, run_fnS (us := .ref a :: us) (vs := .ref a :: vs) F room bind (pass σ) I2 (.cons rfl r) q2⟩
theorem pe_methS0 {pl : Sem Bool} (ho : PE X o to) (c : Cls X.K C) (hm : Meth X.K C m f) (F : FnOk X.prog X.w X.K X.mg X.base CX k f fd ps sp) (room : Room k X.A)
    (bind : Binds X.K fd ps []) (pass : ∀ σ, PassesAt CX X σ (E σ))
    (h3 : eval (.Call (.Attribute o m apos) [] [] pos) X.env = (do
      let v ← eval o X.env
      standAt apos.atName
      let (g, first) ← holding [v] (getMethod v m pl)
      callWith pos g first (backTo pos (starEach [] X.env)) (backToKw pos (keywordEach [] X.env))) := by rfl) :
    PE X (.Call (.Attribute o m apos) [] [] pos) (tMethS C m sp E to tNil) := by
  refine ⟨fun pins s σ H Q I h => ?_⟩
  refine PySem.W.methodCall_KW (pl := pl) (thn (ho.run pins s σ H _ I h) fun u s1 got => ?_) h3
  obtain ⟨v, H1, I1, rv, a, dx, fs, ev, ea, no, q⟩ := got
  subst ev
  obtain rfl : u = Value.ref a := rv
  refine getmeth_ok I1 ea c hm no ?_
  exact PySem.W.callWith_K0 (first := [.ref a]) I1.kIn hm.kp (run_fnS (us := [.ref a]) (vs := [.ref a]) F room bind (pass σ) I1 (.cons rfl .nil) q)
/-- C(e, ..) whose __init__ may raise -/
def tMakeS (C : Addr) (sp : Sp) (E : L2.St → XK) (t : TA) : TE := fun σ H Q => t σ H fun vs H1 => ∀ x dx, H1 x = none → H1 dx = none → dx ≠ x →
  sp (.ref x :: vs) (upd (upd H1 dx (.own x)) x (.ins C dx [])) (fun v H2 => v = .non ∧ Q (.ref x) H2) (E σ)
theorem pe_makeS (M : Mk X.K C f) (F : FnOk X.prog X.w X.K X.mg X.base CX k f fd ps sp) (room : Room (k + 1) X.A) (gl : Gl X x) (here : X.mg x = some (.ref C))
    (bind : Binds X.K fd ps []) (pass : ∀ σ, PassesAt CX X σ (E σ)) (ha : PA X (e :: es) t)
    (h0 : (x == ("__debug__" : Str)) = false := by decide)
    (h1 : starEach (e :: es) X.env = (false, eval e X.env) :: starEach es X.env := by rfl)
    (h2 : (backTo pos (starEach es X.env)).any (·.1) = false := by rfl) :
    PE X (.Call (.Name x p) (e :: es) [] pos) (tMakeS C sp E t) := by
  refine ⟨fun pins s σ H Q I h => ?_⟩
  refine wpAny_Call_Name_kw (ld_glob I gl here ?_ h0)
  have args := ha.run pos pins s σ H _ I h
  refine PySem.W.callWith_K (h₀ := X.base) I.ok.mod.kin M.kp (thn args fun us s1 got => ?_) h1 h2
  obtain ⟨vs, H1, I1, r, q⟩ := got
  refine ⟨I1.kIn, ?_⟩
  have start := q (s1.heap.objs.size + 1) s1.heap.objs.size (I1.hok.fresh (Nat.le_succ _)) (I1.hok.fresh (Nat.le_refl _)) (Nat.ne_of_lt (Nat.lt_succ_self _))
  have I2 := Inv.made (C := C) I1
  have r2 : Vals (V.ref (s1.heap.objs.size + 1) :: vs) (Value.ref (s1.heap.objs.size + 1) :: us) := .cons rfl r
  have len : (Value.ref (s1.heap.objs.size + 1) :: us).length = ps.length := by
    rw [← r2.length]
    exact F.len _ _ _ _ start
  have bd := bind _ (Value.ref (s1.heap.objs.size + 1) :: us) I2.kIn (by rw [List.append_nil]; exact len)
  rw [List.append_nil] at bd
  have run := F.run _ X.stack _ _ ⟨Value.ref (s1.heap.objs.size + 1) :: us, []⟩ _ _ _ (E σ) (room.make C us []) (I2.env0.make C us []) bd r2 start
  refine wpAny_call (make_map (f := f) I1.kIn M.makes M.init (beq_iff_eq.mp M.fn) (codeAny_mono run fun res s' got => ?_))
  cases res with
  | error e => exact pass σ pins _ _ e s' I2 got
  | ok fl =>
    cases fl with
    | ret u =>
      obtain ⟨v, H', I3, rv, ev, q3⟩ := I2.after got
      subst ev
      exact ⟨rv, ⟨V.ref (s1.heap.objs.size + 1), H', I3, rfl, q3⟩⟩
    | next => exact got.elim
    | brk => exact got.elim
    | cont => exact got.elim
end

/-! ### a def that is handed the exception that its caller holds; it raises nothing -/
/-- what is promised hangs on where the exception stands, its class, its own dict -/
abbrev SpE := Addr → Value → Option Addr → Sp
/-- an exception's object -/
def IsX (cls : Value) (d : Option Addr) (oe : Obj) : Prop := Zc cls d oe ∧ ∃ vs, oe.data = .fields vs
structure FnE (P : Program) (w : World) (K : PySem.W.Frag) (mg : Str → Option Value) (base : Heap) (k : Nat) (f : Addr) (fd : FuncData) (ps : List Str) (sp : SpE) : Prop where
  len : ∀ a cls d vs H Q E, sp a cls d vs H Q E → vs.length = ps.length
  run : ∀ (A : Around) (outer : List Env) (s : Shared) (H : Hp) (args : Args) (us : List Value) (vs : List V) (Q : VK) (a : Addr) (oe : Obj) (cls : Value) (d : Option Addr), L2H.RoomH k A → IsX cls d oe → L2H.PinOk outer H s (a, oe) →
    Env0 P w K mg base A outer s H → BindsTo s fd args (ps.zip us) → Vals vs us → sp a cls d vs H Q E0 → codeAny (model P w) A (.call (.ref f) args) (CR CX0 outer P w H s Q E0) s
theorem fnE_of {P : Program} {w : World} {K : PySem.W.Frag} {mg : Str → Option Value} {base : Heap} {k : Nat} {f : Addr} {x : Str} {st : Stmt} {fd : FuncData} {N ps : List Str} {sp : SpE}
    (F : Fun K x x st f fd) (S : FnScope N ps (defScope st)) (len : ∀ a cls d vs H Q E, sp a cls d vs H Q E → vs.length = ps.length)
    (body : ∀ (cdv : Value) (A : Around) (outer : List Env) (s : Shared) (H : Hp) (vs : List V) (Q : VK) (a : Addr) (oe : Obj) (cls : Value) (d : Option Addr), L2H.RoomH k (A.deeper (envOfC x (defScope st) s.heap.objs.size f cdv)) → IsX cls d oe → sp a cls d vs H Q E0 →
      ∃ t, PSs (L2H.cxH CX0 P w K mg base N x (defScope st) f cdv A outer s H E0 (a, oe)).nox (defBody st) t ∧ t { nx := fun _ H' => Q .non H', rt := Q } (start N vs) H) :
    FnE P w K mg base (k + 1) f fd ps sp := by
  obtain ⟨oc, od, kV, doc, pm, an, cdv, ct, osl, rfl, lk, code⟩ := F.ex
  refine ⟨len, fun A outer s H args us vs Q a oe cls d room isx pin e0 bd r h => ?_⟩
  have n := len _ _ _ _ _ _ _ h
  have old : ∀ b o, base.get? b = some o → s.heap.get? b = some o := fun b o e => (e0.bs b o e).1
  have KX := e0.mod.kin.keeps old
  have kinds : ∀ y ∈ ps.zip us, (defScope st).names.lookup y.1 = some .local ∨ ((defScope st).names.lookup y.1 = some .cell ∧ ((cellsFrom (s.heap.objs.size + 1) (defScope st).names []).lookup y.1).isSome = true) := by
    rintro ⟨a, v⟩ hy
    rcases S.par a (List.of_mem_zip hy).1 with z | z
    · exact .inl z
    · exact .inr ⟨z, PySem.W.cellsFrom_some _ _ _ (.inl z)⟩
  refine codeAny_call_function room.depth (KX _ _ lk) rfl S.co S.gen rfl (PySem.W.codeRec_of KX code) (bd _ _ _ _ ?_)
  refine wpAny_newFunctionEnv_cells S.kind kinds fun env he s1 inside => ?_
  subst he
  refine ⟨(e0.mod.nolimit.keeps old).keeps inside.toInCall.keep, codeAny_func ?_⟩
  obtain ⟨t, ht, hq⟩ := body cdv A outer s H vs Q a oe cls d (room.deeper _) isx h
  have I := L2H.inv_startH (CX := CX0) (P := P) (E := E0) (qual := x) (f := f) (cd := cdv) S pin e0 n r inside
  refine wpAny_mono (ht.nox.run [] s1 (start N vs) H _ I hq) (fun fl s' got => ?_) fun e s' got => got
  have fin : ∀ {σ' : L2.St} {H' : Hp} {v : V} {u : Value}, Inv (L2H.cxH CX0 P w K mg base N x (defScope st) f cdv A outer s H E0 (a, oe)) [] σ' H' s' → RelV v u → Q v H' → CE outer P w H s Q u s' := by
    intro σ' H' v u J rv q
    exact ⟨v, H', J.os, J.bare, J.base, J.hok, rv, q⟩
  cases fl with
  | ret u =>
    obtain ⟨v, σ', H', J, rv, q⟩ := got
    exact fin J rv q
  | next =>
    obtain ⟨σ', H', J, q⟩ := got
    exact fin (v := V.non) (u := Value.none) J rfl q
  | brk => exact got.elim fun _ z => z.elim fun _ z => z.2.elim
  | cont => exact got.elim fun _ z => z.elim fun _ z => z.2.elim
section
variable {X : Cx} {k : Nat} {f : Addr} {fd : FuncData} {ps : List Str} {sp : SpE} {x : Str} {q pos : Pos} {e : Expr} {es : List Expr} {t : TA}
def tCallE (sp : Sp) (t : TA) : TE := fun σ H Q => t σ H fun vs H1 => sp vs H1 Q E0
theorem pe_callE {a : Addr} {oe : Obj} {cls : Value} {d : Option Addr} (F : FnE X.prog X.w X.K X.mg X.base k f fd ps sp) (room : L2H.RoomH k X.A) (hp : (a, oe) ∈ X.pn) (isx : IsX cls d oe) (gl : Gl X x) (here : X.mg x = some (.ref f))
    (kp : PySem.W.keepIn X.K (.ref f) = true) (bind : Binds X.K fd ps []) (ha : PA X (e :: es) t) (h0 : (x == ("__debug__" : Str)) = false := by decide)
    (h1 : starEach (e :: es) X.env = (false, eval e X.env) :: starEach es X.env := by rfl)
    (h2 : (backTo pos (starEach es X.env)).any (·.1) = false := by rfl) :
    PE X (.Call (.Name x q) (e :: es) [] pos) (tCallE (sp a cls d) t) := by
  refine ⟨fun pins s σ H Q I h => ?_⟩
  refine wpAny_Call_Name_kw (ld_glob I gl here ?_ h0)
  have args := ha.run pos pins s σ H _ I h
  refine PySem.W.callWith_K (h₀ := X.base) I.ok.mod.kin kp (thn args fun us s1 got => ?_) h1 h2
  obtain ⟨vs, H1, I1, r, q1⟩ := got
  refine ⟨I1.kIn, ?_⟩
  have len : us.length = ps.length := by
    rw [← r.length]
    exact F.len _ _ _ _ _ _ _ q1
  have bd := bind s1 us I1.kIn (by rw [List.append_nil]; exact len)
  rw [List.append_nil] at bd
  obtain ⟨g1, g2, g3, g4, g5⟩ := I1.pin (a, oe) (List.mem_append_left _ hp)
  have pin : L2H.PinOk X.stack H1 s1 (a, oe) := ⟨g1, g2, fun z => (List.mem_cons.mp (I1.stkSub a z)).elim g3 g4, g5⟩
  refine wpAny_call (codeAny_mono (F.run X.A X.stack s1 H1 ⟨us, []⟩ us vs Q a oe cls d room isx pin I1.env0 bd r q1) fun res s' got => ?_)
  cases res with
  | error e => exact got.elim
  | ok fl =>
    cases fl with
    | ret u => exact I1.after got
    | next => exact got.elim
    | brk => exact got.elim
    | cont => exact got.elim
end
/-- isinstance(e, c), e the pinned exception -/
def rIsX (K : PySem.W.Frag) (a : Addr) (cls : Value) (d : Option Addr) : List V → Hp → VK → Prop := fun xs H Q => ∃ (D : Addr) (c : V) (cv : Value) (b : Bool),
  cls = .ref D ∧ d = none ∧ ExcC K D ∧ xs = [.ref a, c] ∧ (∀ u, RelV c u → u = cv) ∧ PySem.W.kitOne K (.ref D) cv = some b ∧ Q (.bl b) H
theorem call_isX {X : Cx} {a : Addr} {oe : Obj} {cls : Value} {d : Option Addr} (hp : (a, oe) ∈ X.pn) (isx : IsX cls d oe) : CallR X (.builtin "isinstance") (rIsX X.K a cls d) := by
  intro pins s σ H xs us Q I r h
  obtain ⟨D, c, cv, b, rfl, rfl, C, rfl, known, one, q⟩ := h
  obtain ⟨u1, u2, rfl, r1, r2⟩ := vals2 r
  cases r1
  obtain rfl := known _ r2
  obtain ⟨here, _⟩ := I.pin (a, oe) (List.mem_append.mpr (.inl hp))
  obtain ⟨hz, vs, dat⟩ := isx
  have J : PySem.W.InstAt s.heap a oe D none := by
    obtain ⟨c1, c2, c3, c4⟩ := oe
    obtain ⟨z1, z2⟩ := hz
    dsimp only at z1 z2 dat
    subst z1 z2 dat
    exact ⟨here, rfl, rfl, trivial⟩
  have kit := PySem.W.handS_kitx_exc (ox := oe) (x := a) C.hg C.hk C.hs C.hd C.ha C.hn C.ht C.hm
  exact PySem.W.kia_one kit I.kIn J one (fun z => nomatch z) fun tk => ⟨.bl b, H, I.kept (t' := tk) fun _ _ z => z, rfl, q⟩
theorem known_ref {C : Addr} : ∀ u, RelV (.ref C) u → u = .ref C := fun _ r => r
theorem known_ty {n : String} : ∀ u, RelV (.ty n) u → u = .type n := fun _ r => r
theorem roomS {k : Nat} {A : Around} {v : Option Value} (hr : Room k A) : L2H.RoomH k (A.mark v) := ⟨hr.dp, hr.un⟩

/-! ### defs, methods, makers by name -/
section
variable (P : Program) (w : World) (K : PySem.W.Frag) (mg : Str → Option Value) (base : Heap)
/-- a def that may raise -/
structure Kx (k : Nat) (x : Str) (sp : Sp) : Prop where
  ex : ∃ (f : Addr) (fd : FuncData) (ps : List Str), FnOk P w K mg base (L2.CX P w) k f fd ps sp ∧ mg x = some (.ref f) ∧ PySem.W.keepIn K (.ref f) = true ∧ Binds K fd ps []
/-- a def that is handed the exception -/
structure Ke (k : Nat) (x : Str) (sp : SpE) : Prop where
  ex : ∃ (f : Addr) (fd : FuncData) (ps : List Str), FnE P w K mg base k f fd ps sp ∧ mg x = some (.ref f) ∧ PySem.W.keepIn K (.ref f) = true ∧ Binds K fd ps []
/-- a method that may raise -/
structure Km (k : Nat) (C : Addr) (m : Str) (sp : Sp) : Prop where
  ex : ∃ (f : Addr) (fd : FuncData) (ps : List Str), Cls K C ∧ Meth K C m f ∧ FnOk P w K mg base (L2.CX P w) k f fd ps sp ∧ Binds K fd ps []
/-- a class's __init__ that may raise -/
structure Ki (k : Nat) (x : Str) (C : Addr) (sp : Sp) : Prop where
  ex : ∃ (f : Addr) (fd : FuncData) (ps : List Str), Mk K C f ∧ FnOk P w K mg base (L2.CX P w) k f fd ps sp ∧ mg x = some (.ref C) ∧ Binds K fd ps []
/-- a method's text -/
structure Dm (C : Addr) (m qual : Str) (st : Stmt) (ps : List Str) : Prop where
  ex : ∃ (f : Addr) (fd : FuncData), Fun K m qual st f fd ∧ Meth K C m f ∧ Binds K fd ps []
/-- an __init__'s text -/
structure Di (x : Str) (C : Addr) (qual : Str) (st : Stmt) (ps : List Str) : Prop where
  ex : ∃ (f : Addr) (fd : FuncData), Fun K "__init__" qual st f fd ∧ Mk K C f ∧ mg x = some (.ref C) ∧ Binds K fd ps []
end
section
variable {P : Program} {w : World} {K : PySem.W.Frag} {mg : Str → Option Value} {base : Heap} {C : Addr} {x m qual : Str} {st : Stmt} {N ps : List Str} {k : Nat} {sp : Sp}
/-- what a body that may raise must show -/
abbrev BodyX (P : Program) (w : World) (K : PySem.W.Frag) (mg : Str → Option Value) (base : Heap) (N : List Str) (qual : Str) (st : Stmt) (k : Nat) (sp : Sp) : Prop :=
  ∀ (f : Addr) (cdv : Value) (A : Around) (outer : List Env) (s : Shared) (H : Hp) (vs : List V) (Q : VK) (E : XK), Room k (A.deeper (envOfC qual (defScope st) s.heap.objs.size f cdv)) → sp vs H Q E →
    ∃ t, PSs (cxOf (L2.CX P w) P w K mg base N qual (defScope st) f cdv A outer s H E) (defBody st) t ∧ t { nx := fun _ H' => Q .non H', rt := Q } (start N vs) H
theorem Df.okX (D : Df K mg x st ps) (S : FnScope N ps (defScope st)) (len : ∀ vs H Q E, sp vs H Q E → vs.length = ps.length) (body : BodyX P w K mg base N x st k sp) : Kx P w K mg base (k + 1) x sp := by
  obtain ⟨f, fd, F, hm, hb⟩ := D.ex
  exact ⟨f, fd, ps, F.okX S len (body f), hm, F.kp, hb⟩
theorem Dm.okX (D : Dm K C m qual st ps) (c : Cls K C) (S : FnScope N ps (defScope st)) (len : ∀ vs H Q E, sp vs H Q E → vs.length = ps.length) (body : BodyX P w K mg base N qual st k sp) : Km P w K mg base (k + 1) C m sp := by
  obtain ⟨f, fd, F, hm, hb⟩ := D.ex
  exact ⟨f, fd, ps, c, hm, F.okX S len (body f), hb⟩
theorem Di.okX (D : Di K mg x C qual st ps) (S : FnScope N ps (defScope st)) (len : ∀ vs H Q E, sp vs H Q E → vs.length = ps.length) (body : BodyX P w K mg base N qual st k sp) : Ki P w K mg base (k + 1) x C sp := by
  obtain ⟨f, fd, F, hm, hg, hb⟩ := D.ex
  exact ⟨f, fd, ps, hm, F.okX S len (body f), hg, hb⟩
theorem Df.okE {sp : SpE} (D : Df K mg x st ps) (S : FnScope N ps (defScope st)) (len : ∀ a cls d vs H Q E, sp a cls d vs H Q E → vs.length = ps.length)
    (body : ∀ (f : Addr) (cdv : Value) (A : Around) (outer : List Env) (s : Shared) (H : Hp) (vs : List V) (Q : VK) (a : Addr) (oe : Obj) (cls : Value) (d : Option Addr), L2H.RoomH k (A.deeper (envOfC x (defScope st) s.heap.objs.size f cdv)) → IsX cls d oe → sp a cls d vs H Q E0 →
      ∃ t, PSs (L2H.cxH CX0 P w K mg base N x (defScope st) f cdv A outer s H E0 (a, oe)).nox (defBody st) t ∧ t { nx := fun _ H' => Q .non H', rt := Q } (start N vs) H) : Ke P w K mg base (k + 1) x sp := by
  obtain ⟨f, fd, F, hm, hb⟩ := D.ex
  exact ⟨f, fd, ps, fnE_of F S len (body f), hm, F.kp, hb⟩
end
section
variable {X : Cx} {k j : Nat} {C : Addr} {x m : Str} {sp : Sp} {W : WX} {p q pos apos : Pos} {e o : Expr} {es : List Expr} {to : TE} {t : TA}
theorem px1 (c : Kx X.prog X.w X.K X.mg X.base k x sp) (hr : Room j X.A) (hk : k ≤ j) (tk : Takes X W) (gl : Gl X x) (ha : PA X (e :: es) t) (h0 : (x == ("__debug__" : Str)) = false := by decide)
    (h1 : starEach (e :: es) X.env = (false, eval e X.env) :: starEach es X.env := by rfl) (h2 : (backTo pos (starEach es X.env)).any (·.1) = false := by rfl) :
    PE X (.Call (.Name x p) (e :: es) [] pos) (tCallS sp (WE W) t) := by
  obtain ⟨f, fd, ps, F, hm, kp, b⟩ := c.ex
  exact pe_callS F (hr.mono hk) gl hm kp b (fun σ => passAt tk σ) ha h0 h1 h2
theorem pm1 {pl : Sem Bool} (c : Km X.prog X.w X.K X.mg X.base k C m sp) (ho : PE X o to) (hr : Room j X.A) (hk : k ≤ j) (tk : Takes X W) (ha : PA X (e :: es) t)
    (h1 : starEach (e :: es) X.env = (false, eval e X.env) :: starEach es X.env := by rfl) (h2 : (backTo pos (starEach es X.env)).any (·.1) = false := by rfl)
    (h3 : eval (.Call (.Attribute o m apos) (e :: es) [] pos) X.env = (do
      let v ← eval o X.env
      standAt apos.atName
      let (g, first) ← holding [v] (getMethod v m pl)
      callWith pos g first (backTo pos (starEach (e :: es) X.env)) (backToKw pos (keywordEach [] X.env))) := by rfl) :
    PE X (.Call (.Attribute o m apos) (e :: es) [] pos) (tMethS C m sp (WE W) to t) := by
  obtain ⟨f, fd, ps, hc, hm, F, b⟩ := c.ex
  exact pe_methS (pl := pl) ho hc hm F (hr.mono hk) b (fun σ => passAt tk σ) ha h1 h2 h3
theorem pm0 {pl : Sem Bool} (c : Km X.prog X.w X.K X.mg X.base k C m sp) (ho : PE X o to) (hr : Room j X.A) (hk : k ≤ j) (tk : Takes X W)
    (h3 : eval (.Call (.Attribute o m apos) [] [] pos) X.env = (do
      let v ← eval o X.env
      standAt apos.atName
      let (g, first) ← holding [v] (getMethod v m pl)
      callWith pos g first (backTo pos (starEach [] X.env)) (backToKw pos (keywordEach [] X.env))) := by rfl) :
    PE X (.Call (.Attribute o m apos) [] [] pos) (tMethS C m sp (WE W) to tNil) := by
  obtain ⟨f, fd, ps, hc, hm, F, b⟩ := c.ex
  exact pe_methS0 (pl := pl) ho hc hm F (hr.mono hk) b (fun σ => passAt tk σ) h3
theorem pi1 (c : Ki X.prog X.w X.K X.mg X.base k x C sp) (hr : Room j X.A) (hk : k + 1 ≤ j) (tk : Takes X W) (gl : Gl X x) (ha : PA X (e :: es) t) (h0 : (x == ("__debug__" : Str)) = false := by decide)
    (h1 : starEach (e :: es) X.env = (false, eval e X.env) :: starEach es X.env := by rfl) (h2 : (backTo pos (starEach es X.env)).any (·.1) = false := by rfl) :
    PE X (.Call (.Name x p) (e :: es) [] pos) (tMakeS C sp (WE W) t) := by
  obtain ⟨f, fd, ps, M, F, hm, b⟩ := c.ex
  exact pe_makeS M F (hr.mono hk) gl hm b (fun σ => passAt tk σ) ha h0 h1 h2
theorem pE1 {sp : SpE} {a : Addr} {oe : Obj} {cls : Value} {d : Option Addr} (c : Ke X.prog X.w X.K X.mg X.base k x sp) (hr : L2H.RoomH j X.A) (hk : k ≤ j) (hp : (a, oe) ∈ X.pn) (isx : IsX cls d oe) (gl : Gl X x) (ha : PA X (e :: es) t)
    (h0 : (x == ("__debug__" : Str)) = false := by decide)
    (h1 : starEach (e :: es) X.env = (false, eval e X.env) :: starEach es X.env := by rfl) (h2 : (backTo pos (starEach es X.env)).any (·.1) = false := by rfl) :
    PE X (.Call (.Name x q) (e :: es) [] pos) (tCallE (sp a cls d) t) := by
  obtain ⟨f, fd, ps, F, hm, kp, b⟩ := c.ex
  exact pe_callE F (hr.mono hk) hp isx gl hm kp b ha h0 h1 h2
end
end My

namespace My
open PySem PySem.Spec PyProof.Rows L2 Evl
/-! ### try with several clauses, each with a name or without -/
abbrev Clause := Value × Option Nat × (Addr → Value → Option Addr → TS)
def putO : Option Nat → Addr → L2.St → L2.St
  | none, _, σ => σ
  | some i, a, σ => σ.set i (some (.ref a))
def dropO : Option Nat → Ends → Ends
  | none, D => D
  | some i, D => { nx := fun σ H => D.nx (σ.set i none) H, rt := D.rt, bk := fun σ H => D.bk (σ.set i none) H, ct := fun σ H => D.ct (σ.set i none) H }
def wMix (K : PySem.W.Frag) (out : WX) (D : Ends) : List Clause → WX
  | [] => out
  | (c, o, ts) :: r => fun cls d σ H => ∃ b, PySem.W.exmOne K cls c = some b ∧
      (b = true → ∀ a, H a = none → ts a cls d (dropO o D) (putO o a σ) H) ∧ (b = false → wMix K out D r cls d σ H)
theorem mix_hit {K : PySem.W.Frag} {out : WX} {D : Ends} {c cls : Value} {o : Option Nat} {ts : Addr → Value → Option Addr → TS} {r : List Clause} {d : Option Addr} {σ : L2.St} {H : Hp}
    (k : PySem.W.exmOne K cls c = some true) (h : ∀ a, H a = none → ts a cls d (dropO o D) (putO o a σ) H) : wMix K out D ((c, o, ts) :: r) cls d σ H :=
  ⟨true, k, fun _ => h, fun z => nomatch z⟩
theorem mix_miss {K : PySem.W.Frag} {out : WX} {D : Ends} {c cls : Value} {o : Option Nat} {ts : Addr → Value → Option Addr → TS} {r : List Clause} {d : Option Addr} {σ : L2.St} {H : Hp}
    (k : PySem.W.exmOne K cls c = some false) (h : wMix K out D r cls d σ H) : wMix K out D ((c, o, ts) :: r) cls d σ H :=
  ⟨false, k, fun z => absurd z (by decide), fun _ => h⟩
/-- the name that a clause gives -/
def NameOk (X : Cx) : Option Str → Option Nat → Prop
  | none, none => True
  | some n, some i => X.N[i]? = some n ∧ X.env.kindOf n = some .local
  | _, _ => False
inductive MixOk (X : Cx) : List ExceptHandler → List Clause → Prop where
  | nil : MixOk X [] []
  | cons {x : Str} {c : Value} {on : Option Str} {oi : Option Nat} {ts : Addr → Value → Option Addr → TS} {b₀ : Stmt} {rest : List Stmt} {p1 p2 : Pos} {hds : List ExceptHandler} {l : List Clause}
      (hc : Names X x c) (hn : NameOk X on oi)
      (su : ∀ (a : Addr) (oe : Obj) (cls : Value) (d : Option Addr) (pn : List (Addr × Obj)), Zc cls d oe → (∃ vs, oe.data = .fields vs) → PSs (X.suite a ((a, oe) :: pn)) (b₀ :: rest) (ts a cls d))
      (r : MixOk X hds l) : MixOk X (.ExceptHandler (some (.Name x p1)) on (b₀ :: rest) p2 :: hds) ((c, oi, ts) :: l)
section
variable {X : Cx} {body : List Stmt} {h₀ : ExceptHandler} {hds : List ExceptHandler} {l : List Clause} {pos : Pos} {tb : List (Addr × Obj) → (Value → Shared → Prop) → WX → TS} {out : WX}
theorem ps_try_mix (h1 : X.stack = X.env :: X.outer) (h2 : X.env.frame = some X.env.locals) (nd : X.N.Nodup) (tk : Takes X out)
    (hb : ∀ (pn : List (Addr × Obj)) (xe : Value → Shared → Prop) (W : WX), Takes (X.tr pn xe) W → PassesOwn (model X.prog X.w) X.A X.env xe → PSs (X.tr pn xe) body (tb pn xe W))
    (cl : MixOk X (h₀ :: hds) l) : PS X (.Try body (h₀ :: hds) [] [] pos) (fun D σ H => ∀ pn xe, tb pn xe (wMix X.K out D l) D σ H) := by
  refine ⟨fun pins s σ H D I h => ?_⟩
  have okX := I.ok
  have frames : X.A.frames = some (X.env :: X.outer) := by rw [okX.frames, h1]
  refine wpAny_Try_except ?_
  let caught : Value → Shared → Prop := fun e s₁ => wpAny (model X.prog X.w) X.A (noteFrame e X.env) (fun _ s₂ =>
    wpAny (model X.prog X.w) X.A (setFlight e none) (fun _ s₃ => wpAny (model X.prog X.w) X.A (handleBy e X.env (h₀ :: hds)) (SP X pins D) X.xe s₃) X.xe s₂) X.xe s₁
  have tries : Takes (X.tr (X.pn ++ pins) caught) (wMix X.K out D l) := by
    rintro u s' ⟨a, B, sI, pins', σ', H', cls, d, rfl, J0, nb, up, sky, free, os, bare, w⟩
    have J : Inv X pins σ' H' sI := J0.ofTry okX
    have sky2 : Sky B (X.env :: X.outer) a (Zc cls d) X.env.locals s'.heap := by
      rw [← h1]
      exact sky
    show wpAny (model X.prog X.w) X.A (noteFrame (.ref a) X.env) _ _ _
    refine Sky.land Zc.steady frames h2 sky2 fun hp3 fl3 up3 => ?_
    have up03 := up.trans up3
    have J3 : Inv X pins σ' H' { s' with heap := hp3 } := J.landed nb fl3.1 up03 os bare
    obtain ⟨oe3, vs3, g3, z3, d3⟩ := fl3.there
    have off : a ∉ frs (X.env :: X.outer) := fun hm => by
      obtain ⟨_, o', g, nf⟩ := fl3.2.2.1.mem hm
      rw [g3] at g
      cases g
      exact nf _ d3
    have nL : a ≠ X.env.locals := fun z => off (List.mem_filterMap.mpr ⟨X.env, List.mem_cons_self, by rw [h2, z]⟩)
    have nF : a ∉ X.fs := fun hm => by
      obtain ⟨en, q1, q2⟩ := List.mem_filterMap.mp hm
      exact off (List.mem_filterMap.mpr ⟨en, List.mem_cons_of_mem _ q1, q2⟩)
    have S3 := J3.suite g3 d3 free nL nF
    have each : ∀ {hs' : List ExceptHandler} {l' : List Clause}, MixOk X hs' l' → wMix X.K out D l' cls d σ' H' →
        wpAny (model X.prog X.w) X.A (handleBy (.ref a) X.env hs') (SP X pins D) X.xe { s' with heap := hp3 } := by
      intro hs' l' ok'
      induction ok' with
      | nil =>
        intro w
        refine wpAny_handleBy_nil ?_
        obtain ⟨_, _, _, oe, vs, T, oT, ts', g, z, dd, at1, _⟩ := id fl3
        unfold PySem.passOn
        refine wpAny_bind (wpAny_field g dd at1 ?_)
        rw [if_neg (show ¬ ((Value.ref T == Value.none) = true) by simp)]
        have onward : wpAny (model X.prog X.w) X.A (setFlight (.ref a) X.env.frame)
            (fun _ s4 => wpAny (model X.prog X.w) X.A (throw (.ref a) : Sem Flow) (SP X pins D) X.xe s4) X.xe { s' with heap := hp3 } := by
          rw [h2]
          refine HandSPX.setFlight_upZ fl3 fun hp4 held up4 => wpAny_throw (tk _ _ ?_)
          refine ⟨a, B, sI, pins, σ', H', cls, d, rfl, J, nb, up03.trans up4, .inr (.inr ?_), free, os, bare, w⟩
          rw [h1]
          exact held
        first
          | exact wpAny_bind (wpAny_pure (wpAny_bind onward))
          | exact wpAny_bind onward
      | @cons x c on oi ts b₀ rest p1 p2 hds2 l2 hc hn su r ih =>
        rintro ⟨b, known, yes, no⟩
        refine wpAny_handleBy_cons (codeAny_handlers_test ?_) (fun z => by cases z)
        have LT : PySem.W.Looks (model X.prog X.w) hp3 (typeOf (.ref a)) cls := fun A Q E s keep q => wpAny_typeOf_ref (keep _ _ g3) (by rw [z3.1]; exact q)
        have LM := PySem.W.exm_one (M := model X.prog X.w) J3.kIn LT known
        have named : ∀ {Q : Value → Shared → Prop} {E : Value → Shared → Prop}, Q c { s' with heap := hp3 } →
            wpAny (model X.prog X.w) (X.A.mark (some (.ref a))) (eval (.Name x p1) X.env) Q E { s' with heap := hp3 } := by
          intro Q E q
          obtain ⟨gl, db, here | ⟨none_, blt, nn⟩⟩ := hc
          · exact ld_glob (X := X.suite a ((a, oe3) :: (X.pn ++ pins))) S3 gl here q db
          · exact ld_blt (X := X.suite a ((a, oe3) :: (X.pn ++ pins))) S3 gl none_ blt q nn db
        refine named (LM.here ?_)
        cases b with
        | false =>
          show wpAny _ X.A (handleBy (.ref a) X.env hds2) _ _ _
          exact ih (no rfl)
        | true =>
          cases on with
          | none =>
            cases oi with
            | some i => exact hn.elim
            | none =>
              refine codeAny_handlers_suite ?_
              refine HandSPX.lands_againZ fl3 fun hp4 fl4 up4 => ?_
              have J4 : Inv X pins σ' H' { s' with heap := hp4 } := J.landed nb fl4.1 (up03.trans up4) os bare
              obtain ⟨oe4, vs4, g4, z4, d4⟩ := fl4.there
              have S4 := J4.suite g4 d4 free nL nF
              refine wpAny_mono ((su a oe4 cls d (X.pn ++ pins) z4 ⟨_, d4⟩).run [] _ _ H' _ S4 (yes rfl a free)) (fun f s6 got => ?_) (fun _ _ z => z.elim)
              cases f with
              | ret u =>
                obtain ⟨v6, σ6, H6, S6, r6, q6⟩ := got
                exact ⟨_, _, _, S6.unsuite okX, r6, q6⟩
              | next =>
                obtain ⟨σ6, H6, S6, q6⟩ := got
                exact ⟨_, _, S6.unsuite okX, q6⟩
              | brk =>
                obtain ⟨σ6, H6, S6, q6⟩ := got
                exact ⟨_, _, S6.unsuite okX, q6⟩
              | cont =>
                obtain ⟨σ6, H6, S6, q6⟩ := got
                exact ⟨_, _, S6.unsuite okX, q6⟩
          | some n =>
            cases oi with
            | none => exact hn.elim
            | some i =>
              obtain ⟨at_, loc⟩ := hn
              refine codeAny_handlers_suite_as ?_
              refine HandSPX.lands_againZ fl3 fun hp4 fl4 up4 => ?_
              have J4 : Inv X pins σ' H' { s' with heap := hp4 } := J.landed nb fl4.1 (up03.trans up4) os bare
              obtain ⟨oe4, vs4, g4, z4, d4⟩ := fl4.there
              have S4 := J4.suite g4 d4 free nL nF
              refine store_ok (X := X.suite a ((a, oe4) :: (X.pn ++ pins))) (v := .ref a) S4 nd at_ (.inl loc) rfl (fun s5 S5 => ?_) (.inr loc)
              refine wpAny_mono ((su a oe4 cls d (X.pn ++ pins) z4 ⟨_, d4⟩).run [] s5 _ H' _ S5 (yes rfl a free)) (fun f s6 got => ?_) (fun _ _ z => z.elim)
              have off_ : ∀ {σ6 : L2.St} {H6 : Hp} {Q : Shared → Prop}, Inv (X.suite a ((a, oe4) :: (X.pn ++ pins))) [] σ6 H6 s6 → (∀ s7, Inv X pins (σ6.set i none) H6 s7 → Q s7) →
                  wpAny (model X.prog X.w) X.A (do bindName X.env n .none; unbindBehindTheSuite X.env n p2) (fun _ s7 => Q s7) X.xe s6 := by
                intro σ6 H6 Q S6 q
                exact gone_ok (S6.unsuite okX) nd at_ loc q
              cases f with
              | ret u =>
                obtain ⟨v6, σ6, H6, S6, r6, q6⟩ := got
                exact off_ S6 fun s7 J7 => ⟨_, _, _, J7, r6, q6⟩
              | next =>
                obtain ⟨σ6, H6, S6, q6⟩ := got
                exact off_ S6 fun s7 J7 => ⟨_, _, J7, q6⟩
              | brk =>
                obtain ⟨σ6, H6, S6, q6⟩ := got
                exact off_ S6 fun s7 J7 => ⟨_, _, J7, q6⟩
              | cont =>
                obtain ⟨σ6, H6, S6, q6⟩ := got
                exact off_ S6 fun s7 J7 => ⟨_, _, J7, q6⟩
    exact each cl w
  refine wpAny_mono ((hb (X.pn ++ pins) caught (wMix X.K out D l) tries PassesOwn.looking).run [] s σ H D (I.toTry _) (h _ _)) (fun f s1 got => ?_) (fun e s1 z => z)
  cases f with
  | ret u =>
    obtain ⟨v, σ', H', J, r, q⟩ := got
    exact ⟨v, σ', H', J.ofTry okX, r, q⟩
  | next =>
    obtain ⟨σ', H', J, q⟩ := got
    exact wpAny_execs_nil ⟨σ', H', J.ofTry okX, q⟩
  | brk =>
    obtain ⟨σ', H', J, q⟩ := got
    exact ⟨σ', H', J.ofTry okX, q⟩
  | cont =>
    obtain ⟨σ', H', J, q⟩ := got
    exact ⟨σ', H', J.ofTry okX, q⟩
end
end My

namespace My
open PySem PySem.Spec PyProof.Rows L2 Evl
/-! ### the refusals: a row of classes under one, which is under ValueError; one look at the written part tells all of it -/
def excOne (K : PySem.W.Frag) (D : Addr) : Bool :=
  PySem.W.findIn K (.ref D) "__getattribute__" == some (some (.builtin "BaseException.__getattribute__")) && PySem.W.findIn K (.ref D) "__getattr__" == some none &&
  PySem.W.subIn K (.ref D) (.type "BaseException") == some true && PySem.W.hasDictIn K D && PySem.W.findIn K (.ref D) "__class__" == some (some (.builtin "object.__class__")) &&
  PySem.W.specialIn K (.builtin "object.__class__") "__get__" == some (some (.builtin "getset_descriptor.__get__")) && PySem.W.takesIn K (.builtin "object.__class__") == some true &&
  PySem.W.mroIn K D (.type "object") == some true && PySem.W.excIn K D HandSPX.veTail "ValueError.__new__" && PySem.W.keepIn K (.ref D) && PySem.W.typeIn K (.ref D) == some (.type "type")
def excAll (K : PySem.W.Frag) (L : Addr) (cl : List Addr) : Bool :=
  (List.range cl.length).all fun i => excOne K (cl.getD i 0) && PySem.W.kitOne K (.ref (cl.getD i 0)) (.ref L) == some true && PySem.W.exmOne K (.ref (cl.getD i 0)) (.ref L) == some true &&
    PySem.W.kitOne K (.ref (cl.getD i 0)) (.type "ValueError") == some true && PySem.W.exmOne K (.ref (cl.getD i 0)) (.type "ValueError") == some true &&
    (List.range cl.length).all fun j => PySem.W.kitOne K (.ref (cl.getD i 0)) (.ref (cl.getD j 0)) == some (decide (i = j)) && PySem.W.exmOne K (.ref (cl.getD i 0)) (.ref (cl.getD j 0)) == some (decide (i = j))
structure Exc1 (K : PySem.W.Frag) (D : Addr) : Prop where
  c : ExcC K D
  x : PySem.W.excIn K D HandSPX.veTail "ValueError.__new__" = true
  k : PySem.W.keepIn K (.ref D) = true
  t : PySem.W.typeIn K (.ref D) = some (.type "type")
structure Exs (K : PySem.W.Frag) (L : Addr) (cl : List Addr) : Prop where
  one : ∀ i, i < cl.length → Exc1 K (cl.getD i 0)
  kitL : ∀ i, i < cl.length → PySem.W.kitOne K (.ref (cl.getD i 0)) (.ref L) = some true
  exmL : ∀ i, i < cl.length → PySem.W.exmOne K (.ref (cl.getD i 0)) (.ref L) = some true
  kitV : ∀ i, i < cl.length → PySem.W.kitOne K (.ref (cl.getD i 0)) (.type "ValueError") = some true
  exmV : ∀ i, i < cl.length → PySem.W.exmOne K (.ref (cl.getD i 0)) (.type "ValueError") = some true
  kit : ∀ i j, i < cl.length → j < cl.length → PySem.W.kitOne K (.ref (cl.getD i 0)) (.ref (cl.getD j 0)) = some (decide (i = j))
  exm : ∀ i j, i < cl.length → j < cl.length → PySem.W.exmOne K (.ref (cl.getD i 0)) (.ref (cl.getD j 0)) = some (decide (i = j))
theorem exc1_of {K : PySem.W.Frag} {D : Addr} (h : excOne K D = true) : Exc1 K D := by
  unfold excOne at h
  simp only [Bool.and_eq_true, beq_iff_eq] at h
  obtain ⟨⟨⟨⟨⟨⟨⟨⟨⟨⟨h1, h2⟩, h3⟩, h4⟩, h5⟩, h6⟩, h7⟩, h8⟩, h9⟩, h10⟩, h11⟩ := h
  exact ⟨⟨h1, h2, h3, h4, h5, h6, h7, h8⟩, h9, h10, h11⟩
theorem exs_of {K : PySem.W.Frag} {L : Addr} {cl : List Addr} (h : excAll K L cl = true) : Exs K L cl := by
  unfold excAll at h
  rw [List.all_eq_true] at h
  have g : ∀ i, i < cl.length → _ := fun i hi => h i (List.mem_range.mpr hi)
  simp only [Bool.and_eq_true, beq_iff_eq, List.all_eq_true] at g
  exact ⟨fun i hi => exc1_of (g i hi).1.1.1.1.1, fun i hi => (g i hi).1.1.1.1.2, fun i hi => (g i hi).1.1.1.2, fun i hi => (g i hi).1.1.2, fun i hi => (g i hi).1.2,
    fun i j hi hj => ((g i hi).2 j (List.mem_range.mpr hj)).1, fun i j hi hj => ((g i hi).2 j (List.mem_range.mpr hj)).2⟩
/-- raise X('..') of such a class -/
theorem pmk_i {X : Cx} {L : Addr} {cl : List Addr} {x m : Str} {j : Nat} {p p2 pos : Pos} (S : Exs X.K L cl) (i : Nat) (hi : i < cl.length) (g : X.mg x = some (.ref (cl.getD i 0))) (gl : Gl X x)
    (h0 : (x == ("__debug__" : Str)) = false := by decide) : PMk X (.Call (.Name x p) [.Constant (.str m) j p2] [] pos) (fun _ H Q => Q (.ref (cl.getD i 0)) none H) :=
  pmk_own PySem.F.excBase_ValueError (S.one i hi).x g (S.one i hi).k (raises_own (S.one i hi).c.hs (S.one i hi).t) gl h0
/-! ### one class of objects -/
def clsAll (K : PySem.W.Frag) (C : Addr) : Bool :=
  PySem.W.plainGet K C Str.empty && PySem.W.hasDictIn K C && PySem.W.plainOver K C && PySem.W.findIn K (.ref C) "__setattr__" == some (some (.builtin "object.__setattr__")) && PySem.W.makesIn K C && PySem.W.keepIn K (.ref C)
theorem cls_of {K : PySem.W.Frag} {C : Addr} (h : clsAll K C = true) : Cls K C ∧ PySem.W.makesIn K C = true ∧ PySem.W.keepIn K (.ref C) = true := by
  unfold clsAll at h
  simp only [Bool.and_eq_true, beq_iff_eq] at h
  obtain ⟨⟨⟨⟨⟨h1, h2⟩, h3⟩, h4⟩, h5⟩, h6⟩ := h
  exact ⟨⟨h1, h2, h3, h4⟩, h5, h6⟩
section
variable {K : PySem.W.Frag} {mg : Str → Option Value} {h : Heap} {x m qual : Str} {st : Stmt} {ps : List Str} {f C : Addr} {oc : Value} {od an : Option Addr} {osl : Array (Option Value)} {kV doc pm cdv ct : Value}
theorem dm_mk (a : PySem.W.findIn K (.ref C) m = some (some (.ref f))) (i : PySem.W.isFn K (.ref f) = true) (l : K.lookup f = some ⟨oc, od, .func (PySem.W.fnOf m qual (defArgs st) (defBody st) (defScope st) .none kV doc pm an cdv ct), osl⟩)
    (c : PySem.W.codeIn K cdv qual = true) (k : PySem.W.keepIn K (.ref f) = true)
    (b : ∀ (kV doc pm : Value) (an : Option Addr) (cdv ct : Value) (us : List Value), us.length = ps.length → bindArgs (PySem.W.fnOf m qual (defArgs st) (defBody st) (defScope st) .none kV doc pm an cdv ct) ⟨us, []⟩ = pure (ps.zip us)) : Dm K C m qual st ps := by
  have F := fun_mk (st := st) l c k
  exact ⟨f, _, F, ⟨a, i, k⟩, F.binds b⟩
theorem di_mk (X : K.In h) (G : h.Ns mainGlobals mg) (g : PySem.W.nsIn K mainGlobals x = some (some (.ref C))) (mk : PySem.W.makesIn K C = true) (kc : PySem.W.keepIn K (.ref C) = true)
    (a : PySem.W.findIn K (.ref C) "__init__" = some (some (.ref f))) (i : PySem.W.isFn K (.ref f) = true) (l : K.lookup f = some ⟨oc, od, .func (PySem.W.fnOf "__init__" qual (defArgs st) (defBody st) (defScope st) .none kV doc pm an cdv ct), osl⟩)
    (c : PySem.W.codeIn K cdv qual = true) (k : PySem.W.keepIn K (.ref f) = true)
    (b : ∀ (kV doc pm : Value) (an : Option Addr) (cdv ct : Value) (us : List Value), us.length = ps.length → bindArgs (PySem.W.fnOf "__init__" qual (defArgs st) (defBody st) (defScope st) .none kV doc pm an cdv ct) ⟨us, []⟩ = pure (ps.zip us)) : Di K mg x C qual st ps := by
  have F := fun_mk (st := st) l c k
  exact ⟨f, _, F, ⟨mk, a, i, kc⟩, PySem.W.mg_of X G g, F.binds b⟩
end
end My

namespace My
open PySem PySem.Spec PyProof.Rows L2 Evl
/-! ### a def's table of code objects, told as one thing that may grow unseen -/
def TabO (P : Addr) : HO := .ext fun h => ∃ ps : Array Value, h.get? P = some { cls := .none, data := .fields ps } ∧ TriplesOk ps.toList
theorem upd_id {H : Hp} {a : Addr} {o : HO} (h : H a = some o) : upd H a o = H := by
  funext b
  unfold upd
  split
  · next e => rw [e, h]
  · rfl
section
variable {X : Cx} {pins : List (Addr × Obj)} {σ : L2.St} {H : Hp} {s : Shared}
theorem tabO_at (I : Inv X pins σ H s) {P : Addr} (hP : H P = some (TabO P)) : ∃ ps : Array Value, s.heap.get? P = some { cls := .none, data := .fields ps } ∧ TriplesOk ps.toList := (I.hok P _ hP).1
/-- the table has grown unseen; generators were made -/
theorem inv_grown {P : Addr} {ps : Array Value} {s' : Shared} (I : Inv X pins σ H s) (hP : H P = some (TabO P)) (os : s'.os = s.os) (k : ∀ b o, b ≠ P → s.heap.get? b = some o → s'.heap.get? b = some o)
    (hm : s'.heap.get? P = some { cls := .none, data := .fields ps }) (ht : TriplesOk ps.toList) (hg : AllBare s'.gens) : Inv X pins σ H s' := by
  have apart : ∀ b, H b = none → b ≠ P := fun b e z => by
    subst z
    rw [hP] at e
    cases e
  have apart2 : ∀ b u, H b = some u → (∀ φ, u ≠ .ext φ) → b ≠ P := fun b u e q z => by
    subst z
    rw [hP] at e
    exact q _ (Option.some.inj e).symm
  have J := I.step (h' := s'.heap) (g' := s'.gens) (d' := s'.drawn) (t' := s'.toks) (ch := []) (H' := H) (fun b hb => nomatch hb) (fun b o _ _ _ e n => k b o (apart b n) e) (fun b o _ _ _ e n => ⟨o.slots, k b o (apart b n) e⟩) (fun b o _ _ n => n)
    (fun b o _ e => by
      by_cases hb : b = P
      · subst hb; exact ⟨_, hm⟩
      · exact ⟨o, k b o hb e⟩)
    (fun b xs e => e) (fun b o u e => e) (fun b qs e => ⟨#[], by rw [e]; simp⟩) (fun m hn => by
      obtain ⟨ob, es, ep, ho, r⟩ := hn
      exact ⟨ob, es, ep, k _ ob (apart _ I.free) ho, r⟩) (fun b u e => by
      by_cases hb : b = P
      · subst hb
        rw [hP] at e
        cases e
        exact ⟨⟨ps, hm, ht⟩, ⟨_, hm⟩, (I.hok b _ hP).2.2⟩
      · refine (I.hok b u e).stay (fun c v hc q => k c v ?_ q) (fun c q => q) (fun c xs q => q)
        rcases hc with z | z
        · rw [z]; exact hb
        · exact apart2 c _ z fun φ q => nomatch q) hg
  rw [GxR.sh_eta s s' os] at J
  exact J
/-- what a generator expression walks: n items, told by Pf, from a new record that it makes of its source -/
structure Src (X : Cx) (s1 : Shared) (it : Value) (s2 : Shared) (fp : List Addr) (n : Nat) (Pf : Nat → Value → Prop) (St : Nat → Heap → Prop) : Prop where
  ref : it = .ref s1.heap.objs.size
  new : ∃ o, s2 = { s1 with heap := s1.heap.push o }
  walk : ∀ A' : Around, A'.handled = none → Walks X.prog X.w A' s1.heap.objs.size fp [s1.heap.objs.size] n Pf St
  st : St 0 s2.heap
  low : ∀ b ∈ fp, b < s2.heap.objs.size
/-- the generator g, ready to be walked in s5; H: what is held -/
def ReadyG (X : Cx) (pins : List (Addr × Obj)) (σ : L2.St) (H : Hp) (n : Nat) (F : Nat → Value → Prop) (g : Addr) (s5 : Shared) : Prop :=
  ∃ (fp wr : List Addr) (G : Array GenState → Array GenState → Prop) (St : Nat → Shared → Prop),
    WalksS X.prog X.w X.A.in1 g fp wr G n F St ∧ St 0 s5 ∧ (∀ b ∈ fp, b < s5.heap.objs.size) ∧ ∀ s', Moved wr G s5 s' → Inv X pins σ H s'
/-- the block of the expression: its tests and its element, at the i-th item v, in a state that has all that stood when the generator was made, but for the table -/
structure BlockG (X : Cx) (P : Addr) (scope : Scope) (x : Str) (ifs : List Expr) (elt : Expr) (s1 : Shared) (Pf : Nat → Value → Prop) (pz : Nat → Bool) (F : Nat → Value → Prop) : Prop where
  tests : ∀ (cenv : Env) (A' : Around) (E' : Value → Shared → Prop) (i : Nat) (v : Value) (s₂ : Shared) (m₂ : Str → Option Value), cenv.scope = scope → cenv.cells = cloFrom X.env.cells scope.names [] → cenv.globals = X.env.globals →
    A'.handled = none → A'.depth ≤ X.A.depth + 1 → A'.units ≤ X.A.units + 8 → Pf i v → s₂.heap.Ns cenv.locals m₂ → m₂ x = some v → (∀ b o, b ≠ P → s1.heap.get? b = some o → s₂.heap.get? b = some o) →
    wpAny (model X.prog X.w) A' (forIn ifs true fun c r => if r = true then do let ok ← isTrue c cenv (eval c cenv); pure (ForInStep.yield ok) else pure (ForInStep.yield r)) (fun ok s₃ => ok = pz i ∧ Keeps s₂ s₃) E' s₂
  elt : ∀ (cenv : Env) (A' : Around) (E' : Value → Shared → Prop) (i : Nat) (v : Value) (s₂ : Shared) (m₂ : Str → Option Value), cenv.scope = scope → cenv.cells = cloFrom X.env.cells scope.names [] → cenv.globals = X.env.globals →
    A'.handled = none → A'.depth ≤ X.A.depth + 1 → A'.units ≤ X.A.units + 8 → Pf i v → pz i = true → s₂.heap.Ns cenv.locals m₂ → m₂ x = some v → (∀ b o, b ≠ P → s1.heap.get? b = some o → s₂.heap.get? b = some o) →
    wpAny (model X.prog X.w) A' (eval elt cenv) (fun y s₃ => F i y ∧ Keeps s₂ s₃) E' s₂
theorem gen_made {c P : Addr} {elt iter : Expr} {x : Str} {px gpos : Pos} {ifs : List Expr} {scope : Scope} {te : TE} {k : Nat} {Q' : Value → Shared → Prop} {R : V → Hp → Prop}
    (hr : Room k X.A) (TB : GxR.TabB X.base X.mg c P) (hcode : X.env.code = .ref c) (S : GxR.GenS X.env scope x) (hi : PE X iter te) (hs : ∀ v, genFold iter X.env v = pure v) (I : Inv X pins σ H s)
    (h : te σ H R) (src : ∀ v H1 xv s1, R v H1 → Inv X pins σ H1 s1 → RelV v xv → H1 P = some (TabO P) ∧ wpAny (model X.prog X.w) X.A (pyIter xv) (fun it s2 => ∃ fp n Pf St pz F, Src X s1 it s2 fp n Pf St ∧
      BlockG X P scope x ifs elt s1 Pf pz F ∧ P ∉ fp ∧ ∀ g s5, ReadyG X pins σ H1 (passing pz n 0).length (fun j y => ∃ i, (passing pz n 0)[j]? = some i ∧ F i y) g s5 → Q' (.ref g) s5) X.xe s1) :
    wpAny (model X.prog X.w) X.A (eval (.GeneratorExp elt [⟨.Name x px, iter, ifs, 0⟩] scope gpos) X.env) Q' X.xe s := by
  refine wpAny_GeneratorExp_walksQD hr.hd S.co (closure_ok S.free) S.cell S.dot S.loc S.kind (by have := hr.dp; omega) ?_ hs
  refine thn (hi.run pins s σ H _ I h) fun xv s1 ⟨v, H1, I1, r1, got1⟩ => ?_
  obtain ⟨hP, src1⟩ := src v H1 xv s1 got1 I1 r1
  refine wpAny_mono src1 (fun it s2 got => ?_) (fun _ _ z => z)
  obtain ⟨fp, n, Pf, St, pz, F, ⟨rfl, ⟨o, rfl⟩, W, hst, low⟩, blk, nPf, hQ⟩ := got
  obtain ⟨ps, hPs, ht⟩ := tabO_at I1 hP
  have ltP : P < s1.heap.objs.size := Heap.lt_size hPs
  have up1 : ∀ b u, s1.heap.get? b = some u → (s1.heap.push o).get? b = some u := fun b u e => Heap.get?_push_of_some _ e
  have hP2 := up1 _ _ hPs
  have cd : PySem.W.CodeHd (s1.heap.push o) c P := TB.code.keeps fun b u e => up1 b u (I1.bk b u e)
  have noL : (s1.heap.push o).NoLimit := I1.nolimit.push o
  have szN : (s1.heap.push o).objs.size = s1.heap.objs.size + 1 := Heap.size_push ..
  have ltStat : cStatics < s1.heap.objs.size := by
    obtain ⟨_, hns, _⟩ := I1.nolimit
    exact hns.lt
  have nStat : cStatics ≠ P := fun e => by
    obtain ⟨_, ⟨o', es, ep, ho, hd, _⟩, _⟩ := I1.nolimit
    rw [e, hPs] at ho
    cases ho
    cases hd
  have onward : ∀ (code : Value) (h3 : Heap) (tk : Nat) (qs : Array Value), Heap.ExtBut P (s1.heap.push o) h3 → (s1.heap.push o).objs.size ≤ h3.objs.size → h3.get? P = some { cls := .none, data := .fields qs } → TriplesOk qs.toList →
      wpAny (model X.prog X.w) X.A (builtinsFor X.env.globals X.env.builtins) (fun bi sd =>
        ∃ ia fp wr nn Pf Sx pz F, Value.ref s1.heap.objs.size = .ref ia ∧ (∀ A' : Around, A'.handled = none → Walks X.prog X.w A' ia fp wr nn Pf Sx) ∧ Sx 0 sd.heap ∧ (∀ b ∈ fp, b < sd.heap.objs.size) ∧ sd.heap.NoLimit ∧ cStatics ∉ wr ∧
          (∀ hb : Heap, (∀ b u, sd.heap.get? b = some u → hb.get? b = some u) →
            QuietGenD X.prog X.w (genEnv scope (cloFrom X.env.cells scope.names []) sd.heap.objs.size code bi X.env) x ifs elt (List.range sd.heap.objs.size) wr Pf pz F hb (X.A.depth + 1) (X.A.units + 8)) ∧
          (∀ g h5 tk gs, gs.bare = true → sd.heap.objs.size < g → h5.objs.size = g + 1 → (∀ b u, sd.heap.get? b = some u → h5.get? b = some u) →
            WalksS X.prog X.w X.A.in4 g (g :: sd.heap.objs.size :: List.range sd.heap.objs.size) (sd.heap.objs.size :: wr) (GenOnlyQ sd.gens.size) (passing pz nn 0).length
              (fun j y => ∃ i, (passing pz nn 0)[j]? = some i ∧ F i y) (GenAt X.prog X.w X.A.in4 g sd.gens.size sd.heap.objs.size (List.range sd.heap.objs.size) wr pz nn F) →
            GenAt X.prog X.w X.A.in4 g sd.gens.size sd.heap.objs.size (List.range sd.heap.objs.size) wr pz nn F 0 { sd with gens := sd.gens.push gs, toks := tk, heap := h5 } →
            Q' (.ref g) { sd with gens := sd.gens.push gs, toks := tk, heap := h5 })) X.xe { s1 with heap := h3, toks := tk } := by
    intro code h3 tk qs hx hsz atq okq
    obtain ⟨bm, ob, b1, b2, b3, b4, b5, b6, b7, b8⟩ := TB.bm
    have kept : ∀ b u, b ≠ P → s1.heap.get? b = some u → h3.get? b = some u := fun b u hb e => hx b u hb (up1 b u e)
    refine wpAny_builtinsFor (m := X.mg) (by rw [I1.ok.glob]; exact ((I1.mod.glob.keeps I1.bk).push o).extBut hx TB.gP) b1 b2 (kept _ _ b4 (I1.bk _ _ b5)) b6 b7 b8 ?_
    refine ⟨_, fp, [s1.heap.objs.size], n, Pf, St, pz, F, rfl, W, ?_, ?_, noL.extBut hx nStat, ?_, ?_, ?_⟩
    · exact (W X.A hr.hd).frame _ _ _ hst fun b hb u e => hx b u (fun z => nPf (z ▸ hb)) e
    · intro b hb
      exact Nat.lt_of_lt_of_le (low b hb) hsz
    · intro z
      have := List.mem_singleton.mp z
      rw [this] at ltStat
      exact Nat.lt_irrefl _ ltStat
    · intro hb up
      have all3 : ∀ (s₂ : Shared), (∀ b ∈ List.range h3.objs.size, b ∉ [s1.heap.objs.size] → ∀ u, hb.get? b = some u → s₂.heap.get? b = some u) → ∀ b u, b ≠ P → s1.heap.get? b = some u → s₂.heap.get? b = some u := by
        intro s₂ kp b u hb e
        have e3 := kept b u hb e
        refine kp b (List.mem_range.mpr (Heap.lt_size e3)) (fun z => ?_) u (up b u e3)
        have h9 := Heap.lt_size e
        rw [List.mem_singleton.mp z] at h9
        exact Nat.lt_irrefl _ h9
      exact ⟨fun A' E' i v s₂ m₂ hA hd hu hp hn hm kp => blk.tests _ A' E' i v s₂ m₂ rfl rfl rfl hA hd hu hp hn hm (all3 s₂ kp), fun A' E' i v s₂ m₂ hA hd hu hp hz hn hm kp => blk.elt _ A' E' i v s₂ m₂ rfl rfl rfl hA hd hu hp hz hn hm (all3 s₂ kp)⟩
    · intro g h5 tk5 gs bareg ltg sz5 kp5 Wg hat
      refine hQ g _ ⟨_, _, _, _, Wg.in4_1, hat, ?_, fun s' hm => ?_⟩
      · intro b hb
        show b < h5.objs.size
        rw [sz5]
        have hag' : h3.objs.size < g := ltg
        rcases List.mem_cons.mp hb with z | z
        · rw [z]; exact Nat.lt_succ_self g
        · rcases List.mem_cons.mp z with z | z
          · rw [z]; exact Nat.lt_succ_of_lt hag'
          · exact Nat.lt_succ_of_lt (Nat.lt_trans (List.mem_range.mp z) hag')
      · have nwr : ∀ b u, s1.heap.get? b = some u → b ∉ h3.objs.size :: [s1.heap.objs.size] := fun b u e hb => by
          have hl := Heap.lt_size e
          rcases List.mem_cons.mp hb with z | z
          · rw [z] at hl
            have hl' : h3.objs.size < s1.heap.objs.size := hl
            omega
          · rw [List.mem_singleton.mp z] at hl
            exact Nat.lt_irrefl _ hl
        exact inv_grown I1 hP hm.os (fun b u hb e => hm.heap b u (nwr b u e) (kp5 b u (kept b u hb e))) (hm.heap P _ (nwr P _ hPs) (kp5 P _ atq)) okq (AllBare.movedS (I1.bare.push bareg) hm)
  refine ⟨noL, ?_⟩
  cases look : codeAmong gpos ps.toList with
  | none =>
    refine wpAny_genexprCodeX hcode (cd.code hP2 ht) (cd.tab hP2) look fun cn hn tk hx hge hlt con _ tabn _ => ?_
    obtain ⟨_, _, _, _, _, _, _, _, _, _, _, _, _, _, _, _, _, _, _, three, _⟩ := con
    exact onward _ hn tk _ hx (Nat.le_trans hge (Nat.le_of_lt hlt)) tabn.2 three
  | some cv =>
    refine wpAny_genexprCode_hit hcode (cd.code hP2 ht) look ?_
    exact onward cv (s1.heap.push o) s1.toks ps (Heap.ExtBut.refl _ _) (Nat.le_refl _) hP2 ht
end
end My

namespace My
open PySem PySem.Spec PyProof.Rows L2 Evl
/-! ### an expression that changes nothing, in a generator expression's block (or a small def's body) -/
theorem keeps_trans {s s' s'' : Shared} (a : Keeps s s') (b : Keeps s' s'') : Keeps s s'' := by
  obtain ⟨h1, k1, rfl, e1⟩ := a
  obtain ⟨h2, k2, rfl, e2⟩ := b
  exact ⟨h2, k2, rfl, fun c o z => e2 c o (e1 c o z)⟩
theorem keeps_get {s s' : Shared} (a : Keeps s s') : ∀ b o, s.heap.get? b = some o → s'.heap.get? b = some o := by
  obtain ⟨h1, k1, rfl, e1⟩ := a
  exact e1
/-- where it stands: the names of its own, what stood before, the room -/
structure QC (Old : Addr → Obj → Prop) (D U : Nat) (x : Str) (v : Value) (env : Env) (A : Around) (s : Shared) : Prop where
  hd : A.handled = none
  dp : A.depth ≤ D
  un : A.units ≤ U
  ns : ∃ m, s.heap.Ns env.locals m ∧ m x = some v
  old : ∀ b o, Old b o → s.heap.get? b = some o
theorem QC.keeps {Old : Addr → Obj → Prop} {D U : Nat} {x : Str} {v : Value} {env : Env} {A : Around} {s s' : Shared} (c : QC Old D U x v env A s) (k : Keeps s s') : QC Old D U x v env A s' := by
  obtain ⟨m, n, e⟩ := c.ns
  exact ⟨c.hd, c.dp, c.un, ⟨m, n.keeps (keeps_get k), e⟩, fun b o z => keeps_get k b o (c.old b o z)⟩
def QE (prog : Program) (w : World) (Old : Addr → Obj → Prop) (D U : Nat) (x : Str) (v : Value) (env : Env) (e : Expr) (φ : Value → Prop) : Prop :=
  ∀ (A : Around) (E : Value → Shared → Prop) (s : Shared), QC Old D U x v env A s → wpAny (model prog w) A (eval e env) (fun y s' => φ y ∧ Keeps s s') E s
/-- as a test -/
def QT (prog : Program) (w : World) (Old : Addr → Obj → Prop) (D U : Nat) (x : Str) (v : Value) (env : Env) (e : Expr) (b : Bool) : Prop :=
  ∀ (A : Around) (E : Value → Shared → Prop) (s : Shared), QC Old D U x v env A s → wpAny (model prog w) A (isTrue e env (eval e env)) (fun y s' => y = b ∧ Keeps s s') E s
section
variable {prog : Program} {w : World} {Old : Addr → Obj → Prop} {D U : Nat} {x : Str} {v : Value} {env : Env}
theorem QE.imp {e : Expr} {φ ψ : Value → Prop} (h : QE prog w Old D U x v env e φ) (i : ∀ y, φ y → ψ y) : QE prog w Old D U x v env e ψ := fun A E s c =>
  wpAny_mono (h A E s c) (fun y s' r => ⟨i y r.1, r.2⟩) fun _ _ z => z
theorem qe_x {p : Pos} (hk : env.scope.kind = .function) (hl : env.kindOf x = some .local) (hd : (x == ("__debug__" : Str)) = false := by decide) : QE prog w Old D U x v env (.Name x p) (· = v) := fun A E s c => by
  obtain ⟨m, n, e⟩ := c.ns
  exact wpAny_Name (wpAny_loadName_local hk hl n e ⟨rfl, GxR.keeps_refl _⟩) hd
theorem qe_str {k : Str} {j : Nat} {p : Pos} : QE prog w Old D U x v env (.Constant (.str k) j p) (fun y => ∃ t, y = .str k t) := fun A E s c =>
  Calls.Constant_str ⟨⟨_, rfl⟩, GxR.keeps_tok _ _⟩
theorem qe_int {k : Int} {j : Nat} {p : Pos} : QE prog w Old D U x v env (.Constant (.int k) j p) (fun y => ∃ t, y = .int k t) := fun A E s c =>
  wpAny_Constant_int ⟨⟨_, rfl⟩, GxR.keeps_tok _ _⟩
/-- a captured name -/
theorem qe_free {y : Str} {c : Addr} {u : Value} {o : Obj} {p : Pos} (hk : env.scope.kind = .function) (hl : env.kindOf y = some .free) (hc : env.cells.lookup y = some c) (ho : Old c o) (hv : o.data = .cell (some u))
    (hd : (y == ("__debug__" : Str)) = false := by decide) (hn : (y == ("__classdict__" : Str)) = false := by decide) : QE prog w Old D U x v env (.Name y p) (· = u) := fun A E s q =>
  wpAny_Name (wpAny_loadName_free hk hl hc ⟨o, q.old _ _ ho, hv⟩ ⟨rfl, GxR.keeps_refl _⟩ hn) hd
/-- t[k], t a tuple that stood before -/
theorem qe_item {a : Expr} {t : Addr} {its : List Value} {u : Value} {k : Int} {j i : Nat} {p p2 : Pos} (ha : QE prog w Old D U x v env a (· = .ref t)) (ht : ∀ s : Shared, (∀ b o, Old b o → s.heap.get? b = some o) → IsTup s.heap t its.toArray)
    (hlo : -(2 ^ 63) ≤ k) (hhi : k < 2 ^ 63) (hj : seqIndex? k its.length = some i) (hx : its[i]? = some u) : QE prog w Old D U x v env (.Subscript a (.Constant (.int k) j p2) p) (· = u) := fun A E s c => by
  refine Subscript_ (wpAny_mono (ha A E s c) (fun y s1 r => ?_) fun _ _ z => z)
  obtain ⟨rfl, k1⟩ := r
  refine wpAny_Constant_int ?_
  exact item_tupleT (ht _ (c.keeps (keeps_trans k1 (GxR.keeps_tok _ _))).old) hlo hhi hj hx ⟨rfl, keeps_trans k1 (GxR.keeps_tok _ _)⟩
/-- a comparison of two -/
theorem qe_cmp {a b : Expr} {op : CmpOp} {φ ψ : Value → Prop} {r : Bool} {p : Pos} (ha : QE prog w Old D U x v env a φ) (hb : QE prog w Old D U x v env b ψ)
    (ho : ∀ (y z : Value) (A : Around) (E : Value → Shared → Prop) (Q : Value → Shared → Prop) (s : Shared), φ y → ψ z → Q (.bool r) s → wpAny (model prog w) A (compareOp op y z) Q E s)
    (hm : behindInMarks op b = false := by with_unfolding_all rfl) : QE prog w Old D U x v env (.Compare a [op] [b] p) (· = .bool r) := fun A E s c => by
  refine wpAny_Compare1 (wpAny_mono (ha A E s c) (fun y s1 r1 => wpAny_mono (hb A E s1 (c.keeps r1.2)) (fun z s2 r2 => ?_) fun _ _ z => z) fun _ _ z => z) hm
  exact ho y z A E _ s2 r1.1 r2.1 ⟨rfl, keeps_trans r1.2 r2.2⟩
theorem qt_cmp {a b : Expr} {op : CmpOp} {φ ψ : Value → Prop} {r : Bool} {p : Pos} (ha : QE prog w Old D U x v env a φ) (hb : QE prog w Old D U x v env b ψ)
    (ho : ∀ (y z : Value) (A : Around) (E : Value → Shared → Prop) (Q : Value → Shared → Prop) (s : Shared), φ y → ψ z → Q (.bool r) s → wpAny (model prog w) A (compareOp op y z) Q E s)
    (hm : behindInMarks op b = false := by with_unfolding_all rfl) : QT prog w Old D U x v env (.Compare a [op] [b] p) r := fun A E s c => by
  refine wpAny_isTrue_Compare1 (wpAny_mono (ha A E s c) (fun y s1 r1 => wpAny_mono (hb A E s1 (c.keeps r1.2)) (fun z s2 r2 => ?_) fun _ _ z => z) fun _ _ z => z) hm
  exact ho y z A E _ s2 r1.1 r2.1 (wpAny_truthy_bool ⟨rfl, keeps_trans r1.2 r2.2⟩)
/-- a op b op2 d, of texts or numbers -/
theorem qe_chain {a b d : Expr} {op op2 : CmpOp} {φ ψ χ : Value → Prop} {r r2 : Bool} {p : Pos} (ha : QE prog w Old D U x v env a φ) (hb : QE prog w Old D U x v env b ψ) (hd : QE prog w Old D U x v env d χ)
    (ho : ∀ (y z : Value) (A : Around) (E : Value → Shared → Prop) (Q : Value → Shared → Prop) (s : Shared), φ y → ψ z → Q (.bool r) s → wpAny (model prog w) A (compareOp op y z) Q E s)
    (ho2 : ∀ (y z : Value) (A : Around) (E : Value → Shared → Prop) (Q : Value → Shared → Prop) (s : Shared), ψ y → χ z → Q (.bool r2) s → wpAny (model prog w) A (compareOp op2 y z) Q E s)
    (hm : lastMarks [op, op2] [b, d] = false := by with_unfolding_all rfl) : QE prog w Old D U x v env (.Compare a [op, op2] [b, d] p) (· = .bool (r && r2)) := fun A E s c => by
  refine Compare_chain (wpAny_mono (ha A E s c) (fun y s1 g1 => chain_link (wpAny_mono (hb A E s1 (c.keeps g1.2)) (fun z s2 g2 => ?_) fun _ _ z => z)) fun _ _ z => z) hm
  refine ho y z A E _ s2 g1.1 g2.1 (wpAny_truthy_bool ?_)
  have k2 := keeps_trans g1.2 g2.2
  cases r with
  | false => exact ite_ff ⟨rfl, k2⟩
  | true =>
    refine ite_tt (chain_last (wpAny_mono (hd A E s2 (c.keeps k2)) (fun u s3 g3 => ?_) fun _ _ z => z))
    exact ho2 z u A E _ s3 g2.1 g3.1 ⟨rfl, keeps_trans k2 g3.2⟩
theorem qe_or {a b : Expr} {r r2 : Bool} {p : Pos} (ha : QE prog w Old D U x v env a (· = .bool r)) (hb : QE prog w Old D U x v env b (· = .bool r2)) : QE prog w Old D U x v env (.BoolOp .Or [a, b] p) (· = .bool (r || r2)) := fun A E s c => by
  refine BoolOp_or (wpAny_mono (ha A E s c) (fun y s1 g1 => ?_) fun _ _ z => z)
  obtain ⟨rfl, k1⟩ := g1
  refine wpAny_truthy_bool ?_
  cases r with
  | true => exact ite_tt ⟨rfl, k1⟩
  | false => exact ite_ff (BoolOp_one (wpAny_mono (hb A E s1 (c.keeps k1)) (fun z s2 g2 => ⟨g2.1, keeps_trans k1 g2.2⟩) fun _ _ z => z))
theorem qt_val {e : Expr} {b : Bool} (h : QE prog w Old D U x v env e (· = .bool b)) (he : isTrue e env (eval e env) = (do let v ← eval e env; standAt e.pos; holding [v] (truthy v)) := by rfl) : QT prog w Old D U x v env e b := fun A E s c =>
  wpAny_isTrue_value (wpAny_mono (h A E s c) (fun y s1 g => by
    obtain ⟨rfl, k⟩ := g
    exact wpAny_truthy_bool ⟨rfl, k⟩) fun _ _ z => z) he
end
/-! ### comparisons -/
section
variable {prog : Program} {w : World}
theorem cq_le_str {a b : Str} : ∀ (y z : Value) (A : Around) (E : Value → Shared → Prop) (Q : Value → Shared → Prop) (s : Shared), (∃ t, y = .str a t) → (∃ t, z = .str b t) → Q (.bool (!decide (b.cps.toList < a.cps.toList))) s → wpAny (model prog w) A (compareOp .LtE y z) Q E s := by
  rintro _ _ A E Q s ⟨t, rfl⟩ ⟨u, rfl⟩ q
  exact PySem.P.le_str q
theorem cq_eq_str {a b : Str} : ∀ (y z : Value) (A : Around) (E : Value → Shared → Prop) (Q : Value → Shared → Prop) (s : Shared), (∃ t, y = .str a t) → (∃ t, z = .str b t) → Q (.bool (a.cps.toList == b.cps.toList)) s → wpAny (model prog w) A (compareOp .Eq y z) Q E s := by
  rintro _ _ A E Q s ⟨t, rfl⟩ ⟨u, rfl⟩ q
  exact PySem.P.eq_str q
theorem cq_le_int {a b : Int} : ∀ (y z : Value) (A : Around) (E : Value → Shared → Prop) (Q : Value → Shared → Prop) (s : Shared), (∃ t, y = .int a t) → (∃ t, z = .int b t) → Q (.bool (decide (a ≤ b))) s → wpAny (model prog w) A (compareOp .LtE y z) Q E s := by
  rintro _ _ A E Q s ⟨t, rfl⟩ ⟨u, rfl⟩ q
  exact PySem.P.le_int q
theorem cq_lt_int {a b : Int} : ∀ (y z : Value) (A : Around) (E : Value → Shared → Prop) (Q : Value → Shared → Prop) (s : Shared), (∃ t, y = .int a t) → (∃ t, z = .int b t) → Q (.bool (decide (a < b))) s → wpAny (model prog w) A (compareOp .Lt y z) Q E s := by
  rintro _ _ A E Q s ⟨t, rfl⟩ ⟨u, rfl⟩ q
  exact PySem.P.lt_int q
theorem cq_gt_int {a b : Int} : ∀ (y z : Value) (A : Around) (E : Value → Shared → Prop) (Q : Value → Shared → Prop) (s : Shared), (∃ t, y = .int a t) → (∃ t, z = .int b t) → Q (.bool (decide (a > b))) s → wpAny (model prog w) A (compareOp .Gt y z) Q E s := by
  rintro _ _ A E Q s ⟨t, rfl⟩ ⟨u, rfl⟩ q
  exact PySem.P.gt_int q
end
/-! ### a def of one parameter whose body returns such an expression -/
section
variable {prog : Program} {w : World} {K : PySem.W.Frag}
theorem call_small {Q : Value → Shared → Prop} {E : Value → Shared → Prop} {A : Around} {s : Shared} {nm : Str} {st : Stmt} {f : Addr} {fd : FuncData} {N : List Str} {p : Str} {u : Value} {e : Expr} {pos : Pos} {φ : Value → Prop} (X : K.In s.heap) (hlim : s.heap.NoLimit)
    (F : Fun K nm nm st f fd) (S : FnScope N [p] (defScope st)) (hb : ∀ (kV dc pm : Value) (an : Option Addr) (cdv ct : Value) (us : List Value), us.length = 1 → bindArgs (PySem.W.fnOf nm nm (defArgs st) (defBody st) (defScope st) .none kV dc pm an cdv ct) ⟨us, []⟩ = pure ([p].zip us))
    (body : defBody st = [.Return (some e) pos]) (hk : (defScope st).kind = .function) (hpl : (defScope st).names.lookup p = some .local) (hdp : A.depth + 3 < recursionLimit)
    (hq : ∀ env, env.scope = defScope st → QE prog w (fun _ _ => False) (A.depth + 10) (A.units + 100) p u env e φ) (hA : A.handled = none) (k : ∀ y s', φ y → Keeps s s' → Q y s') : wpAny (model prog w) A (call (.ref f) [u]) Q E s := by
  obtain ⟨oc, od, kV, doc, pm, an, cdv, ct, osl, rfl, lk, code⟩ := F.ex
  refine wpAny_call (codeAny_call_function (by omega) (X _ _ lk) rfl S.co S.gen rfl (PySem.W.codeRec_of X code) ?_)
  rw [hb kV doc pm an cdv ct [u] rfl]
  refine wpAny_pure (wpAny_newFunctionEnv_cells S.kind (fun y hy => ?_) fun env he s1 inside => ?_)
  · rw [List.mem_singleton.mp hy]
    exact .inl hpl
  subst he
  refine ⟨hlim.keeps inside.toInCall.keep, codeAny_func ?_⟩
  rw [body]
  have k1 : Keeps s s1 := inside.done
  refine wpAny_execs_cons (wpAny_Return_some (wpAny_mono (hq _ rfl _ _ s1 ⟨?_, ?_, ?_, ?_, fun _ _ z => z.elim⟩) (fun y s2 g => ?_) fun _ _ z => z))
  · exact hA
  · show A.depth + 1 ≤ _
    omega
  · show A.units + 3 ≤ _
    omega
  · refine ⟨_, inside.toInCall.ns, ?_⟩
    show (if (defScope st).names.lookup p = some NameKind.local then (fun y => if y = p then some u else (none : Option Value)) else fun _ => (none : Option Value)) p = some u
    rw [if_pos hpl]
    exact if_pos rfl
  · exact k y s2 g.1 (keeps_trans k1 g.2)
end
end My

namespace My
open PySem PySem.Spec PyProof.Rows L2 Evl
/-! ### what a generator expression walks -/
section
variable {X : Cx} {pins : List (Addr × Obj)} {σ : L2.St} {H : Hp} {s : Shared}
theorem src_str {a : Str} {t : Tok} {Q : Value → Shared → Prop} {E : Value → Shared → Prop} (k : ∀ St s2, Src X s (.ref s.heap.objs.size) s2 [s.heap.objs.size] a.cps.size (SignAt a) St → Q (.ref s.heap.objs.size) s2) : wpAny (model X.prog X.w) X.A (pyIter (.str a t)) Q E s := by
  refine wpAny_pyIter_str fun o St W hst => k St _ ⟨rfl, ⟨o, rfl⟩, W, hst, fun b hb => ?_⟩
  rw [List.mem_singleton.mp hb]
  show s.heap.objs.size < (s.heap.push o).objs.size
  rw [Heap.size_push]
  exact Nat.lt_succ_self _
theorem src_lst {l : Addr} {xs : List V} {Q : Value → Shared → Prop} {E : Value → Shared → Prop} (I : Inv X pins σ H s) (h : SqL X.K H l xs)
    (k : ∀ its : List Value, Vals xs its → xs.length ≤ sizeLine → (∃ ob n, s.heap.get? l = some ob ∧ ob.data = .seq its.toArray n) → ∀ St s2, Src X s (.ref s.heap.objs.size) s2 [s.heap.objs.size, l] its.length (fun i v => its[i]? = some v) St → Q (.ref s.heap.objs.size) s2) : wpAny (model X.prog X.w) X.A (pyIter (.ref l)) Q E s := by
  obtain ⟨its, r, pl, hz⟩ := I.list h
  have il := pl.isList
  have lt : l < s.heap.objs.size := by
    obtain ⟨_, e, _⟩ := _root_.id il
    exact Heap.lt_size e
  obtain ⟨ob0, n0, e0, _, _, d0⟩ := _root_.id pl
  refine wpAny_pyIter_list il ?_
  refine k its r hz ⟨ob0, n0, e0, d0⟩ (fun i h => h.IsListIter s.heap.objs.size l i ∧ h.IsList l its.toArray) _ ⟨rfl, ⟨_, rfl⟩, fun A' hA => ?_, ⟨⟨_, Heap.get?_push_size _ rfl, rfl, rfl⟩, ?_⟩, fun b hb => ?_⟩
  · have W := Walks.list (prog := X.prog) (w := X.w) hA s.heap.objs.size l (Nat.ne_of_lt lt) its.toArray
    have e1 : its.toArray.size = its.length := List.size_toArray
    rw [e1] at W
    have e2 : (fun (i : Nat) (v : Value) => its.toArray[i]? = some v) = fun i v => its[i]? = some v := by
      funext i v
      rw [List.getElem?_toArray]
    rw [← e2]
    exact W
  · obtain ⟨ob, e, q⟩ := _root_.id il
    exact ⟨ob, Heap.get?_push_of_some _ e, q⟩
  · show b < (s.heap.push _).objs.size
    rw [Heap.size_push]
    rcases List.mem_cons.mp hb with z | z
    · rw [z]; exact Nat.lt_succ_self _
    · rw [List.mem_singleton.mp z]; exact Nat.lt_succ_of_lt lt
/-- the table is no list, nothing new -/
theorem tab_ne {P l : Addr} {ob : Obj} {its : Array Value} {n : Nat} (I : Inv X pins σ H s) (hP : H P = some (TabO P)) (e : s.heap.get? l = some ob) (d : ob.data = .seq its n) : P ≠ l := by
  obtain ⟨ps, hp, _⟩ := tabO_at I hP
  intro z
  rw [z, e] at hp
  cases hp
  cases d
theorem tab_lt {P : Addr} (I : Inv X pins σ H s) (hP : H P = some (TabO P)) : P < s.heap.objs.size := by
  obtain ⟨ps, hp, _⟩ := tabO_at I hP
  exact Heap.lt_size hp
/-- a captured name's cell -/
theorem cell_of {i : Nat} {y : Str} {v : V} (I : Inv X pins σ H s) (hN : X.N[i]? = some y) (hv : σ[i]? = some (some v)) (hk : X.env.kindOf y = some .cell) : ∃ (u : Value) (c : Addr) (o : Obj), RelV v u ∧ X.env.cells.lookup y = some c ∧ s.heap.get? c = some o ∧ o.data = .cell (some u) := by
  obtain ⟨m, hn, hl⟩ := I.loc
  obtain ⟨u, r, hu⟩ := hl i y v hN hv (.inr (.inl hk))
  rcases hu with ⟨z, _⟩ | ⟨_, c, hc, o, ho, hd⟩
  · rw [hk] at z
    cases z
  · exact ⟨u, c, o, r, hc, ho, hd⟩
theorem clo_at {cells : List (Str × Addr)} {names : List (Str × NameKind)} {y : Str} {c : Addr} (h : (y, NameKind.free) ∈ names) (hc : cells.lookup y = some c) : (cloFrom cells names []).lookup y = some c := by
  have h1 := cloFrom_has (acc := []) (cells := cells) h
  rw [hc] at h1
  have key : ∀ (l : List (Str × Addr)), (y, c) ∈ l → (∀ d, (y, d) ∈ l → d = c) → l.lookup y = some c := by
    intro l
    induction l with
    | nil => intro h _; cases h
    | cons p r ih =>
      intro hm hu
      rw [show p = (p.1, p.2) from rfl, List.lookup_cons]
      by_cases e : y = p.1
      · rw [show (y == p.1) = true from beq_iff_eq.mpr e]
        show some p.2 = some c
        rw [hu p.2 (by rw [e]; exact List.mem_cons_self)]
      · rw [show (y == p.1) = false from beq_eq_false_iff_ne.mpr e]
        refine ih ?_ fun d hd => hu d (List.mem_cons_of_mem _ hd)
        rcases List.mem_cons.mp hm with z | z
        · exact absurd (congrArg Prod.fst z) e
        · exact z
  refine key _ h1 fun d hd => ?_
  rcases cloFrom_mem hd with z | ⟨_, z⟩
  · cases z
  · rw [z, hc]
    rfl
end
/-! ### all(test for c in text) -/
def tAllT (P : Addr) (pb : Nat → Bool) (te : TE) : TE := fun σ H Q => te σ H fun v H1 => H1 P = some (TabO P) ∧ ∃ a : Str, v = .str a ∧ Q (.bl (a.cps.toList.all pb)) H1
theorem passing_all (n : Nat) : passing (fun _ => true) n 0 = List.range n := GxR.passing_true n
section
variable {X : Cx} {c P : Addr} {elt iter : Expr} {x : Str} {px p pos gpos : Pos} {scope : Scope} {te : TE} {k : Nat}
theorem pe_allT {pb : Nat → Bool} (hr : Room k X.A) (hg : Gl X "all") (hm : X.mg "all" = none) (TB : GxR.TabB X.base X.mg c P) (hcode : X.env.code = .ref c) (S : GxR.GenS X.env scope x) (hi : PE X iter te)
    (hel : ∀ (env : Env) (A : Around) (Old : Addr → Obj → Prop) (cp : Nat) (t : Tok), Mod X.K X.mg X.base → env.scope = scope → env.globals = mainGlobals → (∀ b o, X.base.get? b = some o → Old b o) → QE X.prog X.w Old (X.A.depth + 1) (X.A.units + 8) x (.str ⟨#[cp]⟩ t) env elt (· = .bool (pb cp)))
    (hs : ∀ v, genFold iter X.env v = pure v := by intro v; rfl)
    (he : starEach [.GeneratorExp elt [⟨.Name x px, iter, [], 0⟩] scope gpos] X.env = (false, eval (.GeneratorExp elt [⟨.Name x px, iter, [], 0⟩] scope gpos) X.env) :: starEach [] X.env := by rfl) :
    PE X (.Call (.Name "all" p) [.GeneratorExp elt [⟨.Name x px, iter, [], 0⟩] scope gpos] [] pos) (tAllT P pb te) := by
  refine ⟨fun pins s σ H Q I h => ?_⟩
  refine wpAny_Call_Name_kw (ld_blt I hg hm (u := .builtin "all") (by first | rfl | decide +kernel) ?_ (by decide) (by decide))
  refine PyProof.Rows.callWith_builtin1 ?_ he (by rfl)
  rw [he]
  refine Calls.spliced_cons (gen_made (R := fun v H1 => H1 P = some (TabO P) ∧ ∃ a : Str, v = .str a ∧ Q (.bl (a.cps.toList.all pb)) H1) hr TB hcode S hi hs I h fun v H1 xv s1 got I1 r => ⟨got.1, ?_⟩)
  obtain ⟨hP, a, rfl, q⟩ := got
  obtain ⟨t, rfl⟩ := _root_.id r
  refine src_str fun St s2 src => ⟨_, _, _, _, fun _ => true, fun i y => ∃ cc, a.cps[i]? = some cc ∧ y = .bool (pb cc), src, ⟨?_, ?_⟩, ?_, fun g s5 ready => ?_⟩
  · intro cenv A' E' i v s₂ m₂ _ _ _ hA _ _ _ _ _ _
    simp only [List.forIn_nil]
    exact wpAny_pure ⟨rfl, GxR.keeps_refl _⟩
  · intro cenv A' E' i v s₂ m₂ hsc hce hgl hA hd hu hPv _ hn hm2 old
    obtain ⟨cc, u, hcc, rfl⟩ := hPv
    refine wpAny_mono (hel cenv A' (fun b o => b ≠ P ∧ s1.heap.get? b = some o) cc u I1.mod hsc (hgl.trans I1.ok.glob) (fun b o e => ⟨fun z => (fun h0 => nomatch (hP.symm.trans (z ▸ h0) : some (TabO P) = none)) (I1.bs b o e).2, I1.bk b o e⟩) A' E' s₂ ⟨hA, hd, hu, ⟨m₂, hn, hm2⟩, fun b o z => old b o z.1 z.2⟩) (fun y s3 g => ⟨⟨cc, hcc, g.1⟩, g.2⟩) fun _ _ z => z
  · intro z
    have := tab_lt I1 hP
    rw [List.mem_singleton.mp z] at this
    exact Nat.lt_irrefl _ this
  · obtain ⟨fp, wr, G, Sg, W, hst, low, inv⟩ := ready
    rw [passing_all] at W
    simp only [List.length_range] at W
    refine Calls.spliced_nil ?_
    refine call_all_walkS (W.self 0 _ _ _ hst ⟨g, fp, wr, G, _, _, Sg, GxR.trF pb a.cps.toList, rfl, W, hst, ?_, fun s' hmv => ?_⟩)
    · intro j y sj Qj Ej hy hQj
      obtain ⟨i, hij, cc, hcc, rfl⟩ := hy
      obtain ⟨hj, ej⟩ := List.getElem?_eq_some_iff.mp hij
      rw [List.getElem_range] at ej
      subst ej
      have e9 : a.cps.toList[j]? = some cc := by rw [Array.getElem?_toList]; exact hcc
      rw [GxR.trF_some e9] at hQj
      exact wpAny_truthy_bool hQj
    · refine ⟨.bl _, H1, inv s' hmv, rfl, ?_⟩
      rw [GxR.all_signs a pb]
      exact q

/-! ### blocks -/
theorem block_all {s1 : Shared} {Pf : Nat → Value → Prop} {F : Nat → Value → Prop}
    (hE : ∀ (env : Env) (i : Nat) (v : Value), env.scope = scope → env.cells = cloFrom X.env.cells scope.names [] → env.globals = X.env.globals → Pf i v → QE X.prog X.w (fun b o => b ≠ P ∧ s1.heap.get? b = some o) (X.A.depth + 1) (X.A.units + 8) x v env elt (F i)) :
    BlockG X P scope x [] elt s1 Pf (fun _ => true) F := by
  refine ⟨fun env A E i v s₂ m _ _ _ _ _ _ _ _ _ _ => ?_, fun env A E i v s₂ m h1 h2 h3 hA hd hu hp _ hn hm old => hE env i v h1 h2 h3 hp A E s₂ ⟨hA, hd, hu, ⟨m, hn, hm⟩, fun b o z => old b o z.1 z.2⟩⟩
  simp only [List.forIn_nil]
  exact wpAny_pure ⟨rfl, GxR.keeps_refl _⟩
theorem block_if {s1 : Shared} {Pf : Nat → Value → Prop} {F : Nat → Value → Prop} {pz : Nat → Bool} {test : Expr}
    (hT : ∀ (env : Env) (i : Nat) (v : Value), env.scope = scope → env.cells = cloFrom X.env.cells scope.names [] → env.globals = X.env.globals → Pf i v → QT X.prog X.w (fun b o => b ≠ P ∧ s1.heap.get? b = some o) (X.A.depth + 1) (X.A.units + 8) x v env test (pz i))
    (hE : ∀ (env : Env) (i : Nat) (v : Value), env.scope = scope → env.cells = cloFrom X.env.cells scope.names [] → env.globals = X.env.globals → Pf i v → pz i = true → QE X.prog X.w (fun b o => b ≠ P ∧ s1.heap.get? b = some o) (X.A.depth + 1) (X.A.units + 8) x v env elt (F i)) :
    BlockG X P scope x [test] elt s1 Pf pz F := by
  refine ⟨fun env A E i v s₂ m h1 h2 h3 hA hd hu hp hn hm old => ?_, fun env A E i v s₂ m h1 h2 h3 hA hd hu hp hz hn hm old => hE env i v h1 h2 h3 hp hz A E s₂ ⟨hA, hd, hu, ⟨m, hn, hm⟩, fun b o z => old b o z.1 z.2⟩⟩
  simp only [List.forIn_cons, List.forIn_nil, if_true]
  refine wpAny_bind (wpAny_bind (wpAny_mono (hT env i v h1 h2 h3 hp A E s₂ ⟨hA, hd, hu, ⟨m, hn, hm⟩, fun b o z => old b o z.1 z.2⟩) (fun y s3 g => wpAny_pure (wpAny_pure g)) fun _ _ z => z))
/-! ### sum(e for x in list if test) -/
def sumIf (f : Nat → Bool) (g : Nat → Int) (n : Nat) : Int := (((List.range n).filter f).map g).sum
def tSumB (K : PySem.W.Frag) (P : Addr) (R : L2.St → Hp → List V → (Nat → Bool) → (Nat → Int) → Prop) (te : TE) : TE := fun σ H Q => te σ H fun v H1 => H1 P = some (TabO P) ∧ ∃ (l : Addr) (xs : List V) (f : Nat → Bool) (g : Nat → Int),
  v = .ref l ∧ SqL K H1 l xs ∧ R σ H1 xs f g ∧ Q (.int (sumIf f g xs.length)) H1
theorem preSum_list (L : List Nat) (g : Nat → Int) : ∀ n, n ≤ L.length → preSum (fun j => g (L.getD j 0)) n = ((L.take n).map g).sum
  | 0, _ => rfl
  | n + 1, h => by
    have hj : n < L.length := h
    show preSum _ n + g (L.getD n 0) = _
    rw [preSum_list L g n (Nat.le_of_succ_le h), List.take_add_one, List.getElem?_eq_getElem hj, List.map_append, List.sum_append, List.getD_eq_getElem?_getD, List.getElem?_eq_getElem hj]
    simp
theorem pe_sumB {ifs : List Expr} {R : L2.St → Hp → List V → (Nat → Bool) → (Nat → Int) → Prop} (hr : Room k X.A) (hg : Gl X "sum") (hm : X.mg "sum" = none) (TB : GxR.TabB X.base X.mg c P) (hcode : X.env.code = .ref c) (S : GxR.GenS X.env scope x) (hi : PE X iter te)
    (hb : ∀ {pins : List (Addr × Obj)} {σ : L2.St} {H1 : Hp} {s1 : Shared} {xs : List V} {its : List Value} {f : Nat → Bool} {g : Nat → Int}, Inv X pins σ H1 s1 → H1 P = some (TabO P) → Vals xs its → R σ H1 xs f g → BlockG X P scope x ifs elt s1 (fun i v => its[i]? = some v) f (fun i y => ∃ t, y = .int (g i) t))
    (hs : ∀ v, genFold iter X.env v = pure v := by intro v; rfl)
    (he : starEach [.GeneratorExp elt [⟨.Name x px, iter, ifs, 0⟩] scope gpos] X.env = (false, eval (.GeneratorExp elt [⟨.Name x px, iter, ifs, 0⟩] scope gpos) X.env) :: starEach [] X.env := by rfl) :
    PE X (.Call (.Name "sum" p) [.GeneratorExp elt [⟨.Name x px, iter, ifs, 0⟩] scope gpos] [] pos) (tSumB X.K P R te) := by
  refine ⟨fun pins s σ H Q I h => ?_⟩
  refine wpAny_Call_Name_kw (ld_blt I hg hm (u := .builtin "sum") (by first | rfl | decide +kernel) ?_ (by decide) (by decide))
  refine PyProof.Rows.callWith_builtin1 ?_ he (by rfl)
  rw [he]
  refine Calls.spliced_cons (gen_made (R := fun v H1 => H1 P = some (TabO P) ∧ ∃ (l : Addr) (xs : List V) (f : Nat → Bool) (g : Nat → Int), v = .ref l ∧ SqL X.K H1 l xs ∧ R σ H1 xs f g ∧ Q (.int (sumIf f g xs.length)) H1) hr TB hcode S hi hs I h fun v H1 xv s1 got I1 r => ⟨got.1, ?_⟩)
  obtain ⟨hP, l, xs, f, g, rfl, hl, hR, q⟩ := got
  obtain rfl : xv = Value.ref l := r
  refine src_lst I1 hl fun its rv hz hob St s2 src => ⟨_, _, _, _, f, fun i y => ∃ t, y = .int (g i) t, src, hb I1 hP rv hR, ?_, fun ga s5 ready => ?_⟩
  · obtain ⟨ob, n, e, d⟩ := hob
    intro z
    rcases List.mem_cons.mp z with z | z
    · have := tab_lt I1 hP
      rw [z] at this
      exact Nat.lt_irrefl _ this
    · exact tab_ne I1 hP e d (List.mem_singleton.mp z)
  · obtain ⟨fp, wr, G, Sg, W, hst, low, inv⟩ := ready
    refine Calls.spliced_nil ?_
    refine call_sum_walkAnyS (W.self 0 _ _ _ hst ⟨ga, fp, wr, G, _, _, Sg, fun j => g ((passing f its.length 0).getD j 0), rfl, W, hst, low, ?_, fun s' t' hmv => ?_⟩)
    · rintro j v ⟨i, hij, t, rfl⟩
      refine ⟨t, ?_⟩
      show Value.int (g i) t = Value.int (g ((passing f its.length 0).getD j 0)) t
      rw [List.getD_eq_getElem?_getD, hij]
      rfl
    · refine ⟨.int _, H1, inv s' hmv, ⟨t', rfl⟩, ?_⟩
      rw [preSum_list _ g _ (Nat.le_refl _), List.take_of_length_le (Nat.le_refl _)]
      have hn : xs.length = its.length := rv.length
      have e : passing f its.length 0 = (List.range xs.length).filter f := by
        unfold passing
        rw [hn, List.drop_zero]
      rw [e]
      exact q

/-! ### the blocks that this program has -/
/-- x[j], x a tuple of what is walked -/
def rItem (K : PySem.W.Frag) (j : Nat) : L2.St → Hp → List V → (Nat → Bool) → (Nat → Int) → Prop := fun _ H xs f g => f = (fun _ => true) ∧ ∀ i x, xs[i]? = some x → ∃ (r : Addr) (ys : List V) (b : Int), x = .ref r ∧ SqT K H r ys ∧ ys[j]? = some (.int b) ∧ g i = b
/-- x[j] if x[0] <= y (or < y), y captured, at slot n -/
def rItemIf (K : PySem.W.Frag) (j n : Nat) (cmp : Int → Int → Bool) : L2.St → Hp → List V → (Nat → Bool) → (Nat → Int) → Prop := fun σ H xs f g => ∃ d : Int, σ[n]? = some (some (.int d)) ∧
  ∀ i x, xs[i]? = some x → ∃ (r : Addr) (ys : List V) (a b : Int), x = .ref r ∧ SqT K H r ys ∧ ys[0]? = some (.int a) ∧ ys[j]? = some (.int b) ∧ f i = cmp a d ∧ g i = b
/-- x if x > 0 (or < 0), x a whole number -/
def rPick (cmp : Int → Int → Bool) : L2.St → Hp → List V → (Nat → Bool) → (Nat → Int) → Prop := fun _ _ xs f g => ∀ i x, xs[i]? = some x → ∃ b : Int, x = .int b ∧ f i = cmp b 0 ∧ g i = b
theorem seq_ix {n i : Nat} (h : i < n) : seqIndex? (i : Int) n = some i := by
  have e := seqIndex_of (k := (i : Int)) (n := n) (by omega) (by omega)
  rw [e]
  rfl
section
variable {pins : List (Addr × Obj)} {σ : L2.St} {H1 : Hp} {s1 : Shared} {xs : List V} {its : List Value} {f : Nat → Bool} {g : Nat → Int}
/-- a tuple that stood is one in the block -/
theorem tup_old {r : Addr} {ys : List V} (I : Inv X pins σ H1 s1) (hP : H1 P = some (TabO P)) (h : SqT X.K H1 r ys) : ∃ us : List Value, Vals ys us ∧ ∀ s : Shared, (∀ b o, (b ≠ P ∧ s1.heap.get? b = some o) → s.heap.get? b = some o) → IsTup s.heap r us.toArray := by
  obtain ⟨us, rv, ⟨ob, e, q, n, d⟩, _⟩ := I.tuple h
  refine ⟨us, rv, fun s old => ⟨ob, old r ob ⟨fun z => tab_ne I hP e d z.symm, e⟩, q, n, d⟩⟩
theorem blk_item {j : Nat} {p1 p2 p3 : Pos} {z : Nat} (hk : scope.kind = .function) (hl : scope.names.lookup x = some .local) (hd : (x == ("__debug__" : Str)) = false) (hj : j < 100)
    (I : Inv X pins σ H1 s1) (hP : H1 P = some (TabO P)) (rv : Vals xs its) (hR : rItem X.K j σ H1 xs f g) :
    BlockG X P scope x [] (.Subscript (.Name x p1) (.Constant (.int (j : Int)) z p2) p3) s1 (fun i v => its[i]? = some v) f (fun i y => ∃ t, y = .int (g i) t) := by
  obtain ⟨rfl, hR⟩ := hR
  refine block_all fun env i v h1 h2 h3 hv => ?_
  obtain ⟨xv, hx, rx⟩ : ∃ xv, xs[i]? = some xv ∧ RelV xv v := by
    cases e : xs[i]? with
    | none => rw [rv.none_of e] at hv; cases hv
    | some xv =>
      obtain ⟨u, hu, ru⟩ := rv.get e
      rw [hv] at hu
      cases hu
      exact ⟨xv, rfl, ru⟩
  obtain ⟨r, ys, b, rfl, ht, hb, hg⟩ := hR i xv hx
  obtain ⟨us, rus, tup⟩ := tup_old I hP ht
  obtain ⟨u, hu, t, ru⟩ := rus.get hb
  have e1 : v = .ref r := rx
  have hlt := (List.getElem?_eq_some_iff.mp hu).1
  refine QE.imp (qe_item (its := us) (u := u) (k := (j : Int)) (i := j) (QE.imp (qe_x (by rw [h1]; exact hk) (by show env.scope.names.lookup x = _; rw [h1]; exact hl) hd) (fun y hy => hy.trans e1)) tup (by omega) (by omega) (seq_ix hlt) hu) fun y hy => ⟨t, by rw [hy, ru, hg]⟩
theorem blk_itemIf {j n : Nat} {y : Str} {op : CmpOp} {cmp : Int → Int → Bool} {p1 p2 p3 p4 p5 p6 p7 p8 : Pos} {z z2 : Nat} (hk : scope.kind = .function) (hl : scope.names.lookup x = some .local) (hd : (x == ("__debug__" : Str)) = false) (hj : j < 100)
    (hN : X.N[n]? = some y) (hyk : X.env.kindOf y = some .cell) (hyf : (y, NameKind.free) ∈ scope.names) (hyl : scope.names.lookup y = some .free) (hyd : (y == ("__debug__" : Str)) = false) (hyc : (y == ("__classdict__" : Str)) = false)
    (hop : ∀ a b : Int, ∀ (y z : Value) (A : Around) (E : Value → Shared → Prop) (Q : Value → Shared → Prop) (s : Shared), (∃ t, y = .int a t) → (∃ t, z = .int b t) → Q (.bool (cmp a b)) s → wpAny (model X.prog X.w) A (compareOp op y z) Q E s)
    (hm : behindInMarks op (.Name y p7) = false)
    (I : Inv X pins σ H1 s1) (hP : H1 P = some (TabO P)) (rv : Vals xs its) (hR : rItemIf X.K j n cmp σ H1 xs f g) :
    BlockG X P scope x [.Compare (.Subscript (.Name x p4) (.Constant (.int 0) z2 p5) p6) [op] [.Name y p7] p8] (.Subscript (.Name x p1) (.Constant (.int (j : Int)) z p2) p3) s1 (fun i v => its[i]? = some v) f (fun i y => ∃ t, y = .int (g i) t) := by
  obtain ⟨d, hσ, hR⟩ := hR
  obtain ⟨uy, c, o, ⟨ty, ruy⟩, hc, ho, hdat⟩ := cell_of I hN hσ hyk
  have ruy : uy = .int d ty := ruy
  have key : ∀ i v, its[i]? = some v → ∃ (r : Addr) (us : List Value) (a b : Int) (ua ub : Value), v = .ref r ∧ (∀ s : Shared, (∀ b o, (b ≠ P ∧ s1.heap.get? b = some o) → s.heap.get? b = some o) → IsTup s.heap r us.toArray) ∧
      us[0]? = some ua ∧ us[j]? = some ub ∧ (∃ t, ua = .int a t) ∧ (∃ t, ub = .int b t) ∧ f i = cmp a d ∧ g i = b := by
    intro i v hv
    obtain ⟨xv, hx, rx⟩ : ∃ xv, xs[i]? = some xv ∧ RelV xv v := by
      cases e : xs[i]? with
      | none => rw [rv.none_of e] at hv; cases hv
      | some xv =>
        obtain ⟨u, hu, ru⟩ := rv.get e
        rw [hv] at hu
        cases hu
        exact ⟨xv, rfl, ru⟩
    obtain ⟨r, ys, a, b, rfl, ht, ha, hb, hf, hg⟩ := hR i xv hx
    obtain ⟨us, rus, tup⟩ := tup_old I hP ht
    obtain ⟨ua, hua, rua⟩ := rus.get ha
    obtain ⟨ub, hub, rub⟩ := rus.get hb
    exact ⟨r, us, a, b, ua, ub, rx, tup, hua, hub, rua, rub, hf, hg⟩
  have nm : ∀ (env : Env) (r : Addr) (v : Value) (p : Pos), env.scope = scope → v = .ref r → QE X.prog X.w (fun b o => b ≠ P ∧ s1.heap.get? b = some o) (X.A.depth + 1) (X.A.units + 8) x v env (.Name x p) (· = .ref r) := fun env r v p h1 e =>
    QE.imp (qe_x (by rw [h1]; exact hk) (by show env.scope.names.lookup x = _; rw [h1]; exact hl) hd) (fun y hy => hy.trans e)
  refine block_if (fun env i v h1 h2 h3 hv => ?_) (fun env i v h1 h2 h3 hv hz => ?_)
  · obtain ⟨r, us, a, b, ua, ub, e1, tup, hua, hub, rua, rub, hf, hg⟩ := key i v hv
    rw [hf]
    have hlt := (List.getElem?_eq_some_iff.mp hua).1
    refine qt_cmp (φ := fun y => ∃ t, y = .int a t) (ψ := fun y => ∃ t, y = .int d t) (QE.imp (qe_item (its := us) (u := ua) (k := 0) (i := 0) (nm env r v p4 h1 e1) tup (by decide) (by decide) (seq_ix hlt) hua) fun y hy => by rw [hy]; exact rua)
      (QE.imp (qe_free (by rw [h1]; exact hk) (by show env.scope.names.lookup y = _; rw [h1]; exact hyl) (by rw [h2]; exact clo_at hyf hc) ⟨fun z => ?_, ho⟩ hdat hyd hyc) fun y hy => ⟨ty, by rw [hy, ruy]⟩) (hop a d) hm
    obtain ⟨ps, hp, _⟩ := tabO_at I hP
    rw [z, hp] at ho
    cases ho
    cases hdat
  · obtain ⟨r, us, a, b, ua, ub, e1, tup, hua, hub, rua, rub, hf, hg⟩ := key i v hv
    have hlt := (List.getElem?_eq_some_iff.mp hub).1
    refine QE.imp (qe_item (its := us) (u := ub) (k := (j : Int)) (i := j) (nm env r v p1 h1 e1) tup (by omega) (by omega) (seq_ix hlt) hub) fun y hy => by rw [hy, hg]; exact rub
theorem blk_pick {op : CmpOp} {cmp : Int → Int → Bool} {p1 p2 p3 p4 : Pos} {z : Nat} (hk : scope.kind = .function) (hl : scope.names.lookup x = some .local) (hd : (x == ("__debug__" : Str)) = false)
    (hop : ∀ a b : Int, ∀ (y z : Value) (A : Around) (E : Value → Shared → Prop) (Q : Value → Shared → Prop) (s : Shared), (∃ t, y = .int a t) → (∃ t, z = .int b t) → Q (.bool (cmp a b)) s → wpAny (model X.prog X.w) A (compareOp op y z) Q E s)
    (hm : behindInMarks op (.Constant (.int 0) z p3) = false) (rv : Vals xs its) (hR : rPick cmp σ H1 xs f g) :
    BlockG X P scope x [.Compare (.Name x p2) [op] [.Constant (.int 0) z p3] p4] (.Name x p1) s1 (fun i v => its[i]? = some v) f (fun i y => ∃ t, y = .int (g i) t) := by
  have key : ∀ i v, its[i]? = some v → ∃ b, (∃ t, v = .int b t) ∧ f i = cmp b 0 ∧ g i = b := by
    intro i v hv
    obtain ⟨xv, hx, rx⟩ : ∃ xv, xs[i]? = some xv ∧ RelV xv v := by
      cases e : xs[i]? with
      | none => rw [rv.none_of e] at hv; cases hv
      | some xv =>
        obtain ⟨u, hu, ru⟩ := rv.get e
        rw [hv] at hu
        cases hu
        exact ⟨xv, rfl, ru⟩
    obtain ⟨b, rfl, hf, hg⟩ := hR i xv hx
    exact ⟨b, rx, hf, hg⟩
  have nm : ∀ (env : Env) (v : Value) (b : Int) (p : Pos), env.scope = scope → (∃ t, v = .int b t) → QE X.prog X.w (fun b o => b ≠ P ∧ s1.heap.get? b = some o) (X.A.depth + 1) (X.A.units + 8) x v env (.Name x p) (fun y => ∃ t, y = .int b t) := fun env v b p h1 e =>
    QE.imp (qe_x (by rw [h1]; exact hk) (by show env.scope.names.lookup x = _; rw [h1]; exact hl) hd) (fun y hy => by rw [hy]; exact e)
  refine block_if (fun env i v h1 h2 h3 hv => ?_) (fun env i v h1 h2 h3 hv hz => ?_)
  · obtain ⟨b, e, hf, hg⟩ := key i v hv
    rw [hf]
    exact qt_cmp (nm env v b p2 h1 e) qe_int (hop b 0) hm
  · obtain ⟨b, e, hf, hg⟩ := key i v hv
    rw [hg]
    exact nm env v b p1 h1 e
end
end
/-! ### blocks over a text's signs -/
/-- from lo to hi -/
def inRange (lo hi : Str) (cp : Nat) : Bool := (!decide ([cp] < lo.cps.toList)) && (!decide (hi.cps.toList < [cp]))
theorem qe_sign {prog : Program} {w : World} {Old : Addr → Obj → Prop} {D U : Nat} {x : Str} {cp : Nat} {t : Tok} {env : Env} {p : Pos} (hk : env.scope.kind = .function) (hl : env.kindOf x = some .local) (hd : (x == ("__debug__" : Str)) = false := by decide) :
    QE prog w Old D U x (.str ⟨#[cp]⟩ t) env (.Name x p) (fun y => ∃ t', y = .str ⟨#[cp]⟩ t') := QE.imp (qe_x hk hl hd) fun y hy => ⟨t, hy⟩
theorem qe_range {prog : Program} {w : World} {Old : Addr → Obj → Prop} {D U : Nat} {x : Str} {cp : Nat} {t : Tok} {env : Env} {lo hi : Str} {j j2 : Nat} {p1 p2 p3 p4 : Pos} (hk : env.scope.kind = .function) (hl : env.kindOf x = some .local) (hd : (x == ("__debug__" : Str)) = false := by decide) :
    QE prog w Old D U x (.str ⟨#[cp]⟩ t) env (.Compare (.Constant (.str lo) j p1) [.LtE, .LtE] [.Name x p2, .Constant (.str hi) j2 p3] p4) (· = .bool (inRange lo hi cp)) :=
  qe_chain qe_str (qe_sign hk hl hd) qe_str cq_le_str cq_le_str
/-- a call of a small def of the module -/
theorem qe_call1 {prog : Program} {w : World} {Old : Addr → Obj → Prop} {D U : Nat} {x f : Str} {v : Value} {env : Env} {K : PySem.W.Frag} {mg : Str → Option Value} {base : Heap} {e : Expr} {fa : Addr} {φ ψ : Value → Prop} {p pos : Pos} (M : Mod K mg base) (hbase : ∀ b o, base.get? b = some o → Old b o)
    (hg : env.globals = mainGlobals) (hk : env.scope.kind = .function) (hx : env.kindOf f = some .globalImplicit) (hm : mg f = some (.ref fa)) (kp : PySem.W.keepIn K (.ref fa) = true) (ha : QE prog w Old D U x v env e φ)
    (hc : ∀ (y : Value) (A : Around) (E : Value → Shared → Prop) (s : Shared) (Q : Value → Shared → Prop), φ y → K.In s.heap → s.heap.NoLimit → A.handled = none → A.depth ≤ D → A.units ≤ U → (∀ z s', ψ z → PySem.Keeps s s' → Q z s') → wpAny (model prog w) A (call (.ref fa) [y]) Q E s)
    (hd : (f == ("__debug__" : Str)) = false := by decide) (he : starEach [e] env = (false, eval e env) :: starEach [] env := by rfl) : QE prog w Old D U x v env (.Call (.Name f p) [e] [] pos) ψ := fun A E s c => by
  have up : ∀ b o, base.get? b = some o → s.heap.get? b = some o := fun b o z => c.old b o (hbase b o z)
  refine wpAny_Call_Name_kw (Calls.Name_function_global hk hx (Calls.loadGlobal_global (by rw [hg]; exact M.glob.keeps up) hm ?_) hd)
  refine PySem.W.callWith_K (h₀ := base) M.kin kp ?_ he (by rfl)
  rw [he]
  refine Calls.spliced_cons (wpAny_mono (ha A E s c) (fun y s1 g => ?_) fun _ _ z => z)
  refine Calls.spliced_nil ?_
  have up1 : ∀ b o, base.get? b = some o → s1.heap.get? b = some o := fun b o z => keeps_get g.2 b o (up b o z)
  refine ⟨M.kin.keeps up1, ?_⟩
  exact hc y A E s1 _ g.1 (M.kin.keeps up1) (M.nolimit.keeps up1) c.hd c.dp c.un fun z s' hz k => ⟨hz, keeps_trans g.2 k⟩
/-- the scope of a generator expression -/
theorem genS_mk {env : Env} {scope : Scope} {x : Str} (h1 : scope.kind = .function) (h2 : scope.isCoroutine = false) (h3 : (scope.names.all fun y => y.2 != .cell) = true) (h4 : scope.names.lookup (".0" : Str) = some NameKind.local) (h5 : scope.names.lookup x = some .local)
    (h6 : (scope.names.all fun y => y.2 != .free || (env.scope.names.lookup y.1 == some .cell)) = true) (h7 : ∀ y, env.scope.names.lookup y = some .cell → (env.cells.lookup y).isSome = true) : GxR.GenS env scope x :=
  ⟨h1, h2, (fun y hy e => by
    have h9 := List.all_eq_true.mp h3 y hy
    rw [e] at h9
    exact absurd h9 (by decide)), h4, h5, (fun y hy e => by
    have h9 := List.all_eq_true.mp h6 y hy
    rw [e] at h9
    have h8 : env.scope.names.lookup y.1 = some .cell := by simpa using h9
    exact Option.isSome_iff_exists.mp (h7 _ h8))⟩
end My

namespace My
open PySem PySem.Spec PyProof.Rows L2 Evl
/-! ### what a book knows, whatever its form -/
abbrev RateRow := Str × Int × Int × Int
structure Ent where
  no : Int
  day : Int
  note : Str
  lines : List Line
  back : Int
inductive Deed where
  | account (n : Str)
  | rate (r : RateRow)
  | entry (day : Int) (note : Str) (lines : List Line)
  | change (day : Int) (giver one : Str) (amount : Int) (taker other note : Str)
  | back (number day : Int)
  | close (day : Int)
structure BkS where
  home : Str
  names : List Str
  told : List RateRow
  ents : List Ent
  ends : List Int
  deeds : List Deed
def BkS.closed (S : BkS) : Int := S.ends.getLast?.getD (-1)
def BkS.start (home : Str) : BkS := ⟨home, [Str.ofString "exchange"], [], [], [], []⟩
def BkS.tell (S : BkS) (r : RateRow) : BkS := { S with told := S.told ++ [r], deeds := S.deeds ++ [.rate r] }
/-- three great letters -/
def curOk (c : Str) : Bool := decide (c.cps.size = 3) && c.cps.toList.all fun x => decide (65 ≤ x) && decide (x ≤ 90)
def dayOk (d : Int) : Bool := decide (0 ≤ d) && decide (d ≤ 99999)
def partOk (n : Int) : Bool := decide (1 ≤ n) && decide (n ≤ 1000000000)
/-- the row that counts: the last one of the greatest day -/
def dueStep (c : Str) (d : Int) (acc : Option RateRow) (r : RateRow) : Option RateRow :=
  if r.1 = c ∧ r.2.1 ≤ d ∧ (∀ a ∈ acc, a.2.1 ≤ r.2.1) then some r else acc
def dueR (L : List RateRow) (c : Str) (d : Int) : Option RateRow := L.foldl (dueStep c d) none
def BkS.rate (S : BkS) (c : Str) (d : Int) : Option (Int × Int) := if c = S.home then some (1, 1) else (dueR S.told c d).map fun r => r.2.2
/-- the refusal that is told first, by its place in the row of classes -/
def homeErr (c : Str) : Option Nat := if curOk c = true then none else some 1
def tellErr (S : BkS) (c : Str) (d t b : Int) : Option Nat :=
  if curOk c = false then some 1 else if dayOk d = false then some 3 else if d ≤ S.closed then some 7 else if partOk t = false ∨ partOk b = false ∨ c = S.home then some 5 else none
def rateErr (S : BkS) (c : Str) (d : Int) : Option Nat :=
  if curOk c = false then some 1 else if dayOk d = false then some 3 else if S.rate c d = none then some 12 else none
/-! ### rows of rates as tuples -/
def rowV (r : RateRow) : List V := [.str r.1, .int r.2.1, .int r.2.2.1, .int r.2.2.2]
def RowsIn (K : PySem.W.Frag) (H : Hp) (rs : List Addr) (L : List RateRow) : Prop := Paired (fun r l => SqT K H r (rowV l)) rs L
theorem RowsIn.ex {K : PySem.W.Frag} {H H' : Hp} {rs : List Addr} {L : List RateRow} (e : Ex H H') (h : RowsIn K H rs L) : RowsIn K H' rs L := Paired.mapP h fun _ _ t => ex_t e t
theorem RowsIn.mut {K : PySem.W.Frag} {H : Hp} {a : Addr} {ys : List V} {o : HO} {rs : List Addr} {L : List RateRow} (ha : H a = some (.lst ys)) (h : RowsIn K H rs L) : RowsIn K (upd H a o) rs L := Paired.mapP h fun _ _ t => sqt_mut ha t
theorem tyx_tup {K : PySem.W.Frag} {H : Hp} {r : Addr} {xs : List V} (h : SqT K H r xs) : TyX K H (.ref r) (.type "tuple") := by
  rcases h with (h | ⟨o, h⟩) | ⟨o, its, n, h, c, _⟩
  · exact .base (.tup h)
  · exact .fTuple h
  · exact .kTuple h c
theorem newL {H : Hp} {xs : List V} {Q : VK} (hl : xs.length ≤ 100000) (h : ∀ p H', H p = none → Ex H H' → H' p = some (.lst xs) → Q (.ref p) H') : xs.length ≤ sizeLine ∧ ∀ p, H p = none → Q (.ref p) (upd H p (.lst xs)) :=
  ⟨sz_of hl, fun p hp => h p _ hp (Ex.new hp) upd_same⟩
theorem newT {H : Hp} {xs : List V} {Q : VK} (hl : xs.length ≤ 100000) (h : ∀ p H', H p = none → Ex H H' → H' p = some (.tup xs) → Q (.ref p) H') : xs.length ≤ sizeLine ∧ ∀ p, H p = none → Q (.ref p) (upd H p (.tup xs)) :=
  ⟨sz_of hl, fun p hp => h p _ hp (Ex.new hp) upd_same⟩
/-! ### the book on the heap: the form hangs on the program; F: what of it may change -/
structure Grow (H : Hp) (F : List Addr) (H' : Hp) (F' : List Addr) : Prop where
  keep : ∀ a o, H a = some o → a ∉ F → H' a = some o
  new : ∀ a ∈ F', a ∈ F ∨ H a = none
/-- what never changes -/
def Still (o : HO) : Prop := (∃ xs, o = .tup xs) ∨ (∃ ob u, o = .frz ob u) ∨ ∃ φ, o = .ext φ
/-- F and all that never changes are as they were -/
def Keeps (F : List Addr) (H H' : Hp) : Prop := ∀ x o, H x = some o → (x ∈ F ∨ Still o) → H' x = some o
theorem Keeps.of_ex {F : List Addr} {H H' : Hp} (e : Ex H H') : Keeps F H H' := fun x o h _ => e x o h
theorem Keeps.trans {F : List Addr} {H H1 H2 : Hp} (a : Keeps F H H1) (b : Keeps F H1 H2) : Keeps F H H2 := fun x o h w => b x o (a x o h w) w
theorem Keeps.sub {F G : List Addr} {H H' : Hp} (a : Keeps F H H') (h : ∀ x ∈ G, x ∈ F) : Keeps G H H' := fun x o hx w => a x o hx (w.imp (h x) id)
/-- what else changed was nothing still, and none of F -/
theorem Keeps.of_grow {F A A' : List Addr} {H H' : Hp} (g : Grow H A H' A') (d : ∀ x ∈ A, x ∉ F) (m : ∀ x ∈ A, ∀ o, H x = some o → ¬ Still o) : Keeps F H H' := fun x o h w => g.keep x o h fun hx => by
  rcases w with w | w
  · exact d x hx w
  · exact m x hx o h w
theorem Keeps.upd {F : List Addr} {H : Hp} {a : Addr} {o u : HO} (h : H a = some u) (n : a ∉ F) (m : ¬ Still u) : Keeps F H (upd H a o) := fun x v hx w => by
  have hn : x ≠ a := by
    rintro rfl
    rcases w with w | w
    · exact n w
    · rw [h] at hx
      cases hx
      exact m w
  rw [upd_ne hn]
  exact hx
theorem still_lst {xs : List V} : ¬ Still (.lst xs) := by rintro (⟨_, z⟩ | ⟨_, _, z⟩ | ⟨_, z⟩) <;> cases z
theorem still_dK {kvs : List (Key × V)} : ¬ Still (.dK kvs) := by rintro (⟨_, z⟩ | ⟨_, _, z⟩ | ⟨_, z⟩) <;> cases z
theorem still_ins {C dx : Addr} {fs : List (Str × V)} : ¬ Still (.ins C dx fs) := by rintro (⟨_, z⟩ | ⟨_, _, z⟩ | ⟨_, z⟩) <;> cases z
theorem Keeps.sqt {K : PySem.W.Frag} {F : List Addr} {H H' : Hp} {r : Addr} {xs : List V} (k : Keeps F H H') (h : SqT K H r xs) : SqT K H' r xs := by
  rcases h with (h | ⟨o, h⟩) | h
  · exact .inl (.inl (k r _ h (.inr (.inl ⟨_, rfl⟩))))
  · exact .inl (.inr ⟨o, k r _ h (.inr (.inr (.inl ⟨_, _, rfl⟩)))⟩)
  · exact .inr h
end My

namespace My
open PySem PySem.Spec PyProof.Rows L2 Evl
/-! ### where the classes stand, and the code objects whose tables may grow: unseen ones (generator expressions), seen ones (lambdas) -/
structure Ad where
  L : Addr
  cl : List Addr
  co : List Addr
  ts : List (Addr × Addr)
  tl : List (Addr × Addr)
def Ad.t (A : Ad) (i : Nat) : Addr × Addr := A.ts.getD i (0, 0)
def Ad.bk (A : Ad) : Addr := A.co.getD 0 0
/-- the unseen tables stand -/
def TabsIn (A : Ad) (H : Hp) : Prop := ∀ p ∈ A.ts, H p.2 = some (TabO p.2)
theorem TabsIn.ex {A : Ad} {H H' : Hp} (t : TabsIn A H) (e : Ex H H') : TabsIn A H' := fun p hp => e _ _ (t p hp)
theorem TabsIn.at {A : Ad} {H : Hp} (t : TabsIn A H) {i : Nat} (h : i < A.ts.length) : H (A.t i).2 = some (TabO (A.t i).2) := by
  refine t (A.t i) ?_
  unfold Ad.t
  rw [List.getD_eq_getElem?_getD, List.getElem?_eq_getElem h]
  exact List.getElem_mem h
/-! ### a def that has such a table: its code object is told -/
structure FunC (K : PySem.W.Frag) (x qual : Str) (st : Stmt) (f : Addr) (fd : FuncData) (c : Addr) : Prop where
  ex : ∃ (oc : Value) (od : Option Addr) (kV doc pm : Value) (an : Option Addr) (ct : Value) (osl : Array (Option Value)),
    fd = PySem.W.fnOf x qual (defArgs st) (defBody st) (defScope st) .none kV doc pm an (.ref c) ct ∧ K.lookup f = some ⟨oc, od, .func fd, osl⟩ ∧ PySem.W.codeIn K (.ref c) qual = true
  kp : PySem.W.keepIn K (.ref f) = true
theorem funC_mk {K : PySem.W.Frag} {x qual : Str} {st : Stmt} {f : Addr} {oc : Value} {od an : Option Addr} {osl : Array (Option Value)} {kV doc pm ct : Value} {cd : Addr}
    (l : K.lookup f = some ⟨oc, od, .func (PySem.W.fnOf x qual (defArgs st) (defBody st) (defScope st) .none kV doc pm an (.ref cd) ct), osl⟩) (c : PySem.W.codeIn K (.ref cd) qual = true) (k : PySem.W.keepIn K (.ref f) = true) :
    FunC K x qual st f (PySem.W.fnOf x qual (defArgs st) (defBody st) (defScope st) .none kV doc pm an (.ref cd) ct) cd := ⟨⟨oc, od, kV, doc, pm, an, ct, osl, rfl, l, c⟩, k⟩
structure DfC (K : PySem.W.Frag) (mg : Str → Option Value) (x : Str) (st : Stmt) (ps : List Str) (c : Addr) : Prop where
  ex : ∃ (f : Addr) (fd : FuncData), FunC K x x st f fd c ∧ mg x = some (.ref f) ∧ Binds K fd ps []
structure DmC (K : PySem.W.Frag) (C : Addr) (m qual : Str) (st : Stmt) (ps : List Str) (c : Addr) : Prop where
  ex : ∃ (f : Addr) (fd : FuncData), FunC K m qual st f fd c ∧ Meth K C m f ∧ Binds K fd ps []
abbrev BodyC (P : Program) (w : World) (K : PySem.W.Frag) (mg : Str → Option Value) (base : Heap) (N : List Str) (qual : Str) (st : Stmt) (c : Addr) (k : Nat) (sp : Sp) : Prop :=
  ∀ (f : Addr) (A : Around) (outer : List Env) (s : Shared) (H : Hp) (vs : List V) (Q : VK) (E : XK), Room k (A.deeper (envOfC qual (defScope st) s.heap.objs.size f (.ref c))) → sp vs H Q E →
    ∃ t, PSs (cxOf (L2.CX P w) P w K mg base N qual (defScope st) f (.ref c) A outer s H E) (defBody st) t ∧ t { nx := fun _ H' => Q .non H', rt := Q } (start N vs) H
section
variable {P : Program} {w : World} {K : PySem.W.Frag} {mg : Str → Option Value} {base : Heap} {C : Addr} {x m qual : Str} {st : Stmt} {N ps : List Str} {k : Nat} {sp : Sp} {c : Addr}
theorem DfC.okX (D : DfC K mg x st ps c) (S : FnScope N ps (defScope st)) (len : ∀ vs H Q E, sp vs H Q E → vs.length = ps.length) (body : BodyC P w K mg base N x st c k sp) : Kx P w K mg base (k + 1) x sp := by
  obtain ⟨f, fd, ⟨⟨oc, od, kV, doc, pm, an, ct, osl, rfl, lk, code⟩, kp⟩, hm, hb⟩ := D.ex
  exact ⟨f, _, ps, fn_of lk code S len fun A outer s H vs Q E hr h => body f A outer s H vs Q E hr h, hm, kp, hb⟩
theorem DmC.okX (D : DmC K C m qual st ps c) (cl : Cls K C) (S : FnScope N ps (defScope st)) (len : ∀ vs H Q E, sp vs H Q E → vs.length = ps.length) (body : BodyC P w K mg base N qual st c k sp) : Km P w K mg base (k + 1) C m sp := by
  obtain ⟨f, fd, ⟨⟨oc, od, kV, doc, pm, an, ct, osl, rfl, lk, code⟩, kp⟩, hm, hb⟩ := D.ex
  exact ⟨f, _, ps, cl, hm, fn_of lk code S len fun A outer s H vs Q E hr h => body f A outer s H vs Q E hr h, hb⟩
end
/-! ### constants of the modules -/
section
variable {X : Cx} {x : Str} {p : Pos}
theorem pe_gI {i : Int} (hg : Gl X x) (h : ∃ t, X.mg x = some (.int i t)) (hd : (x == ("__debug__" : Str)) = false := by decide) : PE X (.Name x p) (tC (.int i)) := by
  obtain ⟨t, h⟩ := h
  exact pe_glob hg h ⟨t, rfl⟩ hd
theorem pe_gS {z : Str} (hg : Gl X x) (h : ∃ t, X.mg x = some (.str z t)) (hd : (x == ("__debug__" : Str)) = false := by decide) : PE X (.Name x p) (tC (.str z)) := by
  obtain ⟨t, h⟩ := h
  exact pe_glob hg h ⟨t, rfl⟩ hd
end
/-! ### such a def's facts -/
theorem FunC.fun {K : PySem.W.Frag} {x qual : Str} {st : Stmt} {f : Addr} {fd : FuncData} {c : Addr} (F : FunC K x qual st f fd c) : Fun K x qual st f fd := by
  obtain ⟨⟨oc, od, kV, doc, pm, an, ct, osl, e, lk, code⟩, kp⟩ := F
  exact ⟨⟨oc, od, kV, doc, pm, an, .ref c, ct, osl, e, lk, code⟩, kp⟩
section
variable {K : PySem.W.Frag} {mg : Str → Option Value}
theorem dfc_mk {h : Heap} {x : Str} {st : Stmt} {ps : List Str} {f : Addr} {oc : Value} {od an : Option Addr} {osl : Array (Option Value)} {kV doc pm ct : Value} {cd : Addr} (X : K.In h) (G : h.Ns mainGlobals mg)
    (a : PySem.W.nsIn K mainGlobals x = some (some (.ref f))) (l : K.lookup f = some ⟨oc, od, .func (PySem.W.fnOf x x (defArgs st) (defBody st) (defScope st) .none kV doc pm an (.ref cd) ct), osl⟩)
    (c : PySem.W.codeIn K (.ref cd) x = true) (k : PySem.W.keepIn K (.ref f) = true)
    (b : ∀ (kV doc pm : Value) (an : Option Addr) (cdv ct : Value) (us : List Value), us.length = ps.length → bindArgs (PySem.W.fnOf x x (defArgs st) (defBody st) (defScope st) .none kV doc pm an cdv ct) ⟨us, []⟩ = pure (ps.zip us)) : DfC K mg x st ps cd := by
  have F := funC_mk (st := st) l c k
  exact ⟨f, _, F, PySem.W.mg_of X G a, F.fun.binds b⟩
theorem dmc_mk {C : Addr} {m qual : Str} {st : Stmt} {ps : List Str} {f : Addr} {oc : Value} {od an : Option Addr} {osl : Array (Option Value)} {kV doc pm ct : Value} {cd : Addr}
    (a : PySem.W.findIn K (.ref C) m = some (some (.ref f))) (i : PySem.W.isFn K (.ref f) = true) (l : K.lookup f = some ⟨oc, od, .func (PySem.W.fnOf m qual (defArgs st) (defBody st) (defScope st) .none kV doc pm an (.ref cd) ct), osl⟩)
    (c : PySem.W.codeIn K (.ref cd) qual = true) (k : PySem.W.keepIn K (.ref f) = true)
    (b : ∀ (kV doc pm : Value) (an : Option Addr) (cdv ct : Value) (us : List Value), us.length = ps.length → bindArgs (PySem.W.fnOf m qual (defArgs st) (defBody st) (defScope st) .none kV doc pm an cdv ct) ⟨us, []⟩ = pure (ps.zip us)) : DmC K C m qual st ps cd := by
  have F := funC_mk (st := st) l c k
  exact ⟨f, _, F, ⟨a, i, k⟩, F.fun.binds b⟩
/-- a code object's table, by the looks at the written part -/
structure TabFound (K : PySem.W.Frag) (c P : Addr) : Prop where
  hd : PySem.W.codeHdIn K c P = true
  no : K.lookup P = none
end
theorem int_found {K : PySem.W.Frag} {h : Heap} {mg : Str → Option Value} {x : Str} {i : Int} {t : Tok} (X : K.In h) (G : h.Ns mainGlobals mg) (e : PySem.W.nsIn K mainGlobals x = some (some (.int i t))) : ∃ t, mg x = some (.int i t) := ⟨t, PySem.W.mg_of X G e⟩
theorem str_found {K : PySem.W.Frag} {h : Heap} {mg : Str → Option Value} {x z : Str} {t : Tok} (X : K.In h) (G : h.Ns mainGlobals mg) (e : PySem.W.nsIn K mainGlobals x = some (some (.str z t))) : ∃ t, mg x = some (.str z t) := ⟨t, PySem.W.mg_of X G e⟩
/-! ### a small test of one sign, called in a block -/
theorem qe_small {prog : Program} {w : World} {Old : Addr → Obj → Prop} {d u : Nat} {x f q lo hi : Str} {cp : Nat} {t : Tok} {env : Env} {K : PySem.W.Frag} {mg : Str → Option Value} {base : Heap} {st : Stmt} {N : List Str} {j j2 : Nat} {p1 p2 p3 p4 p5 p6 p7 p8 : Pos}
    (D : Df K mg f st [q]) (M : Mod K mg base) (hbase : ∀ b o, base.get? b = some o → Old b o) (hg : env.globals = mainGlobals) (hk : env.scope.kind = .function) (hx : env.kindOf f = some .globalImplicit) (hl : env.kindOf x = some .local) (S : FnScope N [q] (defScope st))
    (hb : ∀ (kV dc pm : Value) (an : Option Addr) (cdv ct : Value) (us : List Value), us.length = 1 → bindArgs (PySem.W.fnOf f f (defArgs st) (defBody st) (defScope st) .none kV dc pm an cdv ct) ⟨us, []⟩ = pure ([q].zip us))
    (body : defBody st = [.Return (some (.Compare (.Constant (.str lo) j p1) [.LtE, .LtE] [.Name q p2, .Constant (.str hi) j2 p3] p4)) p5]) (hpl : (defScope st).names.lookup q = some .local) (hdp : d + 3 < recursionLimit)
    (hd : (f == ("__debug__" : Str)) = false := by decide) (hd2 : (x == ("__debug__" : Str)) = false := by decide) (hd3 : (q == ("__debug__" : Str)) = false := by decide) : QE prog w Old d u x (.str ⟨#[cp]⟩ t) env (.Call (.Name f p6) [.Name x p7] [] p8) (· = .bool (inRange lo hi cp)) := by
  obtain ⟨fa, fd, F, hm, _⟩ := D.ex
  refine qe_call1 M hbase hg hk hx hm F.kp (φ := fun y => y = .str ⟨#[cp]⟩ t) (qe_x hk hl hd2) (fun y A E s Q hy KX lim hA hdA huA k => ?_) hd
  rw [hy]
  exact call_small KX lim F S hb body S.kind hpl (by omega) (fun env he => qe_range (by rw [he]; exact S.kind) (by show env.scope.names.lookup q = _; rw [he]; exact hpl) hd3) hA k
/-! ### what the heap's dicts of texts tell -/
theorem ext_of {o u : HO} (h : o = u) : some o = some u := congrArg some h
end My

namespace My
open PySem PySem.Spec PyProof.Rows L2 Evl
theorem lz {n : Nat} (h : Nat.ble n 100000 = true := by rfl) : n ≤ 100000 := Nat.le_of_ble_eq_true h
/-! ### lists of new lists -/
def ListsIn (H : Hp) (rs : List Addr) (rows : List (List V)) : Prop := Paired (fun r xs => H r = some (.lst xs)) rs rows
theorem ListsIn.ex {H H' : Hp} {rs : List Addr} {rows : List (List V)} (e : Ex H H') (h : ListsIn H rs rows) : ListsIn H' rs rows := Paired.mapP h fun _ _ t => e _ _ t
theorem ListsIn.get {H : Hp} {rs : List Addr} {rows : List (List V)} {xs : List V} {i : Nat} (h : ListsIn H rs rows) (hx : rows[i]? = some xs) : ∃ r, rs[i]? = some r ∧ H r = some (.lst xs) := by
  have hl := Paired.length h
  have hi : i < rs.length := by
    rw [hl]
    exact (List.getElem?_eq_some_iff.mp hx).1
  obtain ⟨y, h1, h2⟩ := pr_get h (List.getElem?_eq_getElem hi)
  rw [hx] at h1
  cases h1
  exact ⟨_, List.getElem?_eq_getElem hi, h2⟩
theorem ListsIn.app {H : Hp} : ∀ {rs qs : List Addr} {A B : List (List V)}, ListsIn H rs A → ListsIn H qs B → ListsIn H (rs ++ qs) (A ++ B)
  | _, _, _, _, .nil, h => h
  | _, _, _, _, .cons a r, h => .cons a (ListsIn.app r h)
def EvR (t : TA) (σ : L2.St) (H : Hp) (rows : List (List V)) : Prop := ∀ H1, Ex H H1 → ∀ Q : List V → Hp → Prop, (∀ rs H2, Ex H1 H2 → ListsIn H2 rs rows → Q (rs.map V.ref) H2) → t σ H1 Q
section
variable {K : PySem.W.Frag} {σ : L2.St} {H : Hp} {te tk : TE} {tr ta : TA} {xs ys : List V} {rows more : List (List V)} {D : Ends}
theorem er_nil : EvR tNil σ H [] := fun H1 _ Q q => q [] H1 (Ex.refl H1) .nil
theorem er_cons (h : EvL te σ H xs) (hr : EvR tr σ H rows) : EvR (tCons te tr) σ H (xs :: rows) := fun H1 e Q q =>
  h H1 e _ fun p H2 _ e2 hp => hr H2 (e.trans e2) _ fun rs H3 e3 hR => q (p :: rs) H3 (e2.trans e3) (.cons (e3 _ _ hp) hR)
theorem s_rows {i : Nat} (h : EvR ta σ H rows) (hl : rows.length ≤ 100000)
    (k : ∀ p rs H1, Ex H H1 → H1 p = some (.lst (rs.map V.ref)) → ListsIn H1 rs rows → D.nx (σ.set i (some (.ref p))) H1) : tAsg (tLst ta) (gName i) D σ H :=
  h H (Ex.refl H) _ fun rs H1 e hR => ⟨sz_of (by rw [List.length_map, Paired.length hR]; exact hl), fun p hp => k p rs _ (e.trans (Ex.new hp)) upd_same (hR.ex (Ex.new hp))⟩
theorem s_rowsCat {i j : Nat} {p : Addr} {rs : List Addr} (hx : σ[i]? = some (some (.ref p))) (hp : H p = some (.lst (rs.map V.ref))) (hR : ListsIn H rs rows) (h : EvR ta σ H more) (hl : rows.length + more.length ≤ 100000)
    (k : ∀ q qs H1, Ex H H1 → H1 q = some (.lst (qs.map V.ref)) → ListsIn H1 qs (rows ++ more) → D.nx (σ.set j (some (.ref q))) H1) : tAsg (tOp rCat (tVar i) (tLst ta)) (gName j) D σ H :=
  ⟨_, hx, h H (Ex.refl H) _ fun qs H1 e hQ => ⟨sz_of (by rw [List.length_map, Paired.length hQ]; omega), fun b hb =>
    ⟨p, b, rs.map V.ref, qs.map V.ref, rfl, rfl, Ex.new hb _ _ (e _ _ hp), upd_same, sz_of (by rw [List.length_map, List.length_map, Paired.length hQ, Paired.length hR]; exact hl), fun c hc =>
      k c (rs ++ qs) _ ((e.trans (Ex.new hb)).trans (Ex.new hc)) (by rw [List.map_append]; exact upd_same) (((hR.ex e).app hQ).ex ((Ex.new hb).trans (Ex.new hc)))⟩⟩⟩
theorem el_cat {ta : TE} {p : Addr} (ha : Ev ta σ H (.ref p)) (hp : H p = some (.lst xs)) (h : EvL te σ H ys) (hl : xs.length + ys.length ≤ 100000) : EvL (tOp rCat ta te) σ H (xs ++ ys) := fun H1 e Q q =>
  ha H1 e _ fun H2 e2 => h H2 (e.trans e2) _ fun b H3 hb e3 h3 => ⟨p, b, xs, ys, rfl, rfl, e3 _ _ (e2 _ _ (e _ _ hp)), h3, sz_of hl, fun c hc => q c _ (fresh_back (e2.trans e3) hc) ((e2.trans e3).trans (Ex.new hc)) upd_same⟩
theorem el_rep {k : Int} (h : EvL te σ H xs) (hk : ∀ H1, Ex H H1 → Ev tk σ H1 (.int k)) (h1 : 0 ≤ k ∧ k ≤ 1000 ∧ xs.length ≤ 100) : EvL (tOp rRep te tk) σ H (List.replicate k.toNat xs).flatten := fun H1 e Q q =>
  h H1 e _ fun b H2 hb e2 h2 => hk H2 (e.trans e2) H2 (Ex.refl H2) _ fun H3 e3 => ⟨b, k, xs, rfl, rfl, e3 _ _ h2, by omega, by omega,
    sz_of (Nat.le_trans (Nat.mul_le_mul h1.2.2 (show k.toNat ≤ 1000 by omega)) (by decide)), fun c hc => q c _ (fresh_back (e2.trans e3) hc) ((e2.trans e3).trans (Ex.new hc)) upd_same⟩
theorem el_catLL {ta : TE} (ha : EvL ta σ H xs) (h : EvL te σ H ys) (hl : xs.length + ys.length ≤ 100000) : EvL (tOp rCat ta te) σ H (xs ++ ys) := fun H1 e Q q =>
  ha H1 e _ fun p H2 hp e2 h2 => h H2 (e.trans e2) _ fun b H3 hb e3 h3 => ⟨p, b, xs, ys, rfl, rfl, e3 _ _ h2, h3, sz_of hl, fun c hc => q c _ (fresh_back (e2.trans e3) hc) ((e2.trans e3).trans (Ex.new hc)) upd_same⟩
theorem cut_get {i : Nat} {x : V} {lo hi : Option Int} (h : (cutV xs lo hi)[i]? = some x) : xs[HT.sIx xs.length 0 lo + i]? = some x := by
  unfold cutV at h
  rw [List.getElem?_take] at h
  split at h
  · rw [List.getElem?_drop] at h
    exact h
  · cases h
theorem cut_mem {x : V} {lo hi : Option Int} (h : x ∈ cutV xs lo hi) : x ∈ xs := List.mem_of_mem_drop (List.mem_of_mem_take h)
theorem given_mem {n : Nat} {f : Nat → Bool} {v : Nat → V} {x : V} (h : x ∈ given n f v) : ∃ i, i < n ∧ f i = true ∧ x = v i := by
  unfold given at h
  obtain ⟨i, h1, h2⟩ := List.mem_map.mp h
  obtain ⟨h3, h4⟩ := List.mem_filter.mp h1
  exact ⟨i, List.mem_range.mp h3, h4, h2.symm⟩
theorem el_catF {ta : TE} {p : Addr} (ha : EvL ta σ H xs) (h : Ev te σ H (.ref p)) (hp : H p = some (.lst ys)) (hl : xs.length + ys.length ≤ 100000) : EvL (tOp rCat ta te) σ H (xs ++ ys) := fun H1 e Q q =>
  ha H1 e _ fun b H2 hb e2 h2 => h H2 (e.trans e2) _ fun H3 e3 => ⟨b, p, xs, ys, rfl, rfl, e3 _ _ h2, e3 _ _ (e2 _ _ (e _ _ hp)), sz_of hl, fun c hc => q c _ (fresh_back (e2.trans e3) hc) ((e2.trans e3).trans (Ex.new hc)) upd_same⟩
end
end My

namespace My
open PySem PySem.Spec PyProof.Rows L2 Evl
/-! ### what is held outside of what may change -/
theorem Grow.of_ex {H H' : Hp} {F : List Addr} (e : Ex H H') : Grow H F H' F := ⟨fun a o h _ => e a o h, fun a h => .inl h⟩
theorem Grow.cons {H H' : Hp} {F F' : List Addr} {l : Addr} (g : Grow H F H' F') : Grow H (l :: F) H' (l :: F') :=
  ⟨fun a o h n => g.keep a o h (fun z => n (List.mem_cons_of_mem _ z)), fun a h => by
    rcases List.mem_cons.mp h with rfl | h
    · exact .inl List.mem_cons_self
    · rcases g.new a h with z | z
      · exact .inl (List.mem_cons_of_mem _ z)
      · exact .inr z⟩
theorem Grow.upd {H : Hp} {F : List Addr} {l : Addr} {o : HO} (h : l ∈ F) : Grow H F (upd H l o) F :=
  ⟨fun a u ha n => by
    have hn : a ≠ l := fun z => n (z ▸ h)
    rw [upd_ne hn]
    exact ha, fun a h => .inl h⟩
theorem Grow.trans {H H1 H2 : Hp} {F F1 F2 : List Addr} (g : Grow H F H1 F1) (k : Grow H1 F1 H2 F2) : Grow H F H2 F2 := by
  refine ⟨fun a o h n => k.keep a o (g.keep a o h n) fun z => ?_, fun a h => ?_⟩
  · rcases g.new a z with z | z
    · exact n z
    · rw [h] at z
      cases z
  · rcases k.new a h with z | z
    · exact g.new a z
    · cases h0 : H a with
      | none => exact .inr rfl
      | some o =>
        by_cases hF : a ∈ F
        · exact .inl hF
        · rw [g.keep a o h0 hF] at z
          cases z
def Held (H : Hp) (F : List Addr) (P : Hp → Prop) (l : Addr) : Prop := (∃ o, H l = some o ∧ l ∉ F ∧ ∀ H', H' l = some o → P H') ∨ ∀ H', P H'
section
variable {K : PySem.W.Frag} {H H' : Hp} {F F' : List Addr} {P : Hp → Prop} {l : Addr} {xs : List V}
theorem Held.now (h : Held H F P l) : P H := by
  rcases h with ⟨o, h1, _, h3⟩ | h
  · exact h3 H h1
  · exact h H
theorem Held.grow (g : Grow H F H' F') (h : Held H F P l) : Held H' F' P l := by
  rcases h with ⟨o, h1, h2, h3⟩ | h
  · refine .inl ⟨o, g.keep l o h1 h2, fun z => ?_, h3⟩
    rcases g.new l z with z | z
    · exact h2 z
    · rw [h1] at z
      cases z
  · exact .inr h
theorem Held.ex (e : Ex H H') (h : Held H F P l) : Held H' F P l := h.grow (.of_ex e)
theorem Held.cons {a : Addr} (h : Held H F P l) (n : l ≠ a) : Held H (a :: F) P l := by
  rcases h with ⟨o, h1, h2, h3⟩ | h
  · exact .inl ⟨o, h1, fun z => (List.mem_cons.mp z).elim n h2, h3⟩
  · exact .inr h
/-- with a new one ahead -/
theorem Held.consN {a : Addr} (h : Held H F P l) (n : H a = none) : Held H (a :: F) P l := by
  rcases h with ⟨o, h1, h2, h3⟩ | h
  · refine .inl ⟨o, h1, fun z => (List.mem_cons.mp z).elim (fun e => ?_) h2, h3⟩
    rw [e, n] at h1
    cases h1
  · exact .inr h
theorem held_o {o : HO} (h : H l = some o) (n : l ∉ F) (k : ∀ H', H' l = some o → P H') : Held H F P l := .inl ⟨o, h, n, k⟩
theorem heldL (h : SqL K H l xs) (n : ∀ o, H l = some o → l ∉ F) : Held H F (fun H' => SqL K H' l xs) l := by
  rcases h with (h | ⟨o, h⟩) | h
  · exact .inl ⟨_, h, n _ h, fun H' h' => sq_of h'⟩
  · exact .inl ⟨_, h, n _ h, fun H' h' => .inl (.inr ⟨o, h'⟩)⟩
  · exact .inr fun H' => .inr h
theorem heldT (h : SqT K H l xs) (n : ∀ o, H l = some o → l ∉ F) : Held H F (fun H' => SqT K H' l xs) l := by
  rcases h with (h | ⟨o, h⟩) | h
  · exact .inl ⟨_, h, n _ h, fun H' h' => st_of h'⟩
  · exact .inl ⟨_, h, n _ h, fun H' h' => .inl (.inr ⟨o, h'⟩)⟩
  · exact .inr fun H' => .inr h
/-- tuples held, one a row -/
def HeldRows (K : PySem.W.Frag) (H : Hp) (F : List Addr) {α : Type} (f : α → List V) (rs : List Addr) (L : List α) : Prop := Paired (fun r l => Held H F (fun H' => SqT K H' r (f l)) r) rs L
theorem HeldRows.grow {α : Type} {f : α → List V} {rs : List Addr} {L : List α} (g : Grow H F H' F') (h : HeldRows K H F f rs L) : HeldRows K H' F' f rs L := Paired.mapP h fun _ _ t => t.grow g
theorem HeldRows.now {α : Type} {f : α → List V} {rs : List Addr} {L : List α} (h : HeldRows K H F f rs L) : Paired (fun r l => SqT K H r (f l)) rs L := Paired.mapP h fun _ _ t => t.now
theorem HeldRows.snoc {α : Type} {f : α → List V} {rs : List Addr} {L : List α} {r : Addr} {l : α} (h : HeldRows K H F f rs L) (t : Held H F (fun H' => SqT K H' r (f l)) r) : HeldRows K H F f (rs ++ [r]) (L ++ [l]) := Paired.snoc h t
end
/-! ### comprehensions over texts, and with a test -/
section
variable {K : PySem.W.Frag} {σ : L2.St} {H : Hp} {te tl : TE} {t : TT}
theorem el_lcStr {z : Str} {j : Nat} {vs : List Nat} (f : Nat → Bool) (v : Nat → V) (h : Ev tl σ H (.str z)) (hz : z.cps.size ≤ 40000) (hw : ∀ x, wipe ((wipe σ vs).set j (some x)) vs = wipe σ vs)
    (ht : ∀ (i c : Nat) H1, Ex H H1 → z.cps[i]? = some c → EvT t ((wipe σ vs).set j (some (.str ⟨#[c]⟩))) H1 (f i))
    (he : ∀ (i c : Nat) H1, Ex H H1 → z.cps[i]? = some c → f i = true → Ev te ((wipe σ vs).set j (some (.str ⟨#[c]⟩))) H1 (v i)) :
    EvL (tLc (iStr tl) (gName j) t te vs) σ H (given z.cps.size f v) := fun H0 e Q q => h H0 e _ fun H1 e1 => ⟨z, rfl, fun Dl hD =>
  lc_it walk_str (Cw H1 f v Dl) ⟨hD, Ex.new hD, upd_same⟩ (fun _ _ _ _ => True.intro) (fun i x H' H'' hi p y => by
      obtain ⟨rfl, c, hc, rfl⟩ := y
      exact ⟨hw _, cw_turn p (by omega) (ht i c H1 (e.trans e1) hc) (fun hf => he i c H1 (e.trans e1) hc hf)⟩)
    (fun H' p => q Dl H' (fresh_back e1 p.1) (e1.trans p.2.1) p.2.2)⟩
theorem given_filter {α : Type} (d : α) (cs : List α) (p : α → Bool) (g : α → V) : given cs.length (fun i => p (cs.getD i d)) (fun i => g (cs.getD i d)) = (cs.filter p).map g := by
  have hc : cs = (List.range cs.length).map (fun i => cs.getD i d) := by
    apply List.ext_getElem
    · rw [List.length_map, List.length_range]
    · intro i h1 h2
      rw [List.getElem_map, List.getElem_range, List.getD_eq_getElem?_getD, List.getElem?_eq_getElem h1]
      rfl
  unfold given
  conv => rhs; rw [hc]
  rw [List.filter_map, List.map_map]
  rfl
theorem getD_of {α : Type} {cs : List α} {i : Nat} {c d : α} (h : cs[i]? = some c) : cs.getD i d = c := by
  rw [List.getD_eq_getElem?_getD, h]
  rfl
end
/-- range(a, b, c), small and upward -/
theorem rg_up {a b c : Int} (hc : 2 ≤ c ∧ c ≤ 1000) (ha : 0 ≤ a ∧ a ≤ 100000) (hb : -100000 ≤ b ∧ b ≤ 100000) : ∃ n : Nat, RgC a b c n ∧ ∀ i : Nat, i < n → a + (i : Int) * c < b := by
  have hp : c > 0 := by omega
  refine ⟨if a < b then ((b - a - 1) / c + 1).toNat else 0, ⟨by omega, by omega, ?_, ?_⟩, fun i hi => ?_⟩
  · unfold Builtin.Range.small Builtin.Range.rangeSize
    simp only [Builtin.Range.rangeFitsLong, Bool.and_eq_true, Bool.or_eq_true, decide_eq_true_eq, beq_iff_eq, hp, if_true]
    have h1 : a < b → 0 ≤ (b - a - 1) / c ∧ (b - a - 1) / c ≤ b - a - 1 := fun h => ⟨Int.ediv_nonneg (by omega) (by omega), Int.ediv_le_self _ (by omega)⟩
    split <;> omega
  · unfold Builtin.Range.rangeSize
    rw [if_pos hp]
    split
    · rename_i h
      have h1 : 0 ≤ (b - a - 1) / c := Int.ediv_nonneg (by omega) (by omega)
      omega
    · rfl
  · by_cases h : a < b
    · rw [if_pos h] at hi
      have h1 : 0 ≤ (b - a - 1) / c := Int.ediv_nonneg (by omega) (by omega)
      have h2 : (i : Int) ≤ (b - a - 1) / c := by omega
      have h3 : (i : Int) * c ≤ b - a - 1 := Int.le_trans (Int.mul_le_mul_of_nonneg_right h2 (by omega)) (Int.ediv_mul_le _ (by omega))
      omega
    · rw [if_neg h] at hi
      omega
end My

namespace My
open PySem PySem.Spec PyProof.Rows L2 Evl
/-! ### texts by the lists of their signs -/
def ofL (l : List Nat) : Str := ⟨l.toArray⟩
theorem ofL_cat (a b : List Nat) : ofL a ++ ofL b = ofL (a ++ b) := by
  show (⟨a.toArray ++ b.toArray⟩ : Str) = ⟨(a ++ b).toArray⟩
  rw [List.append_toArray]
theorem ofL_snoc (a : List Nat) (c : Nat) : ofL a ++ (⟨#[c]⟩ : Str) = ofL (a ++ [c]) := ofL_cat a [c]
theorem ofL_len (a : List Nat) : (ofL a).length = a.length := rfl
theorem ofL_list (a : List Nat) : (ofL a).cps.toList = a := rfl
theorem ofL_self (z : Str) : ofL z.cps.toList = z := rfl
section
variable {H : Hp}
theorem rv_addS {a b : Str} (h : a.length + b.length ≤ 100000) : RV (fun x y H Q => ∃ i j, x = .str i ∧ y = .str j ∧ i.length + j.length ≤ sizeLine ∧ Q (.str (i ++ j)) H) (.str a) (.str b) H (.str (a ++ b)) :=
  fun H1 e Q q => ⟨a, b, rfl, rfl, sz_of h, q _ (Ex.refl _)⟩
theorem rv_add {i j : Int} : RV (rI0 fun i j => .int (i + j)) (.int i) (.int j) H (.int (i + j)) := rv_I0
theorem rv_sub {i j : Int} : RV (rI0 fun i j => .int (i - j)) (.int i) (.int j) H (.int (i - j)) := rv_I0
theorem rv_div {i : Int} (j : Int) (h : 0 < j ∧ j < 4611686018427387904 := by decide) : RV (rI CDivW fun i j => .int (i / j)) (.int i) (.int j) H (.int (i / j)) :=
  rv_I (C := CDivW) (g := fun i j => .int (i / j)) (wide_div h.1 (b := 62) (by have := h.2; omega) (by decide) (by decide))
theorem rv_mod {i j : Int} (h : 0 < j) : RV (rI (fun _ j => 0 < j) fun i j => .int (i % j)) (.int i) (.int j) H (.int (i % j)) := rv_I (C := fun _ j => 0 < j) (g := fun i j => .int (i % j)) h
theorem rv_mulR {i j : Int} (h : -(2 ^ 64) < j ∧ j < 2 ^ 64) : RV (rI CMul fun i j => .int (i * j)) (.int i) (.int j) H (.int (i * j)) := rv_I (C := CMul) (g := fun i j => .int (i * j)) (.inr h)
theorem rv_mulL {i j : Int} (h : -(2 ^ 64) < i ∧ i < 2 ^ 64) : RV (rI CMul fun i j => .int (i * j)) (.int i) (.int j) H (.int (i * j)) := rv_I (C := CMul) (g := fun i j => .int (i * j)) (.inl h)
theorem rv_mulW {j : Int} (i : Int) (hi : i.natAbs.log2 < 1000) (hj : -1000000 < j ∧ j < 1000000) : RV (rI CMulW fun i j => .int (i * j)) (.int i) (.int j) H (.int (i * j)) :=
  rv_I (C := CMulW) (g := fun i j => .int (i * j)) (by
    unfold CMulW
    have h : j.natAbs.log2 < 20 := PySem.Flt.log2_lt_of (by decide) (by omega)
    omega)
theorem rv_le {i j : Int} : RV (rI0 fun i j => .bl (decide (i ≤ j))) (.int i) (.int j) H (.bl (decide (i ≤ j))) := rv_I0
theorem rv_lt {i j : Int} : RV (rI0 fun i j => .bl (decide (i < j))) (.int i) (.int j) H (.bl (decide (i < j))) := rv_I0
end
theorem ev_min2 {σ : L2.St} {H : Hp} {ta tb : TE} {i j : Int} (ha : Ev ta σ H (.int i)) (hb : Ev tb σ H (.int j)) : Ev (tCB (fun xs H Q => ∃ i j, xs = [.int i, .int j] ∧ Q (.int (if j < i then j else i)) H) (tCons ta (tCons tb tNil))) σ H (.int (if j < i then j else i)) := fun H1 e Q q =>
  ha H1 e _ fun H2 e2 => hb H2 (e.trans e2) _ fun H3 e3 => ⟨i, j, rfl, q H3 (e2.trans e3)⟩
/-! ### names, notes, currencies as the laws make them -/
def s36 : List Nat := [97, 98, 99, 100, 101, 102, 103, 104, 105, 106, 107, 108, 109, 110, 111, 112, 113, 114, 115, 116, 117, 118, 119, 120, 121, 122, 48, 49, 50, 51, 52, 53, 54, 55, 56, 57]
def sg36 (i : Int) : Nat := s36.getD i.toNat 0
theorem s36_is : (Str.ofString "abcdefghijklmnopqrstuvwxyz0123456789").cps.toList = s36 := by decide +kernel
def lowSign (x : Nat) : Bool := decide (97 ≤ x) && decide (x ≤ 122)
def nameSign (x : Nat) : Bool := lowSign x || (decide (48 ≤ x) && decide (x ≤ 57))
/-- 1 to 12 small letters and digits, a letter ahead -/
def nameOk (z : Str) : Bool := decide (1 ≤ z.cps.toList.length) && decide (z.cps.toList.length ≤ 12) && lowSign (z.cps.toList.getD 0 0) && z.cps.toList.all nameSign
def nameAt (c : Int) (k : Nat) : Nat := sg36 ((c / 26 / 12 + c / 26 / 432 * (k : Int)) % 36)
def nameP (c : Int) (i : Nat) : List Nat := sg36 (c % 26) :: (List.range i).map (nameAt c)
def nameOf (c : Int) : Str := ofL (nameP c (c / 26 % 12).toNat)
theorem nameP_succ (c : Int) (i : Nat) : nameP c i ++ [nameAt c i] = nameP c (i + 1) := by
  unfold nameP
  rw [List.range_succ, List.map_append]
  rfl
theorem nameP_len (c : Int) (i : Nat) : (nameP c i).length = i + 1 := by
  unfold nameP
  rw [List.length_cons, List.length_map, List.length_range]
theorem sg36_ok {i : Int} (h : 0 ≤ i ∧ i < 36) : nameSign (sg36 i) = true := by
  have hz : ∀ x ∈ s36, nameSign x = true := by decide
  have hj : i.toNat < s36.length := by show i.toNat < 36; omega
  unfold sg36
  rw [List.getD_eq_getElem?_getD, List.getElem?_eq_getElem hj]
  exact hz _ (List.getElem_mem hj)
theorem sg26_ok {i : Int} (h : 0 ≤ i ∧ i < 26) : lowSign (sg36 i) = true := by
  have hz : ∀ j : Nat, j < 26 → lowSign (s36.getD j 0) = true := by decide
  exact hz i.toNat (by omega)
theorem nameOf_ok (c : Int) : nameOk (nameOf c) = true := by
  have h1 := Int.emod_nonneg (c / 26) (show (12 : Int) ≠ 0 by decide)
  have h2 := Int.emod_lt_of_pos (c / 26) (show (0 : Int) < 12 by decide)
  unfold nameOk nameOf
  rw [ofL_list, nameP_len, Bool.and_eq_true, Bool.and_eq_true, Bool.and_eq_true, decide_eq_true_eq, decide_eq_true_eq]
  refine ⟨⟨⟨by omega, by omega⟩, sg26_ok ⟨Int.emod_nonneg _ (by decide), Int.emod_lt_of_pos _ (by decide)⟩⟩, List.all_eq_true.mpr fun x hx => ?_⟩
  unfold nameP at hx
  rcases List.mem_cons.mp hx with rfl | hx
  · exact sg36_ok ⟨Int.emod_nonneg _ (by decide), Int.lt_trans (Int.emod_lt_of_pos _ (by decide)) (by decide)⟩
  · obtain ⟨k, _, rfl⟩ := List.mem_map.mp hx
    exact sg36_ok ⟨Int.emod_nonneg _ (by decide), Int.emod_lt_of_pos _ (by decide)⟩
def s94 : List Nat := (List.range 95).filterMap fun i => if i = 5 then none else some (32 + i)
theorem s94_is : (Str.ofString " !\"#$&'()*+,-./0123456789:;<=>?@" ++ Str.ofString "ABCDEFGHIJKLMNOPQRSTUVWXYZ[\\]^_`" ++ Str.ofString "abcdefghijklmnopqrstuvwxyz{|}~").cps.toList = s94 := by decide +kernel
def noteAt (c : Int) (k : Nat) : Nat := s94.getD ((c / 41 + c / 3854 * (k : Int)) % 94).toNat 0
def noteP (c : Int) (i : Nat) : List Nat := (List.range i).map (noteAt c)
def noteOf (c : Int) : Str := ofL (noteP c (c % 41).toNat)
/-- up to 40 signs that can be seen, and the space -/
def noteOk (z : Str) : Bool := decide (z.cps.toList.length ≤ 40) && z.cps.toList.all fun x => decide (32 ≤ x) && decide (x ≤ 126)
theorem noteP_succ (c : Int) (i : Nat) : noteP c i ++ [noteAt c i] = noteP c (i + 1) := by
  unfold noteP
  rw [List.range_succ, List.map_append]
  rfl
theorem noteOf_ok (c : Int) : noteOk (noteOf c) = true := by
  have h1 := Int.emod_nonneg c (show (41 : Int) ≠ 0 by decide)
  have h2 := Int.emod_lt_of_pos c (show (0 : Int) < 41 by decide)
  unfold noteOk noteOf
  rw [ofL_list, Bool.and_eq_true, decide_eq_true_eq]
  refine ⟨?_, List.all_eq_true.mpr fun x hx => ?_⟩
  · unfold noteP
    rw [List.length_map, List.length_range]
    omega
  · unfold noteP at hx
    obtain ⟨k, _, rfl⟩ := List.mem_map.mp hx
    have hz : ∀ j : Nat, j < 94 → (decide (32 ≤ s94.getD j 0) && decide (s94.getD j 0 ≤ 126)) = true := by decide +kernel
    have h3 := Int.emod_nonneg (c / 41 + c / 3854 * (k : Int)) (show (94 : Int) ≠ 0 by decide)
    have h4 := Int.emod_lt_of_pos (c / 41 + c / 3854 * (k : Int)) (show (0 : Int) < 94 by decide)
    exact hz _ (by omega)
/-- one sign of it put for another -/
def twinL (l : List Nat) (at_ : Nat) (c : Nat) : List Nat := l.take at_ ++ [c] ++ l.drop (at_ + 1)
def upper : List Nat := [65, 66, 67, 68, 69, 70, 71, 72, 73, 74, 75, 76, 77, 78, 79, 80, 81, 82, 83, 84, 85, 86, 87, 88, 89, 90]
def up (i : Int) : Nat := upper.getD i.toNat 0
def cur3 (c : Int) : Str := ⟨#[up (c % 26), up (c / 26 % 26), up (c / 676 % 26)]⟩
theorem cell_mod {x m : Int} (h : 0 < m) : 0 ≤ x % m ∧ x % m < m := ⟨Int.emod_nonneg _ (by omega), Int.emod_lt_of_pos _ h⟩
theorem cpow {j : Int} (h : 0 ≤ j ∧ j ≤ 1000) : CPow 10 j := ⟨h.1, by omega, by decide⟩
theorem p9 : ((10 : Int) ^ (9 : Int).toNat) = 1000000000 := by decide
theorem dayOk_iff {d : Int} : dayOk d = true ↔ 0 ≤ d ∧ d ≤ 99999 := by
  unfold dayOk
  rw [Bool.and_eq_true, decide_eq_true_eq, decide_eq_true_eq]
theorem partOk_iff {d : Int} : partOk d = true ↔ 1 ≤ d ∧ d ≤ 1000000000 := by
  unfold partOk
  rw [Bool.and_eq_true, decide_eq_true_eq, decide_eq_true_eq]
theorem ofUpper : (Str.ofString "ABCDEFGHIJKLMNOPQRSTUVWXYZ").cps.toList = upper := by decide +kernel
theorem at_list {α : Type} {zs : List α} {i : Int} (d : α) (h0 : 0 ≤ i) (h1 : i < zs.length) : atI zs i = some (zs.getD i.toNat d) := by
  have hj : i.toNat < zs.length := by omega
  have e := atI_nat (xs := zs) (j := i.toNat) (v := zs.getD i.toNat d) (by
    rw [List.getD_eq_getElem?_getD, List.getElem?_eq_getElem hj]
    rfl)
  rw [Int.toNat_of_nonneg h0] at e
  exact e
theorem at_up {i : Int} (h : 0 ≤ i ∧ i < 26) : atI (Str.ofString "ABCDEFGHIJKLMNOPQRSTUVWXYZ").cps.toList i = some (up i) := by
  rw [ofUpper]
  exact at_list 0 h.1 h.2
theorem up_cap {i : Int} (h : 0 ≤ i ∧ i < 26) : 65 ≤ up i ∧ up i ≤ 90 := by
  have hz : ∀ x ∈ upper, 65 ≤ x ∧ x ≤ 90 := by decide
  have hj : i.toNat < upper.length := by show i.toNat < 26; omega
  unfold up
  rw [List.getD_eq_getElem?_getD, List.getElem?_eq_getElem hj]
  exact hz _ (List.getElem_mem hj)
theorem cur3_ok (c : Int) : curOk (cur3 c) = true := by
  have a := up_cap (cell_mod (x := c) (m := 26) (by decide))
  have b := up_cap (cell_mod (x := c / 26) (m := 26) (by decide))
  have d := up_cap (cell_mod (x := c / 676) (m := 26) (by decide))
  show (true && ((decide (65 ≤ up (c % 26)) && decide (up (c % 26) ≤ 90)) && ((decide (65 ≤ up (c / 26 % 26)) && decide (up (c / 26 % 26) ≤ 90)) && ((decide (65 ≤ up (c / 676 % 26)) && decide (up (c / 676 % 26) ≤ 90)) && true)))) = true
  rw [decide_eq_true a.1, decide_eq_true a.2, decide_eq_true b.1, decide_eq_true b.2, decide_eq_true d.1, decide_eq_true d.2]
  rfl
theorem at_36 {i : Int} (h : 0 ≤ i ∧ i < 36) : atI (Str.ofString "abcdefghijklmnopqrstuvwxyz0123456789").cps.toList i = some (sg36 i) := by
  rw [s36_is]
  exact at_list 0 h.1 h.2
theorem at_94 {i : Int} (h : 0 ≤ i ∧ i < 94) : atI s94 i = some (s94.getD i.toNat 0) := at_list 0 h.1 (by show i < (94 : Nat); exact h.2)
/-- a pure def of the law: what it hands back -/
def SpF (f : List V → Option V) : Sp := fun vs H Q _ => ∃ v, f vs = some v ∧ ∀ H', Ex H H' → Q v H'
theorem sp_f {f : List V → Option V} {vs : List V} {v : V} {H : Hp} (h : f vs = some v) : SpV (SpF f) vs H v := fun H1 e Q q E => ⟨v, h, q⟩
def fName : List V → Option V
  | [.int c] => some (.str (nameOf c))
  | _ => none
def fCur : List V → Option V
  | [.int c] => some (.str (cur3 c))
  | _ => none
def fNote : List V → Option V
  | [.int c] => some (.str (noteOf c))
  | _ => none
theorem fName_inv {vs : List V} {v : V} (h : fName vs = some v) : ∃ c, vs = [.int c] ∧ v = .str (nameOf c) := by
  unfold fName at h
  split at h
  · cases h; exact ⟨_, rfl, rfl⟩
  · cases h
theorem fCur_inv {vs : List V} {v : V} (h : fCur vs = some v) : ∃ c, vs = [.int c] ∧ v = .str (cur3 c) := by
  unfold fCur at h
  split at h
  · cases h; exact ⟨_, rfl, rfl⟩
  · cases h
theorem fNote_inv {vs : List V} {v : V} (h : fNote vs = some v) : ∃ c, vs = [.int c] ∧ v = .str (noteOf c) := by
  unfold fNote at h
  split at h
  · cases h; exact ⟨_, rfl, rfl⟩
  · cases h
/-! ### more of texts -/
theorem inV_str (z : Str) (L : List Str) : inV (.str z) (L.map V.str) = decide (z ∈ L) := by
  unfold inV
  rw [List.any_map, Bool.eq_iff_iff, List.any_eq_true, decide_eq_true_eq]
  constructor
  · rintro ⟨x, h1, h2⟩
    have : x = z := by simpa [eqV] using h2
    exact this ▸ h1
  · intro h
    exact ⟨z, h, by simp [eqV]⟩
theorem flat_strs (L : List Str) : (L.map V.str).all flatV = true := by
  rw [List.all_map, List.all_eq_true]
  intro x _
  rfl
theorem ev_slS {σ : L2.St} {H : Hp} {te : TE} {tl th : TO} {z : Str} {lo hi : Option Int} (h : Ev te σ H (.str z)) (h1 : EvO tl σ H lo) (h2 : EvO th σ H hi) (hz : z.length ≤ 100000) : Ev (L2.tSl rSlS te tl th) σ H (.str (cutS z lo hi)) := fun H1 e Q q =>
  h H1 e _ fun H2 e2 => h1 H2 (e.trans e2) _ fun H3 e3 => h2 H3 ((e.trans e2).trans e3) _ fun H4 e4 => ⟨z, rfl, sz_of hz, q _ ((e2.trans e3).trans e4)⟩
theorem ev_lenS {σ : L2.St} {H : Hp} {te : TE} {z : Str} (h : Ev te σ H (.str z)) (hz : z.length ≤ 100000) : Ev (tCB (fun xs H Q => ∃ z, xs = [.str z] ∧ z.length ≤ sizeLine ∧ Q (.int z.length) H) (tCons te tNil)) σ H (.int z.length) := fun H1 e Q q =>
  h H1 e _ fun H2 e2 => ⟨z, rfl, sz_of hz, q _ e2⟩
theorem cutS_to (l : List Nat) (k : Nat) (h : k ≤ l.length) : cutS (ofL l) none (some (k : Int)) = ofL (l.take k) := by
  unfold cutS
  rw [ofL_list, ofL_len, HT.sIx_none, HT.sIx_nat, Nat.min_eq_left h]
  rfl
theorem cutS_from (l : List Nat) (k : Nat) (h : k ≤ l.length) : cutS (ofL l) (some (k : Int)) none = ofL (l.drop k) := by
  unfold cutS
  rw [ofL_list, ofL_len, HT.sIx_none, HT.sIx_nat, Nat.min_eq_left h, List.take_of_length_le (by rw [List.length_drop]; omega)]
  rfl
/-- one sign of it put for another -/
def twinAt (l : List Nat) (c : Int) : Nat := (c % (l.length : Int)).toNat
def twinS (t : Str) (c : Int) (g : Str) : Str := ofL (twinL t.cps.toList (twinAt t.cps.toList c) (g.cps.toList.getD (c / 13 % 26).toNat 0))
def fTwin : List V → Option V
  | [.str t, .int c, .str g] => if 1 ≤ t.length ∧ t.length ≤ 1000 ∧ 26 ≤ g.length ∧ g.length ≤ 1000 then some (.str (twinS t c g)) else none
  | _ => none
theorem fTwin_inv {vs : List V} {v : V} (h : fTwin vs = some v) : ∃ t c g, vs = [.str t, .int c, .str g] ∧ v = .str (twinS t c g) ∧ 1 ≤ t.length ∧ t.length ≤ 1000 ∧ 26 ≤ g.length ∧ g.length ≤ 1000 := by
  unfold fTwin at h
  split at h
  · split at h
    · rename_i hh
      cases h
      exact ⟨_, _, _, rfl, rfl, hh⟩
    · cases h
  · cases h
theorem twinAt_lt {l : List Nat} {c : Int} (h : 1 ≤ l.length) : twinAt l c < l.length := by
  have h1 := Int.emod_nonneg c (show (l.length : Int) ≠ 0 by omega)
  have h2 := Int.emod_lt_of_pos c (show (0 : Int) < (l.length : Int) by omega)
  unfold twinAt
  omega
theorem twinL_len {l : List Nat} {k c : Nat} (h : k < l.length) : (twinL l k c).length = l.length := by
  unfold twinL
  rw [List.length_append, List.length_append, List.length_take, List.length_drop, List.length_singleton]
  omega
theorem twinL_all {p : Nat → Bool} {l : List Nat} {k c : Nat} (h : l.all p = true) (hc : p c = true) : (twinL l k c).all p = true := by
  unfold twinL
  rw [List.all_eq_true] at h ⊢
  intro x hx
  rcases List.mem_append.mp hx with hx | hx
  · rcases List.mem_append.mp hx with hx | hx
    · exact h x (List.mem_of_mem_take hx)
    · rw [List.mem_singleton.mp hx]; exact hc
  · exact h x (List.mem_of_mem_drop hx)
theorem getD_all {p : Nat → Bool} {l : List Nat} {k d : Nat} (h : l.all p = true) (hk : k < l.length) : p (l.getD k d) = true := by
  rw [List.getD_eq_getElem?_getD, List.getElem?_eq_getElem hk]
  exact List.all_eq_true.mp h _ (List.getElem_mem hk)
theorem twin_cur {t g : Str} {c : Int} (h : curOk t = true) (hg : g.cps.toList.all (fun x => decide (65 ≤ x) && decide (x ≤ 90)) = true) (hl : 26 ≤ g.cps.toList.length) : curOk (twinS t c g) = true := by
  unfold curOk at h ⊢
  rw [Bool.and_eq_true, decide_eq_true_eq] at h ⊢
  have h3 : t.cps.toList.length = 3 := h.1
  have h13 := cell_mod (x := c / 13) (m := 26) (by decide)
  refine ⟨?_, ?_⟩
  · show (twinS t c g).length = 3
    unfold twinS
    rw [ofL_len, twinL_len (twinAt_lt (by omega)), h3]
  · unfold twinS
    rw [ofL_list]
    exact twinL_all h.2 (getD_all hg (by omega))
theorem twin_name {t g : Str} {c : Int} (h : nameOk t = true) (hg : g.cps.toList.all lowSign = true) (hl : 26 ≤ g.cps.toList.length) : nameOk (twinS t c g) = true := by
  unfold nameOk at h ⊢
  rw [Bool.and_eq_true, Bool.and_eq_true, Bool.and_eq_true, decide_eq_true_eq, decide_eq_true_eq] at h ⊢
  have h13 := cell_mod (x := c / 13) (m := 26) (by decide)
  have hx := getD_all (d := 0) hg (show (c / 13 % 26).toNat < g.cps.toList.length by omega)
  have ht := twinAt_lt (c := c) h.1.1.1
  unfold twinS
  rw [ofL_list, twinL_len ht]
  refine ⟨⟨h.1.1, ?_⟩, twinL_all h.2 (by unfold nameSign; rw [hx]; rfl)⟩
  unfold twinL
  cases hk : twinAt t.cps.toList c with
  | zero => exact hx
  | succ k =>
    have h0 : (t.cps.toList.take (k + 1)).length = k + 1 := by rw [List.length_take]; omega
    have h2 := h.1.2
    rw [List.getD_eq_getElem?_getD] at h2 ⊢
    rw [List.append_assoc, List.getElem?_append_left (by omega), List.getElem?_take, if_pos (by omega)]
    exact h2
/-- each once, by first sight -/
def uniq (acc : List Str) : List Str → List Str
  | [] => acc
  | z :: r => uniq (if z ∈ acc then acc else acc ++ [z]) r
theorem uniq_snoc : ∀ (L : List Str) (acc : List Str) (z : Str), uniq acc (L ++ [z]) = if z ∈ uniq acc L then uniq acc L else uniq acc L ++ [z]
  | [], acc, z => rfl
  | x :: r, acc, z => uniq_snoc r _ z
theorem uniq_nd : ∀ (L acc : List Str), acc.Nodup → (uniq acc L).Nodup
  | [], acc, h => h
  | z :: r, acc, h => by
    unfold uniq
    split
    · exact uniq_nd r acc h
    · rename_i hz
      exact uniq_nd r _ (List.nodup_append.mpr ⟨h, by simp, fun a ha b hb e => hz (List.mem_singleton.mp hb ▸ e ▸ ha)⟩)
theorem uniq_mem : ∀ (L acc : List Str) (x : Str), x ∈ uniq acc L ↔ x ∈ acc ∨ x ∈ L
  | [], acc, x => by simp [uniq]
  | z :: r, acc, x => by
    unfold uniq
    rw [uniq_mem]
    split
    · rename_i hz
      constructor
      · rintro (h | h)
        · exact .inl h
        · exact .inr (List.mem_cons_of_mem _ h)
      · rintro (h | h)
        · exact .inl h
        · rcases List.mem_cons.mp h with rfl | h
          · exact .inl hz
          · exact .inr h
    · simp only [List.mem_append, List.mem_cons, List.not_mem_nil, or_false, or_assoc]
theorem uniq_len : ∀ (L acc : List Str), acc.length ≤ (uniq acc L).length ∧ (uniq acc L).length ≤ acc.length + L.length
  | [], acc => ⟨Nat.le_refl _, Nat.le_refl _⟩
  | z :: r, acc => by
    unfold uniq
    rw [List.length_cons]
    by_cases hz : z ∈ acc
    · have h := uniq_len r acc
      rw [if_pos hz]
      omega
    · have h := uniq_len r (acc ++ [z])
      rw [if_neg hz]
      rw [List.length_append, List.length_singleton] at h
      omega
theorem uniq_pre : ∀ (L acc : List Str), ∃ r, uniq acc L = acc ++ r
  | [], acc => ⟨[], (List.append_nil _).symm⟩
  | z :: r, acc => by
    unfold uniq
    by_cases hz : z ∈ acc
    · rw [if_pos hz]
      exact uniq_pre r acc
    · rw [if_neg hz]
      obtain ⟨q, h⟩ := uniq_pre r (acc ++ [z])
      exact ⟨[z] ++ q, by rw [h, List.append_assoc]⟩
theorem nd_sub : ∀ {M N : List Str}, M.Nodup → (∀ x ∈ M, x ∈ N) → M.length ≤ N.length
  | [], _, _, _ => Nat.zero_le _
  | x :: M, N, h, hs => by
    have hx := hs x List.mem_cons_self
    rw [List.nodup_cons] at h
    have := nd_sub (N := N.erase x) h.2 fun y hy => (List.mem_erase_of_ne (fun e => h.1 (by rw [← e]; exact hy))).mpr (hs y (List.mem_cons_of_mem _ hy))
    rw [List.length_erase_of_mem hx] at this
    have := List.length_pos_of_mem hx
    rw [List.length_cons]
    omega
def lowS : Str := Str.ofString "abcdefghijklmnopqrstuvwxyz"
def upS : Str := Str.ofString "ABCDEFGHIJKLMNOPQRSTUVWXYZ"
theorem lowS_ok : lowS.cps.toList.all lowSign = true ∧ lowS.length = 26 := by decide +kernel
theorem upS_ok : upS.cps.toList.all (fun x => decide (65 ≤ x) && decide (x ≤ 90)) = true ∧ upS.length = 26 := by decide +kernel
def names4 (a b : Int) : List Str := [nameOf a, if b % 2 = 1 then twinS (nameOf a) (b / 2) lowS else nameOf b, Str.ofString "a", Str.ofString "z9"]
def namesOf (a b : Int) : List Str := uniq [Str.ofString "exchange"] (names4 a b)
theorem names4_ok {a b : Int} {z : Str} (h : z ∈ names4 a b) : nameOk z = true := by
  simp only [names4, List.mem_cons, List.not_mem_nil, or_false] at h
  rcases h with rfl | rfl | rfl | rfl
  · exact nameOf_ok a
  · split
    · exact twin_name (nameOf_ok a) lowS_ok.1 (by have := lowS_ok.2; exact Nat.le_of_eq this.symm)
    · exact nameOf_ok b
  · decide +kernel
  · decide +kernel
theorem namesOf_ok {a b : Int} : (∀ z ∈ namesOf a b, nameOk z = true) ∧ (namesOf a b).Nodup ∧ 3 ≤ (namesOf a b).length ∧ (namesOf a b).length ≤ 5 ∧ ∃ r, namesOf a b = Str.ofString "exchange" :: r := by
  have h1 : (namesOf a b).Nodup := uniq_nd _ _ (by simp)
  refine ⟨fun z hz => ?_, h1, ?_, ?_, ?_⟩
  · unfold namesOf at hz
    rw [uniq_mem] at hz
    rcases hz with hz | hz
    · rw [List.mem_singleton.mp hz]; decide +kernel
    · exact names4_ok hz
  · refine nd_sub (M := [Str.ofString "exchange", Str.ofString "a", Str.ofString "z9"]) (by decide +kernel) (fun x hx => ?_)
    unfold namesOf
    rw [uniq_mem]
    simp only [List.mem_cons, List.not_mem_nil, or_false, names4] at hx ⊢
    rcases hx with rfl | rfl | rfl <;> simp
  · exact (uniq_len (names4 a b) [Str.ofString "exchange"]).2
  · obtain ⟨r, h⟩ := uniq_pre (names4 a b) [Str.ofString "exchange"]
    exact ⟨r, h⟩
/-! ### currencies -/
def curs10 (a b : Int) : List Str := [cur3 a, if b % 2 = 1 then twinS (cur3 a) (b / 2) upS else cur3 b, Str.ofString "EUR", Str.ofString "JPY", Str.ofString "USD", Str.ofString "KWD", Str.ofString "CHF", Str.ofString "GBP", Str.ofString "SEK", Str.ofString "EUS"]
def limOf (a : Int) : Nat := if a / 3 % 8 = 3 then 8 else 4
/-- each once, no more than n -/
def uniqN (n : Nat) (acc : List Str) : List Str → List Str
  | [] => acc
  | z :: r => uniqN n (if z ∉ acc ∧ acc.length < n then acc ++ [z] else acc) r
def cursOf (a b : Int) : List Str := uniqN (limOf a) [] (curs10 a b)
theorem uniqN_snoc (n : Nat) : ∀ (L : List Str) (acc : List Str) (z : Str), uniqN n acc (L ++ [z]) = if z ∉ uniqN n acc L ∧ (uniqN n acc L).length < n then uniqN n acc L ++ [z] else uniqN n acc L
  | [], acc, z => rfl
  | x :: r, acc, z => uniqN_snoc n r _ z
theorem uniqN_nd (n : Nat) : ∀ (L acc : List Str), acc.Nodup → (uniqN n acc L).Nodup
  | [], acc, h => h
  | z :: r, acc, h => by
    unfold uniqN
    split
    · rename_i hz
      exact uniqN_nd n r _ (List.nodup_append.mpr ⟨h, by simp, fun a ha b hb e => hz.1 (List.mem_singleton.mp hb ▸ e ▸ ha)⟩)
    · exact uniqN_nd n r acc h
theorem uniqN_sub (n : Nat) : ∀ (L acc : List Str) (x : Str), x ∈ uniqN n acc L → x ∈ acc ∨ x ∈ L
  | [], acc, x, h => .inl h
  | z :: r, acc, x, h => by
    unfold uniqN at h
    rcases uniqN_sub n r _ x h with h | h
    · split at h
      · rcases List.mem_append.mp h with h | h
        · exact .inl h
        · exact .inr (List.mem_singleton.mp h ▸ List.mem_cons_self)
      · exact .inl h
    · exact .inr (List.mem_cons_of_mem _ h)
theorem uniqN_pre (n : Nat) : ∀ (L acc : List Str), ∃ r, uniqN n acc L = acc ++ r
  | [], acc => ⟨[], (List.append_nil _).symm⟩
  | z :: r, acc => by
    unfold uniqN
    split
    · obtain ⟨q, h⟩ := uniqN_pre n r (acc ++ [z])
      exact ⟨[z] ++ q, by rw [h, List.append_assoc]⟩
    · exact uniqN_pre n r acc
theorem uniqN_le (n : Nat) : ∀ (L acc : List Str), acc.length ≤ n → (uniqN n acc L).length ≤ n
  | [], acc, h => h
  | z :: r, acc, h => by
    unfold uniqN
    split
    · rename_i hz
      exact uniqN_le n r _ (by rw [List.length_append, List.length_singleton]; omega)
    · exact uniqN_le n r acc h
/-- either it is full or it has all -/
theorem uniqN_full (n : Nat) : ∀ (L acc : List Str), n ≤ (uniqN n acc L).length ∨ ∀ x ∈ L, x ∈ uniqN n acc L
  | [], acc => .inr fun _ h => absurd h (by simp)
  | z :: r, acc => by
    unfold uniqN
    rcases uniqN_full n r (if z ∉ acc ∧ acc.length < n then acc ++ [z] else acc) with h | h
    · exact .inl h
    · by_cases hl : acc.length < n
      · refine .inr fun x hx => ?_
        rcases List.mem_cons.mp hx with rfl | hx
        · obtain ⟨q, hq⟩ := uniqN_pre n r (if x ∉ acc ∧ acc.length < n then acc ++ [x] else acc)
          rw [hq]
          refine List.mem_append_left _ ?_
          by_cases hm : x ∈ acc
          · rw [if_neg (fun z => z.1 hm)]; exact hm
          · rw [if_pos ⟨hm, hl⟩]; exact List.mem_append_right _ List.mem_cons_self
        · exact h x hx
      · refine .inl ?_
        obtain ⟨q, hq⟩ := uniqN_pre n r (if z ∉ acc ∧ acc.length < n then acc ++ [z] else acc)
        rw [if_neg (fun z => hl z.2)] at hq ⊢
        rw [hq, List.length_append]
        omega
theorem curs10_ok {a b : Int} {z : Str} (h : z ∈ curs10 a b) : curOk z = true := by
  simp only [curs10, List.mem_cons, List.not_mem_nil, or_false] at h
  rcases h with rfl | rfl | rfl | rfl | rfl | rfl | rfl | rfl | rfl | rfl
  · exact cur3_ok a
  · split
    · exact twin_cur (cur3_ok a) upS_ok.1 (by have := upS_ok.2; exact Nat.le_of_eq this.symm)
    · exact cur3_ok b
  all_goals decide +kernel
theorem limOf_le (a : Int) : limOf a = 4 ∨ limOf a = 8 := by
  unfold limOf
  split
  · exact .inr rfl
  · exact .inl rfl
theorem cursOf_ok {a b : Int} : (∀ z ∈ cursOf a b, curOk z = true) ∧ (cursOf a b).Nodup ∧ (cursOf a b).length = limOf a := by
  have h1 : (cursOf a b).Nodup := uniqN_nd _ _ _ (by simp)
  refine ⟨fun z hz => ?_, h1, ?_⟩
  · rcases uniqN_sub _ _ _ z hz with h | h
    · cases h
    · exact curs10_ok h
  · have h2 : (cursOf a b).length ≤ limOf a := uniqN_le _ _ _ (Nat.zero_le _)
    rcases uniqN_full (limOf a) (curs10 a b) [] with h | h
    · exact Nat.le_antisymm h2 h
    · have h3 := nd_sub (M := [Str.ofString "EUR", Str.ofString "JPY", Str.ofString "USD", Str.ofString "KWD", Str.ofString "CHF", Str.ofString "GBP", Str.ofString "SEK", Str.ofString "EUS"]) (N := cursOf a b) (by decide +kernel) (fun x hx => h x (by
        simp only [List.mem_cons, List.not_mem_nil, or_false, curs10] at hx ⊢
        rcases hx with rfl | rfl | rfl | rfl | rfl | rfl | rfl | rfl <;> simp))
      have h4 : 8 ≤ (cursOf a b).length := h3
      rcases limOf_le a with h5 | h5 <;> omega
end My

namespace My
open PySem PySem.Spec PyProof.Rows L2 Evl
/-! ### what holds whatever becomes of G -/
/-- heaps that have all that H has, outside G -/
def Agree (H : Hp) (G : List Addr) (H' : Hp) : Prop := ∀ x o, H x = some o → x ∉ G → H' x = some o
def Safe (H : Hp) (G : List Addr) (P : Hp → Prop) : Prop := ∀ H', Agree H G H' → P H'
theorem Agree.refl {H : Hp} {G : List Addr} : Agree H G H := fun _ _ h _ => h
section
variable {K : PySem.W.Frag} {H H' : Hp} {G G' : List Addr} {P Q : Hp → Prop} {l : Addr} {xs : List V}
theorem Safe.now (h : Safe H G P) : P H := h H .refl
theorem Safe.grow (g : Grow H G H' G') (h : Safe H G P) : Safe H' G' P := fun H2 a => h H2 fun x o hx n => a x o (g.keep x o hx n) fun z => by
  rcases g.new x z with z | z
  · exact n z
  · rw [hx] at z
    cases z
theorem Safe.ex (e : Ex H H') (h : Safe H G P) : Safe H' G P := h.grow (.of_ex e)
theorem Safe.upd {o : HO} (h : Safe H G P) (hl : l ∈ G) : Safe (upd H l o) G P := h.grow (.upd hl)
theorem Safe.mono (h : Safe H G P) (i : ∀ H', P H' → Q H') : Safe H G Q := fun H' a => i H' (h H' a)
theorem Safe.and (h : Safe H G P) (k : Safe H G Q) : Safe H G fun H' => P H' ∧ Q H' := fun H' a => ⟨h H' a, k H' a⟩
/-- with a new one ahead -/
theorem Safe.cons {a : Addr} (h : Safe H G P) (n : H a = none) : Safe H (a :: G) P := fun H' g => h H' fun x o hx nx => g x o hx fun z => by
  rcases List.mem_cons.mp z with rfl | z
  · rw [n] at hx
    cases hx
  · exact nx z
theorem safe_o {o : HO} (h : H l = some o) (n : l ∉ G) : Safe H G fun H' => H' l = some o := fun H' a => a l o h n
theorem safe_l (h : SqL K H l xs) (n : ∀ o, H l = some o → l ∉ G) : Safe H G fun H' => SqL K H' l xs := by
  rcases h with (h | ⟨o, h⟩) | h
  · exact fun H' a => sq_of (a l _ h (n _ h))
  · exact fun H' a => .inl (.inr ⟨o, a l _ h (n _ h)⟩)
  · exact fun H' _ => .inr h
theorem safe_t (h : SqT K H l xs) (n : ∀ o, H l = some o → l ∉ G) : Safe H G fun H' => SqT K H' l xs := by
  rcases h with (h | ⟨o, h⟩) | h
  · exact fun H' a => st_of (a l _ h (n _ h))
  · exact fun H' a => .inl (.inr ⟨o, a l _ h (n _ h)⟩)
  · exact fun H' _ => .inr h
/-- what is new is outside of what there was -/
theorem safe_new {o : HO} (n : H l = none) (e : Ex H H') (h : H' l = some o) (lv : ∀ a ∈ G, ∃ u, H a = some u) : Safe H' G fun H' => H' l = some o :=
  safe_o h fun z => by
    obtain ⟨u, hu⟩ := lv l z
    rw [n] at hu
    cases hu
/-- rows, each safe -/
def SafeAll {α : Type} (H : Hp) (G : List Addr) (P : Addr → α → Hp → Prop) (rs : List Addr) (L : List α) : Prop := Paired (fun r x => Safe H G (P r x)) rs L
theorem SafeAll.grow {α : Type} {P : Addr → α → Hp → Prop} {rs : List Addr} {L : List α} (g : Grow H G H' G') (h : SafeAll H G P rs L) : SafeAll H' G' P rs L := Paired.mapP h fun _ _ t => t.grow g
theorem SafeAll.snoc {α : Type} {P : Addr → α → Hp → Prop} {rs : List Addr} {L : List α} {r : Addr} {x : α} (h : SafeAll H G P rs L) (t : Safe H G (P r x)) : SafeAll H G P (rs ++ [r]) (L ++ [x]) := Paired.snoc h t
theorem SafeAll.now {α : Type} {P : Addr → α → Hp → Prop} {rs : List Addr} {L : List α} (h : SafeAll H G P rs L) : Paired (fun r x => P r x H) rs L := Paired.mapP h fun _ _ t => t.now
end
/-! ### entries and deeds as the laws keep them -/
/-- lines as a tuple of triples, or a list of triples -/
def LinesT (K : PySem.W.Frag) (r : Addr) (L : List Line) (H : Hp) : Prop := ∃ lrs, SqT K H r (lrs.map V.ref) ∧ LinesIn K H lrs L
def entV (e : Ent) (lr : Addr) : List V := [.int e.no, .int e.day, .str e.note, .ref lr, .int e.back]
def EntT (K : PySem.W.Frag) (r : Addr) (e : Ent) (H : Hp) : Prop := ∃ lr, SqT K H r (entV e lr) ∧ LinesT K lr e.lines H
def DeedT (K : PySem.W.Frag) (r : Addr) (d : Deed) (H : Hp) : Prop :=
  match d with
  | .account n => SqT K H r [.str (Str.ofString "account"), .str n]
  | .rate x => SqT K H r [.str (Str.ofString "rate"), .str x.1, .int x.2.1, .int x.2.2.1, .int x.2.2.2]
  | .entry day note lines => ∃ lr, SqT K H r [.str (Str.ofString "entry"), .int day, .str note, .ref lr] ∧ LinesT K lr lines H
  | .change day giver one amount taker other note => SqT K H r [.str (Str.ofString "change"), .int day, .str giver, .str one, .int amount, .str taker, .str other, .str note]
  | .back n day => SqT K H r [.str (Str.ofString "back"), .int n, .int day]
  | .close day => SqT K H r [.str (Str.ofString "close"), .int day]
/-- the book told in plain lists -/
structure PlainS where
  names : List Str
  first : Int
  curs : List Str
  ents : List Ent
  told : List RateRow
  ends : List Int
  backs : List Int
  deeds : List Deed
  most : Int
structure PAddr where
  d : Addr
  n : Addr
  c : Addr
  e : Addr
  t : Addr
  en : Addr
  b : Addr
  dd : Addr
def PAddr.all (a : PAddr) : List Addr := [a.d, a.n, a.c, a.e, a.t, a.en, a.b, a.dd]
/-- what the dict tells -/
structure KeyS (a : PAddr) (X : PlainS) (kvs : List (Key × V)) : Prop where
  names : valV kvs (.inr "names") = some (.ref a.n)
  first : valV kvs (.inr "first") = some (.int X.first)
  curs : valV kvs (.inr "currencies") = some (.ref a.c)
  ents : valV kvs (.inr "entries") = some (.ref a.e)
  told : valV kvs (.inr "told") = some (.ref a.t)
  ends : valV kvs (.inr "ends") = some (.ref a.en)
  backs : valV kvs (.inr "backs") = some (.ref a.b)
  deeds : valV kvs (.inr "deeds") = some (.ref a.dd)
  most : valV kvs (.inr "most") = some (.int X.most)
/-- where it stands; F: what else may change (the book's own) -/
structure PAt (K : PySem.W.Frag) (H : Hp) (F : List Addr) (a : PAddr) (X : PlainS) : Prop where
  d : ∃ kvs, H a.d = some (.dK kvs) ∧ kvs.length ≤ 1000 ∧ KeyS a X kvs
  n : H a.n = some (.lst (X.names.map V.str))
  c : H a.c = some (.lst (X.curs.map V.str))
  e : ∃ rs, H a.e = some (.lst (rs.map V.ref)) ∧ SafeAll H (a.all ++ F) (EntT K) rs X.ents
  t : ∃ rs, H a.t = some (.lst (rs.map V.ref)) ∧ SafeAll H (a.all ++ F) (fun r x H' => SqT K H' r (rowV x)) rs X.told
  en : H a.en = some (.lst (X.ends.map V.int))
  b : H a.b = some (.lst (X.backs.map V.int))
  dd : ∃ rs, H a.dd = some (.lst (rs.map V.ref)) ∧ SafeAll H (a.all ++ F) (DeedT K) rs X.deeds
  nd : a.all.Nodup
  out : ∀ x ∈ a.all, x ∉ F
section
variable {K : PySem.W.Frag} {H H' : Hp} {F F' : List Addr} {a : PAddr} {X : PlainS}
theorem Grow.app {H H' : Hp} {F F' A : List Addr} (g : Grow H F H' F') : Grow H (A ++ F) H' (A ++ F') :=
  ⟨fun x o h n => g.keep x o h fun z => n (List.mem_append_right _ z), fun x h => by
    rcases List.mem_append.mp h with h | h
    · exact .inl (List.mem_append_left _ h)
    · rcases g.new x h with z | z
      · exact .inl (List.mem_append_right _ z)
      · exact .inr z⟩
theorem Grow.appR {H H' : Hp} {A F : List Addr} (g : Grow H A H' A) : Grow H (A ++ F) H' (A ++ F) :=
  ⟨fun x o h n => g.keep x o h fun z => n (List.mem_append_left _ z), fun x h => by
    rcases List.mem_append.mp h with h | h
    · exact .inl (List.mem_append_left _ h)
    · exact .inl (List.mem_append_right _ h)⟩
theorem PAt.live (p : PAt K H F a X) : ∀ x ∈ a.all, ∃ o, H x = some o := by
  intro x hx
  simp only [PAddr.all, List.mem_cons, List.not_mem_nil, or_false] at hx
  rcases hx with rfl | rfl | rfl | rfl | rfl | rfl | rfl | rfl
  · obtain ⟨_, h, _⟩ := p.d; exact ⟨_, h⟩
  · exact ⟨_, p.n⟩
  · exact ⟨_, p.c⟩
  · obtain ⟨_, h, _⟩ := p.e; exact ⟨_, h⟩
  · obtain ⟨_, h, _⟩ := p.t; exact ⟨_, h⟩
  · exact ⟨_, p.en⟩
  · exact ⟨_, p.b⟩
  · obtain ⟨_, h, _⟩ := p.dd; exact ⟨_, h⟩
/-- something is done that changes F alone -/
theorem PAt.grow (p : PAt K H F a X) (g : Grow H F H' F') : PAt K H' F' a X := by
  have k : ∀ x ∈ a.all, ∀ o, H x = some o → H' x = some o := fun x hx o h => g.keep x o h (p.out x hx)
  have m : ∀ x ∈ a.all, x ∉ F' := fun x hx z => by
    rcases g.new x z with z | z
    · exact p.out x hx z
    · obtain ⟨o, h⟩ := p.live x hx
      rw [h] at z
      cases z
  obtain ⟨kvs, d1, d2, d3⟩ := p.d
  obtain ⟨re, e1, e2⟩ := p.e
  obtain ⟨rt, t1, t2⟩ := p.t
  obtain ⟨rd, r1, r2⟩ := p.dd
  exact ⟨⟨kvs, k _ (by simp [PAddr.all]) _ d1, d2, d3⟩, k _ (by simp [PAddr.all]) _ p.n, k _ (by simp [PAddr.all]) _ p.c, ⟨re, k _ (by simp [PAddr.all]) _ e1, e2.grow g.app⟩,
    ⟨rt, k _ (by simp [PAddr.all]) _ t1, t2.grow g.app⟩, k _ (by simp [PAddr.all]) _ p.en, k _ (by simp [PAddr.all]) _ p.b, ⟨rd, k _ (by simp [PAddr.all]) _ r1, r2.grow g.app⟩, p.nd, m⟩
theorem PAt.ex (p : PAt K H F a X) (e : Ex H H') : PAt K H' F a X := p.grow (.of_ex e)
theorem PAddr.ne (h : a.all.Nodup) : (∀ x y : Nat, x < 8 → y < 8 → x ≠ y → a.all.getD x a.d ≠ a.all.getD y a.d) := by
  intro x y hx hy hn e
  have hl : a.all.length = 8 := rfl
  rw [List.getD_eq_getElem?_getD, List.getD_eq_getElem?_getD, List.getElem?_eq_getElem (by omega), List.getElem?_eq_getElem (by omega)] at e
  exact hn ((List.getElem_inj h).mp e)
theorem PAt.add_n (p : PAt K H F a X) (z : Str) : PAt K (upd H a.n (.lst (X.names.map V.str ++ [V.str z]))) F a { X with names := X.names ++ [z] } := by
  obtain ⟨kvs, d1, d2, d3⟩ := p.d
  obtain ⟨re, e1, e2⟩ := p.e
  obtain ⟨rt, t1, t2⟩ := p.t
  obtain ⟨rd, r1, r2⟩ := p.dd
  have G : Grow H (a.all ++ F) (upd H a.n (.lst (X.names.map V.str ++ [V.str z]))) (a.all ++ F) := .upd (List.mem_append_left _ (by simp [PAddr.all]))
  exact ⟨⟨kvs, by rw [(upd_ne (show a.d ≠ a.n from PAddr.ne p.nd 0 1 (by decide) (by decide) (by decide)))]; exact d1, d2, ⟨d3.names, d3.first, d3.curs, d3.ents, d3.told, d3.ends, d3.backs, d3.deeds, d3.most⟩⟩,
    by rw [upd_same, List.map_append]; rfl,
    by rw [(upd_ne (show a.c ≠ a.n from PAddr.ne p.nd 2 1 (by decide) (by decide) (by decide)))]; exact p.c,
    ⟨re, by rw [(upd_ne (show a.e ≠ a.n from PAddr.ne p.nd 3 1 (by decide) (by decide) (by decide)))]; exact e1, e2.grow G⟩,
    ⟨rt, by rw [(upd_ne (show a.t ≠ a.n from PAddr.ne p.nd 4 1 (by decide) (by decide) (by decide)))]; exact t1, t2.grow G⟩,
    by rw [(upd_ne (show a.en ≠ a.n from PAddr.ne p.nd 5 1 (by decide) (by decide) (by decide)))]; exact p.en,
    by rw [(upd_ne (show a.b ≠ a.n from PAddr.ne p.nd 6 1 (by decide) (by decide) (by decide)))]; exact p.b,
    ⟨rd, by rw [(upd_ne (show a.dd ≠ a.n from PAddr.ne p.nd 7 1 (by decide) (by decide) (by decide)))]; exact r1, r2.grow G⟩,
    p.nd, p.out⟩
theorem PAt.add_en (p : PAt K H F a X) (z : Int) : PAt K (upd H a.en (.lst (X.ends.map V.int ++ [V.int z]))) F a { X with ends := X.ends ++ [z] } := by
  obtain ⟨kvs, d1, d2, d3⟩ := p.d
  obtain ⟨re, e1, e2⟩ := p.e
  obtain ⟨rt, t1, t2⟩ := p.t
  obtain ⟨rd, r1, r2⟩ := p.dd
  have G : Grow H (a.all ++ F) (upd H a.en (.lst (X.ends.map V.int ++ [V.int z]))) (a.all ++ F) := .upd (List.mem_append_left _ (by simp [PAddr.all]))
  exact ⟨⟨kvs, by rw [(upd_ne (show a.d ≠ a.en from PAddr.ne p.nd 0 5 (by decide) (by decide) (by decide)))]; exact d1, d2, ⟨d3.names, d3.first, d3.curs, d3.ents, d3.told, d3.ends, d3.backs, d3.deeds, d3.most⟩⟩,
    by rw [(upd_ne (show a.n ≠ a.en from PAddr.ne p.nd 1 5 (by decide) (by decide) (by decide)))]; exact p.n,
    by rw [(upd_ne (show a.c ≠ a.en from PAddr.ne p.nd 2 5 (by decide) (by decide) (by decide)))]; exact p.c,
    ⟨re, by rw [(upd_ne (show a.e ≠ a.en from PAddr.ne p.nd 3 5 (by decide) (by decide) (by decide)))]; exact e1, e2.grow G⟩,
    ⟨rt, by rw [(upd_ne (show a.t ≠ a.en from PAddr.ne p.nd 4 5 (by decide) (by decide) (by decide)))]; exact t1, t2.grow G⟩,
    by rw [upd_same, List.map_append]; rfl,
    by rw [(upd_ne (show a.b ≠ a.en from PAddr.ne p.nd 6 5 (by decide) (by decide) (by decide)))]; exact p.b,
    ⟨rd, by rw [(upd_ne (show a.dd ≠ a.en from PAddr.ne p.nd 7 5 (by decide) (by decide) (by decide)))]; exact r1, r2.grow G⟩,
    p.nd, p.out⟩
theorem PAt.add_b (p : PAt K H F a X) (z : Int) : PAt K (upd H a.b (.lst (X.backs.map V.int ++ [V.int z]))) F a { X with backs := X.backs ++ [z] } := by
  obtain ⟨kvs, d1, d2, d3⟩ := p.d
  obtain ⟨re, e1, e2⟩ := p.e
  obtain ⟨rt, t1, t2⟩ := p.t
  obtain ⟨rd, r1, r2⟩ := p.dd
  have G : Grow H (a.all ++ F) (upd H a.b (.lst (X.backs.map V.int ++ [V.int z]))) (a.all ++ F) := .upd (List.mem_append_left _ (by simp [PAddr.all]))
  exact ⟨⟨kvs, by rw [(upd_ne (show a.d ≠ a.b from PAddr.ne p.nd 0 6 (by decide) (by decide) (by decide)))]; exact d1, d2, ⟨d3.names, d3.first, d3.curs, d3.ents, d3.told, d3.ends, d3.backs, d3.deeds, d3.most⟩⟩,
    by rw [(upd_ne (show a.n ≠ a.b from PAddr.ne p.nd 1 6 (by decide) (by decide) (by decide)))]; exact p.n,
    by rw [(upd_ne (show a.c ≠ a.b from PAddr.ne p.nd 2 6 (by decide) (by decide) (by decide)))]; exact p.c,
    ⟨re, by rw [(upd_ne (show a.e ≠ a.b from PAddr.ne p.nd 3 6 (by decide) (by decide) (by decide)))]; exact e1, e2.grow G⟩,
    ⟨rt, by rw [(upd_ne (show a.t ≠ a.b from PAddr.ne p.nd 4 6 (by decide) (by decide) (by decide)))]; exact t1, t2.grow G⟩,
    by rw [(upd_ne (show a.en ≠ a.b from PAddr.ne p.nd 5 6 (by decide) (by decide) (by decide)))]; exact p.en,
    by rw [upd_same, List.map_append]; rfl,
    ⟨rd, by rw [(upd_ne (show a.dd ≠ a.b from PAddr.ne p.nd 7 6 (by decide) (by decide) (by decide)))]; exact r1, r2.grow G⟩,
    p.nd, p.out⟩
theorem PAt.add_e (p : PAt K H F a X) {rs : List Addr} {r : Addr} (z : Ent) (hrs : H a.e = some (.lst (rs.map V.ref))) (hz : Safe H (a.all ++ F) (EntT K r z)) : PAt K (upd H a.e (.lst (rs.map V.ref ++ [.ref r]))) F a { X with ents := X.ents ++ [z] } := by
  obtain ⟨kvs, d1, d2, d3⟩ := p.d
  obtain ⟨re, e1, e2⟩ := p.e
  obtain ⟨rt, t1, t2⟩ := p.t
  obtain ⟨rd, r1, r2⟩ := p.dd
  have G : Grow H (a.all ++ F) (upd H a.e (.lst (rs.map V.ref ++ [.ref r]))) (a.all ++ F) := .upd (List.mem_append_left _ (by simp [PAddr.all]))
  have hj := e1.symm.trans hrs
  have hk : (re.map V.ref : List V) = rs.map V.ref := by injection hj with hj; injection hj
  rw [← hk] at G ⊢
  exact ⟨⟨kvs, by rw [(upd_ne (show a.d ≠ a.e from PAddr.ne p.nd 0 3 (by decide) (by decide) (by decide)))]; exact d1, d2, ⟨d3.names, d3.first, d3.curs, d3.ents, d3.told, d3.ends, d3.backs, d3.deeds, d3.most⟩⟩,
    by rw [(upd_ne (show a.n ≠ a.e from PAddr.ne p.nd 1 3 (by decide) (by decide) (by decide)))]; exact p.n,
    by rw [(upd_ne (show a.c ≠ a.e from PAddr.ne p.nd 2 3 (by decide) (by decide) (by decide)))]; exact p.c,
    ⟨re ++ [r], by rw [upd_same, List.map_append]; rfl, (e2.grow G).snoc (hz.grow G)⟩,
    ⟨rt, by rw [(upd_ne (show a.t ≠ a.e from PAddr.ne p.nd 4 3 (by decide) (by decide) (by decide)))]; exact t1, t2.grow G⟩,
    by rw [(upd_ne (show a.en ≠ a.e from PAddr.ne p.nd 5 3 (by decide) (by decide) (by decide)))]; exact p.en,
    by rw [(upd_ne (show a.b ≠ a.e from PAddr.ne p.nd 6 3 (by decide) (by decide) (by decide)))]; exact p.b,
    ⟨rd, by rw [(upd_ne (show a.dd ≠ a.e from PAddr.ne p.nd 7 3 (by decide) (by decide) (by decide)))]; exact r1, r2.grow G⟩,
    p.nd, p.out⟩
theorem PAt.add_t (p : PAt K H F a X) {rs : List Addr} {r : Addr} (z : RateRow) (hrs : H a.t = some (.lst (rs.map V.ref))) (hz : Safe H (a.all ++ F) (fun H' => SqT K H' r (rowV z))) : PAt K (upd H a.t (.lst (rs.map V.ref ++ [.ref r]))) F a { X with told := X.told ++ [z] } := by
  obtain ⟨kvs, d1, d2, d3⟩ := p.d
  obtain ⟨re, e1, e2⟩ := p.e
  obtain ⟨rt, t1, t2⟩ := p.t
  obtain ⟨rd, r1, r2⟩ := p.dd
  have G : Grow H (a.all ++ F) (upd H a.t (.lst (rs.map V.ref ++ [.ref r]))) (a.all ++ F) := .upd (List.mem_append_left _ (by simp [PAddr.all]))
  have hj := t1.symm.trans hrs
  have hk : (rt.map V.ref : List V) = rs.map V.ref := by injection hj with hj; injection hj
  rw [← hk] at G ⊢
  exact ⟨⟨kvs, by rw [(upd_ne (show a.d ≠ a.t from PAddr.ne p.nd 0 4 (by decide) (by decide) (by decide)))]; exact d1, d2, ⟨d3.names, d3.first, d3.curs, d3.ents, d3.told, d3.ends, d3.backs, d3.deeds, d3.most⟩⟩,
    by rw [(upd_ne (show a.n ≠ a.t from PAddr.ne p.nd 1 4 (by decide) (by decide) (by decide)))]; exact p.n,
    by rw [(upd_ne (show a.c ≠ a.t from PAddr.ne p.nd 2 4 (by decide) (by decide) (by decide)))]; exact p.c,
    ⟨re, by rw [(upd_ne (show a.e ≠ a.t from PAddr.ne p.nd 3 4 (by decide) (by decide) (by decide)))]; exact e1, e2.grow G⟩,
    ⟨rt ++ [r], by rw [upd_same, List.map_append]; rfl, (t2.grow G).snoc (hz.grow G)⟩,
    by rw [(upd_ne (show a.en ≠ a.t from PAddr.ne p.nd 5 4 (by decide) (by decide) (by decide)))]; exact p.en,
    by rw [(upd_ne (show a.b ≠ a.t from PAddr.ne p.nd 6 4 (by decide) (by decide) (by decide)))]; exact p.b,
    ⟨rd, by rw [(upd_ne (show a.dd ≠ a.t from PAddr.ne p.nd 7 4 (by decide) (by decide) (by decide)))]; exact r1, r2.grow G⟩,
    p.nd, p.out⟩
theorem PAt.add_dd (p : PAt K H F a X) {rs : List Addr} {r : Addr} (z : Deed) (hrs : H a.dd = some (.lst (rs.map V.ref))) (hz : Safe H (a.all ++ F) (DeedT K r z)) : PAt K (upd H a.dd (.lst (rs.map V.ref ++ [.ref r]))) F a { X with deeds := X.deeds ++ [z] } := by
  obtain ⟨kvs, d1, d2, d3⟩ := p.d
  obtain ⟨re, e1, e2⟩ := p.e
  obtain ⟨rt, t1, t2⟩ := p.t
  obtain ⟨rd, r1, r2⟩ := p.dd
  have G : Grow H (a.all ++ F) (upd H a.dd (.lst (rs.map V.ref ++ [.ref r]))) (a.all ++ F) := .upd (List.mem_append_left _ (by simp [PAddr.all]))
  have hj := r1.symm.trans hrs
  have hk : (rd.map V.ref : List V) = rs.map V.ref := by injection hj with hj; injection hj
  rw [← hk] at G ⊢
  exact ⟨⟨kvs, by rw [(upd_ne (show a.d ≠ a.dd from PAddr.ne p.nd 0 7 (by decide) (by decide) (by decide)))]; exact d1, d2, ⟨d3.names, d3.first, d3.curs, d3.ents, d3.told, d3.ends, d3.backs, d3.deeds, d3.most⟩⟩,
    by rw [(upd_ne (show a.n ≠ a.dd from PAddr.ne p.nd 1 7 (by decide) (by decide) (by decide)))]; exact p.n,
    by rw [(upd_ne (show a.c ≠ a.dd from PAddr.ne p.nd 2 7 (by decide) (by decide) (by decide)))]; exact p.c,
    ⟨re, by rw [(upd_ne (show a.e ≠ a.dd from PAddr.ne p.nd 3 7 (by decide) (by decide) (by decide)))]; exact e1, e2.grow G⟩,
    ⟨rt, by rw [(upd_ne (show a.t ≠ a.dd from PAddr.ne p.nd 4 7 (by decide) (by decide) (by decide)))]; exact t1, t2.grow G⟩,
    by rw [(upd_ne (show a.en ≠ a.dd from PAddr.ne p.nd 5 7 (by decide) (by decide) (by decide)))]; exact p.en,
    by rw [(upd_ne (show a.b ≠ a.dd from PAddr.ne p.nd 6 7 (by decide) (by decide) (by decide)))]; exact p.b,
    ⟨rd ++ [r], by rw [upd_same, List.map_append]; rfl, (r2.grow G).snoc (hz.grow G)⟩,
    p.nd, p.out⟩
end
/-! ### reading it -/
section
variable {K : PySem.W.Frag} {H H' : Hp} {F F' : List Addr} {a : PAddr} {X : PlainS} {σ : L2.St} {td : TE}
theorem ev_dg {z : Str} {kvs : List (Key × V)} {d : Addr} {v : V} (h : Ev td σ H (.ref d)) (hd : H d = some (.dK kvs)) (hv : valV kvs (.inr z) = some v) : Ev (tDGet td (tC (.str z))) σ H v := fun H1 e Q q =>
  h H1 e _ fun H2 e2 => ⟨d, v, rfl, .inl ⟨kvs, .inr z, .inl (e2 _ _ (e _ _ hd)), rfl, hv.symm⟩, q H2 e2⟩
theorem PAt.g_n (p : PAt K H F a X) (h : Ev td σ H (.ref a.d)) : Ev (tDGet td (tC (.str "names"))) σ H (.ref a.n) := by obtain ⟨kvs, d1, _, d3⟩ := p.d; exact ev_dg h d1 d3.names
theorem PAt.g_first (p : PAt K H F a X) (h : Ev td σ H (.ref a.d)) : Ev (tDGet td (tC (.str "first"))) σ H (.int X.first) := by obtain ⟨kvs, d1, _, d3⟩ := p.d; exact ev_dg h d1 d3.first
theorem PAt.g_c (p : PAt K H F a X) (h : Ev td σ H (.ref a.d)) : Ev (tDGet td (tC (.str "currencies"))) σ H (.ref a.c) := by obtain ⟨kvs, d1, _, d3⟩ := p.d; exact ev_dg h d1 d3.curs
theorem PAt.g_e (p : PAt K H F a X) (h : Ev td σ H (.ref a.d)) : Ev (tDGet td (tC (.str "entries"))) σ H (.ref a.e) := by obtain ⟨kvs, d1, _, d3⟩ := p.d; exact ev_dg h d1 d3.ents
theorem PAt.g_t (p : PAt K H F a X) (h : Ev td σ H (.ref a.d)) : Ev (tDGet td (tC (.str "told"))) σ H (.ref a.t) := by obtain ⟨kvs, d1, _, d3⟩ := p.d; exact ev_dg h d1 d3.told
theorem PAt.g_en (p : PAt K H F a X) (h : Ev td σ H (.ref a.d)) : Ev (tDGet td (tC (.str "ends"))) σ H (.ref a.en) := by obtain ⟨kvs, d1, _, d3⟩ := p.d; exact ev_dg h d1 d3.ends
theorem PAt.g_b (p : PAt K H F a X) (h : Ev td σ H (.ref a.d)) : Ev (tDGet td (tC (.str "backs"))) σ H (.ref a.b) := by obtain ⟨kvs, d1, _, d3⟩ := p.d; exact ev_dg h d1 d3.backs
theorem PAt.g_dd (p : PAt K H F a X) (h : Ev td σ H (.ref a.d)) : Ev (tDGet td (tC (.str "deeds"))) σ H (.ref a.dd) := by obtain ⟨kvs, d1, _, d3⟩ := p.d; exact ev_dg h d1 d3.deeds
theorem PAt.g_most (p : PAt K H F a X) (h : Ev td σ H (.ref a.d)) : Ev (tDGet td (tC (.str "most"))) σ H (.int X.most) := by obtain ⟨kvs, d1, _, d3⟩ := p.d; exact ev_dg h d1 d3.most
end
def PlainS.closed (X : PlainS) : Int := X.ends.getLast?.getD (-1)
/-- a day from the first open one on -/
def PlainS.day (X : PlainS) (c : Int) : Int := if c % 3 = 0 then X.closed + 1 + c / 3 % (99999 - X.closed) else min 99999 (X.closed + 1 + c / 3 % 7)
theorem PlainS.day_ok {X : PlainS} {c : Int} (h0 : -1 ≤ X.closed) (h1 : X.closed < 99999) : X.closed < X.day c ∧ X.day c ≤ 99999 := by
  unfold PlainS.day
  have h2 := cell_mod (x := c / 3) (m := 99999 - X.closed) (by omega)
  have h3 := cell_mod (x := c / 3) (m := 7) (by decide)
  split <;> omega
def amtOf (c : Int) : Int := 1 + c / 4 % (if c % 4 = 0 then 4 * 10 ^ (29 : Int).toNat else 500)
theorem p29 : (4 * 10 ^ (29 : Int).toNat : Int) = 400000000000000000000000000000 := by decide
theorem amtOf_ok (c : Int) : 1 ≤ amtOf c ∧ amtOf c ≤ 400000000000000000000000000000 := by
  unfold amtOf
  rw [p29]
  split
  · have := cell_mod (x := c / 4) (m := 400000000000000000000000000000) (by decide)
    omega
  · have := cell_mod (x := c / 4) (m := 500) (by decide)
    omega
theorem atI_end {ns : List Int} : atI ([V.int (-1)] ++ ns.map V.int) (-1) = some (.int (ns.getLast?.getD (-1))) := by
  cases h : ns.getLast? with
  | none =>
    have := List.getLast?_eq_none_iff.mp h
    subst this
    rfl
  | some z =>
    obtain ⟨xs, rfl⟩ := List.getLast?_eq_some_iff.mp h
    rw [List.map_append, ← List.append_assoc]
    exact atI_last _ _
def fAmt : List V → Option V
  | [.int c] => some (.int (amtOf c))
  | _ => none
theorem fAmt_inv {vs : List V} {v : V} (h : fAmt vs = some v) : ∃ c, vs = [.int c] ∧ v = .int (amtOf c) := by
  unfold fAmt at h
  split at h
  · cases h; exact ⟨_, rfl, rfl⟩
  · cases h
/-! ### lines as the laws make them -/
def PlainS.nm (X : PlainS) (i : Int) : Str := X.names.getD (i % (X.names.length : Int)).toNat (Str.ofString "exchange")
def PlainS.cu (X : PlainS) (i : Int) : Str := X.curs.getD (i % (X.curs.length : Int)).toNat (Str.ofString "EUR")
def PlainS.one (big : Int) (k : Nat) : Int := amtOf (big + 77 * (k : Int))
def PlainS.two (big pick : Int) (k : Nat) : Int := amtOf (big / 3 + (k : Int)) * ((pick / 3 + 5 * (k : Int)) / 3 % 3 - 1)
def PlainS.three (X : PlainS) (big pick : Int) (k : Nat) : List Line :=
  [(X.nm ((pick / 3 + 5 * (k : Int)) / 9), X.cu (pick / 3 + 5 * (k : Int)), PlainS.one big k),
   (X.nm ((pick / 3 + 5 * (k : Int)) / 5), X.cu (pick / 3 + 5 * (k : Int)), 0 - PlainS.one big k - PlainS.two big pick k),
   (X.nm ((pick / 3 + 5 * (k : Int)) / 7), X.cu (pick / 3 + 5 * (k : Int)), PlainS.two big pick k)]
def PlainS.allP (X : PlainS) (big pick : Int) (i : Nat) : List Line := (List.range i).flatMap (X.three big pick)
def manyOf (pick : Int) : Int := if pick % 16 = 7 then 1 + pick / 16 % 20 else 1 + pick % 3
def PlainS.lines (X : PlainS) (big pick : Int) : List Line := (X.allP big pick (manyOf pick).toNat).filter fun l => decide (l.2.2 ≠ 0)
theorem manyOf_ok (p : Int) : 1 ≤ manyOf p ∧ manyOf p ≤ 20 := by
  unfold manyOf
  have h1 := cell_mod (x := p / 16) (m := 20) (by decide)
  have h2 := cell_mod (x := p) (m := 3) (by decide)
  split <;> omega
theorem PlainS.allP_succ (X : PlainS) (big pick : Int) (i : Nat) : X.allP big pick (i + 1) = X.allP big pick i ++ X.three big pick i := by
  unfold PlainS.allP
  rw [List.range_succ, List.flatMap_append, List.flatMap_cons, List.flatMap_nil, List.append_nil]
theorem PlainS.allP_len (X : PlainS) (big pick : Int) : ∀ i : Nat, (X.allP big pick i).length = 3 * i
  | 0 => rfl
  | i + 1 => by
    rw [PlainS.allP_succ, List.length_append, PlainS.allP_len X big pick i]
    show 3 * i + 3 = 3 * (i + 1)
    omega
theorem at_mod {α : Type} {zs : List α} (d : α) (i : Int) (h : 0 < zs.length) (f : α → V) : atI (zs.map f) (i % (zs.length : Int)) = some (f (zs.getD (i % (zs.length : Int)).toNat d)) := by
  have h1 := cell_mod (x := i) (m := (zs.length : Int)) (by omega)
  have e := at_list (zs := zs.map f) (f d) h1.1 (by rw [List.length_map]; exact h1.2)
  rw [e]
  have hj : (i % (zs.length : Int)).toNat < zs.length := by omega
  rw [List.getD_eq_getElem?_getD, List.getD_eq_getElem?_getD, List.getElem?_map, List.getElem?_eq_getElem hj]
  rfl
theorem filter_pair {α β : Type} {F : α → β → Prop} (p : β → Bool) : ∀ {rs : List α} {L : List β}, Paired F rs L → Paired F (((rs.zip L).filter fun z => p z.2).map (·.1)) (L.filter p)
  | _, _, .nil => .nil
  | _, _, .cons (b := y) a r => by
    rw [List.zip_cons_cons, List.filter_cons, List.filter_cons]
    cases h : p y with
    | true => exact .cons a (filter_pair p r)
    | false => exact filter_pair p r
theorem zip_get {α β : Type} {rs : List α} {L : List β} {i : Nat} {r : α} {y : β} (d : α × β) (h1 : rs[i]? = some r) (h2 : L[i]? = some y) : (rs.zip L).getD i d = (r, y) :=
  getD_of (List.getElem?_zip_eq_some.mpr ⟨h1, h2⟩)
theorem zip_fst_mem {α β : Type} {rs : List α} {L : List β} {p : α × β → Bool} {x : α} (h : x ∈ ((rs.zip L).filter p).map (·.1)) : x ∈ rs := by
  obtain ⟨z, h1, rfl⟩ := List.mem_map.mp h
  exact (List.of_mem_zip (List.mem_filter.mp h1).1).1
theorem ls_app {K : PySem.W.Frag} {H0 H H1 : Hp} {f0 r : Addr} {rs : List Addr} {L : List Line} {l : Line} (e : Ex H0 H) (nf : H0 f0 = none) (h : H f0 = some (.lst (rs.map V.ref))) (fr : ∀ r ∈ rs, H0 r = none) (LI : LinesIn K H rs L)
    (n : H r = none) (e1 : Ex H H1) (h1 : H1 r = some (.tup (lineV l))) : Ex H0 (upd H1 f0 (.lst (rs.map V.ref ++ [.ref r]))) ∧ upd H1 f0 (.lst (rs.map V.ref ++ [.ref r])) f0 = some (.lst ((rs ++ [r]).map V.ref)) ∧
      (∀ x ∈ rs ++ [r], H0 x = none) ∧ LinesIn K (upd H1 f0 (.lst (rs.map V.ref ++ [.ref r]))) (rs ++ [r]) (L ++ [l]) := by
  have h2 := e1 _ _ h
  refine ⟨Ex.mut (e.trans e1) nf, by rw [upd_same, List.map_append]; rfl, fun x hx => ?_, LinesIn.mut h2 ((LI.ex e1).snoc (st_of h1))⟩
  rcases List.mem_append.mp hx with hx | hx
  · exact fr x hx
  · rw [List.mem_singleton.mp hx]
    exact fresh_back e n
theorem dueR_snoc' (L : List RateRow) (r : RateRow) (c : Str) (d : Int) : dueR (L ++ [r]) c d = dueStep c d (dueR L c d) r := by
  unfold dueR
  rw [List.foldl_append]
  rfl
def PlainS.rate (X : PlainS) (c : Str) (d : Int) : Option (Int × Int) := if c = X.curs.getD 0 (Str.ofString "EUR") then some (1, 1) else (dueR X.told c d).map fun r => r.2.2
theorem safe_all {α : Type} {H : Hp} {G : List Addr} {P : Addr → α → Hp → Prop} {rs : List Addr} {L : List α} (h : SafeAll H G P rs L) : Safe H G fun H' => Paired (fun r x => P r x H') rs L :=
  fun H' a => Paired.mapP h fun _ _ t => t H' a
end My

namespace My
open PySem PySem.Spec PyProof.Rows L2 Evl
/-! ### dicts by keys -/
theorem valV_inr {β : Type} {L : List β} {key : β → Str} {f : β → V} {n : Str} : valV (L.map fun q => ((.inr (key q) : Key), f q)) (.inr n) = (L.find? fun q => decide (key q = n)).map f := by
  unfold valV
  rw [List.find?_map, Option.map_map]
  congr 1
  congr 1
  funext q
  show decide ((Sum.inr (key q) : Key) = Sum.inr n) = decide (key q = n)
  by_cases e : key q = n
  · rw [decide_eq_true e, decide_eq_true (congrArg Sum.inr e)]
  · rw [decide_eq_false e, decide_eq_false fun z => e (Sum.inr.inj z)]
theorem valV_inl {β : Type} {L : List β} {key : β → Int} {f : β → V} {n : Int} : valV (L.map fun q => ((.inl (key q) : Key), f q)) (.inl n) = (L.find? fun q => decide (key q = n)).map f := by
  unfold valV
  rw [List.find?_map, Option.map_map]
  congr 1
  congr 1
  funext q
  show decide ((Sum.inl (key q) : Key) = Sum.inl n) = decide (key q = n)
  by_cases e : key q = n
  · rw [decide_eq_true e, decide_eq_true (congrArg Sum.inl e)]
  · rw [decide_eq_false e, decide_eq_false fun z => e (Sum.inl.inj z)]
theorem find_some {β κ : Type} [DecidableEq κ] {L : List β} {key : β → κ} {n : κ} (h : n ∈ L.map key) : ∃ q, L.find? (fun q => decide (key q = n)) = some q ∧ q ∈ L ∧ key q = n := by
  cases e : L.find? (fun q => decide (key q = n)) with
  | none =>
    obtain ⟨q, hq, hk⟩ := List.mem_map.mp h
    have := List.find?_eq_none.mp e q hq
    exact absurd (decide_eq_true hk) this
  | some q => exact ⟨q, rfl, List.mem_of_find?_eq_some e, of_decide_eq_true (List.find?_some (p := fun q => decide (key q = n)) e)⟩
theorem find_none {β κ : Type} [DecidableEq κ] {L : List β} {key : β → κ} {n : κ} (h : n ∉ L.map key) : L.find? (fun q => decide (key q = n)) = none := by
  rw [List.find?_eq_none]
  intro q hq hd
  exact h (List.mem_map.mpr ⟨q, hq, of_decide_eq_true hd⟩)
/-! ### the moves of an account in a currency -/
abbrev Move := Int × Int × Int
def mvV (m : Move) : List V := [.int m.1, .int m.2.1, .int m.2.2]
def movesL (day no : Int) (L : List Line) (a c : Str) : List Move := (L.filter fun l => decide (l.1 = a ∧ l.2.1 = c)).map fun l => (day, no, l.2.2)
def movesOf (ents : List Ent) (a c : Str) : List Move := ents.flatMap fun e => movesL e.day e.no e.lines a c
theorem movesOf_snoc (ents : List Ent) (e : Ent) (a c : Str) : movesOf (ents ++ [e]) a c = movesOf ents a c ++ movesL e.day e.no e.lines a c := by
  unfold movesOf
  rw [List.flatMap_append]
  simp
theorem movesL_snoc (day no : Int) (L : List Line) (l : Line) (a c : Str) : movesL day no (L ++ [l]) a c = movesL day no L a c ++ if l.1 = a ∧ l.2.1 = c then [(day, no, l.2.2)] else [] := by
  unfold movesL
  rw [List.filter_append, List.map_append]
  congr 1
  by_cases e : l.1 = a ∧ l.2.1 = c
  · rw [if_pos e, List.filter_cons, if_pos (decide_eq_true e)]
    rfl
  · rw [if_neg e, List.filter_cons, if_neg (by rw [decide_eq_false e]; decide)]
    rfl
/-- how many lines there are -/
def total (ents : List Ent) : Nat := (ents.map fun e => e.lines.length).sum
/-- told last for a day -/
def lastOn (told : List RateRow) (c : Str) (d : Int) : Option (Int × Int) := ((told.filter fun r => decide (r.1 = c ∧ r.2.1 = d)).getLast?).map fun r => r.2.2
theorem lastOn_snoc (told : List RateRow) (r : RateRow) (c : Str) (d : Int) : lastOn (told ++ [r]) c d = if r.1 = c ∧ r.2.1 = d then some r.2.2 else lastOn told c d := by
  unfold lastOn
  rw [List.filter_append]
  by_cases e : r.1 = c ∧ r.2.1 = d
  · rw [if_pos e, List.filter_cons, if_pos (decide_eq_true e)]
    simp
  · rw [if_neg e, List.filter_cons, if_neg (by rw [decide_eq_false e]; decide)]
    simp
/-! ### the book on the heap -/
abbrev AccA := Str × Addr × List (Str × Addr)
abbrev RatA := Str × Addr × List (Int × Addr)
structure BkA where
  dx : Addr
  pa : Addr
  pr : Addr
  pe : Addr
  pt : Addr
  pn : Addr
  pd : Addr
  ac : List AccA
  rd : List RatA
  er : List Addr
  dr : List Addr
  tk : List Int
def accAll (ac : List AccA) : List Addr := ac.flatMap fun q => q.2.1 :: q.2.2.map (·.2)
def BkA.own (b : BkA) (p : Addr) : List Addr := p :: b.dx :: b.pa :: b.pr :: b.pe :: b.pt :: b.pn :: b.pd :: (b.rd.map (·.2.1) ++ accAll b.ac)
def BkA.all (b : BkA) (p : Addr) (A : Ad) : List Addr := b.own p ++ A.tl.map (·.2)
def BkA.flds (b : BkA) (home : Str) : List (Str × V) := [("home", .str home), ("_accounts", .ref b.pa), ("_rates", .ref b.pr), ("_entries", .ref b.pe), ("_taken_back", .ref b.pt), ("_ends", .ref b.pn), ("_deeds", .ref b.pd)]
section
variable (K : PySem.W.Frag) (H : Hp)
def CurAt (a : Addr) (L : List Move) : Prop := ∃ rs, H a = some (.lst (rs.map V.ref)) ∧ Paired (fun r m => SqT K H r (mvV m)) rs L
structure AccAt (ents : List Ent) (nm : Str) (a : Addr) (mv : List (Str × Addr)) : Prop where
  d : H a = some (.dK (mv.map fun q => (.inr q.1, .ref q.2)))
  nd : (mv.map (·.1)).Nodup
  has : ∀ c, movesOf ents nm c ≠ [] → c ∈ mv.map (·.1)
  each : ∀ q ∈ mv, CurAt K H q.2 (movesOf ents nm q.1) ∧ movesOf ents nm q.1 ≠ []
  len : mv.length ≤ total ents
structure AccsAt (pa : Addr) (ac : List AccA) (names : List Str) (ents : List Ent) : Prop where
  d : H pa = some (.dK (ac.map fun q => (.inr q.1, .ref q.2.1)))
  names : ac.map (·.1) = names
  each : ∀ q ∈ ac, AccAt K H ents q.1 q.2.1 q.2.2
structure RatAt (told : List RateRow) (c : Str) (a : Addr) (ds : List (Int × Addr)) : Prop where
  d : H a = some (.dK (ds.map fun q => (.inl q.1, .ref q.2)))
  nd : (ds.map (·.1)).Nodup
  has : ∀ r ∈ told, r.1 = c → r.2.1 ∈ ds.map (·.1)
  each : ∀ q ∈ ds, ∃ t b, lastOn told c q.1 = some (t, b) ∧ SqT K H q.2 [.int t, .int b]
  len : ds.length ≤ told.length
structure RatesAt (pr : Addr) (rd : List RatA) (told : List RateRow) : Prop where
  d : H pr = some (.dK (rd.map fun q => (.inr q.1, .ref q.2.1)))
  nd : (rd.map (·.1)).Nodup
  has : ∀ r ∈ told, r.1 ∈ rd.map (·.1)
  each : ∀ q ∈ rd, RatAt K H told q.1 q.2.1 q.2.2
  len : rd.length ≤ told.length
def EntsAt (pe : Addr) (er : List Addr) (ents : List Ent) : Prop := H pe = some (.lst (er.map V.ref)) ∧ Paired (fun r e => EntT K r e H) er ents
def TakAt (pt : Addr) (tk : List Int) (ents : List Ent) : Prop := H pt = some (.dK (tk.map fun n => (.inl n, .bl true))) ∧ tk.Nodup ∧ ∀ n, n ∈ tk ↔ n ≠ 0 ∧ ∃ e ∈ ents, e.back = n
def DeedsAt (pd : Addr) (dr : List Addr) (home : Str) (deeds : List Deed) : Prop := H pd = some (.lst (dr.map V.ref)) ∧ ∃ r0 rs, dr = r0 :: rs ∧ SqT K H r0 [.str (Str.ofString "home"), .str home] ∧ Paired (fun r d => DeedT K r d H) rs deeds
/-- the lambdas' tables -/
def LamsIn (A : Ad) : Prop := ∀ q ∈ A.tl, ∃ ps : Array Value, H q.2 = some (.tbl ps) ∧ TriplesOk ps.toList ∧ ∀ (pos : Pos) (cv : Value), codeAmong pos ps.toList = some cv → ∃ c nm, cv = .ref c ∧ H c = some (LamX.CodeO c nm)
structure BkIn (A : Ad) (p : Addr) (b : BkA) (S : BkS) : Prop where
  ins : H p = some (.ins A.bk b.dx (b.flds S.home))
  own : H b.dx = some (.own p)
  acc : AccsAt K H b.pa b.ac S.names S.ents
  rat : RatesAt K H b.pr b.rd S.told
  ent : EntsAt K H b.pe b.er S.ents
  tak : TakAt H b.pt b.tk S.ents
  ends : H b.pn = some (.lst (S.ends.map V.int))
  ded : DeedsAt K H b.pd b.dr S.home S.deeds
  tabs : TabsIn A H
  lams : LamsIn H A
  nd : (b.own p).Nodup
def BkAt (A : Ad) (p : Addr) (F : List Addr) (S : BkS) : Prop := ∃ b : BkA, F = b.all p A ∧ BkIn K H A p b S
end
section
variable {K : PySem.W.Frag} {A : Ad} {H H' : Hp} {p : Addr} {F F' : List Addr} {b : BkA} {S : BkS}
/-! ### each part stays where its own addresses and all tuples stay -/
theorem CurAt.keep {a : Addr} {L : List Move} {G : List Addr} (h : CurAt K H a L) (k : Keeps G H H') (i : a ∈ G) : CurAt K H' a L := by
  obtain ⟨rs, h1, h2⟩ := h
  exact ⟨rs, k a _ h1 (.inl i), Paired.mapP h2 fun _ _ t => k.sqt t⟩
theorem AccAt.keep {ents : List Ent} {nm : Str} {a : Addr} {mv : List (Str × Addr)} {G : List Addr} (h : AccAt K H ents nm a mv) (k : Keeps G H H') (i : a ∈ G) (j : ∀ q ∈ mv, q.2 ∈ G) : AccAt K H' ents nm a mv :=
  ⟨k a _ h.d (.inl i), h.nd, h.has, fun q hq => ⟨(h.each q hq).1.keep k (j q hq), (h.each q hq).2⟩, h.len⟩
theorem mem_accAll {ac : List AccA} {q : AccA} (h : q ∈ ac) : q.2.1 ∈ accAll ac ∧ ∀ z ∈ q.2.2, z.2 ∈ accAll ac :=
  ⟨List.mem_flatMap.mpr ⟨q, h, List.mem_cons_self⟩, fun z hz => List.mem_flatMap.mpr ⟨q, h, List.mem_cons_of_mem _ (List.mem_map.mpr ⟨z, hz, rfl⟩)⟩⟩
theorem AccsAt.keep {pa : Addr} {ac : List AccA} {names : List Str} {ents : List Ent} {G : List Addr} (h : AccsAt K H pa ac names ents) (k : Keeps G H H') (i : pa ∈ G) (j : ∀ x ∈ accAll ac, x ∈ G) : AccsAt K H' pa ac names ents :=
  ⟨k pa _ h.d (.inl i), h.names, fun q hq => (h.each q hq).keep k (j _ (mem_accAll hq).1) fun z hz => j _ ((mem_accAll hq).2 z hz)⟩
theorem RatAt.keep {told : List RateRow} {c : Str} {a : Addr} {ds : List (Int × Addr)} {G : List Addr} (h : RatAt K H told c a ds) (k : Keeps G H H') (i : a ∈ G) : RatAt K H' told c a ds :=
  ⟨k a _ h.d (.inl i), h.nd, h.has, fun q hq => by
    obtain ⟨t, b, h1, h2⟩ := h.each q hq
    exact ⟨t, b, h1, k.sqt h2⟩, h.len⟩
theorem RatesAt.keep {pr : Addr} {rd : List RatA} {told : List RateRow} {G : List Addr} (h : RatesAt K H pr rd told) (k : Keeps G H H') (i : pr ∈ G) (j : ∀ q ∈ rd, q.2.1 ∈ G) : RatesAt K H' pr rd told :=
  ⟨k pr _ h.d (.inl i), h.nd, h.has, fun q hq => (h.each q hq).keep k (j q hq), h.len⟩
theorem LinesT.keep {r : Addr} {L : List Line} {G : List Addr} (h : LinesT K r L H) (k : Keeps G H H') : LinesT K r L H' := by
  obtain ⟨lrs, h1, h2⟩ := h
  exact ⟨lrs, k.sqt h1, Paired.mapP h2 fun _ _ t => k.sqt t⟩
theorem EntT.keep {r : Addr} {e : Ent} {G : List Addr} (h : EntT K r e H) (k : Keeps G H H') : EntT K r e H' := by
  obtain ⟨lr, h1, h2⟩ := h
  exact ⟨lr, k.sqt h1, h2.keep k⟩
theorem DeedT.keep {r : Addr} {d : Deed} {G : List Addr} (h : DeedT K r d H) (k : Keeps G H H') : DeedT K r d H' := by
  cases d with
  | entry day note lines =>
    obtain ⟨lr, h1, h2⟩ := h
    exact ⟨lr, k.sqt h1, h2.keep k⟩
  | account n => exact k.sqt (xs := [.str (Str.ofString "account"), .str n]) h
  | rate x => exact k.sqt (xs := [.str (Str.ofString "rate"), .str x.1, .int x.2.1, .int x.2.2.1, .int x.2.2.2]) h
  | change day giver one amount taker other note => exact k.sqt (xs := [.str (Str.ofString "change"), .int day, .str giver, .str one, .int amount, .str taker, .str other, .str note]) h
  | back n day => exact k.sqt (xs := [.str (Str.ofString "back"), .int n, .int day]) h
  | close day => exact k.sqt (xs := [.str (Str.ofString "close"), .int day]) h
theorem EntsAt.keep {pe : Addr} {er : List Addr} {ents : List Ent} {G : List Addr} (h : EntsAt K H pe er ents) (k : Keeps G H H') (i : pe ∈ G) : EntsAt K H' pe er ents :=
  ⟨k pe _ h.1 (.inl i), Paired.mapP h.2 fun _ _ t => t.keep k⟩
theorem TakAt.keep {pt : Addr} {tk : List Int} {ents : List Ent} {G : List Addr} (h : TakAt H pt tk ents) (k : Keeps G H H') (i : pt ∈ G) : TakAt H' pt tk ents := ⟨k pt _ h.1 (.inl i), h.2⟩
theorem DeedsAt.keep {pd : Addr} {dr : List Addr} {home : Str} {deeds : List Deed} {G : List Addr} (h : DeedsAt K H pd dr home deeds) (k : Keeps G H H') (i : pd ∈ G) : DeedsAt K H' pd dr home deeds := by
  obtain ⟨h1, r0, rs, h2, h3, h4⟩ := h
  exact ⟨k pd _ h1 (.inl i), r0, rs, h2, k.sqt h3, Paired.mapP h4 fun _ _ t => t.keep k⟩
theorem TabsIn.keep {G : List Addr} (t : TabsIn A H) (k : Keeps G H H') : TabsIn A H' := fun q hq => k _ _ (t q hq) (.inr (.inr (.inr ⟨_, rfl⟩)))
theorem LamsIn.keep {G : List Addr} (t : LamsIn H A) (k : Keeps G H H') (i : ∀ q ∈ A.tl, q.2 ∈ G) : LamsIn H' A := fun q hq => by
  obtain ⟨ps, h1, h2, h3⟩ := t q hq
  refine ⟨ps, k _ _ h1 (.inl (i q hq)), h2, fun pos cv hc => ?_⟩
  obtain ⟨c, nm, e1, e2⟩ := h3 pos cv hc
  exact ⟨c, nm, e1, k _ _ e2 (.inr (.inr (.inr ⟨_, rfl⟩)))⟩
theorem BkIn.keep (h : BkIn K H A p b S) (k : Keeps (b.all p A) H H') : BkIn K H' A p b S := by
  have m : ∀ x ∈ b.own p, x ∈ b.all p A := fun x hx => List.mem_append_left _ hx
  have m1 : ∀ q ∈ b.rd, q.2.1 ∈ b.all p A := fun q hq => m _ (by unfold BkA.own; simp only [List.mem_cons, List.mem_append]; exact .inr (.inr (.inr (.inr (.inr (.inr (.inr (.inr (.inl (List.mem_map.mpr ⟨q, hq, rfl⟩))))))))))
  have m2 : ∀ x ∈ accAll b.ac, x ∈ b.all p A := fun x hx => m _ (by unfold BkA.own; simp only [List.mem_cons, List.mem_append]; exact .inr (.inr (.inr (.inr (.inr (.inr (.inr (.inr (.inr hx)))))))))
  exact ⟨k p _ h.ins (.inl (m _ (by simp [BkA.own]))), k b.dx _ h.own (.inl (m _ (by simp [BkA.own]))), h.acc.keep k (m _ (by simp [BkA.own])) m2, h.rat.keep k (m _ (by simp [BkA.own])) m1, h.ent.keep k (m _ (by simp [BkA.own])),
    h.tak.keep k (m _ (by simp [BkA.own])), k b.pn _ h.ends (.inl (m _ (by simp [BkA.own]))), h.ded.keep k (m _ (by simp [BkA.own])), h.tabs.keep k, h.lams.keep k fun q hq => List.mem_append_right _ (List.mem_map.mpr ⟨q, hq, rfl⟩), h.nd⟩
theorem BkAt.keep (h : BkAt K H A p F S) (k : Keeps F H H') : BkAt K H' A p F S := by
  obtain ⟨b, rfl, h⟩ := h
  exact ⟨b, rfl, h.keep k⟩
theorem BkAt.ex (h : BkAt K H A p F S) (e : Ex H H') : BkAt K H' A p F S := h.keep (.of_ex e)
theorem BkIn.live (h : BkIn K H A p b S) : ∀ x ∈ b.all p A, ∃ o, H x = some o := by
  intro x hx
  rcases List.mem_append.mp hx with hx | hx
  · unfold BkA.own at hx
    simp only [List.mem_cons, List.mem_append] at hx
    rcases hx with rfl | rfl | rfl | rfl | rfl | rfl | rfl | rfl | hx | hx
    · exact ⟨_, h.ins⟩
    · exact ⟨_, h.own⟩
    · exact ⟨_, h.acc.d⟩
    · exact ⟨_, h.rat.d⟩
    · exact ⟨_, h.ent.1⟩
    · exact ⟨_, h.tak.1⟩
    · exact ⟨_, h.ends⟩
    · exact ⟨_, h.ded.1⟩
    · obtain ⟨q, hq, rfl⟩ := List.mem_map.mp hx
      exact ⟨_, (h.rat.each q hq).d⟩
    · obtain ⟨q, hq, hz⟩ := List.mem_flatMap.mp hx
      rcases List.mem_cons.mp hz with rfl | hz
      · exact ⟨_, (h.acc.each q hq).d⟩
      · obtain ⟨z, hz2, rfl⟩ := List.mem_map.mp hz
        obtain ⟨rs, e, _⟩ := ((h.acc.each q hq).each z hz2).1
        exact ⟨_, e⟩
  · obtain ⟨q, hq, rfl⟩ := List.mem_map.mp hx
    obtain ⟨ps, e, _⟩ := h.lams q hq
    exact ⟨_, e⟩
theorem BkAt.live (h : BkAt K H A p F S) : ∀ x ∈ F, ∃ o, H x = some o := by
  obtain ⟨b, rfl, h⟩ := h
  exact h.live
theorem BkAt.tabs (h : BkAt K H A p F S) : TabsIn A H := by
  obtain ⟨b, _, h⟩ := h
  exact h.tabs
/-- none of the methods is hidden by an attribute -/
def bkFlds : List Str := ["home", "_accounts", "_rates", "_entries", "_taken_back", "_ends", "_deeds"]
theorem flds_none {m : Str} {home : Str} (h : m ∉ bkFlds) : (b.flds home).lookup m = none := by
  have key : ∀ (l : List (Str × V)), m ∉ l.map (·.1) → l.lookup m = none := by
    intro l
    induction l with
    | nil => intro _; rfl
    | cons q r ih =>
      intro hm
      rw [show q = (q.1, q.2) from rfl, List.lookup_cons, show (m == q.1) = false from beq_eq_false_iff_ne.mpr fun e => hm (by rw [e]; exact List.mem_cons_self)]
      exact ih fun z => hm (List.mem_cons_of_mem _ z)
  exact key _ h
theorem BkAt.ins (h : BkAt K H A p F S) : ∃ (dx : Addr) (fs : List (Str × V)), H p = some (.ins (A.co.getD 0 0) dx fs) ∧ (∀ m, m ∉ bkFlds → fs.lookup m = none) ∧ fs.lookup ("home" : Str) = some (V.str S.home) := by
  obtain ⟨b, _, h⟩ := h
  exact ⟨b.dx, _, h.ins, fun m hm => flds_none hm, rfl⟩
end
end My

namespace My
open PySem PySem.Spec PyProof.Rows L2 Evl
/-! ### from the law's entry, where all tables are seen and empty, to the unseen ones -/
def untab (ts : List (Addr × Addr)) (H : Hp) : Hp := fun b => if b ∈ ts.map (·.2) then some (TabO b) else H b
def retab (ts : List (Addr × Addr)) (h : Heap) (H : Hp) : Hp := fun b => if b ∈ ts.map (·.2) then (match h.get? b with
  | some ⟨_, _, .fields ps, _⟩ => some (.tbl ps)
  | _ => none) else H b
section
variable {P : Program} {w : World} {K : PySem.W.Frag} {mg : Str → Option Value} {base : Heap} {k : Nat} {f : Addr} {fd : FuncData} {ps : List Str} {sp : Sp} {ts : List (Addr × Addr)}
def spUntab (ts : List (Addr × Addr)) (sp : Sp) : Sp := fun vs H Q _ => (∀ p ∈ ts, H p.2 = some (.tbl #[])) ∧ ∃ q : V → Prop, Q = (fun v _ => q v) ∧ sp vs (untab ts H) (fun v H' => (∀ p ∈ ts, H' p.2 = some (TabO p.2)) ∧ q v) E0
theorem fn_untab (F : FnOk P w K mg base CX0 k f fd ps sp) : FnOk P w K mg base CX0 k f fd ps (spUntab ts sp) := by
  refine ⟨fun vs H Q E h => ?_, fun A outer s H args us vs Q E hr e0 bd rv h => ?_⟩
  · obtain ⟨_, q, _, h⟩ := h
    exact F.len _ _ _ _ h
  obtain ⟨hT, q, rfl, h⟩ := h
  have isT : ∀ b, b ∈ ts.map (·.2) → H b = some (.tbl #[]) := fun b hb => by
    obtain ⟨p, hp, e⟩ := List.mem_map.mp hb
    rw [← e]
    exact hT p hp
  have out : ∀ b, (∀ qs, H b ≠ some (.tbl qs)) → untab ts H b = H b := fun b n => if_neg fun z => n _ (isT b z)
  have outN : ∀ b, H b = none → untab ts H b = none := fun b n => by
    rw [out b fun qs z => by rw [n] at z; cases z]
    exact n
  have hok : HOk P w (untab ts H) s.heap := fun b u e => by
    by_cases hb : b ∈ ts.map (·.2)
    · have e' : some (TabO b) = some u := (if_pos hb).symm.trans e
      cases e'
      have hg : s.heap.get? b = some { cls := .none, data := .fields #[] } := e0.hok b _ (isT b hb)
      exact ⟨⟨#[], hg, True.intro⟩, ⟨_, hg⟩, fun h1 h2 ⟨qs, a, c⟩ up => ⟨qs, up _ a, c⟩⟩
    · have e' : H b = some u := (if_neg hb).symm.trans e
      exact (e0.hok b u e').stay (fun _ _ _ z => z) (fun c z => by rw [out c fun qs y => by rw [z] at y; cases y]; exact z) fun c xs z => by rw [out c fun qs y => by rw [z] at y; cases y]; exact z
  have e1 : Env0 P w K mg base A outer s (untab ts H) := ⟨e0.frames, e0.mod, fun b o e => ⟨(e0.bs b o e).1, outN b (e0.bs b o e).2⟩, e0.bsz, e0.funs, fun b hb => outN b (e0.frf b hb), hok, e0.bare⟩
  refine codeAny_mono (F.run A outer s (untab ts H) args us vs _ E0 hr e1 bd rv h) fun r s' got => ?_
  cases r with
  | error e => exact got.elim
  | ok fl =>
    cases fl with
    | next => exact got.elim
    | brk => exact got.elim
    | cont => exact got.elim
    | ret u =>
      obtain ⟨v, H', os, bare, un, hok', r', tabs, qv⟩ := got
      have grown : ∀ b, b ∈ ts.map (·.2) → ∃ qs : Array Value, s'.heap.get? b = some { cls := .none, data := .fields qs } ∧ H' b = some (TabO b) ∧ retab ts s'.heap H' b = some (.tbl qs) := fun b hb => by
        obtain ⟨p, hp, e⟩ := List.mem_map.mp hb
        have h1 := tabs p hp
        rw [e] at h1
        obtain ⟨⟨qs, h2, _⟩, _⟩ := hok' b _ h1
        refine ⟨qs, h2, h1, ?_⟩
        unfold retab
        rw [if_pos hb, h2]
      have same : ∀ b, b ∉ ts.map (·.2) → retab ts s'.heap H' b = H' b := fun b hb => if_neg hb
      have off : ∀ b, (∀ φ, H' b ≠ some (.ext φ)) → b ∉ ts.map (·.2) := fun b n hb => by
        obtain ⟨_, _, z, _⟩ := grown b hb
        exact n _ z
      have notT : ∀ b, (∀ qs, H b ≠ some (.tbl qs)) → b ∉ ts.map (·.2) := fun b n hb => n _ (isT b hb)
      refine ⟨v, retab ts s'.heap H', os, bare, ⟨fun b o e n h1 h2 => un.keep b o e (outN b n) h1 h2, fun b o e n h1 h2 => un.slot b o e (outN b n) h1 h2, fun b o e n h2 => ?_, un.there, fun b xs e => ?_, fun b o u e => ?_, fun b qs e => ?_⟩, fun b u e => ?_, r', qv⟩
      · rw [same b (notT b fun qs z => by rw [n] at z; cases z)]
        exact un.free b o e (outN b n) h2
      · have nb := notT b fun qs z => by rw [e] at z; cases z
        rw [same b nb]
        exact un.tups b xs ((if_neg nb).trans e)
      · have nb := notT b fun qs z => by rw [e] at z; cases z
        rw [same b nb]
        exact un.frzs b o u ((if_neg nb).trans e)
      · by_cases hb : b ∈ ts.map (·.2)
        · obtain ⟨qs', _, _, z⟩ := grown b hb
          have h0 := isT b hb
          rw [e] at h0
          cases h0
          exact ⟨qs', by rw [z, Array.empty_append]⟩
        · rw [same b hb]
          exact un.tbls b qs ((if_neg hb).trans e)
      · by_cases hb : b ∈ ts.map (·.2)
        · obtain ⟨qs, g, _, z⟩ := grown b hb
          rw [e] at z
          cases z
          exact g
        · rw [same b hb] at e
          refine (hok' b u e).stay (fun _ _ _ z => z) (fun c z => ?_) fun c xs z => ?_
          · rw [same c (off c fun φ y => by rw [z] at y; cases y)]
            exact z
          · rw [same c (off c fun φ y => by rw [z] at y; cases y)]
            exact z
end
/-! ### a law's end -/
/-- what is known of the law's promise over every base -/
structure LawX (l : PySem.W.OpenLaw) (w : World) (K : PySem.W.Frag) (n k : Nat) (x : Str) (mg : Str → Option Value) (fa : Addr) (h : Heap) (A : Ad) (sp : Sp) : Prop where
  em : ∀ p ∈ A.ts ++ A.tl, h.get? p.2 = some { cls := .none, data := .fields #[] }
  no : ∀ p ∈ A.ts ++ A.tl, K.lookup p.2 = none
  cd : ∀ p ∈ A.ts ++ A.tl, PySem.W.codeHdIn K p.1 p.2 = true
  ap : ∀ p ∈ A.tl, p.2 ∉ A.ts.map (·.2)
  fn : ∃ fd : FuncData, (∀ (s : Shared) (u : Value), BindsTo s fd ⟨[u], []⟩ [(x, u)]) ∧ ∀ base : Heap, K.In base → base.Ns mainGlobals mg → (∀ p ∈ A.ts ++ A.tl, GxR.TabB base mg p.1 p.2) → FnOk l.prog w K mg base CX0 k fa fd [x] sp
  go : ∀ (H : Hp) (a : Addr) (ns : List Int), ns.length ≤ n → (∀ z ∈ ns, Builtin.Int.intBits z ≤ 1048576) → TabsIn A H → LamsIn H A → SqL K H a (ns.map V.int) → ∀ Q : VK, (∀ v H', v = .bl true → TabsIn A H' → Q v H') → sp [.ref a] H Q E0
theorem untab_sq {K : PySem.W.Frag} {ts : List (Addr × Addr)} {H : Hp} {a : Addr} {xs : List V} (hT : ∀ p ∈ ts, H p.2 = some (.tbl #[])) (h : SqL K H a xs) : SqL K (untab ts H) a xs := by
  have out : ∀ b o, H b = some o → (∀ qs, o ≠ .tbl qs) → untab ts H b = some o := fun b o e n => by
    unfold untab
    rw [if_neg fun z => ?_]
    · exact e
    · obtain ⟨p, hp, e2⟩ := List.mem_map.mp z
      have := hT p hp
      rw [e2, e] at this
      exact n _ (Option.some.inj this)
  rcases h with (h | ⟨o, h⟩) | h
  · exact .inl (.inl (out _ _ h fun qs z => by cases z))
  · exact .inl (.inr ⟨o, out _ _ h fun qs z => by cases z⟩)
  · exact .inr h
theorem walk_X {l : PySem.W.OpenLaw} {n k : Nat} {q : Program} {loose : List Str} {XP : (Str → Option Value) → Heap → Prop} {YP : World → Heap → Prop} {d : DefRec} {K : Params → PySem.W.Frag} {x : Str}
    (hn : l.most = some n) (hn2 : n ≤ sizeLine) (hdf : d.params.defaults = []) (hr : Room k callerA) (hY : ∀ (w : World) (h : Heap), YP w h → (K w.params).In h)
    (F : ∀ (w : World) (mg : Str → Option Value) (fa : Addr) (h : Heap), YP w h → (K w.params).In h → h.Ns mainGlobals mg → mg d.name = some (.ref fa) → ∃ A sp, LawX l w (K w.params) n k x mg fa h A sp) :
    PySem.W.WalkO q loose XP YP l.row.toRowW d [] (fun f vs => PySem.call f vs) := by
  refine LamX.walk_ofTs (CX := fun _ => CX0) (k := k) (x := x) hn hn2 hdf hr hY (fun w mg fa h Y KX G hm => ?_) fun _ _ _ _ _ z => z
  obtain ⟨A, sp, L⟩ := F w mg fa h Y KX G hm
  obtain ⟨fd, hb, hF⟩ := L.fn
  refine ⟨fd, A.ts ++ A.tl, spUntab A.ts sp, L.em, L.no, fun p hp => PySem.W.codeHd_of_K KX (L.cd p hp), hb, fun H a ns hl hbits hT hS => ?_, fun base kb nb tb => fn_untab (hF base kb nb fun p hp => ⟨(tb p hp).code, (tb p hp).bm, (tb p hp).gP⟩)⟩
  have hT1 : ∀ p ∈ A.ts, H p.2 = some (.tbl #[]) := fun p hp => hT p (List.mem_append_left _ hp)
  refine ⟨hT1, fun v => v = .bl true, rfl, L.go _ a ns hl hbits (fun p hp => if_pos (List.mem_map.mpr ⟨p, hp, rfl⟩)) (fun p hp => ⟨#[], ?_, True.intro, fun pos cv hc => ?_⟩) (untab_sq hT1 hS) _ fun v H' e t => ⟨t, e⟩⟩
  · show (if _ then _ else _) = _
    rw [if_neg (L.ap p hp)]
    exact hT p (List.mem_append_right _ hp)
  · simp [codeAmong] at hc
end My

namespace My
open PySem PySem.Spec PyProof.Rows L2 Evl
/-! ### what a reading gives, the heap just as it is -/
def XV (te : TE) (σ : L2.St) (H : Hp) (v : V) : Prop := ∀ Q : VK, Q v H → te σ H Q
def XT (tt : TT) (σ : L2.St) (H : Hp) (b : Bool) : Prop := ∀ Q : Bool → Hp → Prop, Q b H → tt σ H Q
def XA (ta : TA) (σ : L2.St) (H : Hp) (vs : List V) : Prop := ∀ Q : List V → Hp → Prop, Q vs H → ta σ H Q
def XR (r : R2) (x y : V) (H : Hp) (z : V) : Prop := ∀ Q : VK, Q z H → r x y H Q
section
variable {K : PySem.W.Frag} {σ : L2.St} {H : Hp} {ta tb tc te tx : TE} {t u : TT} {x y z v : V} {r r' : R2} {tr : TA} {vs : List V}
theorem xv_var {i : Nat} (h : σ[i]? = some (some v)) : XV (tVar i) σ H v := fun _ q => ⟨v, h, q⟩
theorem xv_c : XV (tC v) σ H v := fun _ q => q
theorem xv_op (ha : XV ta σ H x) (hb : XV tb σ H y) (hr : XR r x y H z) : XV (tOp r ta tb) σ H z := fun Q q => ha _ (hb _ (hr Q q))
theorem xv_un {r : V → Hp → VK → Prop} (ha : XV ta σ H x) (hr : ∀ Q : VK, Q z H → r x H Q) : XV (tUn r ta) σ H z := fun Q q => ha _ (hr Q q)
theorem xv_is {w : V} (h : XV te σ H v) (e : v = w) : XV te σ H w := e ▸ h
theorem xv_cb {r : List V → Hp → VK → Prop} (ha : XA tr σ H vs) (hr : ∀ Q : VK, Q z H → r vs H Q) : XV (tCB r tr) σ H z := fun Q q => ha _ (hr Q q)
theorem xr_I0 {g : Int → Int → V} {i j : Int} : XR (rI0 g) (.int i) (.int j) H (g i j) := fun _ q => ⟨i, j, rfl, rfl, q⟩
theorem xr_I {C : Int → Int → Prop} {g : Int → Int → V} {i j : Int} (hc : C i j) : XR (rI C g) (.int i) (.int j) H (g i j) := fun _ q => ⟨i, j, rfl, rfl, hc, q⟩
theorem xr_eq (h : scal x y = true) : XR rEq x y H (.bl (decide (x = y))) := fun _ q => ⟨h, q⟩
theorem xr_ne (h : scal x y = true) : XR rNe x y H (.bl (!decide (x = y))) := fun _ q => ⟨h, q⟩
theorem xr_ixL {p : Addr} {xs : List V} {i : Int} (h : SqL K H p xs) (ha : atI xs i = some v) : XR (rIxL K) (.ref p) (.int i) H v := fun _ q => ⟨p, xs, i, v, rfl, rfl, h, ha, q⟩
theorem xr_ixT {p : Addr} {xs : List V} {i : Int} (h : SqT K H p xs) (ha : atI xs i = some v) : XR (rIxT K) (.ref p) (.int i) H v := fun _ q => ⟨p, xs, i, v, rfl, rfl, h, ha, q⟩
theorem xr_ixS {w : Str} {i : Int} {c : Nat} (h : w.length ≤ 100000) (ha : atI w.cps.toList i = some c) : XR rIxS (.str w) (.int i) H (.str ⟨#[c]⟩) := fun _ q => ⟨w, i, c, rfl, rfl, sz_of h, ha, q⟩
theorem xv_chain {a b : Bool} (ha : XV ta σ H x) (hb : XV tb σ H y) (h1 : XR r x y H (.bl a)) (hc : a = true → XV tc σ H z) (h2 : a = true → XR r' y z H (.bl b)) : XV (tChain r r' ta tb tc) σ H (.bl (a && b)) := fun Q q => ha _ (hb _ (h1 _ ⟨a, rfl, by
  cases a with
  | true => exact iteT (hc rfl _ (h2 rfl Q q))
  | false => exact iteF q⟩))
theorem xt_test {b : Bool} (h : XV te σ H (.bl b)) : XT (tTest te) σ H b := fun _ q => h _ ⟨b, rfl, q⟩
theorem xt_B {b : Bool} (h : XV te σ H (.bl b)) : XT (tB te) σ H b := fun _ q => h _ ⟨b, rfl, q⟩
theorem xt_and {a b : Bool} (h1 : XT t σ H a) (h2 : a = true → XT u σ H b) : XT (tAnd t u) σ H (a && b) := fun Q q => h1 _ (by
  cases a with
  | true => exact iteT (h2 rfl Q q)
  | false => exact iteF q)
theorem xt_or {a b : Bool} (h1 : XT t σ H a) (h2 : a = false → XT u σ H b) : XT (tOr t u) σ H (a || b) := fun Q q => h1 _ (by
  cases a with
  | true => exact iteT q
  | false => exact iteF (h2 rfl Q q))
theorem xt_not {a : Bool} (h1 : XT t σ H a) : XT (tNot t) σ H (!a) := fun _ q => h1 _ q
theorem xt_is {a b : Bool} (h : XT t σ H a) (e : a = b) : XT t σ H b := e ▸ h
theorem xv_if {b : Bool} (h : XT t σ H b) (h1 : b = true → XV ta σ H v) (h2 : b = false → XV tb σ H v) : XV (tIf t ta tb) σ H v := fun Q q => h _ (by
  cases b with
  | true => exact iteT (h1 rfl Q q)
  | false => exact iteF (h2 rfl Q q))
theorem xv_orV {a b : Bool} (h1 : XV ta σ H (.bl a)) (h2 : a = false → XV tb σ H (.bl b)) : XV (tOrV ta tb) σ H (.bl (a || b)) := fun Q q => h1 _ ⟨a, rfl, by
  cases a with
  | true => exact iteT q
  | false => exact iteF (h2 rfl Q q)⟩
theorem xv_notV {a : Bool} (h1 : XV ta σ H (.bl a)) : XV (tNotV ta) σ H (.bl (!a)) := fun _ q => h1 _ ⟨a, rfl, q⟩
theorem xa_nil : XA tNil σ H [] := fun _ q => q
theorem xa_cons (h : XV ta σ H x) (hr : XA tr σ H vs) : XA (tCons ta tr) σ H (x :: vs) := fun _ q => h _ (hr _ q)
/-- a test by truth -/
theorem xt_tru {b : Bool} (h : XV te σ H x) (k : TruV K x H b) : XT (fun σ H Q => te σ H fun x H' => ∃ k, TruV K x H' k ∧ Q k H') σ H b := fun _ q => h _ ⟨b, k, q⟩
theorem tru_l {p : Addr} {xs : List V} (h : SqL K H p xs) : TruV K (.ref p) H (!xs.isEmpty) := .inl ⟨xs, h, rfl⟩
/-! ### statements -/
variable {D : Ends} {tu tw : TS}
theorem xs_if {b : Bool} (h : XT t σ H b) (h1 : b = true → tu D σ H) (h2 : b = false → tw D σ H) : tIfS t tu tw D σ H := h _ (by
  cases b with
  | true => exact iteT (h1 rfl)
  | false => exact iteF (h2 rfl))
theorem xs_asg {i : Nat} (h : XV te σ H v) (k : D.nx (σ.set i (some v)) H) : tAsg te (gName i) D σ H := h _ k
theorem xs_ret (h : XV te σ H v) (k : D.rt v H) : tRet te D σ H := h _ k
/-- len of a text -/
theorem xv_lenS {w : Str} (ha : XV ta σ H (.str w)) (hl : w.length ≤ 100000) : XV (tCB (fun xs H Q => ∃ z, xs = [V.str z] ∧ z.length ≤ sizeLine ∧ Q (V.int (z.length : Int)) H) (tCons ta tNil)) σ H (.int (w.length : Int)) := fun _ q => ha _ ⟨w, rfl, sz_of hl, q⟩
theorem xv_len {p : Addr} {xs : List V} (ha : XV ta σ H (.ref p)) (h : SqL K H p xs) : XV (tCB (rLenS K) (tCons ta tNil)) σ H (.int (xs.length : Int)) := fun _ q => ha _ ⟨p, xs, rfl, .inl h, q⟩
theorem xv_lenT {p : Addr} {xs : List V} (ha : XV ta σ H (.ref p)) (h : SqT K H p xs) : XV (tCB (rLenS K) (tCons ta tNil)) σ H (.int (xs.length : Int)) := fun _ q => ha _ ⟨p, xs, rfl, .inr h, q⟩
theorem xv_all {P : Addr} {pb : Nat → Bool} {a : Str} (ha : XV te σ H (.str a)) (hP : H P = some (TabO P)) : XV (tAllT P pb te) σ H (.bl (a.cps.toList.all pb)) := fun _ q => ha _ ⟨hP, a, rfl, q⟩
theorem xv_sum {P : Addr} {R : L2.St → Hp → List V → (Nat → Bool) → (Nat → Int) → Prop} {l : Addr} {xs : List V} {f : Nat → Bool} {g : Nat → Int} (ha : XV te σ H (.ref l)) (hP : H P = some (TabO P)) (h : SqL K H l xs) (hR : R σ H xs f g) : XV (tSumB K P R te) σ H (.int (sumIf f g xs.length)) :=
  fun _ q => ha _ ⟨hP, l, xs, f, g, rfl, h, hR, q⟩
end
end My

namespace My
open PySem PySem.Spec PyProof.Rows L2 Evl
/-! ### the rate of a day -/
theorem dueR_snoc (L : List RateRow) (r : RateRow) (c : Str) (d : Int) : dueR (L ++ [r]) c d = dueStep c d (dueR L c d) r := by
  unfold dueR
  rw [List.foldl_append]
  rfl
theorem due_take (L : List RateRow) (c : Str) (d : Int) : ∀ n, n ≤ L.length →
    match dueR (L.take n) c d with
    | none => ∀ r ∈ L.take n, ¬ (r.1 = c ∧ r.2.1 ≤ d)
    | some r => r.1 = c ∧ r.2.1 ≤ d ∧ r ∈ L.take n ∧ (∀ x ∈ L.take n, x.1 = c → x.2.1 ≤ d → x.2.1 ≤ r.2.1) ∧ lastOn (L.take n) c r.2.1 = some r.2.2
  | 0, _ => by
    rw [List.take_zero]
    intro r hr
    cases hr
  | n + 1, h => by
    have ih := due_take L c d n (Nat.le_of_succ_le h)
    obtain ⟨x, hx⟩ : ∃ x, L[n]? = some x := ⟨_, List.getElem?_eq_getElem h⟩
    rw [take_snoc hx, dueR_snoc]
    have mem : ∀ r, r ∈ L.take n ++ [x] → r ∈ L.take n ∨ r = x := fun r hr => (List.mem_append.mp hr).imp id List.mem_singleton.mp
    by_cases hc : x.1 = c ∧ x.2.1 ≤ d
    · cases e : dueR (L.take n) c d with
      | none =>
        rw [e] at ih
        have e2 : dueStep c d none x = some x := if_pos ⟨hc.1, hc.2, fun a ha => by cases ha⟩
        rw [e2]
        refine ⟨hc.1, hc.2, List.mem_append_right _ List.mem_cons_self, fun r hr h1 h2 => ?_, ?_⟩
        · rcases mem r hr with hr | rfl
          · exact absurd ⟨h1, h2⟩ (ih r hr)
          · exact Int.le_refl _
        · rw [lastOn_snoc, if_pos ⟨hc.1, rfl⟩]
      | some y =>
        rw [e] at ih
        obtain ⟨i1, i2, i3, i4, i5⟩ := ih
        by_cases hy : y.2.1 ≤ x.2.1
        · have e2 : dueStep c d (some y) x = some x := if_pos ⟨hc.1, hc.2, fun a ha => by cases ha; exact hy⟩
          rw [e2]
          refine ⟨hc.1, hc.2, List.mem_append_right _ List.mem_cons_self, fun r hr h1 h2 => ?_, ?_⟩
          · rcases mem r hr with hr | rfl
            · exact Int.le_trans (i4 r hr h1 h2) hy
            · exact Int.le_refl _
          · rw [lastOn_snoc, if_pos ⟨hc.1, rfl⟩]
        · have e2 : dueStep c d (some y) x = some y := if_neg fun z => hy (z.2.2 y rfl)
          rw [e2]
          refine ⟨i1, i2, List.mem_append_left _ i3, fun r hr h1 h2 => ?_, ?_⟩
          · rcases mem r hr with hr | rfl
            · exact i4 r hr h1 h2
            · omega
          · rw [lastOn_snoc, if_neg fun z => by have := z.2; omega]
            exact i5
    · have e2 : ∀ a, dueStep c d a x = a := fun a => if_neg fun z => hc ⟨z.1, z.2.1⟩
      rw [e2]
      cases e : dueR (L.take n) c d with
      | none =>
        rw [e] at ih
        intro r hr
        rcases mem r hr with hr | rfl
        · exact ih r hr
        · exact hc
      | some y =>
        rw [e] at ih
        obtain ⟨i1, i2, i3, i4, i5⟩ := ih
        refine ⟨i1, i2, List.mem_append_left _ i3, fun r hr h1 h2 => ?_, ?_⟩
        · rcases mem r hr with hr | rfl
          · exact i4 r hr h1 h2
          · exact absurd ⟨h1, h2⟩ hc
        · rw [lastOn_snoc, if_neg fun z => hc ⟨z.1, by have := z.2; omega⟩]
          exact i5
theorem due_none {L : List RateRow} {c : Str} {d : Int} (h : ∀ r ∈ L, r.1 = c → ¬ r.2.1 ≤ d) : dueR L c d = none := by
  have k := due_take L c d L.length (Nat.le_refl _)
  rw [List.take_length] at k
  cases e : dueR L c d with
  | none => rfl
  | some r =>
    rw [e] at k
    exact absurd k.2.1 (h r k.2.2.1 k.1)
/-- the greatest day not above it -/
theorem due_some {L : List RateRow} {c : Str} {d m : Int} (h1 : ∃ r ∈ L, r.1 = c ∧ r.2.1 = m) (h2 : m ≤ d) (h3 : ∀ r ∈ L, r.1 = c → r.2.1 ≤ d → r.2.1 ≤ m) : (dueR L c d).map (fun r => r.2.2) = lastOn L c m := by
  have k := due_take L c d L.length (Nat.le_refl _)
  rw [List.take_length] at k
  obtain ⟨r, hr, hc, hm⟩ := h1
  cases e : dueR L c d with
  | none =>
    rw [e] at k
    exact absurd ⟨hc, by omega⟩ (k r hr)
  | some y =>
    rw [e] at k
    obtain ⟨i1, i2, i3, i4, i5⟩ := k
    have h4 := i4 r hr hc (by omega)
    have h5 := h3 y i3 i1 i2
    have h6 : y.2.1 = m := by omega
    rw [h6] at i5
    rw [i5]
    rfl
theorem lastOn_mem {L : List RateRow} {c : Str} {d : Int} {x : Int × Int} (h : lastOn L c d = some x) : ∃ r ∈ L, r.1 = c ∧ r.2.1 = d := by
  unfold lastOn at h
  obtain ⟨r, hr, _⟩ := Option.map_eq_some_iff.mp h
  have := List.mem_of_getLast? hr
  rw [List.mem_filter] at this
  exact ⟨r, this.1, of_decide_eq_true this.2⟩
/-! ### [e for k in d if t], d locked the while -/
theorem s_lcKeys {σ : L2.St} {H : Hp} {D : Ends} {td te : TE} {t : TT} {a : Addr} {kvs : List (Key × V)} {i j : Nat} {vs : List Nat} (f : Nat → Bool) (v : Nat → V) (hd : H a = some (.dK kvs)) (hz : kvs.length ≤ 40000) (h : ∀ H', XV td σ H' (.ref a))
    (hw : ∀ x, wipe ((wipe σ vs).set j (some x)) vs = wipe σ vs) (ht : ∀ (n : Nat) (k : Key) (x : V) H1, kvs[n]? = some (k, x) → EvT t ((wipe σ vs).set j (some (kV k))) H1 (f n))
    (he : ∀ (n : Nat) (k : Key) (x : V) H1, kvs[n]? = some (k, x) → f n = true → Ev te ((wipe σ vs).set j (some (kV k))) H1 (v n))
    (k : ∀ Dl H2, H Dl = none → Ex H H2 → H2 Dl = some (.lst (given kvs.length f v)) → D.nx (σ.set i (some (.ref Dl))) H2) : tLock (tAsg (tLc (iKeys td) (gName j) t te vs) (gName i)) D σ H := by
  refine ⟨a, .dK kvs, hd, True.intro, fun od => ?_⟩
  refine h _ _ ⟨a, od, rfl, .inl ⟨kvs, upd_same, fun Dl hD => ?_⟩⟩
  have na : Dl ≠ a := fun z => by rw [z, upd_same] at hD; cases hD
  refine lc_it walk_keys (Cw (upd H a (.frz od (.dK kvs))) f v Dl) ⟨hD, Ex.new hD, upd_same⟩ (fun n H' _ p => p.2.1 a _ upd_same) (fun n x H' H'' hn p y => ?_) (fun H' p => ?_)
  · obtain ⟨rfl, key, z, hk, rfl⟩ := y
    exact ⟨hw _, cw_turn p (by omega) (ht n key z _ hk) (fun hf => he n key z _ hk hf)⟩
  · refine ⟨p.2.1 a _ upd_same, k Dl _ ?_ (fun x o hx => ?_) ?_⟩
    · rw [upd_ne na] at hD
      exact hD
    · by_cases e : x = a
      · rw [e] at hx ⊢
        rw [hd] at hx
        cases hx
        exact upd_same
      · rw [upd_ne e]
        exact p.2.1 x o (by rw [upd_ne e]; exact hx)
    · rw [upd_ne na]
      exact p.2.2
end My

namespace My
open PySem PySem.Spec PyProof.Rows L2 Evl
/-! ### a deed writes some of the book's own -/
theorem keeps_of_agree {H H' : Hp} {M G : List Addr} (ag : Agree H M H') (dis : ∀ x ∈ M, x ∉ G) (ns : ∀ x ∈ M, ∀ o, H x = some o → ¬ Still o) : Keeps G H H' := fun x o hx w => ag x o hx fun hm => by
  rcases w with w | w
  · exact dis x hm w
  · exact ns x hm o hx w
theorem Agree.trans {H H1 H2 : Hp} {M : List Addr} (a : Agree H M H1) (b : Agree H1 M H2) : Agree H M H2 := fun x o h n => b x o (a x o h n) n
theorem Agree.of_ex {H H' : Hp} {M : List Addr} (e : Ex H H') : Agree H M H' := fun x o h _ => e x o h
theorem Agree.upd {H : Hp} {M : List Addr} {a : Addr} {o : HO} (h : a ∈ M) : Agree H M (upd H a o) := fun x u hx n => by rw [upd_ne (fun z => n (by rw [z]; exact h))]; exact hx
/-- an address that was fresh may be left out of M -/
theorem Agree.drop {H H' : Hp} {M : List Addr} {a : Addr} (ag : Agree H (a :: M) H') (h : H a = none) : Agree H M H' := fun x o hx n => ag x o hx fun z => by
  rcases List.mem_cons.mp z with rfl | z
  · rw [h] at hx; cases hx
  · exact n z
theorem Agree.fresh {H H' : Hp} {M : List Addr} {a : Addr} (ag : Agree H M H') (h : H' a = none) (n : a ∉ M) : H a = none := by
  cases e : H a with
  | none => rfl
  | some o => rw [ag a o e n] at h; cases h
theorem Agree.mono {H H' : Hp} {M M' : List Addr} (ag : Agree H M H') (i : ∀ x ∈ M, x ∈ M') : Agree H M' H' := fun x o h n => ag x o h fun z => n (i x z)
theorem Grow.of_agree {H H' : Hp} {M F F' : List Addr} (ag : Agree H M H') (m : ∀ x ∈ M, x ∈ F ∨ H x = none) (n : ∀ x ∈ F', x ∈ F ∨ H x = none) : Grow H F H' F' := ⟨fun a o h nf => ag a o h fun z => (m a z).elim nf fun e => (by rw [h] at e; cases e), n⟩
/-! ### the book's own stand apart -/
def BkA.heads (b : BkA) (p : Addr) : List Addr := [p, b.dx, b.pa, b.pr, b.pe, b.pt, b.pn, b.pd]
theorem own_eq (b : BkA) (p : Addr) : b.own p = b.heads p ++ (b.rd.map (·.2.1) ++ accAll b.ac) := rfl
structure Apart (b : BkA) (p : Addr) : Prop where
  hd : (b.heads p).Nodup
  rd : (b.rd.map (·.2.1)).Nodup
  ac : (accAll b.ac).Nodup
  hr : ∀ x ∈ b.heads p, x ∉ b.rd.map (·.2.1)
  ha : ∀ x ∈ b.heads p, x ∉ accAll b.ac
  ra : ∀ x ∈ b.rd.map (·.2.1), x ∉ accAll b.ac
theorem apart_iff {b : BkA} {p : Addr} : (b.own p).Nodup ↔ Apart b p := by
  rw [own_eq, List.nodup_append, List.nodup_append]
  constructor
  · rintro ⟨h1, ⟨h2, h3, h4⟩, h5⟩
    exact ⟨h1, h2, h3, fun x hx hy => h5 x hx x (List.mem_append_left _ hy) rfl, fun x hx hy => h5 x hx x (List.mem_append_right _ hy) rfl, fun x hx hy => h4 x hx x hy rfl⟩
  · rintro ⟨h1, h2, h3, h4, h5, h6⟩
    refine ⟨h1, ⟨h2, h3, fun x hx y hy e => h6 x hx (e ▸ hy)⟩, fun x hx y hy e => ?_⟩
    subst e
    rcases List.mem_append.mp hy with hy | hy
    · exact h4 x hx hy
    · exact h5 x hx hy
theorem Apart.heads {b : BkA} {p : Addr} (a : Apart b p) : p ≠ b.dx ∧ p ≠ b.pa ∧ p ≠ b.pr ∧ p ≠ b.pe ∧ p ≠ b.pt ∧ p ≠ b.pn ∧ p ≠ b.pd ∧ b.dx ≠ b.pa ∧ b.dx ≠ b.pr ∧ b.dx ≠ b.pe ∧ b.dx ≠ b.pt ∧ b.dx ≠ b.pn ∧ b.dx ≠ b.pd ∧
    b.pa ≠ b.pr ∧ b.pa ≠ b.pe ∧ b.pa ≠ b.pt ∧ b.pa ≠ b.pn ∧ b.pa ≠ b.pd ∧ b.pr ≠ b.pe ∧ b.pr ≠ b.pt ∧ b.pr ≠ b.pn ∧ b.pr ≠ b.pd ∧ b.pe ≠ b.pt ∧ b.pe ≠ b.pn ∧ b.pe ≠ b.pd ∧ b.pt ≠ b.pn ∧ b.pt ≠ b.pd ∧ b.pn ≠ b.pd := by
  have h := a.hd
  simp only [BkA.heads, List.nodup_cons, List.mem_cons, List.not_mem_nil, or_false, not_or] at h
  obtain ⟨⟨a1, a2, a3, a4, a5, a6, a7⟩, ⟨b1, b2, b3, b4, b5, b6⟩, ⟨c1, c2, c3, c4, c5⟩, ⟨d1, d2, d3, d4⟩, ⟨e1, e2, e3⟩, ⟨f1, f2⟩, g1, _⟩ := h
  exact ⟨a1, a2, a3, a4, a5, a6, a7, b1, b2, b3, b4, b5, b6, c1, c2, c3, c4, c5, d1, d2, d3, d4, e1, e2, e3, f1, f2, g1⟩
/-! ### rates: one put -/
def putD (ds : List (Int × Addr)) (d : Int) (r : Addr) : List (Int × Addr) := if d ∈ ds.map (·.1) then ds.map fun q => if q.1 = d then (q.1, r) else q else ds ++ [(d, r)]
theorem putD_map (ds : List (Int × Addr)) (d : Int) (r : Addr) : ((putD ds d r).map fun q => ((.inl q.1 : Key), V.ref q.2)) = putK (ds.map fun q => ((.inl q.1 : Key), V.ref q.2)) (.inl d) (.ref r) := by
  unfold putD putK
  have e : ((ds.map fun q => ((.inl q.1 : Key), V.ref q.2)).any fun kv => decide (kv.1 = (.inl d : Key))) = decide (d ∈ ds.map (·.1)) := by
    rw [List.any_map, Bool.eq_iff_iff, List.any_eq_true, decide_eq_true_eq, List.mem_map]
    constructor
    · rintro ⟨q, hq, h⟩
      exact ⟨q, hq, Sum.inl.inj (of_decide_eq_true h)⟩
    · rintro ⟨q, hq, h⟩
      exact ⟨q, hq, decide_eq_true (congrArg Sum.inl h)⟩
  rw [e]
  by_cases h : d ∈ ds.map (·.1)
  · rw [if_pos h, if_pos (decide_eq_true h), List.map_map, List.map_map]
    refine List.map_congr_left fun q _ => ?_
    show ((.inl (if q.1 = d then (q.1, r) else q).1 : Key), V.ref (if q.1 = d then (q.1, r) else q).2) = if (Sum.inl q.1 : Key) = Sum.inl d then ((.inl q.1 : Key), V.ref r) else ((.inl q.1 : Key), V.ref q.2)
    by_cases h2 : q.1 = d
    · rw [if_pos h2, if_pos (congrArg Sum.inl h2)]
    · rw [if_neg h2, if_neg fun z => h2 (Sum.inl.inj z)]
  · rw [if_neg h, if_neg (by rw [decide_eq_false h]; decide), List.map_append]
    rfl
theorem putD_keys (ds : List (Int × Addr)) (d : Int) (r : Addr) (x : Int) : x ∈ (putD ds d r).map (·.1) ↔ x ∈ ds.map (·.1) ∨ x = d := by
  unfold putD
  by_cases h : d ∈ ds.map (·.1)
  · rw [if_pos h, List.map_map]
    have e : ds.map ((fun q : Int × Addr => q.1) ∘ fun q => if q.1 = d then (q.1, r) else q) = ds.map (·.1) := List.map_congr_left fun q _ => by
      show (if q.1 = d then (q.1, r) else q).1 = q.1
      split <;> rfl
    rw [e]
    exact ⟨.inl, fun z => z.elim id fun z => z ▸ h⟩
  · rw [if_neg h, List.map_append, List.mem_append]
    simp
theorem putD_nodup {ds : List (Int × Addr)} (d : Int) (r : Addr) (n : (ds.map (·.1)).Nodup) : ((putD ds d r).map (·.1)).Nodup := by
  unfold putD
  by_cases h : d ∈ ds.map (·.1)
  · rw [if_pos h, List.map_map]
    have e : ds.map ((fun q : Int × Addr => q.1) ∘ fun q => if q.1 = d then (q.1, r) else q) = ds.map (·.1) := List.map_congr_left fun q _ => by
      show (if q.1 = d then (q.1, r) else q).1 = q.1
      split <;> rfl
    rw [e]
    exact n
  · rw [if_neg h, List.map_append, List.nodup_append]
    exact ⟨n, by simp, fun x hx y hy e => h (by
      have h2 : y = d := List.mem_singleton.mp hy
      rw [← h2, ← e]
      exact hx)⟩
theorem putD_mem {ds : List (Int × Addr)} {d : Int} {r : Addr} {q : Int × Addr} (h : q ∈ putD ds d r) : q = (d, r) ∨ q ∈ ds ∧ q.1 ≠ d := by
  unfold putD at h
  by_cases hd : d ∈ ds.map (·.1)
  · rw [if_pos hd] at h
    obtain ⟨z, hz, e⟩ := List.mem_map.mp h
    by_cases h2 : z.1 = d
    · rw [if_pos h2, h2] at e
      exact .inl e.symm
    · rw [if_neg h2] at e
      exact .inr (e ▸ ⟨hz, h2⟩)
  · rw [if_neg hd] at h
    rcases List.mem_append.mp h with h | h
    · exact .inr ⟨h, fun e => hd (e ▸ List.mem_map.mpr ⟨q, h, rfl⟩)⟩
    · exact .inl (List.mem_singleton.mp h)
theorem putD_len (ds : List (Int × Addr)) (d : Int) (r : Addr) : (putD ds d r).length ≤ ds.length + 1 := by
  unfold putD
  split
  · rw [List.length_map]; omega
  · rw [List.length_append]; exact Nat.le_refl _
section
variable {K : PySem.W.Frag} {H H' : Hp}
theorem rat_put {told : List RateRow} {c : Str} {a r : Addr} {ds : List (Int × Addr)} {d t b : Int} {G : List Addr} (h : RatAt K H told c a ds) (hr : SqT K H' r [.int t, .int b]) (k : Keeps G H H') (hd : H' a = some (.dK (putK (ds.map fun q => ((.inl q.1 : Key), V.ref q.2)) (.inl d) (.ref r)))) :
    RatAt K H' (told ++ [(c, d, t, b)]) c a (putD ds d r) := by
  refine ⟨by rw [putD_map]; exact hd, putD_nodup d r h.nd, fun x hx hc => ?_, fun q hq => ?_, ?_⟩
  · rw [putD_keys]
    rcases List.mem_append.mp hx with hx | hx
    · exact .inl (h.has x hx hc)
    · rw [List.mem_singleton.mp hx]
      exact .inr rfl
  · rcases putD_mem hq with rfl | ⟨hq, hn⟩
    · exact ⟨t, b, by rw [lastOn_snoc]; exact if_pos ⟨rfl, rfl⟩, hr⟩
    · obtain ⟨t', b', h1, h2⟩ := h.each q hq
      exact ⟨t', b', by rw [lastOn_snoc, if_neg fun z => hn z.2.symm]; exact h1, k.sqt h2⟩
  · have := putD_len ds d r
    have := h.len
    rw [List.length_append, List.length_singleton]
    omega
theorem rat_other {told : List RateRow} {c c' : Str} {a : Addr} {ds : List (Int × Addr)} {d t b : Int} {G : List Addr} (h : RatAt K H told c' a ds) (n : c' ≠ c) (k : Keeps G H H') (ha : a ∈ G) : RatAt K H' (told ++ [(c, d, t, b)]) c' a ds := by
  have h := h.keep k ha
  refine ⟨h.d, h.nd, fun x hx hc => ?_, fun q hq => ?_, by rw [List.length_append]; exact Nat.le_trans h.len (Nat.le_add_right _ _)⟩
  · rcases List.mem_append.mp hx with hx | hx
    · exact h.has x hx hc
    · rw [List.mem_singleton.mp hx] at hc
      exact absurd hc.symm n
  · obtain ⟨t', b', h1, h2⟩ := h.each q hq
    exact ⟨t', b', by rw [lastOn_snoc, if_neg fun z => n z.1.symm]; exact h1, h2⟩
/-- the rates behind one more told: rd has its currency, at a -/
theorem rates_put {told : List RateRow} {c : Str} {pr a r : Addr} {rd : List RatA} {ds : List (Int × Addr)} {d t b : Int} {G : List Addr} (hd : H' pr = some (.dK (rd.map fun q => ((.inr q.1 : Key), V.ref q.2.1)))) (nd : (rd.map (·.1)).Nodup) (nda : (rd.map (·.2.1)).Nodup)
    (has : ∀ x ∈ told, x.1 ∈ rd.map (·.1)) (each : ∀ q ∈ rd, RatAt K H told q.1 q.2.1 q.2.2) (hm : (c, a, ds) ∈ rd) (hr : SqT K H' r [.int t, .int b]) (k : Keeps G H H') (kg : ∀ q ∈ rd, q.2.1 ≠ a → q.2.1 ∈ G)
    (ha : H' a = some (.dK (putK (ds.map fun q => ((.inl q.1 : Key), V.ref q.2)) (.inl d) (.ref r)))) (hl : rd.length ≤ told.length + 1) :
    RatesAt K H' pr (rd.map fun q => if q.1 = c then (c, a, putD ds d r) else q) (told ++ [(c, d, t, b)]) := by
  have uniq : ∀ q ∈ rd, q.1 = c → q = (c, a, ds) := by
    intro q hq e
    obtain ⟨i, hi, h1⟩ := List.getElem_of_mem hq
    obtain ⟨j, hj, h2⟩ := List.getElem_of_mem hm
    have : i = j := nd_ix nd (x := c) (by rw [List.getElem?_map, List.getElem?_eq_getElem hi, h1]; exact congrArg some e) (by rw [List.getElem?_map, List.getElem?_eq_getElem hj, h2]; rfl)
    subst this
    rw [← h1, h2]
  have ne : ∀ q ∈ rd, q.1 ≠ c → q.2.1 ≠ a := by
    intro q hq n e
    obtain ⟨i, hi, h1⟩ := List.getElem_of_mem hq
    obtain ⟨j, hj, h2⟩ := List.getElem_of_mem hm
    have : i = j := nd_ix nda (x := a) (by rw [List.getElem?_map, List.getElem?_eq_getElem hi, h1]; exact congrArg some e) (by rw [List.getElem?_map, List.getElem?_eq_getElem hj, h2]; rfl)
    subst this
    rw [h2] at h1
    exact n (by rw [← h1])
  have k1 : (rd.map fun q => if q.1 = c then ((c, a, putD ds d r) : RatA) else q).map (·.1) = rd.map (·.1) := by
    rw [List.map_map]
    refine List.map_congr_left fun q _ => ?_
    show (if q.1 = c then ((c, a, putD ds d r) : RatA) else q).1 = q.1
    split
    · next e => exact e.symm
    · rfl
  refine ⟨?_, by rw [k1]; exact nd, fun x hx => ?_, fun q hq => ?_, ?_⟩
  · rw [hd, List.map_map]
    refine congrArg (fun z => some (HO.dK z)) (List.map_congr_left fun q hq => ?_)
    show ((.inr q.1 : Key), V.ref q.2.1) = ((.inr (if q.1 = c then ((c, a, putD ds d r) : RatA) else q).1 : Key), V.ref (if q.1 = c then ((c, a, putD ds d r) : RatA) else q).2.1)
    by_cases e : q.1 = c
    · rw [if_pos e, uniq q hq e]
    · rw [if_neg e]
  · rw [k1]
    rcases List.mem_append.mp hx with hx | hx
    · exact has x hx
    · rw [List.mem_singleton.mp hx]
      exact List.mem_map.mpr ⟨_, hm, rfl⟩
  · obtain ⟨z, hz, rfl⟩ := List.mem_map.mp hq
    by_cases e : z.1 = c
    · rw [if_pos e]
      exact rat_put (each _ hm) hr k ha
    · rw [if_neg e]
      exact rat_other (each z hz) e k (kg z hz (ne z hz e))
  · rw [List.length_map, List.length_append, List.length_singleton]
    exact hl
end
end My

namespace My
open PySem PySem.Spec PyProof.Rows L2 Evl
theorem mem_rdA {b : BkA} {p : Addr} {x : Addr} (h : x ∈ b.rd.map (·.2.1)) : x ∈ b.own p := by
  rw [own_eq]
  exact List.mem_append_right _ (List.mem_append_left _ h)
theorem mem_hd {b : BkA} {p : Addr} {x : Addr} (h : x ∈ b.heads p) : x ∈ b.own p := by
  rw [own_eq]
  exact List.mem_append_left _ h
theorem mem_acA {b : BkA} {p : Addr} {x : Addr} (h : x ∈ accAll b.ac) : x ∈ b.own p := by
  rw [own_eq]
  exact List.mem_append_right _ (List.mem_append_right _ h)
theorem mem_own {b : BkA} {p : Addr} {A : Ad} {x : Addr} (h : x ∈ b.own p) : x ∈ b.all p A := List.mem_append_left _ h
section
variable {K : PySem.W.Frag} {A : Ad} {H H' : Hp} {p : Addr} {b : BkA} {S : BkS}
theorem BkAt.lams {F : List Addr} (h : BkAt K H A p F S) : LamsIn H A := by
  obtain ⟨b, _, h⟩ := h
  exact h.lams
theorem LamsIn.ex (t : LamsIn H A) (e : Ex H H') : LamsIn H' A := t.keep (G := A.tl.map (·.2)) (.of_ex e) fun q hq => List.mem_map.mpr ⟨q, hq, rfl⟩
theorem Ex.new2 {H : Hp} {x dx C : Addr} {fs : List (Str × V)} (h1 : H x = none) (h2 : H dx = none) (h3 : dx ≠ x) : Ex H (upd (upd H dx (.own x)) x (.ins C dx fs)) := (Ex.new h2).trans (Ex.new (by rw [upd_ne (Ne.symm h3)]; exact h1))
/-- a list that is no table is held -/
theorem heldL2 {l : Addr} {xs : List V} {F : List Addr} (h : SqL K H l xs) (n : ∀ o, H l = some o → (∀ ps, o ≠ .tbl ps) → l ∉ F) : Held H F (fun H' => SqL K H' l xs) l := by
  rcases h with (h | ⟨o, h⟩) | h
  · exact .inl ⟨_, h, n _ h (fun ps z => by cases z), fun H' h' => sq_of h'⟩
  · exact .inl ⟨_, h, n _ h (fun ps z => by cases z), fun H' h' => .inl (.inr ⟨o, h'⟩)⟩
  · exact .inr fun H' => .inr h
/-- the lambdas' tables are none of the book's own -/
theorem BkIn.lam_out (h : BkIn K H A p b S) : ∀ q ∈ A.tl, q.2 ∉ b.own p := by
  intro q hq hx
  obtain ⟨ps, e, _⟩ := h.lams q hq
  have key : ∀ o, H q.2 = some o → (∀ ps, o ≠ .tbl ps) → False := fun o h1 h2 => by
    rw [e] at h1
    exact h2 ps (Option.some.inj h1).symm
  unfold BkA.own at hx
  simp only [List.mem_cons, List.mem_append] at hx
  rcases hx with z | z | z | z | z | z | z | z | hx | hx
  · exact key _ (z ▸ h.ins) fun ps z => by cases z
  · exact key _ (z ▸ h.own) fun ps z => by cases z
  · exact key _ (z ▸ h.acc.d) fun ps z => by cases z
  · exact key _ (z ▸ h.rat.d) fun ps z => by cases z
  · exact key _ (z ▸ h.ent.1) fun ps z => by cases z
  · exact key _ (z ▸ h.tak.1) fun ps z => by cases z
  · exact key _ (z ▸ h.ends) fun ps z => by cases z
  · exact key _ (z ▸ h.ded.1) fun ps z => by cases z
  · obtain ⟨y, hy, e2⟩ := List.mem_map.mp hx
    exact key _ (e2 ▸ (h.rat.each y hy).d) fun ps z => by cases z
  · obtain ⟨y, hy, hz⟩ := List.mem_flatMap.mp hx
    rcases List.mem_cons.mp hz with z | hz
    · exact key _ (z ▸ (h.acc.each y hy).d) fun ps z => by cases z
    · obtain ⟨z, hz2, e2⟩ := List.mem_map.mp hz
      obtain ⟨rs, e3, _⟩ := ((h.acc.each y hy).each z hz2).1
      exact key _ (e2 ▸ e3) fun ps z => by cases z
/-- nothing of the book's own is still -/
theorem BkIn.own_moves (h : BkIn K H A p b S) : ∀ x ∈ b.own p, x ≠ b.dx → ∀ o, H x = some o → ¬ Still o := by
  intro x hx hn o ho
  unfold BkA.own at hx
  simp only [List.mem_cons, List.mem_append] at hx
  rcases hx with rfl | rfl | rfl | rfl | rfl | rfl | rfl | rfl | hx | hx
  · rw [h.ins] at ho; cases ho; exact still_ins
  · exact absurd rfl hn
  · rw [h.acc.d] at ho; cases ho; exact still_dK
  · rw [h.rat.d] at ho; cases ho; exact still_dK
  · rw [h.ent.1] at ho; cases ho; exact still_lst
  · rw [h.tak.1] at ho; cases ho; exact still_dK
  · rw [h.ends] at ho; cases ho; exact still_lst
  · rw [h.ded.1] at ho; cases ho; exact still_lst
  · obtain ⟨y, hy, rfl⟩ := List.mem_map.mp hx
    rw [(h.rat.each y hy).d] at ho; cases ho; exact still_dK
  · obtain ⟨y, hy, hz⟩ := List.mem_flatMap.mp hx
    rcases List.mem_cons.mp hz with rfl | hz
    · rw [(h.acc.each y hy).d] at ho; cases ho; exact still_dK
    · obtain ⟨z, hz2, rfl⟩ := List.mem_map.mp hz
      obtain ⟨rs, e3, _⟩ := ((h.acc.each y hy).each z hz2).1
      rw [e3] at ho; cases ho; exact still_lst
/-- behind setdefault: the currency's dict is there -/
structure Told1 (K : PySem.W.Frag) (H H1 : Hp) (b : BkA) (told : List RateRow) (c : Str) (a : Addr) (ds : List (Int × Addr)) (rd : List RatA) : Prop where
  agr : Agree H [b.pr] H1
  d : H1 b.pr = some (.dK (rd.map fun q => ((.inr q.1 : Key), V.ref q.2.1)))
  nd : (rd.map (·.1)).Nodup
  nda : (rd.map (·.2.1)).Nodup
  has : ∀ x ∈ told, x.1 ∈ rd.map (·.1)
  each : ∀ q ∈ rd, RatAt K H1 told q.1 q.2.1 q.2.2
  mem : (c, a, ds) ∈ rd
  len : rd.length ≤ told.length + 1
  new : ∀ x ∈ rd.map (·.2.1), x ∈ b.rd.map (·.2.1) ∨ H x = none
theorem told_there (hb : BkIn K H A p b S) (e : Ex H H') {q : RatA} (h : q ∈ b.rd) : Told1 K H H' b S.told q.1 q.2.1 q.2.2 b.rd :=
  ⟨.of_ex e, e _ _ hb.rat.d, hb.rat.nd, (apart_iff.mp hb.nd).rd, hb.rat.has, fun z hz => (hb.rat.each z hz).keep (.of_ex (F := [z.2.1]) e) List.mem_cons_self, h, Nat.le_succ_of_le hb.rat.len, fun x hx => .inl hx⟩
theorem told_new (hb : BkIn K H A p b S) (e : Ex H H') {c : Str} {nd : Addr} (hn : c ∉ b.rd.map (·.1)) (n0 : H nd = none) (u : H' nd = some (.dK [])) :
    Told1 K H (upd H' b.pr (.dK (putK (b.rd.map fun q => ((.inr q.1 : Key), V.ref q.2.1)) (.inr c) (.ref nd)))) b S.told c nd [] (b.rd ++ [(c, nd, [])]) := by
  have npr : nd ≠ b.pr := fun z => by rw [z, hb.rat.d] at n0; cases n0
  have ag : Agree H [b.pr] (upd H' b.pr (.dK (putK (b.rd.map fun q => ((.inr q.1 : Key), V.ref q.2.1)) (.inr c) (.ref nd)))) := Agree.trans (Agree.of_ex e) (.upd (by simp))
  have hrpr : ∀ q ∈ b.rd, q.2.1 ≠ b.pr := fun q hq z => (apart_iff.mp hb.nd).hr b.pr (by simp [BkA.heads]) (z ▸ List.mem_map.mpr ⟨q, hq, rfl⟩)
  refine ⟨ag, ?_, ?_, ?_, fun x hx => ?_, fun q hq => ?_, List.mem_append_right _ List.mem_cons_self, ?_, fun x hx => ?_⟩
  · rw [upd_same, putK_new, List.map_append]
    · rfl
    · rw [valV_inr (key := fun q : RatA => q.1) (f := fun q => V.ref q.2.1), find_none hn]
      rfl
  · rw [List.map_append, List.nodup_append]
    exact ⟨hb.rat.nd, by simp, fun x hx y hy e => hn (by
      have h2 : y = c := List.mem_singleton.mp hy
      rw [← h2, ← e]
      exact hx)⟩
  · rw [List.map_append, List.nodup_append]
    refine ⟨(apart_iff.mp hb.nd).rd, by simp, fun x hx y hy e => ?_⟩
    have h2 : y = nd := List.mem_singleton.mp hy
    subst e
    obtain ⟨q, hq, hz⟩ := List.mem_map.mp hx
    rw [h2] at hz
    have := (hb.rat.each q hq).d
    rw [hz, n0] at this
    cases this
  · rw [List.map_append]
    exact List.mem_append_left _ (hb.rat.has x hx)
  · rcases List.mem_append.mp hq with hq | hq
    · exact (hb.rat.each q hq).keep (keeps_of_agree (G := [q.2.1]) ag (fun x hx z => hrpr q hq (by rw [← List.mem_singleton.mp z, List.mem_singleton.mp hx])) (fun x hx o ho => by rw [List.mem_singleton.mp hx, hb.rat.d] at ho; cases ho; exact still_dK)) List.mem_cons_self
    · rw [List.mem_singleton.mp hq]
      exact ⟨by rw [upd_ne npr]; exact u, List.nodup_nil, fun r hr h => absurd (by rw [← show r.1 = c from h]; exact hb.rat.has r hr) hn, fun z hz => absurd hz (by simp), Nat.zero_le _⟩
  · rw [List.length_append]
    exact Nat.add_le_add_right hb.rat.len 1
  · rw [List.map_append] at hx
    rcases List.mem_append.mp hx with hx | hx
    · exact .inl hx
    · exact .inr (by rw [show x = nd from List.mem_singleton.mp hx]; exact n0)
theorem tell_tail {D : Ends} {H1 : Hp} {c : Str} {d t bo : Int} {a : Addr} {ds : List (Int × Addr)} {rd : List RatA} (hb : BkIn K H A p b S) (T : Told1 K H H1 b S.told c a ds rd) (cB : Cls K (A.co.getD 0 0)) (nD : NoAttr K (A.co.getD 0 0) "_deeds")
    (htl : S.told.length ≤ 10000) (hdl : S.deeds.length ≤ 10000) (k : ∀ H' F', BkAt K H' A p F' (S.tell (c, d, t, bo)) → Grow H (b.all p A) H' F' → D.nx [some (.ref p), some (.str c), some (.int d), some (.int t), some (.int bo), some (.ref a)] H') :
    tSeq (sDPut (tVar 5) (tVar 2) (tTup (tCons (tVar 3) (tCons (tVar 4) tNil)))) (tDrop (tBM K "list" rAppend (tFld K (tVar 0) "_deeds") (tCons (tTup (tCons (tC (V.str (Str.ofString "rate"))) (tCons (tVar 1) (tCons (tVar 2) (tCons (tVar 3) (tCons (tVar 4) tNil)))))) tNil))) D
      [some (.ref p), some (.str c), some (.int d), some (.int t), some (.int bo), some (.ref a)] H1 := by
  have ap := apart_iff.mp hb.nd
  obtain ⟨q1, q2, q3, q4, q5, q6, q7, r1, r2, r3, r4, r5, r6, s1, s2, s3, s4, s5, t1, t2, t3, t4, u1, u2, u3, v1, v2, w1⟩ := ap.heads
  have hra := T.each _ T.mem
  have hdsl := hra.len
  have anew : a ∈ b.rd.map (·.2.1) ∨ H a = none := T.new a (List.mem_map.mpr ⟨_, T.mem, rfl⟩)
  have a_h : a ∉ b.heads p := fun z => by
    rcases anew with h | h
    · exact ap.hr a z h
    · obtain ⟨o, ho⟩ := hb.live a (mem_own (mem_hd z))
      rw [h] at ho
      cases ho
  have a_c : a ∉ accAll b.ac := fun z => by
    rcases anew with h | h
    · exact ap.ra a h z
    · obtain ⟨o, ho⟩ := hb.live a (mem_own (mem_acA z))
      rw [h] at ho
      cases ho
  have na : ∀ x ∈ b.heads p, x ≠ a := fun x hx z => a_h (z ▸ hx)
  -- told[day] = (top, bottom)
  refine ⟨_, rfl, _, rfl, sz_of (Nat.le_of_ble_eq_true rfl), fun r nr => ⟨_, rfl, _, rfl, a, _, rfl, DPut.k (k := Sum.inl d) (by rw [upd_ne (ne_of_none hra.d nr)]; exact hra.d) (by rw [List.length_map]; exact sz_lt (by omega)), ?_⟩⟩
  have ra : r ≠ a := Ne.symm (ne_of_none hra.d nr)
  have x2 : Ex H1 (upd H1 r (.tup [.int t, .int bo])) := .new nr
  have ag2 : Agree H [b.pr, a] (upd (upd H1 r (.tup [.int t, .int bo])) a (.dK (putK (ds.map fun q => ((.inl q.1 : Key), V.ref q.2)) (.inl d) (.ref r)))) :=
    Agree.trans (Agree.trans (Agree.mono T.agr (M' := [b.pr, a]) (by simp)) (.of_ex x2)) (.upd (by simp))
  have hr2 : (upd (upd H1 r (.tup [.int t, .int bo])) a (.dK (putK (ds.map fun q => ((.inl q.1 : Key), V.ref q.2)) (.inl d) (.ref r)))) r = some (.tup [.int t, .int bo]) := by rw [upd_ne ra]; exact upd_same
  have ha2 : (upd (upd H1 r (.tup [.int t, .int bo])) a (.dK (putK (ds.map fun q => ((.inl q.1 : Key), V.ref q.2)) (.inl d) (.ref r)))) a = some (.dK (putK (ds.map fun q => ((.inl q.1 : Key), V.ref q.2)) (.inl d) (.ref r))) := upd_same
  have k12 : Keeps (b.pr :: (rd.map (·.2.1)).filter fun x => decide (x ≠ a)) H1 (upd (upd H1 r (.tup [.int t, .int bo])) a (.dK (putK (ds.map fun q => ((.inl q.1 : Key), V.ref q.2)) (.inl d) (.ref r)))) :=
    (Keeps.of_ex x2).trans (.upd (by rw [upd_ne (Ne.symm ra)]; exact hra.d) (fun z => by
      rcases List.mem_cons.mp z with z | z
      · exact na b.pr (by simp [BkA.heads]) z.symm
      · rw [List.mem_filter] at z
        exact of_decide_eq_true z.2 rfl) still_dK)
  generalize upd (upd H1 r (.tup [.int t, .int bo])) a (.dK (putK (ds.map fun q => ((.inl q.1 : Key), V.ref q.2)) (.inl d) (.ref r))) = H2 at ag2 hr2 ha2 k12 ⊢
  -- the deed
  have mv2 : ∀ x ∈ [b.pr, a], ∀ o, H x = some o → ¬ Still o := fun x hx o ho => by
    simp only [List.mem_cons, List.not_mem_nil, or_false] at hx
    rcases hx with rfl | rfl
    · exact hb.own_moves _ (mem_hd (by simp [BkA.heads])) (Ne.symm r2) o ho
    · rcases anew with h | h
      · exact hb.own_moves _ (mem_rdA h) (fun z => ap.hr b.dx (by simp [BkA.heads]) (z ▸ h)) o ho
      · rw [h] at ho; cases ho
  have kp2 : ∀ G : List Addr, b.pr ∉ G → a ∉ G → Keeps G H H2 := fun G g1 g2 => keeps_of_agree ag2 (fun x hx => by
    simp only [List.mem_cons, List.not_mem_nil, or_false] at hx
    rcases hx with rfl | rfl
    · exact g1
    · exact g2) mv2
  have hins2 := kp2 [p] (by simp [Ne.symm q3]) (by simp [Ne.symm (na p (by simp [BkA.heads]))]) p _ hb.ins (.inl (by simp))
  have hded2 := hb.ded.keep (kp2 [b.pd] (by simp [t4]) (by simp [Ne.symm (na b.pd (by simp [BkA.heads]))])) List.mem_cons_self
  obtain ⟨hd2, r0, rs, hdr, hr0, hrs⟩ := hded2
  refine ⟨_, rfl, p, _, _, _, _, rfl, hins2, cB, nD, rfl, .inl ⟨rfl, _, .inl (.inl hd2)⟩, _, rfl, _, rfl, _, rfl, _, rfl, sz_of (Nat.le_of_ble_eq_true rfl), fun rt nrt => ?_⟩
  have ndrt : b.pd ≠ rt := ne_of_none hd2 nrt
  have hlen : b.dr.length = S.deeds.length + 1 := by
    rw [hdr, List.length_cons, ← Paired.length hrs]
  refine ⟨b.pd, _, _, rfl, rfl, by rw [upd_ne ndrt]; exact hd2, by rw [List.length_map, hlen]; exact sz_lt (by omega), ?_⟩
  have x3 : Ex H2 (upd H2 rt (.tup [.str (Str.ofString "rate"), .str c, .int d, .int t, .int bo])) := .new nrt
  have hrt3 : (upd (upd H2 rt (.tup [.str (Str.ofString "rate"), .str c, .int d, .int t, .int bo])) b.pd (.lst (b.dr.map V.ref ++ [.ref rt]))) rt = some (.tup [.str (Str.ofString "rate"), .str c, .int d, .int t, .int bo]) := by rw [upd_ne (Ne.symm ndrt)]; exact upd_same
  have hpd3 : (upd (upd H2 rt (.tup [.str (Str.ofString "rate"), .str c, .int d, .int t, .int bo])) b.pd (.lst (b.dr.map V.ref ++ [.ref rt]))) b.pd = some (.lst (b.dr.map V.ref ++ [.ref rt])) := upd_same
  have k23 : ∀ G : List Addr, b.pd ∉ G → Keeps G H2 (upd (upd H2 rt (.tup [.str (Str.ofString "rate"), .str c, .int d, .int t, .int bo])) b.pd (.lst (b.dr.map V.ref ++ [.ref rt]))) := fun G g => (Keeps.of_ex x3).trans (.upd (by rw [upd_ne ndrt]; exact hd2) g still_lst)
  have ag3 : Agree H [b.pr, a, b.pd] (upd (upd H2 rt (.tup [.str (Str.ofString "rate"), .str c, .int d, .int t, .int bo])) b.pd (.lst (b.dr.map V.ref ++ [.ref rt]))) :=
    Agree.trans (Agree.trans (Agree.mono ag2 (M' := [b.pr, a, b.pd]) (by simp)) (.of_ex x3)) (.upd (by simp))
  generalize upd (upd H2 rt (.tup [.str (Str.ofString "rate"), .str c, .int d, .int t, .int bo])) b.pd (.lst (b.dr.map V.ref ++ [.ref rt])) = H3 at hrt3 hpd3 k23 ag3 ⊢
  have kp3 : ∀ G : List Addr, b.pr ∉ G → a ∉ G → b.pd ∉ G → Keeps G H H3 := fun G g1 g2 g3 => (kp2 G g1 g2).trans (k23 G g3)
  have hh : ∀ x y : Addr, x ≠ y → y ∉ [x] := fun x y h z => h (List.mem_singleton.mp z).symm
  have nb : ∀ x ∈ b.heads p, a ∉ [x] := fun x hx z => na x hx (List.mem_singleton.mp z).symm
  have rdA : (rd.map fun q => if q.1 = c then ((c, a, putD ds d r) : RatA) else q).map (·.2.1) = rd.map (·.2.1) := by
    rw [List.map_map]
    refine List.map_congr_left fun q hq => ?_
    show (if q.1 = c then ((c, a, putD ds d r) : RatA) else q).2.1 = q.2.1
    by_cases e : q.1 = c
    · rw [if_pos e]
      obtain ⟨i, hi, h1⟩ := List.getElem_of_mem hq
      obtain ⟨j, hj, h2⟩ := List.getElem_of_mem T.mem
      have : i = j := nd_ix T.nd (x := c) (by rw [List.getElem?_map, List.getElem?_eq_getElem hi, h1]; exact congrArg some e) (by rw [List.getElem?_map, List.getElem?_eq_getElem hj, h2]; rfl)
      subst this
      rw [← h1, h2]
    · rw [if_neg e]
  have rd_pd : ∀ x ∈ rd.map (·.2.1), x ≠ b.pd := fun x hx z => by
    rcases T.new x hx with h | h
    · exact ap.hr b.pd (by simp [BkA.heads]) (z ▸ h)
    · rw [z, hb.ded.1] at h; cases h
  have hrat : RatesAt K H3 b.pr (rd.map fun q => if q.1 = c then ((c, a, putD ds d r) : RatA) else q) (S.told ++ [(c, d, t, bo)]) := by
    refine rates_put (H := H1) (G := (rd.map (·.2.1)).filter fun x => decide (x ≠ a)) ?_ T.nd T.nda T.has T.each T.mem (st_of ?_) ?_ (fun q hq hn => List.mem_filter.mpr ⟨List.mem_map.mpr ⟨q, hq, rfl⟩, decide_eq_true hn⟩) ?_ T.len
    · exact k23 [b.pr] (by simp [Ne.symm t4]) _ _ (k12 _ _ T.d (.inl List.mem_cons_self)) (.inl List.mem_cons_self)
    · exact k23 [] (by simp) _ _ hr2 (.inr (.inl ⟨_, rfl⟩))
    · exact (k12.sub fun x hx => List.mem_cons_of_mem _ hx).trans (k23 _ fun z => rd_pd _ (List.mem_filter.mp z).1 rfl)
    · exact k23 [a] (by simp [na b.pd (by simp [BkA.heads])]) _ _ ha2 (.inl List.mem_cons_self)
  have lam : ∀ x, x ∈ b.own p ∨ H x = none → x ∉ A.tl.map (·.2) := fun x hx z => by
    obtain ⟨q, hq, e⟩ := List.mem_map.mp z
    rcases hx with h | h
    · exact hb.lam_out q hq (e ▸ h)
    · obtain ⟨ps, h1, _⟩ := hb.lams q hq
      rw [e, h] at h1
      cases h1
  have aown : a ∈ b.own p ∨ H a = none := anew.imp mem_rdA id
  show D.nx _ H3
  refine k H3 _ ⟨{ b with rd := rd.map fun q => if q.1 = c then ((c, a, putD ds d r) : RatA) else q, dr := b.dr ++ [rt] }, rfl, ⟨?_, ?_, ?_, hrat, ?_, ?_, ?_, ?_, ?_, ?_, ?_⟩⟩ (.of_agree ag3 (fun x hx => ?_) fun x hx => ?_)
  · exact kp3 [p] (hh _ _ q3) (nb p (by simp [BkA.heads])) (hh _ _ q7) p _ hb.ins (.inl List.mem_cons_self)
  · exact kp3 [b.dx] (hh _ _ r2) (nb b.dx (by simp [BkA.heads])) (hh _ _ r6) b.dx _ hb.own (.inl List.mem_cons_self)
  · refine hb.acc.keep (kp3 (b.pa :: accAll b.ac) ?_ ?_ ?_) List.mem_cons_self fun x hx => List.mem_cons_of_mem _ hx
    · exact fun z => (List.mem_cons.mp z).elim (fun e => s1 e.symm) (ap.ha _ (by simp [BkA.heads]))
    · exact fun z => (List.mem_cons.mp z).elim (fun e => na b.pa (by simp [BkA.heads]) e.symm) a_c
    · exact fun z => (List.mem_cons.mp z).elim (fun e => s5 e.symm) (ap.ha _ (by simp [BkA.heads]))
  · exact hb.ent.keep (kp3 [b.pe] (hh _ _ (Ne.symm t1)) (nb b.pe (by simp [BkA.heads])) (hh _ _ u3)) List.mem_cons_self
  · exact hb.tak.keep (kp3 [b.pt] (hh _ _ (Ne.symm t2)) (nb b.pt (by simp [BkA.heads])) (hh _ _ v2)) List.mem_cons_self
  · exact kp3 [b.pn] (hh _ _ (Ne.symm t3)) (nb b.pn (by simp [BkA.heads])) (hh _ _ w1) b.pn _ hb.ends (.inl List.mem_cons_self)
  · refine ⟨by rw [hpd3, List.map_append]; rfl, r0, rs ++ [rt], by rw [hdr]; rfl, (k23 [] (by simp)).sqt hr0, Paired.snoc (Paired.mapP hrs fun _ _ z => z.keep (k23 [] (by simp))) ?_⟩
    exact st_of (K := K) hrt3
  · exact hb.tabs.keep (kp3 [] (by simp) (by simp) (by simp))
  · exact hb.lams.keep (kp3 (A.tl.map (·.2)) (lam _ (.inl (mem_hd (by simp [BkA.heads])))) (lam _ aown) (lam _ (.inl (mem_hd (by simp [BkA.heads]))))) fun q hq => List.mem_map.mpr ⟨q, hq, rfl⟩
  · refine apart_iff.mpr ⟨ap.hd, by show (List.map _ (List.map _ rd)).Nodup; rw [rdA]; exact T.nda, ap.ac, fun x hx z => ?_, ap.ha, fun x hx z => ?_⟩
    · have z : x ∈ rd.map (·.2.1) := by rw [← rdA]; exact z
      rcases T.new x z with h | h
      · exact ap.hr x hx h
      · obtain ⟨o, ho⟩ := hb.live x (mem_own (mem_hd hx))
        rw [h] at ho
        cases ho
    · have hx : x ∈ rd.map (·.2.1) := by rw [← rdA]; exact hx
      rcases T.new x hx with h | h
      · exact ap.ra x h z
      · obtain ⟨o, ho⟩ := hb.live x (mem_own (mem_acA z))
        rw [h] at ho
        cases ho
  · simp only [List.mem_cons, List.not_mem_nil, or_false] at hx
    rcases hx with rfl | rfl | rfl
    · exact .inl (mem_own (mem_hd (by simp [BkA.heads])))
    · exact aown.imp mem_own id
    · exact .inl (mem_own (mem_hd (by simp [BkA.heads])))
  · rcases List.mem_append.mp hx with hx | hx
    · rw [own_eq] at hx
      rcases List.mem_append.mp hx with hx | hx
      · exact .inl (mem_own (mem_hd hx))
      · rcases List.mem_append.mp hx with hx | hx
        · have hx : x ∈ rd.map (·.2.1) := by rw [← rdA]; exact hx
          exact (T.new x hx).imp (fun h => mem_own (mem_rdA h)) id
        · exact .inl (mem_own (mem_acA hx))
    · exact .inl (List.mem_append_right _ hx)
end
end My


namespace Prf
open PySem PySem.Spec PyProof.Rows L2 Evl My
def topS (i : Nat) : Stmt := PySem.Challenge.pw_doubleledger_k03_rates_by_days.main.body.getD i (.Pass ⟨0, 0, 0, 0⟩)
abbrev s_check_currency : Stmt := topS 23
theorem sc_check_currency : FnScope ["currency"] ["currency"] (defScope s_check_currency) := ⟨rfl, rfl, rfl, by decide +kernel, rfl, by decide +kernel, by decide +kernel⟩
abbrev s_check_day : Stmt := topS 24
theorem sc_check_day : FnScope ["day"] ["day"] (defScope s_check_day) := ⟨rfl, rfl, rfl, by decide +kernel, rfl, by decide +kernel, by decide +kernel⟩
abbrev s_check_rate : Stmt := topS 25
theorem sc_check_rate : FnScope ["top", "bottom"] ["top", "bottom"] (defScope s_check_rate) := ⟨rfl, rfl, rfl, by decide +kernel, rfl, by decide +kernel, by decide +kernel⟩
abbrev s_Book_closed : Stmt := inClass (topS 28) 13
theorem sc_Book_closed : FnScope ["self"] ["self"] (defScope s_Book_closed) := ⟨rfl, rfl, rfl, by decide +kernel, rfl, by decide +kernel, by decide +kernel⟩
abbrev s_Book__check_open : Stmt := inClass (topS 28) 22
theorem sc_Book__check_open : FnScope ["self", "day"] ["self", "day"] (defScope s_Book__check_open) := ⟨rfl, rfl, rfl, by decide +kernel, rfl, by decide +kernel, by decide +kernel⟩
abbrev s_Book___init__ : Stmt := inClass (topS 28) 0
theorem sc_Book___init__ : FnScope ["self", "home"] ["self", "home"] (defScope s_Book___init__) := ⟨rfl, rfl, rfl, by decide +kernel, rfl, by decide +kernel, by decide +kernel⟩
abbrev s_Book_rate : Stmt := inClass (topS 28) 4
theorem sc_Book_rate : FnScope ["self", "currency", "day", "told", "days", "since"] ["self", "currency", "day"] (defScope s_Book_rate) := ⟨rfl, rfl, rfl, by decide +kernel, rfl, by decide +kernel, by decide +kernel⟩
abbrev s_Book_tell_rate : Stmt := inClass (topS 28) 3
theorem sc_Book_tell_rate : FnScope ["self", "currency", "day", "top", "bottom", "told"] ["self", "currency", "day", "top", "bottom"] (defScope s_Book_tell_rate) := ⟨rfl, rfl, rfl, by decide +kernel, rfl, by decide +kernel, by decide +kernel⟩
abbrev s__law_cell : Stmt := topS 30
theorem sc__law_cell : FnScope ["_law_script", "_law_k"] ["_law_script", "_law_k"] (defScope s__law_cell) := ⟨rfl, rfl, rfl, by decide +kernel, rfl, by decide +kernel, by decide +kernel⟩
abbrev s__law_whole : Stmt := topS 32
theorem sc__law_whole : FnScope ["_law_found"] ["_law_found"] (defScope s__law_whole) := ⟨rfl, rfl, rfl, by decide +kernel, rfl, by decide +kernel, by decide +kernel⟩
abbrev s__law_lone : Stmt := topS 31
theorem sc__law_lone : FnScope ["_law_e", "_law_found"] ["_law_e"] (defScope s__law_lone) := ⟨rfl, rfl, rfl, by decide +kernel, rfl, by decide +kernel, by decide +kernel⟩
abbrev s__law_currency : Stmt := topS 33
theorem sc__law_currency : FnScope ["_law_cell_here", "_law_signs", "_law_found"] ["_law_cell_here"] (defScope s__law_currency) := ⟨rfl, rfl, rfl, by decide +kernel, rfl, by decide +kernel, by decide +kernel⟩
abbrev s__law_day : Stmt := topS 34
theorem sc__law_day : FnScope ["_law_cell_here"] ["_law_cell_here"] (defScope s__law_day) := ⟨rfl, rfl, rfl, by decide +kernel, rfl, by decide +kernel, by decide +kernel⟩
abbrev s__law_part : Stmt := topS 35
theorem sc__law_part : FnScope ["_law_cell_here"] ["_law_cell_here"] (defScope s__law_part) := ⟨rfl, rfl, rfl, by decide +kernel, rfl, by decide +kernel, by decide +kernel⟩
abbrev s__law_due : Stmt := topS 36
theorem sc__law_due : FnScope ["_law_told", "_law_currency_here", "_law_day_here", "_law_found", "_law_row"] ["_law_told", "_law_currency_here", "_law_day_here"] (defScope s__law_due) := ⟨rfl, rfl, rfl, by decide +kernel, rfl, by decide +kernel, by decide +kernel⟩
abbrev s__law_refused : Stmt := topS 37
theorem sc__law_refused : FnScope ["_law_book", "_law_currency_here", "_law_day_here", "_law_e"] ["_law_book", "_law_currency_here", "_law_day_here"] (defScope s__law_refused) := ⟨rfl, rfl, rfl, by decide +kernel, rfl, by decide +kernel, by decide +kernel⟩
abbrev s__law_asked : Stmt := topS 38
theorem sc__law_asked : FnScope ["_law_book", "_law_told", "_law_currency_here", "_law_day_here", "_law_due_here", "_law_found"] ["_law_book", "_law_told", "_law_currency_here", "_law_day_here"] (defScope s__law_asked) := ⟨rfl, rfl, rfl, by decide +kernel, rfl, by decide +kernel, by decide +kernel⟩
abbrev s__law_tried_again : Stmt := topS 41
theorem sc__law_tried_again : FnScope ["_law_book", "_law_row"] ["_law_book", "_law_row"] (defScope s__law_tried_again) := ⟨rfl, rfl, rfl, by decide +kernel, rfl, by decide +kernel, by decide +kernel⟩
abbrev s__law_tried : Stmt := topS 39
theorem sc__law_tried : FnScope ["_law_book", "_law_row"] ["_law_book", "_law_row"] (defScope s__law_tried) := ⟨rfl, rfl, rfl, by decide +kernel, rfl, by decide +kernel, by decide +kernel⟩
abbrev s__law_based : Stmt := topS 40
theorem sc__law_based : FnScope ["_law_book", "_law_row", "_law_e"] ["_law_book", "_law_row"] (defScope s__law_based) := ⟨rfl, rfl, rfl, by decide +kernel, rfl, by decide +kernel, by decide +kernel⟩
abbrev s__law_refusals : Stmt := topS 42
theorem sc__law_refusals : FnScope ["_law_book", "_law_home", "_law_other", "_law_cell_here", "_law_none", "_law_rows", "_law_dues", "_law_at"] ["_law_book", "_law_home", "_law_other", "_law_cell_here"] (defScope s__law_refusals) := ⟨rfl, rfl, rfl, by decide +kernel, rfl, by decide +kernel, by decide +kernel⟩
abbrev s_law : Stmt := topS 43
theorem sc_law : FnScope ["_law_script", "_law_home", "_law_others", "_law_k", "_law_sign", "_law_currency_here", "_law_book", "_law_told", "_law_row", "_law_day_here", "_law_days", "_law_some"] ["_law_script"] (defScope s_law) := ⟨rfl, rfl, rfl, by decide +kernel, rfl, by decide +kernel, by decide +kernel⟩
/-- what the top has written, and what it left -/
structure Bs (K : PySem.W.Frag) (mg : Str → Option Value) (A : Ad) (base : Heap) : Prop where
  exs : Exs K A.L A.cl
  len : A.cl.length = 16
  g_LedgerError : mg "LedgerError" = some (.ref A.L)
  g_BadName : mg "BadName" = some (.ref (A.cl.getD 0 0))
  g_BadCurrency : mg "BadCurrency" = some (.ref (A.cl.getD 1 0))
  g_BadAmount : mg "BadAmount" = some (.ref (A.cl.getD 2 0))
  g_BadDay : mg "BadDay" = some (.ref (A.cl.getD 3 0))
  g_BadNote : mg "BadNote" = some (.ref (A.cl.getD 4 0))
  g_BadRate : mg "BadRate" = some (.ref (A.cl.getD 5 0))
  g_Unbalanced : mg "Unbalanced" = some (.ref (A.cl.getD 6 0))
  g_Closed : mg "Closed" = some (.ref (A.cl.getD 7 0))
  g_Taken : mg "Taken" = some (.ref (A.cl.getD 8 0))
  g_TakenBack : mg "TakenBack" = some (.ref (A.cl.getD 9 0))
  g_NoAccount : mg "NoAccount" = some (.ref (A.cl.getD 10 0))
  g_NoEntry : mg "NoEntry" = some (.ref (A.cl.getD 11 0))
  g_NoRate : mg "NoRate" = some (.ref (A.cl.getD 12 0))
  g_NoPeriod : mg "NoPeriod" = some (.ref (A.cl.getD 13 0))
  g_TooSmall : mg "TooSmall" = some (.ref (A.cl.getD 14 0))
  g_BadText : mg "BadText" = some (.ref (A.cl.getD 15 0))
  c_Book : Cls K (A.co.getD 0 0)
  n_Book_home : NoAttr K (A.co.getD 0 0) "home"
  n_Book__accounts : NoAttr K (A.co.getD 0 0) "_accounts"
  n_Book__rates : NoAttr K (A.co.getD 0 0) "_rates"
  n_Book__entries : NoAttr K (A.co.getD 0 0) "_entries"
  n_Book__taken_back : NoAttr K (A.co.getD 0 0) "_taken_back"
  n_Book__ends : NoAttr K (A.co.getD 0 0) "_ends"
  n_Book__deeds : NoAttr K (A.co.getD 0 0) "_deeds"
  tlen : A.ts.length = 1
  tb_check_currency : GxR.TabB base mg (A.t 0).1 (A.t 0).2
  d_check_currency : DfC K mg "check_currency" s_check_currency ["currency"] (A.t 0).1
  d_check_day : Df K mg "check_day" s_check_day ["day"]
  d_check_rate : Df K mg "check_rate" s_check_rate ["top", "bottom"]
  d_Book_closed : Dm K (A.co.getD 0 0) "closed" "Book.closed" s_Book_closed ["self"]
  d_Book__check_open : Dm K (A.co.getD 0 0) "_check_open" "Book._check_open" s_Book__check_open ["self", "day"]
  d_Book___init__ : Di K mg "Book" (A.co.getD 0 0) "Book.__init__" s_Book___init__ ["self", "home"]
  d_Book_rate : Dm K (A.co.getD 0 0) "rate" "Book.rate" s_Book_rate ["self", "currency", "day"]
  d_Book_tell_rate : Dm K (A.co.getD 0 0) "tell_rate" "Book.tell_rate" s_Book_tell_rate ["self", "currency", "day", "top", "bottom"]
  d__law_cell : Df K mg "_law_cell" s__law_cell ["_law_script", "_law_k"]
  d__law_whole : Df K mg "_law_whole" s__law_whole ["_law_found"]
  d__law_lone : Df K mg "_law_lone" s__law_lone ["_law_e"]
  d__law_currency : Df K mg "_law_currency" s__law_currency ["_law_cell_here"]
  d__law_day : Df K mg "_law_day" s__law_day ["_law_cell_here"]
  d__law_part : Df K mg "_law_part" s__law_part ["_law_cell_here"]
  d__law_due : Df K mg "_law_due" s__law_due ["_law_told", "_law_currency_here", "_law_day_here"]
  d__law_refused : Df K mg "_law_refused" s__law_refused ["_law_book", "_law_currency_here", "_law_day_here"]
  d__law_asked : Df K mg "_law_asked" s__law_asked ["_law_book", "_law_told", "_law_currency_here", "_law_day_here"]
  d__law_tried_again : Df K mg "_law_tried_again" s__law_tried_again ["_law_book", "_law_row"]
  d__law_tried : Df K mg "_law_tried" s__law_tried ["_law_book", "_law_row"]
  d__law_based : Df K mg "_law_based" s__law_based ["_law_book", "_law_row"]
  d__law_refusals : Df K mg "_law_refusals" s__law_refusals ["_law_book", "_law_home", "_law_other", "_law_cell_here"]
  d_law : Df K mg "law" s_law ["_law_script"]
  b_ValueError : mg "ValueError" = none
  b_all : mg "all" = none
  b_bool : mg "bool" = none
  b_int : mg "int" = none
  b_isinstance : mg "isinstance" = none
  b_len : mg "len" = none
  b_max : mg "max" = none
  b_min : mg "min" = none
  b_range : mg "range" = none
  b_tuple : mg "tuple" = none
  k_CURRENCY_LETTERS : ∃ t, mg "CURRENCY_LETTERS" = some (.int (3) t)
  k_EXCHANGE : ∃ t, mg "EXCHANGE" = some (.str (Str.ofString "exchange") t)
  k_GREATEST_RATE : ∃ t, mg "GREATEST_RATE" = some (.int (1000000000) t)
  k_LAST_DAY : ∃ t, mg "LAST_DAY" = some (.int (99999) t)
section
variable {P : Program} {w : World} {K : PySem.W.Frag} {mg : Str → Option Value} {base : Heap} {A : Ad}
/-! ### the looks at what is handed in -/
def Refuses (A : Ad) (H : Hp) (err : Option Nat) (Q : VK) (E : XK) : Prop := (∀ i, err = some i → E (.ref (A.cl.getD i 0)) none H) ∧ (err = none → Q .non H)
def errIf (b : Bool) (i : Nat) : Option Nat := if b = true then none else some i
theorem Refuses.yes {A : Ad} {H : Hp} {b : Bool} {i : Nat} {Q : VK} {E : XK} (h : Refuses A H (errIf b i) Q E) (e : b = true) : Q .non H := h.2 (if_pos e)
theorem Refuses.no {A : Ad} {H : Hp} {b : Bool} {i : Nat} {Q : VK} {E : XK} (h : Refuses A H (errIf b i) Q E) (e : b = false) : E (.ref (A.cl.getD i 0)) none H := h.1 i (if_neg (by rw [e]; decide))
theorem refuses_of {A : Ad} {H : Hp} {b : Bool} {i : Nat} {Q : VK} {E : XK} (h1 : b = true → Q .non H) (h2 : b = false → E (.ref (A.cl.getD i 0)) none H) : Refuses A H (errIf b i) Q E := by
  refine ⟨fun j hj => ?_, fun hn => ?_⟩
  · unfold errIf at hj
    cases b with
    | true => cases hj
    | false => cases hj; exact h2 rfl
  · unfold errIf at hn
    cases b with
    | true => exact h1 rfl
    | false => cases hn
def spCurC (A : Ad) : Sp := fun vs H Q E => ∃ c : Str, vs = [.str c] ∧ c.length ≤ 1000 ∧ TabsIn A H ∧ Refuses A H (errIf (curOk c) 1) Q E
def spDayC (A : Ad) : Sp := fun vs H Q E => ∃ d : Int, vs = [.int d] ∧ Refuses A H (errIf (dayOk d) 3) Q E
def spRateC (A : Ad) : Sp := fun vs H Q E => ∃ t b : Int, vs = [.int t, .int b] ∧ Refuses A H (errIf (partOk t && partOk b) 5) Q E
theorem sgn_lt {a b : Nat} : decide (([a] : List Nat) < [b]) = decide (a < b) := by
  by_cases h : a < b
  · rw [decide_eq_true h, decide_eq_true]
    exact List.Lex.rel h
  · rw [decide_eq_false h, decide_eq_false]
    intro z
    cases z with
    | rel z => exact h z
    | cons z => cases z
theorem inRange_eq (lo hi : Nat) (a b : Str) (cp : Nat) (ha : a.cps.toList = [lo]) (hb : b.cps.toList = [hi]) : inRange a b cp = (decide (lo ≤ cp) && decide (cp ≤ hi)) := by
  unfold inRange
  rw [ha, hb, sgn_lt, sgn_lt]
  by_cases h1 : cp < lo
  · rw [decide_eq_true h1, decide_eq_false (show ¬ lo ≤ cp by omega)]; rfl
  · rw [decide_eq_false h1, decide_eq_true (show lo ≤ cp by omega)]
    by_cases h2 : hi < cp
    · rw [decide_eq_true h2, decide_eq_false (show ¬ cp ≤ hi by omega)]; rfl
    · rw [decide_eq_false h2, decide_eq_true (show cp ≤ hi by omega)]; rfl
theorem all_congr {l : List Nat} {f g : Nat → Bool} (h : ∀ x, f x = g x) : l.all f = l.all g := by rw [funext h]
theorem curOk_eq (c : Str) : curOk c = (decide (c.length = 3) && c.cps.toList.all (inRange (Str.ofString "A") (Str.ofString "Z"))) := by
  unfold curOk
  rw [all_congr fun x => inRange_eq 65 90 (Str.ofString "A") (Str.ofString "Z") x (by decide +kernel) (by decide +kernel)]
  rfl
theorem dint {a b : Int} : decide (V.int a = V.int b) = decide (a = b) := by
  by_cases h : a = b
  · rw [decide_eq_true h, decide_eq_true (congrArg V.int h)]
  · rw [decide_eq_false h, decide_eq_false fun z => h (V.int.inj z)]
theorem dstr {a b : Str} : decide (V.str a = V.str b) = decide (a = b) := by
  by_cases h : a = b
  · rw [decide_eq_true h, decide_eq_true (congrArg V.str h)]
  · rw [decide_eq_false h, decide_eq_false fun z => h (V.str.inj z)]
theorem dnat {a b : Nat} : decide ((a : Int) = (b : Int)) = decide (a = b) := by
  by_cases h : a = b
  · rw [decide_eq_true h, decide_eq_true (by omega)]
  · rw [decide_eq_false h, decide_eq_false (by omega)]
theorem nb {b : Bool} (h : (!b) = true) : b = false := by cases b <;> simp_all
theorem nb' {b : Bool} (h : (!b) = false) : b = true := by cases b <;> simp_all
/-- check_currency; slots ["currency"] -/
theorem kn_check_currency (B : Bs K mg A base) : Kx P w K mg base 1 "check_currency" (spCurC A) := by
  refine B.d_check_currency.okX sc_check_currency (fun vs H Q E h => ?_) (fun f A0 outer s H vs Q E hr h => ?_)
  · obtain ⟨c, rfl, _⟩ := h; rfl
  · obtain ⟨c, rfl, hl, ht, hq⟩ := h
    refine ⟨_, (pss_one (ps_if (PW.pt (pw_or (pt_cmpR op_ne (pe_callB call_len_str (by rfl) B.b_len (by decide +kernel) (pa_cons (pv 0) pa_nil)) (pe_gI (i := 3) (by rfl) B.k_CURRENCY_LETTERS) (nomark _)) (pw_or1 (pt_not (pt_val (pe_allT hr (by rfl) B.b_all B.tb_check_currency rfl (genS_mk rfl rfl rfl rfl rfl rfl (fun y e => PySem.W.cellsFrom_some _ _ _ (.inl e))) (pv 0) (fun env _ _ _ _ M h1 h2 up => (qe_range (by rw [h1] <;> rfl) (by show env.scope.names.lookup _ = _; rw [h1] <;> rfl))))))))) (pss_one (ps_raise rfl (takes_of rfl rfl rfl rfl) (pmk_i B.exs 1 (by rw [B.len]; decide) B.g_BadCurrency (by rfl)))) pss_nil)), ?_⟩
    refine xs_if (b := !curOk c) (xt_is (xt_or (xt_test (xv_op (x := .int c.length) (y := .int 3) (xv_lenS (xv_var rfl) (by omega)) xv_c (xr_ne rfl))) (fun _ => xt_not (xt_B (xv_all (xv_var rfl) (ht.at (i := 0) (by rw [B.tlen]; decide)))))) ?_) (fun e => hq.no (nb e)) (fun e => hq.yes (nb' e))
    rw [dint, curOk_eq, Bool.not_and, show decide (((c.length : Nat) : Int) = 3) = decide (c.length = 3) from dnat (b := 3)]
/-- check_day; slots ["day"] -/
theorem kn_check_day (B : Bs K mg A base) : Kx P w K mg base 1 "check_day" (spDayC A) := by
  refine B.d_check_day.okX sc_check_day (fun vs H Q E h => ?_) (fun f cdv A0 outer s H vs Q E hr h => ?_)
  · obtain ⟨d, rfl, _⟩ := h; rfl
  · obtain ⟨d, rfl, hq⟩ := h
    refine ⟨_, (pss_one (ps_if (pt_not (pt_chain op_le op_le pe_int (pv 0) (pe_gI (i := 99999) (by rfl) B.k_LAST_DAY))) (pss_one (ps_raise rfl (takes_of rfl rfl rfl rfl) (pmk_i B.exs 3 (by rw [B.len]; decide) B.g_BadDay (by rfl)))) pss_nil)), ?_⟩
    exact xs_if (b := !dayOk d) (xt_not (xt_test (xv_chain xv_c (xv_var rfl) xr_I0 (fun _ => xv_c) (fun _ => xr_I0)))) (fun e => hq.no (nb e)) (fun e => hq.yes (nb' e))
/-- check_rate; slots ["top", "bottom"] -/
theorem kn_check_rate (B : Bs K mg A base) : Kx P w K mg base 1 "check_rate" (spRateC A) := by
  refine B.d_check_rate.okX sc_check_rate (fun vs H Q E h => ?_) (fun f cdv A0 outer s H vs Q E hr h => ?_)
  · obtain ⟨t, b, rfl, _⟩ := h; rfl
  · obtain ⟨t, b, rfl, hq⟩ := h
    refine ⟨_, (pss_one (ps_if (pt_not (PW.pt (pw_and (pt_chain op_le op_le pe_int (pv 0) (pe_gI (i := 1000000000) (by rfl) B.k_GREATEST_RATE)) (pw_and1 (pt_chain op_le op_le pe_int (pv 1) (pe_gI (i := 1000000000) (by rfl) B.k_GREATEST_RATE)))))) (pss_one (ps_raise rfl (takes_of rfl rfl rfl rfl) (pmk_i B.exs 5 (by rw [B.len]; decide) B.g_BadRate (by rfl)))) pss_nil)), ?_⟩
    exact xs_if (b := !(partOk t && partOk b)) (xt_not (xt_and (xt_test (xv_chain xv_c (xv_var rfl) xr_I0 (fun _ => xv_c) (fun _ => xr_I0))) (fun _ => xt_test (xv_chain xv_c (xv_var rfl) xr_I0 (fun _ => xv_c) (fun _ => xr_I0))))) (fun e => hq.no (nb e)) (fun e => hq.yes (nb' e))
/-! ### the book's own reads -/
theorem bfld {p : Addr} {b : BkA} {S : BkS} {H : Hp} {σ : L2.St} {ta : TE} {f : Str} {v : V} (hb : BkIn K H A p b S) (c : Cls K (A.co.getD 0 0)) (n : NoAttr K (A.co.getD 0 0) f) (l : (b.flds S.home).lookup f = some v) (ha : XV ta σ H (.ref p)) : XV (tFld K ta f) σ H v :=
  fun _ q => ha _ ⟨p, _, b.dx, _, v, rfl, hb.ins, c, n, l, q⟩
/-- o.m(..) of the book -/
theorem bmeth {p : Addr} {b : BkA} {S : BkS} {H : Hp} {σ : L2.St} {to : TE} {t : TA} {m : Str} {sp : Sp} {E : L2.St → XK} {vs : List V} {Q : VK} (hb : BkIn K H A p b S) (hm : m ∉ bkFlds) (ha : XV to σ H (.ref p)) (ht : XA t σ H vs) (k : sp (.ref p :: vs) H Q (E σ)) : tMethS (A.co.getD 0 0) m sp E to t σ H Q :=
  ha _ ⟨p, b.dx, _, rfl, hb.ins, flds_none hm, ht _ k⟩
def spClosed (K : PySem.W.Frag) (A : Ad) : Sp := fun vs H Q _ => ∃ (p : Addr) (F : List Addr) (S : BkS), vs = [.ref p] ∧ BkAt K H A p F S ∧ Q (.int S.closed) H
def openErr (S : BkS) (d : Int) : Option Nat := if dayOk d = false then some 3 else if d ≤ S.closed then some 7 else none
def spOpen (K : PySem.W.Frag) (A : Ad) : Sp := fun vs H Q E => ∃ (p : Addr) (F : List Addr) (S : BkS) (d : Int), vs = [.ref p, .int d] ∧ BkAt K H A p F S ∧ Refuses A H (openErr S d) Q E
/-- Book.closed; slots ["self"] -/
theorem kn_Book_closed (B : Bs K mg A base) : Km P w K mg base 1 (A.co.getD 0 0) "closed" (spClosed K A) := by
  refine B.d_Book_closed.okX B.c_Book sc_Book_closed (fun vs H Q E h => ?_) (fun f cdv A0 outer s H vs Q E hr h => ?_)
  · obtain ⟨p, F, S, rfl, _⟩ := h; rfl
  · obtain ⟨p, F, S, rfl, ⟨b, rfl, hb⟩, q⟩ := h
    refine ⟨_, (pss_one (ps_ret (pe_ifExp (pt_truth (pe_fld (pv 0) rfl) (by intro _; rfl)) (pe_ix ix_list (pe_fld (pv 0) rfl) (pe_un un_neg pe_int) (fun _ _ => rfl)) (pe_un un_neg pe_int)))), ?_⟩
    refine xs_ret (xv_if (xt_tru (bfld hb B.c_Book B.n_Book__ends rfl (xv_var rfl)) (tru_l (sq_of hb.ends))) (fun e => ?_) (fun e => xv_is (xv_un (x := .int 1) xv_c fun Q q => ⟨_, rfl, q⟩) ?_)) q
    · rcases List.eq_nil_or_concat S.ends with z | ⟨L, d, z⟩
      · rw [z] at e; cases e
      · refine xv_is (xv_op (x := .ref b.pn) (y := .int (-1)) (bfld hb B.c_Book B.n_Book__ends rfl (xv_var rfl)) (xv_un (x := .int 1) xv_c fun Q q => ⟨_, rfl, q⟩) (xr_ixL (sq_of hb.ends) (v := .int d) ?_)) ?_
        · rw [z, List.concat_eq_append, List.map_append]
          exact atI_last _ _
        · unfold BkS.closed
          rw [z, List.concat_eq_append, List.getLast?_append]
          rfl
    · have z : S.ends = [] := by
        cases hh : S.ends with
        | nil => rfl
        | cons x r => rw [hh] at e; cases e
      unfold BkS.closed
      rw [z]
      rfl
/-- Book._check_open; slots ["self", "day"] -/
theorem kn_Book__check_open (B : Bs K mg A base) : Km P w K mg base 2 (A.co.getD 0 0) "_check_open" (spOpen K A) := by
  have c_Book_closed : Km P w K mg base 1 (A.co.getD 0 0) "closed" (spClosed K A) := kn_Book_closed B
  have c_check_day : Kx P w K mg base 1 "check_day" (spDayC A) := kn_check_day B
  refine B.d_Book__check_open.okX B.c_Book sc_Book__check_open (fun vs H Q E h => ?_) (fun f cdv A0 outer s H vs Q E hr h => ?_)
  · obtain ⟨p, F, S, d, rfl, _⟩ := h; rfl
  · obtain ⟨p, F, S, d, rfl, hB, hq⟩ := h
    obtain ⟨b, rfl, hb⟩ := id hB
    refine ⟨_, (pss_cons (ps_expr (px1 c_check_day hr (by decide) (takes_of rfl rfl rfl rfl) rfl (pa_cons (pv 1) pa_nil)))
      (pss_one (ps_if (pt_cmpR op_le (pv 1) (pm0 c_Book_closed (pv 0) hr (by decide) (takes_of rfl rfl rfl rfl)) (nomark _)) (pss_one (ps_raise rfl (takes_of rfl rfl rfl rfl) (pmk_i B.exs 7 (by rw [B.len]; decide) B.g_Closed (by rfl)))) pss_nil))), ?_⟩
    refine ⟨_, rfl, d, rfl, refuses_of (fun e => ?_) (fun e => hq.1 3 (by unfold openErr; rw [if_pos e]))⟩
    dsimp only
    refine xs_if (b := decide (d ≤ S.closed)) (xt_test (xv_op (x := .int d) (y := .int S.closed) (xv_var rfl) (fun Q q => bmeth hb (by decide) (xv_var rfl) xa_nil ⟨p, _, S, rfl, hB, q⟩) xr_I0)) (fun e2 => hq.1 7 ?_) (fun e2 => hq.2 ?_)
    · unfold openErr; rw [if_neg (by rw [e]; decide), if_pos (of_decide_eq_true e2)]
    · unfold openErr; rw [if_neg (by rw [e]; decide), if_neg (of_decide_eq_false e2)]
/-- all but p stays -/
def Out (p : Addr) (H H' : Hp) : Prop := ∀ x o, H x = some o → x ≠ p → H' x = some o
theorem Out.trans {p : Addr} {H H1 H2 : Hp} (a : Out p H H1) (b : Out p H1 H2) : Out p H H2 := fun x o h n => b x o (a x o h n) n
theorem Out.new {p q : Addr} {H : Hp} {o : HO} (h : H q = none) : Out p H (upd H q o) := fun x u hx _ => by rw [upd_ne (ne_of_none hx h)]; exact hx
theorem Out.at {p : Addr} {H : Hp} {o : HO} : Out p H (upd H p o) := fun x u hx n => by rw [upd_ne n]; exact hx
theorem Out.fresh {p x : Addr} {H H' : Hp} (a : Out p H H') (n : x ≠ p) (h : H' x = none) : H x = none := by
  cases e : H x with
  | none => rfl
  | some o => rw [a x o e n] at h; cases h
def spInit (K : PySem.W.Frag) (A : Ad) : Sp := fun vs H Q E => ∃ (p dx : Addr) (c : Str), vs = [.ref p, .str c] ∧ c.length ≤ 1000 ∧ TabsIn A H ∧ LamsIn H A ∧ H p = some (.ins (A.co.getD 0 0) dx []) ∧ H dx = some (.own p) ∧ p ≠ dx ∧
  (∀ i, homeErr c = some i → ∀ H', Ex H H' → E (.ref (A.cl.getD i 0)) none H') ∧
  (homeErr c = none → ∀ H' F', BkAt K H' A p F' (BkS.start c) → (∀ a o, H a = some o → a ≠ p → a ≠ dx → H' a = some o) → (∀ a ∈ F', a = p ∨ a = dx ∨ H a = none ∨ ∃ ps, H a = some (.tbl ps)) → Q .non H')
/-- Book.__init__; slots ["self", "home"] -/
theorem kn_Book___init__ (B : Bs K mg A base) : Ki P w K mg base 2 "Book" (A.co.getD 0 0) (spInit K A) := by
  have c_check_currency : Kx P w K mg base 1 "check_currency" (spCurC A) := kn_check_currency B
  refine B.d_Book___init__.okX sc_Book___init__ (fun vs H Q E h => ?_) (fun f cdv A0 outer s H vs Q E hr h => ?_)
  · obtain ⟨p, dx, c, rfl, _⟩ := h; rfl
  · obtain ⟨p, dx, c, rfl, hl, ht, hlam, hp, hdx, hne, he, hq⟩ := h
    refine ⟨_, (pss_cons (ps_expr (px1 c_check_currency hr (by decide) (takes_of rfl rfl rfl rfl) rfl (pa_cons (pv 1) pa_nil)))
      (pss_cons (ps_fld (pv 0) (pv 1) rfl)
      (pss_cons (ps_fld (pv 0) (pe_disp (pps_cons (pe_gS (by rfl) B.k_EXCHANGE) (pe_dnewK) pps_nil) (by rfl) (by rfl) (fun z => by cases z) (by decide)) rfl)
      (pss_cons (ps_fld (pv 0) (pe_dnewK) rfl)
      (pss_cons (ps_fld (pv 0) (pe_lst pa_nil) rfl)
      (pss_cons (ps_fld (pv 0) (pe_dnewK) rfl)
      (pss_cons (ps_fld (pv 0) (pe_lst pa_nil) rfl)
      (pss_one (ps_fld (pv 0) (pe_lst (pa_cons (pe_tup (pa_cons pe_str (pa_cons (pv 1) pa_nil))) pa_nil)) rfl))))))))), ?_⟩
    refine ⟨_, rfl, c, rfl, hl, ht, refuses_of (fun e => ?_) (fun e => he 1 (by unfold homeErr; rw [if_neg (by rw [e]; decide)]) H (.refl _))⟩
    have hq := hq (by unfold homeErr; rw [if_pos e])
    refine ⟨_, rfl, _, rfl, p, _, dx, _, rfl, hp, B.c_Book, B.n_Book_home, by decide, ?_⟩
    have o1 : Out p H (upd H p (.ins (A.co.getD 0 0) dx (putF "home" (.str c) []))) := .at
    have p1 : upd H p (.ins (A.co.getD 0 0) dx (putF "home" (.str c) [])) p = some (.ins (A.co.getD 0 0) dx [("home", .str c)]) := upd_same
    dsimp only
    generalize upd H p (.ins (A.co.getD 0 0) dx (putF "home" (.str c) [])) = H1 at o1 p1 ⊢
    have k_dx : H1 dx = some (.own p) := o1 _ _ hdx (Ne.symm hne)
    have d_dx : dx ≠ p := Ne.symm hne
    have oo : Out p H H1 := o1
    have ap : ∀ x o, H x = some o → H1 x = some o ∨ x = p := fun x o hx => (Classical.em (x = p)).elim .inr fun n => .inl (o1 x o hx n)
    have pp := p1
    intro pa npa ae nae
    have n_dx_pa : dx ≠ pa := ne_of_none k_dx npa
    have d_pa : pa ≠ p := fun z => by rw [z, pp] at npa; cases npa
    have n2 : ae ≠ pa := fun z => by rw [z, upd_same] at nae; cases nae
    have nae1 : H1 ae = none := by rw [upd_ne n2] at nae; exact nae
    have n_dx_ae : dx ≠ ae := ne_of_none k_dx nae1
    have d_ae : ae ≠ p := fun z => by rw [z, pp] at nae1; cases nae1
    have n_pa_ae : pa ≠ ae := Ne.symm n2
    refine ⟨by rw [upd_ne (Ne.symm n2)]; exact upd_same, [(.inr (Str.ofString "exchange"), .ref ae)], rfl, Nat.le_of_ble_eq_true rfl, ?_⟩
    have k_pa : (upd (upd (upd H1 pa (.dK [])) ae (.dK [])) pa (.dK (mergeK [] [(.inr (Str.ofString "exchange"), .ref ae)]))) pa = some (.dK [(.inr (Str.ofString "exchange"), .ref ae)]) := upd_same
    have k_ae : (upd (upd (upd H1 pa (.dK [])) ae (.dK [])) pa (.dK (mergeK [] [(.inr (Str.ofString "exchange"), .ref ae)]))) ae = some (.dK []) := by rw [upd_ne n2, upd_same]
    have pp : (upd (upd (upd H1 pa (.dK [])) ae (.dK [])) pa (.dK (mergeK [] [(.inr (Str.ofString "exchange"), .ref ae)]))) p = some (.ins (A.co.getD 0 0) dx [("home", .str c)]) := by rw [upd_ne (Ne.symm d_pa), upd_ne (Ne.symm d_ae), upd_ne (Ne.symm d_pa)]; exact pp
    have oc : Out p H1 (upd (upd (upd H1 pa (.dK [])) ae (.dK [])) pa (.dK (mergeK [] [(.inr (Str.ofString "exchange"), .ref ae)]))) := fun x o hx n => by rw [upd_ne (ne_of_none hx npa), upd_ne (ne_of_none hx nae1), upd_ne (ne_of_none hx npa)]; exact hx
    have k_dx := oc _ _ k_dx d_dx
    have oo := oo.trans oc
    have f_pa : H pa = none := o1.fresh d_pa npa
    have f_ae : H ae = none := o1.fresh d_ae nae1
    generalize upd (upd (upd H1 pa (.dK [])) ae (.dK [])) pa (.dK (mergeK [] [(.inr (Str.ofString "exchange"), .ref ae)])) = H2 at pp oc oo k_dx k_pa k_ae ⊢
    clear oc
    refine ⟨_, rfl, p, _, dx, _, rfl, pp, B.c_Book, B.n_Book__accounts, Nat.le_of_ble_eq_true rfl, ?_⟩
    have pp : upd H2 p (.ins (A.co.getD 0 0) dx (putF "_accounts" (.ref pa) [("home", .str c)])) p = some (.ins (A.co.getD 0 0) dx [("home", .str c), ("_accounts", .ref pa)]) := upd_same
    have oc : Out p H2 (upd H2 p (.ins (A.co.getD 0 0) dx (putF "_accounts" (.ref pa) [("home", .str c)]))) := .at
    have k_dx := oc _ _ k_dx d_dx
    have k_pa := oc _ _ k_pa d_pa
    have k_ae := oc _ _ k_ae d_ae
    have oo := oo.trans oc
    try dsimp only
    generalize upd H2 p (.ins (A.co.getD 0 0) dx (putF "_accounts" (.ref pa) [("home", .str c)])) = H3 at pp oc oo k_dx k_pa k_ae ⊢
    clear oc
    intro pr n_pr
    have f_pr : H pr = none := oo.fresh (fun z => by rw [z, pp] at n_pr; cases n_pr) n_pr
    have n_dx_pr : dx ≠ pr := ne_of_none k_dx n_pr
    have n_pa_pr : pa ≠ pr := ne_of_none k_pa n_pr
    have n_ae_pr : ae ≠ pr := ne_of_none k_ae n_pr
    have d_pr : pr ≠ p := fun z => by rw [z, pp] at n_pr; cases n_pr
    have pp : upd H3 pr (.dK []) p = some (.ins (A.co.getD 0 0) dx [("home", .str c), ("_accounts", .ref pa)]) := by rw [upd_ne (Ne.symm d_pr)]; exact pp
    have k_pr : upd H3 pr (.dK []) pr = some (.dK []) := upd_same
    have oc : Out p H3 (upd H3 pr (.dK [])) := .new n_pr
    have k_dx := oc _ _ k_dx d_dx
    have k_pa := oc _ _ k_pa d_pa
    have k_ae := oc _ _ k_ae d_ae
    have oo := oo.trans oc
    try dsimp only
    generalize upd H3 pr (.dK []) = H4 at pp oc oo k_dx k_pa k_ae k_pr ⊢
    clear oc
    refine ⟨_, rfl, p, _, dx, _, rfl, pp, B.c_Book, B.n_Book__rates, Nat.le_of_ble_eq_true rfl, ?_⟩
    have pp : upd H4 p (.ins (A.co.getD 0 0) dx (putF "_rates" (.ref pr) [("home", .str c), ("_accounts", .ref pa)])) p = some (.ins (A.co.getD 0 0) dx [("home", .str c), ("_accounts", .ref pa), ("_rates", .ref pr)]) := upd_same
    have oc : Out p H4 (upd H4 p (.ins (A.co.getD 0 0) dx (putF "_rates" (.ref pr) [("home", .str c), ("_accounts", .ref pa)]))) := .at
    have k_dx := oc _ _ k_dx d_dx
    have k_pa := oc _ _ k_pa d_pa
    have k_ae := oc _ _ k_ae d_ae
    have k_pr := oc _ _ k_pr d_pr
    have oo := oo.trans oc
    try dsimp only
    generalize upd H4 p (.ins (A.co.getD 0 0) dx (putF "_rates" (.ref pr) [("home", .str c), ("_accounts", .ref pa)])) = H5 at pp oc oo k_dx k_pa k_ae k_pr ⊢
    clear oc
    refine ⟨sz_of (Nat.zero_le _), fun pe n_pe => ?_⟩
    have f_pe : H pe = none := oo.fresh (fun z => by rw [z, pp] at n_pe; cases n_pe) n_pe
    have n_dx_pe : dx ≠ pe := ne_of_none k_dx n_pe
    have n_pa_pe : pa ≠ pe := ne_of_none k_pa n_pe
    have n_ae_pe : ae ≠ pe := ne_of_none k_ae n_pe
    have n_pr_pe : pr ≠ pe := ne_of_none k_pr n_pe
    have d_pe : pe ≠ p := fun z => by rw [z, pp] at n_pe; cases n_pe
    have pp : upd H5 pe (.lst []) p = some (.ins (A.co.getD 0 0) dx [("home", .str c), ("_accounts", .ref pa), ("_rates", .ref pr)]) := by rw [upd_ne (Ne.symm d_pe)]; exact pp
    have k_pe : upd H5 pe (.lst []) pe = some (.lst []) := upd_same
    have oc : Out p H5 (upd H5 pe (.lst [])) := .new n_pe
    have k_dx := oc _ _ k_dx d_dx
    have k_pa := oc _ _ k_pa d_pa
    have k_ae := oc _ _ k_ae d_ae
    have k_pr := oc _ _ k_pr d_pr
    have oo := oo.trans oc
    try dsimp only
    generalize upd H5 pe (.lst []) = H6 at pp oc oo k_dx k_pa k_ae k_pr k_pe ⊢
    clear oc
    refine ⟨_, rfl, p, _, dx, _, rfl, pp, B.c_Book, B.n_Book__entries, Nat.le_of_ble_eq_true rfl, ?_⟩
    have pp : upd H6 p (.ins (A.co.getD 0 0) dx (putF "_entries" (.ref pe) [("home", .str c), ("_accounts", .ref pa), ("_rates", .ref pr)])) p = some (.ins (A.co.getD 0 0) dx [("home", .str c), ("_accounts", .ref pa), ("_rates", .ref pr), ("_entries", .ref pe)]) := upd_same
    have oc : Out p H6 (upd H6 p (.ins (A.co.getD 0 0) dx (putF "_entries" (.ref pe) [("home", .str c), ("_accounts", .ref pa), ("_rates", .ref pr)]))) := .at
    have k_dx := oc _ _ k_dx d_dx
    have k_pa := oc _ _ k_pa d_pa
    have k_ae := oc _ _ k_ae d_ae
    have k_pr := oc _ _ k_pr d_pr
    have k_pe := oc _ _ k_pe d_pe
    have oo := oo.trans oc
    try dsimp only
    generalize upd H6 p (.ins (A.co.getD 0 0) dx (putF "_entries" (.ref pe) [("home", .str c), ("_accounts", .ref pa), ("_rates", .ref pr)])) = H7 at pp oc oo k_dx k_pa k_ae k_pr k_pe ⊢
    clear oc
    intro pt n_pt
    have f_pt : H pt = none := oo.fresh (fun z => by rw [z, pp] at n_pt; cases n_pt) n_pt
    have n_dx_pt : dx ≠ pt := ne_of_none k_dx n_pt
    have n_pa_pt : pa ≠ pt := ne_of_none k_pa n_pt
    have n_ae_pt : ae ≠ pt := ne_of_none k_ae n_pt
    have n_pr_pt : pr ≠ pt := ne_of_none k_pr n_pt
    have n_pe_pt : pe ≠ pt := ne_of_none k_pe n_pt
    have d_pt : pt ≠ p := fun z => by rw [z, pp] at n_pt; cases n_pt
    have pp : upd H7 pt (.dK []) p = some (.ins (A.co.getD 0 0) dx [("home", .str c), ("_accounts", .ref pa), ("_rates", .ref pr), ("_entries", .ref pe)]) := by rw [upd_ne (Ne.symm d_pt)]; exact pp
    have k_pt : upd H7 pt (.dK []) pt = some (.dK []) := upd_same
    have oc : Out p H7 (upd H7 pt (.dK [])) := .new n_pt
    have k_dx := oc _ _ k_dx d_dx
    have k_pa := oc _ _ k_pa d_pa
    have k_ae := oc _ _ k_ae d_ae
    have k_pr := oc _ _ k_pr d_pr
    have k_pe := oc _ _ k_pe d_pe
    have oo := oo.trans oc
    try dsimp only
    generalize upd H7 pt (.dK []) = H8 at pp oc oo k_dx k_pa k_ae k_pr k_pe k_pt ⊢
    clear oc
    refine ⟨_, rfl, p, _, dx, _, rfl, pp, B.c_Book, B.n_Book__taken_back, Nat.le_of_ble_eq_true rfl, ?_⟩
    have pp : upd H8 p (.ins (A.co.getD 0 0) dx (putF "_taken_back" (.ref pt) [("home", .str c), ("_accounts", .ref pa), ("_rates", .ref pr), ("_entries", .ref pe)])) p = some (.ins (A.co.getD 0 0) dx [("home", .str c), ("_accounts", .ref pa), ("_rates", .ref pr), ("_entries", .ref pe), ("_taken_back", .ref pt)]) := upd_same
    have oc : Out p H8 (upd H8 p (.ins (A.co.getD 0 0) dx (putF "_taken_back" (.ref pt) [("home", .str c), ("_accounts", .ref pa), ("_rates", .ref pr), ("_entries", .ref pe)]))) := .at
    have k_dx := oc _ _ k_dx d_dx
    have k_pa := oc _ _ k_pa d_pa
    have k_ae := oc _ _ k_ae d_ae
    have k_pr := oc _ _ k_pr d_pr
    have k_pe := oc _ _ k_pe d_pe
    have k_pt := oc _ _ k_pt d_pt
    have oo := oo.trans oc
    try dsimp only
    generalize upd H8 p (.ins (A.co.getD 0 0) dx (putF "_taken_back" (.ref pt) [("home", .str c), ("_accounts", .ref pa), ("_rates", .ref pr), ("_entries", .ref pe)])) = H9 at pp oc oo k_dx k_pa k_ae k_pr k_pe k_pt ⊢
    clear oc
    refine ⟨sz_of (Nat.zero_le _), fun pn n_pn => ?_⟩
    have f_pn : H pn = none := oo.fresh (fun z => by rw [z, pp] at n_pn; cases n_pn) n_pn
    have n_dx_pn : dx ≠ pn := ne_of_none k_dx n_pn
    have n_pa_pn : pa ≠ pn := ne_of_none k_pa n_pn
    have n_ae_pn : ae ≠ pn := ne_of_none k_ae n_pn
    have n_pr_pn : pr ≠ pn := ne_of_none k_pr n_pn
    have n_pe_pn : pe ≠ pn := ne_of_none k_pe n_pn
    have n_pt_pn : pt ≠ pn := ne_of_none k_pt n_pn
    have d_pn : pn ≠ p := fun z => by rw [z, pp] at n_pn; cases n_pn
    have pp : upd H9 pn (.lst []) p = some (.ins (A.co.getD 0 0) dx [("home", .str c), ("_accounts", .ref pa), ("_rates", .ref pr), ("_entries", .ref pe), ("_taken_back", .ref pt)]) := by rw [upd_ne (Ne.symm d_pn)]; exact pp
    have k_pn : upd H9 pn (.lst []) pn = some (.lst []) := upd_same
    have oc : Out p H9 (upd H9 pn (.lst [])) := .new n_pn
    have k_dx := oc _ _ k_dx d_dx
    have k_pa := oc _ _ k_pa d_pa
    have k_ae := oc _ _ k_ae d_ae
    have k_pr := oc _ _ k_pr d_pr
    have k_pe := oc _ _ k_pe d_pe
    have k_pt := oc _ _ k_pt d_pt
    have oo := oo.trans oc
    try dsimp only
    generalize upd H9 pn (.lst []) = H10 at pp oc oo k_dx k_pa k_ae k_pr k_pe k_pt k_pn ⊢
    clear oc
    refine ⟨_, rfl, p, _, dx, _, rfl, pp, B.c_Book, B.n_Book__ends, Nat.le_of_ble_eq_true rfl, ?_⟩
    have pp : upd H10 p (.ins (A.co.getD 0 0) dx (putF "_ends" (.ref pn) [("home", .str c), ("_accounts", .ref pa), ("_rates", .ref pr), ("_entries", .ref pe), ("_taken_back", .ref pt)])) p = some (.ins (A.co.getD 0 0) dx [("home", .str c), ("_accounts", .ref pa), ("_rates", .ref pr), ("_entries", .ref pe), ("_taken_back", .ref pt), ("_ends", .ref pn)]) := upd_same
    have oc : Out p H10 (upd H10 p (.ins (A.co.getD 0 0) dx (putF "_ends" (.ref pn) [("home", .str c), ("_accounts", .ref pa), ("_rates", .ref pr), ("_entries", .ref pe), ("_taken_back", .ref pt)]))) := .at
    have k_dx := oc _ _ k_dx d_dx
    have k_pa := oc _ _ k_pa d_pa
    have k_ae := oc _ _ k_ae d_ae
    have k_pr := oc _ _ k_pr d_pr
    have k_pe := oc _ _ k_pe d_pe
    have k_pt := oc _ _ k_pt d_pt
    have k_pn := oc _ _ k_pn d_pn
    have oo := oo.trans oc
    try dsimp only
    generalize upd H10 p (.ins (A.co.getD 0 0) dx (putF "_ends" (.ref pn) [("home", .str c), ("_accounts", .ref pa), ("_rates", .ref pr), ("_entries", .ref pe), ("_taken_back", .ref pt)])) = H11 at pp oc oo k_dx k_pa k_ae k_pr k_pe k_pt k_pn ⊢
    clear oc
    refine ⟨_, rfl, sz_of (Nat.le_of_ble_eq_true rfl), fun rt n_rt => ?_⟩
    have f_rt : H rt = none := oo.fresh (fun z => by rw [z, pp] at n_rt; cases n_rt) n_rt
    have n_dx_rt : dx ≠ rt := ne_of_none k_dx n_rt
    have n_pa_rt : pa ≠ rt := ne_of_none k_pa n_rt
    have n_ae_rt : ae ≠ rt := ne_of_none k_ae n_rt
    have n_pr_rt : pr ≠ rt := ne_of_none k_pr n_rt
    have n_pe_rt : pe ≠ rt := ne_of_none k_pe n_rt
    have n_pt_rt : pt ≠ rt := ne_of_none k_pt n_rt
    have n_pn_rt : pn ≠ rt := ne_of_none k_pn n_rt
    have d_rt : rt ≠ p := fun z => by rw [z, pp] at n_rt; cases n_rt
    have pp : upd H11 rt (.tup [.str (Str.ofString "home"), .str c]) p = some (.ins (A.co.getD 0 0) dx [("home", .str c), ("_accounts", .ref pa), ("_rates", .ref pr), ("_entries", .ref pe), ("_taken_back", .ref pt), ("_ends", .ref pn)]) := by rw [upd_ne (Ne.symm d_rt)]; exact pp
    have k_rt : upd H11 rt (.tup [.str (Str.ofString "home"), .str c]) rt = some (.tup [.str (Str.ofString "home"), .str c]) := upd_same
    have oc : Out p H11 (upd H11 rt (.tup [.str (Str.ofString "home"), .str c])) := .new n_rt
    have k_dx := oc _ _ k_dx d_dx
    have k_pa := oc _ _ k_pa d_pa
    have k_ae := oc _ _ k_ae d_ae
    have k_pr := oc _ _ k_pr d_pr
    have k_pe := oc _ _ k_pe d_pe
    have k_pt := oc _ _ k_pt d_pt
    have k_pn := oc _ _ k_pn d_pn
    have oo := oo.trans oc
    try dsimp only
    generalize upd H11 rt (.tup [.str (Str.ofString "home"), .str c]) = H12 at pp oc oo k_dx k_pa k_ae k_pr k_pe k_pt k_pn k_rt ⊢
    clear oc
    refine ⟨sz_of (Nat.le_of_ble_eq_true rfl), fun pd n_pd => ?_⟩
    have f_pd : H pd = none := oo.fresh (fun z => by rw [z, pp] at n_pd; cases n_pd) n_pd
    have n_dx_pd : dx ≠ pd := ne_of_none k_dx n_pd
    have n_pa_pd : pa ≠ pd := ne_of_none k_pa n_pd
    have n_ae_pd : ae ≠ pd := ne_of_none k_ae n_pd
    have n_pr_pd : pr ≠ pd := ne_of_none k_pr n_pd
    have n_pe_pd : pe ≠ pd := ne_of_none k_pe n_pd
    have n_pt_pd : pt ≠ pd := ne_of_none k_pt n_pd
    have n_pn_pd : pn ≠ pd := ne_of_none k_pn n_pd
    have n_rt_pd : rt ≠ pd := ne_of_none k_rt n_pd
    have d_pd : pd ≠ p := fun z => by rw [z, pp] at n_pd; cases n_pd
    have pp : upd H12 pd (.lst [.ref rt]) p = some (.ins (A.co.getD 0 0) dx [("home", .str c), ("_accounts", .ref pa), ("_rates", .ref pr), ("_entries", .ref pe), ("_taken_back", .ref pt), ("_ends", .ref pn)]) := by rw [upd_ne (Ne.symm d_pd)]; exact pp
    have k_pd : upd H12 pd (.lst [.ref rt]) pd = some (.lst [.ref rt]) := upd_same
    have oc : Out p H12 (upd H12 pd (.lst [.ref rt])) := .new n_pd
    have k_dx := oc _ _ k_dx d_dx
    have k_pa := oc _ _ k_pa d_pa
    have k_ae := oc _ _ k_ae d_ae
    have k_pr := oc _ _ k_pr d_pr
    have k_pe := oc _ _ k_pe d_pe
    have k_pt := oc _ _ k_pt d_pt
    have k_pn := oc _ _ k_pn d_pn
    have k_rt := oc _ _ k_rt d_rt
    have oo := oo.trans oc
    try dsimp only
    generalize upd H12 pd (.lst [.ref rt]) = H13 at pp oc oo k_dx k_pa k_ae k_pr k_pe k_pt k_pn k_rt k_pd ⊢
    clear oc
    refine ⟨_, rfl, p, _, dx, _, rfl, pp, B.c_Book, B.n_Book__deeds, Nat.le_of_ble_eq_true rfl, ?_⟩
    have pp : upd H13 p (.ins (A.co.getD 0 0) dx (putF "_deeds" (.ref pd) [("home", .str c), ("_accounts", .ref pa), ("_rates", .ref pr), ("_entries", .ref pe), ("_taken_back", .ref pt), ("_ends", .ref pn)])) p = some (.ins (A.co.getD 0 0) dx [("home", .str c), ("_accounts", .ref pa), ("_rates", .ref pr), ("_entries", .ref pe), ("_taken_back", .ref pt), ("_ends", .ref pn), ("_deeds", .ref pd)]) := upd_same
    have oc : Out p H13 (upd H13 p (.ins (A.co.getD 0 0) dx (putF "_deeds" (.ref pd) [("home", .str c), ("_accounts", .ref pa), ("_rates", .ref pr), ("_entries", .ref pe), ("_taken_back", .ref pt), ("_ends", .ref pn)]))) := .at
    have k_dx := oc _ _ k_dx d_dx
    have k_pa := oc _ _ k_pa d_pa
    have k_ae := oc _ _ k_ae d_ae
    have k_pr := oc _ _ k_pr d_pr
    have k_pe := oc _ _ k_pe d_pe
    have k_pt := oc _ _ k_pt d_pt
    have k_pn := oc _ _ k_pn d_pn
    have k_rt := oc _ _ k_rt d_rt
    have k_pd := oc _ _ k_pd d_pd
    have oo := oo.trans oc
    try dsimp only
    generalize upd H13 p (.ins (A.co.getD 0 0) dx (putF "_deeds" (.ref pd) [("home", .str c), ("_accounts", .ref pa), ("_rates", .ref pr), ("_entries", .ref pe), ("_taken_back", .ref pt), ("_ends", .ref pn)])) = H14 at pp oc oo k_dx k_pa k_ae k_pr k_pe k_pt k_pn k_rt k_pd ⊢
    clear oc
    refine hq H14 _ ⟨⟨dx, pa, pr, pe, pt, pn, pd, [(Str.ofString "exchange", ae, [])], [], [], [rt], []⟩, rfl, ⟨pp, k_dx, ⟨k_pa, rfl, fun q hq => ?_⟩, ⟨k_pr, List.nodup_nil, fun r hr => absurd hr (by simp [BkS.start]), fun q hq => absurd hq (by simp), Nat.zero_le _⟩, ⟨k_pe, .nil⟩, ⟨k_pt, List.nodup_nil, fun n => ⟨fun z => absurd z (by simp), fun z => absurd z.2 (by simp [BkS.start])⟩⟩, k_pn, ⟨k_pd, rt, [], rfl, st_of k_rt, .nil⟩, fun q hq => oo _ _ (ht q hq) (fun z => ?_), fun q hq => ?_, ?_⟩⟩ (fun x o hx n1 n2 => oo x o hx n1) (fun x hx => ?_)
    · obtain rfl := List.mem_singleton.mp hq
      exact ⟨k_ae, List.nodup_nil, fun c hc => absurd rfl hc, fun z hz => absurd hz (by simp), Nat.zero_le _⟩
    · have h0 := ht q hq
      rw [z, hp] at h0
      cases h0
    · obtain ⟨ps, h1, h2, h3⟩ := hlam q hq
      refine ⟨ps, oo _ _ h1 (fun z => by rw [z, hp] at h1; cases h1), h2, fun pos cv hc => ?_⟩
      obtain ⟨c2, nm, e1, e2⟩ := h3 pos cv hc
      exact ⟨c2, nm, e1, oo _ _ e2 (fun z => by rw [z, hp] at e2; cases e2)⟩
    · show [p, dx, pa, pr, pe, pt, pn, pd, ae].Nodup
      simp only [List.nodup_cons, List.mem_cons, List.not_mem_nil, or_false, not_or, not_false_eq_true, and_true, List.nodup_nil]
      exact ⟨⟨Ne.symm d_dx, Ne.symm d_pa, Ne.symm d_pr, Ne.symm d_pe, Ne.symm d_pt, Ne.symm d_pn, Ne.symm d_pd, Ne.symm d_ae⟩, ⟨n_dx_pa, n_dx_pr, n_dx_pe, n_dx_pt, n_dx_pn, n_dx_pd, n_dx_ae⟩, ⟨n_pa_pr, n_pa_pe, n_pa_pt, n_pa_pn, n_pa_pd, n_pa_ae⟩, ⟨n_pr_pe, n_pr_pt, n_pr_pn, n_pr_pd, Ne.symm n_ae_pr⟩, ⟨n_pe_pt, n_pe_pn, n_pe_pd, Ne.symm n_ae_pe⟩, ⟨n_pt_pn, n_pt_pd, Ne.symm n_ae_pt⟩, ⟨n_pn_pd, Ne.symm n_ae_pn⟩, Ne.symm n_ae_pd⟩
    · rcases List.mem_append.mp hx with hx | hx
      · have hx2 : x ∈ [p, dx, pa, pr, pe, pt, pn, pd, ae] := hx
        simp only [List.mem_cons, List.not_mem_nil, or_false] at hx2
        rcases hx2 with rfl | rfl | rfl | rfl | rfl | rfl | rfl | rfl | rfl
        · exact .inl rfl
        · exact .inr (.inl rfl)
        · exact .inr (.inr (.inl f_pa))
        · exact .inr (.inr (.inl f_pr))
        · exact .inr (.inr (.inl f_pe))
        · exact .inr (.inr (.inl f_pt))
        · exact .inr (.inr (.inl f_pn))
        · exact .inr (.inr (.inl f_pd))
        · exact .inr (.inr (.inl f_ae))
      · obtain ⟨q, hq2, rfl⟩ := List.mem_map.mp hx
        obtain ⟨ps, h1, _⟩ := hlam q hq2
        exact .inr (.inr (.inr ⟨ps, h1⟩))
def spRate (K : PySem.W.Frag) (A : Ad) : Sp := fun vs H Q E => ∃ (p : Addr) (F : List Addr) (S : BkS) (c : Str) (d : Int), vs = [.ref p, .str c, .int d] ∧ BkAt K H A p F S ∧ c.length ≤ 1000 ∧ S.told.length ≤ 10000 ∧
  (∀ i, rateErr S c d = some i → ∀ H', Ex H H' → E (.ref (A.cl.getD i 0)) none H') ∧
  (rateErr S c d = none → ∀ t b, S.rate c d = some (t, b) → ∀ H' r, Ex H H' → SqT K H' r [.int t, .int b] → Q (.ref r) H')
/-- Book.rate; slots ["self", "currency", "day", "told", "days", "since"] -/
theorem kn_Book_rate (B : Bs K mg A base) : Km P w K mg base 2 (A.co.getD 0 0) "rate" (spRate K A) := by
  have c_check_day : Kx P w K mg base 1 "check_day" (spDayC A) := kn_check_day B
  have c_check_currency : Kx P w K mg base 1 "check_currency" (spCurC A) := kn_check_currency B
  refine B.d_Book_rate.okX B.c_Book sc_Book_rate (fun vs H Q E h => ?_) (fun f cdv A0 outer s H vs Q E hr h => ?_)
  · obtain ⟨p, F, S, c, d, rfl, _⟩ := h; rfl
  · obtain ⟨p, F, S, c, d, rfl, hB, hl, htl, he, hq⟩ := h
    obtain ⟨b, rfl, hb⟩ := id hB
    refine ⟨_, (pss_cons (ps_expr (px1 c_check_currency hr (by decide) (takes_of rfl rfl rfl rfl) rfl (pa_cons (pv 1) pa_nil)))
      (pss_cons (ps_expr (px1 c_check_day hr (by decide) (takes_of rfl rfl rfl rfl) rfl (pa_cons (pv 2) pa_nil)))
      (pss_cons (ps_if (pt_cmpR op_eq (pv 1) (pe_fld (pv 0) rfl) (nomark _)) (pss_one (ps_ret (pe_tup (pa_cons pe_int (pa_cons pe_int pa_nil))))) pss_nil)
      (pss_cons (ps_set (i := 3) sc_Book_rate.nd rfl (Or.inl rfl) (pe_dget2 (hu_of hr) (pe_fld (pv 0) rfl) (pv 1) (pe_dnewK) ⟨rfl, rfl, rfl, rfl⟩))
      (pss_cons (ps_lock (ps_setLc (i := 4) (own := [("since", 5)]) (g := gName 5) rfl sc_Book_rate.nd rfl rfl (sw_true rfl rfl rfl (by decide +kernel)) (pi_keys (pv 3)) (blkOk_by (own := [("since", 5)]) (N := ["self", "currency", "day", "told", "days", "since"]) (sc := defScope s_Book_rate) (by decide +kernel)) (fun _ _ _ _ _ => (pg_name (i := 5) sc_Book_rate.nd rfl (Or.inl rfl))) (fun _ _ _ _ _ => (pts_one (pt_cmpR op_le (pv 5) (pv 2) (nomark _)))) (fun _ _ _ _ _ => (pv 5))))
      (pss_cons (ps_if (pt_not (pt_truth (pv 4) (by intro _; rfl))) (pss_one (ps_raise rfl (takes_of rfl rfl rfl rfl) (pmk_i B.exs 12 (by rw [B.len]; decide) B.g_NoRate (by rfl)))) pss_nil)
      (pss_one (ps_ret (pe_dget (hu_of hr) (pv 3) (pe_callB (cr_max rfl) (by rfl) B.b_max (by decide +kernel) (pa_cons (pv 4) pa_nil)) (fun _ _ => rfl)))))))))), ?_⟩
    refine ⟨_, rfl, c, rfl, hl, hb.tabs, refuses_of (fun e1 => ?_) (fun e1 => he 1 (by unfold rateErr; rw [if_pos e1]) H (.refl _))⟩
    refine ⟨_, rfl, d, rfl, refuses_of (fun e2 => ?_) (fun e2 => he 3 (by unfold rateErr; rw [if_neg (by rw [e1]; decide), if_pos e2]) H (.refl _))⟩
    dsimp only
    refine xs_if (b := decide (c = S.home)) (xt_is (xt_test (xv_op (x := .str c) (y := .str S.home) (xv_var rfl) (bfld hb B.c_Book B.n_Book_home rfl (xv_var rfl)) (xr_eq rfl))) dstr) (fun e3 => ?_) (fun e3 => ?_)
    · have e3 := of_decide_eq_true e3
      have hr : S.rate c d = some (1, 1) := by unfold BkS.rate; rw [if_pos e3]
      refine ⟨sz_of (Nat.le_of_ble_eq_true rfl), fun r nr => hq ?_ 1 1 hr _ r (.new nr) (st_of upd_same)⟩
      unfold rateErr
      rw [if_neg (by rw [e1]; decide), if_neg (by rw [e2]; decide), hr, if_neg (by decide)]
    · have e3 : c ≠ S.home := of_decide_eq_false e3
      have hrt : S.rate c d = (dueR S.told c d).map fun r => r.2.2 := by unfold BkS.rate; rw [if_neg e3]
      refine ⟨_, rfl, p, _, _, _, _, rfl, hb.ins, B.c_Book, B.n_Book__rates, rfl, b.pr, rfl, .inl ⟨_, .inl hb.rat.d⟩, _, rfl, fun nd hnd => ?_⟩
      have x1 : Ex H (upd H nd (.dK [])) := .new hnd
      have u1 : upd H nd (.dK []) nd = some (.dK []) := upd_same
      generalize upd H nd (.dK []) = H1 at x1 u1 ⊢
      refine ⟨_, DGet.k (k := Sum.inr c) (x1 _ _ hb.rat.d), ?_⟩
      obtain ⟨a, ds, hv, hR⟩ : ∃ a ds, (valV (b.rd.map fun q => ((.inr q.1 : Key), V.ref q.2.1)) (.inr c)).getD (.ref nd) = .ref a ∧ RatAt K H1 S.told c a ds := by
        rw [valV_inr (key := fun q : RatA => q.1) (f := fun q => V.ref q.2.1)]
        by_cases hc : c ∈ b.rd.map (·.1)
        · obtain ⟨q, h1, h2, h3⟩ := find_some hc
          rw [h1]
          have hR := (hb.rat.each q h2).keep (.of_ex (F := [q.2.1]) x1) List.mem_cons_self
          rw [h3] at hR
          exact ⟨q.2.1, q.2.2, rfl, hR⟩
        · rw [find_none hc]
          exact ⟨nd, [], rfl, u1, List.nodup_nil, fun r hr h => absurd (h ▸ hb.rat.has r hr) hc, fun q hq => absurd hq (by simp), Nat.zero_le _⟩
      rw [hv]
      have hdl := hR.len
      dsimp only [gName]
      refine s_lcKeys (a := a) (kvs := ds.map fun q => ((.inl q.1 : Key), V.ref q.2)) (fun n => decide ((ds.getD n (0, 0)).1 ≤ d)) (fun n => .int (ds.getD n (0, 0)).1) hR.d (by rw [List.length_map]; omega) (fun H' => xv_var rfl) (fun x => rfl) (fun n k x H2 hk => ?_) (fun n k x H2 hk hf => ?_) fun dl H2 ndl x2 hdl2 => ?_
      · obtain ⟨q, h1, h2⟩ : ∃ q, ds[n]? = some q ∧ ((.inl q.1 : Key), V.ref q.2) = (k, x) := by rw [List.getElem?_map] at hk; exact Option.map_eq_some_iff.mp hk
        cases h2
        rw [getD_of h1]
        exact et_test (ev_op (x := .int q.1) (y := .int d) (ev_var rfl) (ev_var rfl) rv_I0)
      · obtain ⟨q, h1, h2⟩ : ∃ q, ds[n]? = some q ∧ ((.inl q.1 : Key), V.ref q.2) = (k, x) := by rw [List.getElem?_map] at hk; exact Option.map_eq_some_iff.mp hk
        cases h2
        rw [getD_of h1]
        exact ev_var rfl
      rw [List.length_map, given_filter (0, 0) ds (fun q => decide (q.1 ≤ d)) (fun q => V.int q.1), show ((ds.filter fun q => decide (q.1 ≤ d)).map fun q => V.int q.1) = ((ds.filter fun q => decide (q.1 ≤ d)).map (·.1)).map V.int by rw [List.map_map]; rfl] at hdl2
      have hR2 := hR.keep (.of_ex (F := [a]) x2) List.mem_cons_self
      generalize hL : (ds.filter fun q => decide (q.1 ≤ d)).map (·.1) = L at hdl2
      have memL : ∀ m, m ∈ L ↔ m ∈ ds.map (·.1) ∧ m ≤ d := by
        intro m
        rw [← hL, List.mem_map, List.mem_map]
        constructor
        · rintro ⟨q, hq, rfl⟩
          rw [List.mem_filter] at hq
          exact ⟨⟨q, hq.1, rfl⟩, of_decide_eq_true hq.2⟩
        · rintro ⟨⟨q, hq, rfl⟩, hm⟩
          exact ⟨q, List.mem_filter.mpr ⟨hq, decide_eq_true hm⟩, rfl⟩
      dsimp only
      refine xs_if (b := !(!(L.map V.int).isEmpty)) (xt_not (xt_tru (xv_var rfl) (tru_l (sq_of hdl2)))) (fun e4 => ?_) (fun e4 => ?_)
      · have hnil : L = [] := by
          cases L with
          | nil => rfl
          | cons x r => cases e4
        refine he 12 ?_ H2 (x1.trans x2)
        have hn : dueR S.told c d = none := due_none fun r hr h1 h2 => by
          have := (memL r.2.1).mpr ⟨hR.has r hr h1, h2⟩
          rw [hnil] at this
          cases this
        unfold rateErr
        rw [if_neg (by rw [e1]; decide), if_neg (by rw [e2]; decide), hrt, hn]
        exact if_pos (by rfl)
      · have hpos : 0 < L.length := by
          cases L with
          | nil => cases e4
          | cons x r => exact Nat.succ_pos _
        refine ⟨_, rfl, _, rfl, dl, L, rfl, sq_of hdl2, hpos, fun m hm hmax => ?_⟩
        obtain ⟨hm1, hm2⟩ := (memL m).mp hm
        obtain ⟨q, h1, h2, h3⟩ := find_some hm1
        obtain ⟨t, bb, h4, h5⟩ := hR2.each q h2
        rw [h3] at h4
        refine ⟨a, .ref q.2, rfl, ?_, ?_⟩
        · have hg := DGet.k (k := Sum.inl m) hR2.d
          rw [valV_inl (key := fun q : Int × Addr => q.1) (f := fun q => V.ref q.2), h1] at hg
          exact hg
        · have hd2 : (dueR S.told c d).map (fun r => r.2.2) = some (t, bb) := by
            rw [due_some (lastOn_mem h4) hm2 fun r hr hc hd => hmax _ ((memL _).mpr ⟨hR.has r hr hc, hd⟩)]
            exact h4
          refine hq ?_ t bb (hrt.trans hd2) H2 q.2 (x1.trans x2) h5
          unfold rateErr
          rw [if_neg (by rw [e1]; decide), if_neg (by rw [e2]; decide), hrt, hd2]
          exact if_neg (by simp)
/-- a method called for what it does -/
theorem bdo {p : Addr} {b : BkA} {S : BkS} {H : Hp} {σ : L2.St} {to : TE} {t : TA} {m : Str} {sp : Sp} {E : L2.St → XK} {vs : List V} {z : TS} {D : Ends} (hb : BkIn K H A p b S) (hm : m ∉ bkFlds) (ha : XV to σ H (.ref p)) (ht : XA t σ H vs) (k : sp (.ref p :: vs) H (fun _ H' => z D σ H') (E σ)) :
    tSeq (tDrop (tMethS (A.co.getD 0 0) m sp E to t)) z D σ H := bmeth hb hm ha ht k
/-- refused as the document says, or done as it says -/
def Deals (K : PySem.W.Frag) (A : Ad) (H : Hp) (p : Addr) (F : List Addr) (err : Option Nat) (T : BkS) (v : V) (Q : VK) (E : XK) : Prop :=
  (∀ i, err = some i → ∀ H', Ex H H' → E (.ref (A.cl.getD i 0)) none H') ∧ (err = none → ∀ H' F', BkAt K H' A p F' T → Grow H F H' F' → Q v H')
def spTell (K : PySem.W.Frag) (A : Ad) : Sp := fun vs H Q E => ∃ (p : Addr) (F : List Addr) (S : BkS) (c : Str) (d t b : Int), vs = [.ref p, .str c, .int d, .int t, .int b] ∧ BkAt K H A p F S ∧ c.length ≤ 1000 ∧ S.told.length ≤ 10000 ∧ S.deeds.length ≤ 10000 ∧
  Deals K A H p F (tellErr S c d t b) (S.tell (c, d, t, b)) .non Q E
/-- Book.tell_rate; slots ["self", "currency", "day", "top", "bottom", "told"] -/
theorem kn_Book_tell_rate (B : Bs K mg A base) : Km P w K mg base 3 (A.co.getD 0 0) "tell_rate" (spTell K A) := by
  have c_check_rate : Kx P w K mg base 1 "check_rate" (spRateC A) := kn_check_rate B
  have c_Book__check_open : Km P w K mg base 2 (A.co.getD 0 0) "_check_open" (spOpen K A) := kn_Book__check_open B
  have c_check_currency : Kx P w K mg base 1 "check_currency" (spCurC A) := kn_check_currency B
  refine B.d_Book_tell_rate.okX B.c_Book sc_Book_tell_rate (fun vs H Q E h => ?_) (fun f cdv A0 outer s H vs Q E hr h => ?_)
  · obtain ⟨p, F, S, c, d, t, b, rfl, _⟩ := h; rfl
  · obtain ⟨p, F, S, c, d, t, bo, rfl, hB, hl, htl, hdl, hq⟩ := h
    obtain ⟨b, rfl, hb⟩ := id hB
    refine ⟨_, (pss_cons (ps_expr (px1 c_check_currency hr (by decide) (takes_of rfl rfl rfl rfl) rfl (pa_cons (pv 1) pa_nil)))
      (pss_cons (ps_expr (pm1 c_Book__check_open (pv 0) hr (by decide) (takes_of rfl rfl rfl rfl) (pa_cons (pv 2) pa_nil)))
      (pss_cons (ps_if (pt_cmpR op_eq (pv 1) (pe_fld (pv 0) rfl) (nomark _)) (pss_one (ps_raise rfl (takes_of rfl rfl rfl rfl) (pmk_i B.exs 5 (by rw [B.len]; decide) B.g_BadRate (by rfl)))) pss_nil)
      (pss_cons (ps_expr (px1 c_check_rate hr (by decide) (takes_of rfl rfl rfl rfl) rfl (pa_cons (pv 3) (pa_cons (pv 4) pa_nil))))
      (pss_cons (ps_set (i := 5) sc_Book_tell_rate.nd rfl (Or.inl rfl) (pe_dsetd (pe_fld (pv 0) rfl) (pv 1) (pe_dnewK) ⟨rfl, rfl, rfl, rfl⟩))
      (pss_cons (ps_dput (hu_of hr) (pv 5) (pv 2) (pe_tup (pa_cons (pv 3) (pa_cons (pv 4) pa_nil))) rfl)
      (pss_one (ps_expr (pe_bm PySem.F.plainAttrs_list PySem.F.slot_list_append PySem.F.type_list_append mt_append (pe_fld (pv 0) rfl) (pa_cons (pe_tup (pa_cons pe_str (pa_cons (pv 1) (pa_cons (pv 2) (pa_cons (pv 3) (pa_cons (pv 4) pa_nil)))))) pa_nil)))))))))), ?_⟩
    refine ⟨_, rfl, c, rfl, hl, hb.tabs, refuses_of (fun e1 => ?_) (fun e1 => hq.1 1 (by unfold tellErr; rw [if_pos e1]) H (.refl _))⟩
    have e1' : ¬ curOk c = false := by rw [e1]; decide
    refine bdo hb (by decide) (xv_var rfl) (xa_cons (xv_var rfl) xa_nil) ⟨p, _, S, d, rfl, hB, fun i hi => hq.1 i ?_ H (.refl _), fun hn => ?_⟩
    · unfold openErr at hi
      unfold tellErr
      rw [if_neg e1']
      split at hi
      · next z => rw [if_pos z]; exact hi
      · next z =>
        rw [if_neg z]
        split at hi
        · next z2 => rw [if_pos z2]; exact hi
        · cases hi
    have e2 : ¬ dayOk d = false := fun z => by unfold openErr at hn; rw [if_pos z] at hn; cases hn
    have e3 : ¬ d ≤ S.closed := fun z => by unfold openErr at hn; rw [if_neg e2, if_pos z] at hn; cases hn
    dsimp only
    refine xs_if (b := decide (c = S.home)) (xt_is (xt_test (xv_op (x := .str c) (y := .str S.home) (xv_var rfl) (bfld hb B.c_Book B.n_Book_home rfl (xv_var rfl)) (xr_eq rfl))) dstr) (fun e4 => hq.1 5 ?_ H (.refl _)) (fun e4 => ?_)
    · unfold tellErr
      rw [if_neg e1', if_neg e2, if_neg e3, if_pos (.inr (.inr (of_decide_eq_true e4)))]
    have e4 : c ≠ S.home := of_decide_eq_false e4
    refine ⟨_, rfl, _, rfl, t, bo, rfl, refuses_of (fun e5 => ?_) (fun e5 => hq.1 5 ?_ H (.refl _))⟩
    rotate_left
    · unfold tellErr
      rw [if_neg e1', if_neg e2, if_neg e3, if_pos]
      rw [Bool.and_eq_false_iff] at e5
      rcases e5 with z | z
      · exact .inl z
      · exact .inr (.inl z)
    rw [Bool.and_eq_true] at e5
    have hq := hq.2 (by unfold tellErr; rw [if_neg e1', if_neg e2, if_neg e3, if_neg (by rw [e5.1, e5.2]; simp [e4])])
    dsimp only
    refine ⟨_, rfl, p, _, _, _, _, rfl, hb.ins, B.c_Book, B.n_Book__rates, rfl, b.pr, rfl, .inl ⟨_, .inl hb.rat.d⟩, _, rfl, fun nd hnd => ?_⟩
    have u1 : (upd H nd (.dK [])) nd = some (.dK []) := upd_same
    have x1 : Ex H (upd H nd (.dK [])) := .new hnd
    generalize upd H nd (.dK []) = H1 at u1 x1 ⊢
    refine ⟨_, Sum.inr c, x1 _ _ hb.rat.d, rfl, ?_, fun v hv => ?_, fun hv => ?_⟩
    · rw [List.length_map]
      exact sz_lt (by have := hb.rat.len; omega)
    · rw [valV_inr (key := fun q : RatA => q.1) (f := fun q => V.ref q.2.1)] at hv
      obtain ⟨q, hq1, hq2⟩ := Option.map_eq_some_iff.mp hv
      have m := List.mem_of_find?_eq_some hq1
      have e : q.1 = c := by have z := List.find?_some hq1; exact of_decide_eq_true z
      subst e
      subst hq2
      exact tell_tail hb (told_there hb x1 m) B.c_Book B.n_Book__deeds htl hdl hq
    · rw [valV_inr (key := fun q : RatA => q.1) (f := fun q => V.ref q.2.1), Option.map_eq_none_iff] at hv
      exact tell_tail hb (told_new hb x1 (fun z => by obtain ⟨q, hq1, _⟩ := find_some z; rw [hv] at hq1; cases hq1) hnd u1) B.c_Book B.n_Book__deeds htl hdl hq

/-! ### promises of the law's own defs -/
def spWhole : Sp := fun vs H Q _ => ∃ i : Int, vs = [.int i] ∧ Q (.bl true) H
def spLone (A : Ad) : SpE := fun a cls d vs H Q _ => ∃ i : Nat, i < 16 ∧ cls = .ref (A.cl.getD i 0) ∧ d = none ∧ vs = [.ref a] ∧ Q (.bl true) H
def b2 (b : Bool) : Int := if b = true then 1 else 0
theorem lone_sum : ∀ i : Nat, i < 16 → (b2 (decide (i = 0)) + b2 (decide (i = 1)) + b2 (decide (i = 2)) + b2 (decide (i = 3)) + b2 (decide (i = 4)) + b2 (decide (i = 5)) + b2 (decide (i = 6)) + b2 (decide (i = 7)) + b2 (decide (i = 8))
    + b2 (decide (i = 9)) + b2 (decide (i = 10)) + b2 (decide (i = 11)) + b2 (decide (i = 12)) + b2 (decide (i = 13)) + b2 (decide (i = 14)) + b2 (decide (i = 15)) : Int) = 1 := by decide
def upper : List Nat := [65, 66, 67, 68, 69, 70, 71, 72, 73, 74, 75, 76, 77, 78, 79, 80, 81, 82, 83, 84, 85, 86, 87, 88, 89, 90]
def up (i : Int) : Nat := upper.getD i.toNat 0
def cur3 (c : Int) : Str := ⟨#[up (c % 26), up (c / 26 % 26), up (c / 676 % 26)]⟩
def spCur : Sp := fun vs H Q _ => ∃ c : Int, vs = [.int c] ∧ Q (.str (cur3 c)) H
def spDay : Sp := fun vs H Q _ => ∃ c : Int, vs = [.int c] ∧ ∀ d : Int, dayOk d = true → Q (.int d) H
def spPart : Sp := fun vs H Q _ => ∃ c : Int, vs = [.int c] ∧ ∀ d : Int, partOk d = true → Q (.int d) H
def spDue (K : PySem.W.Frag) : Sp := fun vs H Q _ => ∃ (a : Addr) (c : Str) (d : Int) (rs : List Addr) (L : List RateRow), vs = [.ref a, .str c, .int d] ∧ SqL K H a (rs.map V.ref) ∧ RowsIn K H rs L ∧
  (dueR L c d = none → Q .non H) ∧ ∀ row r, dueR L c d = some row → SqT K H r (rowV row) → Q (.ref r) H
theorem cell_mod {x m : Int} (h : 0 < m) : 0 ≤ x % m ∧ x % m < m := ⟨Int.emod_nonneg _ (by omega), Int.emod_lt_of_pos _ h⟩
theorem cpow {j : Int} (h : 0 ≤ j ∧ j ≤ 1000) : CPow 10 j := ⟨h.1, by omega, by decide⟩
theorem p9 : ((10 : Int) ^ (9 : Int).toNat) = 1000000000 := by decide
theorem dayOk_iff {d : Int} : dayOk d = true ↔ 0 ≤ d ∧ d ≤ 99999 := by
  unfold dayOk
  rw [Bool.and_eq_true, decide_eq_true_eq, decide_eq_true_eq]
theorem partOk_iff {d : Int} : partOk d = true ↔ 1 ≤ d ∧ d ≤ 1000000000 := by
  unfold partOk
  rw [Bool.and_eq_true, decide_eq_true_eq, decide_eq_true_eq]
theorem ofUpper : (Str.ofString "ABCDEFGHIJKLMNOPQRSTUVWXYZ").cps.toList = upper := by decide +kernel
theorem at_list {α : Type} {zs : List α} {i : Int} (d : α) (h0 : 0 ≤ i) (h1 : i < zs.length) : atI zs i = some (zs.getD i.toNat d) := by
  have hj : i.toNat < zs.length := by omega
  have e := atI_nat (xs := zs) (j := i.toNat) (v := zs.getD i.toNat d) (by
    rw [List.getD_eq_getElem?_getD, List.getElem?_eq_getElem hj]
    rfl)
  rw [Int.toNat_of_nonneg h0] at e
  exact e
theorem at_up {i : Int} (h : 0 ≤ i ∧ i < 26) : atI (Str.ofString "ABCDEFGHIJKLMNOPQRSTUVWXYZ").cps.toList i = some (up i) := by
  rw [ofUpper]
  exact at_list 0 h.1 h.2
theorem up_cap {i : Int} (h : 0 ≤ i ∧ i < 26) : 65 ≤ up i ∧ up i ≤ 90 := by
  have hz : ∀ x ∈ upper, 65 ≤ x ∧ x ≤ 90 := by decide
  have hj : i.toNat < upper.length := by show i.toNat < 26; omega
  unfold up
  rw [List.getD_eq_getElem?_getD, List.getElem?_eq_getElem hj]
  exact hz _ (List.getElem_mem hj)
theorem cur3_ok (c : Int) : curOk (cur3 c) = true := by
  have a := up_cap (cell_mod (x := c) (m := 26) (by decide))
  have b := up_cap (cell_mod (x := c / 26) (m := 26) (by decide))
  have d := up_cap (cell_mod (x := c / 676) (m := 26) (by decide))
  show (true && ((decide (65 ≤ up (c % 26)) && decide (up (c % 26) ≤ 90)) && ((decide (65 ≤ up (c / 26 % 26)) && decide (up (c / 26 % 26) ≤ 90)) && ((decide (65 ≤ up (c / 676 % 26)) && decide (up (c / 676 % 26) ≤ 90)) && true)))) = true
  rw [decide_eq_true a.1, decide_eq_true a.2, decide_eq_true b.1, decide_eq_true b.2, decide_eq_true d.1, decide_eq_true d.2]
  rfl
theorem dueR_snoc (L : List RateRow) (r : RateRow) (c : Str) (d : Int) : dueR (L ++ [r]) c d = dueStep c d (dueR L c d) r := by
  unfold dueR
  rw [List.foldl_append]
  rfl
/-! ### what the law's defs promise of the book -/
def Few (S : BkS) : Prop := S.told.length ≤ 10000 ∧ S.deeds.length ≤ 10000
theorem cur_len {c : Str} (h : curOk c = true) : c.length ≤ 1000 := by
  rw [curOk_eq, Bool.and_eq_true] at h
  have := of_decide_eq_true h.1
  omega
def spRefused (K : PySem.W.Frag) (A : Ad) : Sp := fun vs H Q _ => ∃ (p : Addr) (F : List Addr) (S : BkS) (c : Str) (d : Int), vs = [.ref p, .str c, .int d] ∧ BkAt K H A p F S ∧ c.length ≤ 1000 ∧ Few S ∧ rateErr S c d = some 12 ∧ ∀ H', Ex H H' → Q (.bl true) H'
def spAsked (K : PySem.W.Frag) (A : Ad) : Sp := fun vs H Q _ => ∃ (p a : Addr) (F rs : List Addr) (S : BkS) (c : Str) (d : Int), vs = [.ref p, .ref a, .str c, .int d] ∧ BkAt K H A p F S ∧ Few S ∧
  SqL K H a (rs.map V.ref) ∧ RowsIn K H rs S.told ∧ curOk c = true ∧ dayOk d = true ∧ c ≠ S.home ∧ ∀ H', Ex H H' → Q (.bl true) H'
/-- what is asked by a row is refused by the class at i -/
def RowErr (S : BkS) (xs : List V) (i : Nat) : Prop := (∃ c, xs = [.str c] ∧ c.length ≤ 1000 ∧ homeErr c = some i) ∨ (∃ c d, xs = [.str c, .int d] ∧ c.length ≤ 1000 ∧ rateErr S c d = some i) ∨ ∃ c d t b, xs = [.str c, .int d, .int t, .int b] ∧ c.length ≤ 1000 ∧ tellErr S c d t b = some i
def errNm : Nat → Str
  | 1 => Str.ofString "BadCurrency"
  | 3 => Str.ofString "BadDay"
  | _ => Str.ofString "BadRate"
def spTried (K : PySem.W.Frag) (A : Ad) : Sp := fun vs H Q _ => ∃ (p r : Addr) (F : List Addr) (S : BkS) (xs : List V) (i : Nat), vs = [.ref p, .ref r] ∧ BkAt K H A p F S ∧ Few S ∧ SqL K H r xs ∧ RowErr S xs i ∧ (i = 1 ∨ i = 3 ∨ i = 5) ∧
  ∀ H', Ex H H' → Q (.str (errNm i)) H'
def spAgain (K : PySem.W.Frag) (A : Ad) : Sp := fun vs H _ E => ∃ (p r : Addr) (F : List Addr) (S : BkS) (xs : List V) (i : Nat), vs = [.ref p, .ref r] ∧ BkAt K H A p F S ∧ Few S ∧ SqL K H r xs ∧ RowErr S xs i ∧
  ∀ H', Ex H H' → E (.ref (A.cl.getD i 0)) none H'
def spBased (K : PySem.W.Frag) (A : Ad) : Sp := fun vs H Q _ => ∃ (p r : Addr) (F : List Addr) (S : BkS) (xs : List V) (i : Nat), vs = [.ref p, .ref r] ∧ BkAt K H A p F S ∧ Few S ∧ SqL K H r xs ∧ RowErr S xs i ∧ i < 16 ∧
  ∀ H', Ex H H' → Q (.bl true) H'
def spRefusals (K : PySem.W.Frag) (A : Ad) : Sp := fun vs H Q _ => ∃ (p : Addr) (F : List Addr) (S : BkS) (o : Str) (c : Int), vs = [.ref p, .str S.home, .str o, .int c] ∧ BkAt K H A p F S ∧ Few S ∧ curOk S.home = true ∧ curOk o = true ∧ o ≠ S.home ∧ S.ends = [] ∧
  ∀ H', Ex H H' → Q (.bl true) H'
def noCur : List V := [.str (Str.ofString ""), .str (Str.ofString "EU"), .str (Str.ofString "EURO"), .str (Str.ofString "EUr"), .str (Str.ofString "eur"), .str (Str.ofString "EU1"), .str (Str.ofString "E R")]
theorem noCur_at {i : Int} (h : 0 ≤ i ∧ i < 7) : ∃ z, atI noCur i = some (.str z) ∧ curOk z = false ∧ z.length ≤ 1000 := by
  have hz : ∀ x ∈ noCur, ∃ z, x = .str z ∧ curOk z = false ∧ z.length ≤ 1000 := by
    intro x hx
    simp only [noCur, List.mem_cons, List.not_mem_nil, or_false] at hx
    rcases hx with rfl | rfl | rfl | rfl | rfl | rfl | rfl <;> exact ⟨_, rfl, by decide +kernel, by decide +kernel⟩
  have hj : i.toNat < noCur.length := by show i.toNat < 7; omega
  have e := at_list (zs := noCur) (.non) h.1 (by show i < 7; exact h.2)
  rw [List.getD_eq_getElem?_getD, List.getElem?_eq_getElem hj] at e
  obtain ⟨z, h1, h2⟩ := hz _ (List.getElem_mem hj)
  exact ⟨z, by rw [e]; exact congrArg some h1, h2⟩
def refRows (n o h : Str) : List (List V) := [[.str n], [.str n, .int 5], [.str n, .int (-1), .int 0, .int 0], [.str n, .int 5, .int 1, .int 1],
  [.str o, .int (-1)], [.str o, .int 100000], [.str o, .int (-1), .int 0, .int 0], [.str h, .int 100000, .int 1, .int 1],
  [.str h, .int 5, .int 1, .int 1], [.str o, .int 5, .int 0, .int 1], [.str o, .int 5, .int 1, .int 0], [.str o, .int 0, .int (10 ^ (9 : Int).toNat + 1), .int 1],
  [.str o, .int 99999, .int 1, .int (10 ^ (9 : Int).toNat + 1)], [.str o, .int 0, .int (-1), .int 1], [.str h, .int (-1)], [.str h, .int 100000]]
def refDues : List V := [.str (errNm 1), .str (errNm 1), .str (errNm 1), .str (errNm 1), .str (errNm 3), .str (errNm 3), .str (errNm 3), .str (errNm 3),
  .str (errNm 5), .str (errNm 5), .str (errNm 5), .str (errNm 5), .str (errNm 5), .str (errNm 5), .str (errNm 3), .str (errNm 3)]
theorem tell1 {S : BkS} {c : Str} {d t b : Int} (h : curOk c = false) : tellErr S c d t b = some 1 := by unfold tellErr; rw [if_pos h]
theorem tell3 {S : BkS} {c : Str} {d t b : Int} (h : curOk c = true) (h2 : dayOk d = false) : tellErr S c d t b = some 3 := by unfold tellErr; rw [if_neg (by rw [h]; decide), if_pos h2]
theorem tell5 {S : BkS} {c : Str} {d t b : Int} (h : curOk c = true) (h2 : dayOk d = true) (h3 : ¬ d ≤ S.closed) (h4 : partOk t = false ∨ partOk b = false ∨ c = S.home) : tellErr S c d t b = some 5 := by
  unfold tellErr; rw [if_neg (by rw [h]; decide), if_neg (by rw [h2]; decide), if_neg h3, if_pos h4]
theorem rate1 {S : BkS} {c : Str} {d : Int} (h : curOk c = false) : rateErr S c d = some 1 := by unfold rateErr; rw [if_pos h]
theorem rate3 {S : BkS} {c : Str} {d : Int} (h : curOk c = true) (h2 : dayOk d = false) : rateErr S c d = some 3 := by unfold rateErr; rw [if_neg (by rw [h]; decide), if_pos h2]
theorem refusal_rows {S : BkS} {n o : Str} (hn : curOk n = false) (ln : n.length ≤ 1000) (hh : curOk S.home = true) (ho : curOk o = true) (he : S.ends = []) :
    ∀ k : Nat, k < 16 → ∃ xs i, (refRows n o S.home)[k]? = some xs ∧ refDues[k]? = some (.str (errNm i)) ∧ RowErr S xs i ∧ (i = 1 ∨ i = 3 ∨ i = 5) ∧ i < 16 := by
  have hc : S.closed = -1 := by unfold BkS.closed; rw [he]; rfl
  intro k hk
  match k, hk with
  | 0, _ => exact ⟨_, 1, rfl, rfl, .inl ⟨_, rfl, ln, by unfold homeErr; rw [if_neg (by rw [hn]; decide)]⟩, .inl rfl, by decide⟩
  | 1, _ => exact ⟨_, 1, rfl, rfl, .inr (.inl ⟨_, _, rfl, ln, rate1 hn⟩), .inl rfl, by decide⟩
  | 2, _ => exact ⟨_, 1, rfl, rfl, .inr (.inr ⟨_, _, _, _, rfl, ln, tell1 hn⟩), .inl rfl, by decide⟩
  | 3, _ => exact ⟨_, 1, rfl, rfl, .inr (.inr ⟨_, _, _, _, rfl, ln, tell1 hn⟩), .inl rfl, by decide⟩
  | 4, _ => exact ⟨_, 3, rfl, rfl, .inr (.inl ⟨_, _, rfl, cur_len ho, rate3 ho (by decide)⟩), .inr (.inl rfl), by decide⟩
  | 5, _ => exact ⟨_, 3, rfl, rfl, .inr (.inl ⟨_, _, rfl, cur_len ho, rate3 ho (by decide)⟩), .inr (.inl rfl), by decide⟩
  | 6, _ => exact ⟨_, 3, rfl, rfl, .inr (.inr ⟨_, _, _, _, rfl, cur_len ho, tell3 ho (by decide)⟩), .inr (.inl rfl), by decide⟩
  | 7, _ => exact ⟨_, 3, rfl, rfl, .inr (.inr ⟨_, _, _, _, rfl, cur_len hh, tell3 hh (by decide)⟩), .inr (.inl rfl), by decide⟩
  | 8, _ => exact ⟨_, 5, rfl, rfl, .inr (.inr ⟨_, _, _, _, rfl, cur_len hh, tell5 hh (by decide) (by rw [hc]; decide) (.inr (.inr rfl))⟩), .inr (.inr rfl), by decide⟩
  | 9, _ => exact ⟨_, 5, rfl, rfl, .inr (.inr ⟨_, _, _, _, rfl, cur_len ho, tell5 ho (by decide) (by rw [hc]; decide) (.inl (by decide))⟩), .inr (.inr rfl), by decide⟩
  | 10, _ => exact ⟨_, 5, rfl, rfl, .inr (.inr ⟨_, _, _, _, rfl, cur_len ho, tell5 ho (by decide) (by rw [hc]; decide) (.inr (.inl (by decide)))⟩), .inr (.inr rfl), by decide⟩
  | 11, _ => exact ⟨_, 5, rfl, rfl, .inr (.inr ⟨_, _, _, _, rfl, cur_len ho, tell5 ho (by decide) (by rw [hc]; decide) (.inl (by decide))⟩), .inr (.inr rfl), by decide⟩
  | 12, _ => exact ⟨_, 5, rfl, rfl, .inr (.inr ⟨_, _, _, _, rfl, cur_len ho, tell5 ho (by decide) (by rw [hc]; decide) (.inr (.inl (by decide)))⟩), .inr (.inr rfl), by decide⟩
  | 13, _ => exact ⟨_, 5, rfl, rfl, .inr (.inr ⟨_, _, _, _, rfl, cur_len ho, tell5 ho (by decide) (by rw [hc]; decide) (.inl (by decide))⟩), .inr (.inr rfl), by decide⟩
  | 14, _ => exact ⟨_, 3, rfl, rfl, .inr (.inl ⟨_, _, rfl, cur_len hh, rate3 hh (by decide)⟩), .inr (.inl rfl), by decide⟩
  | 15, _ => exact ⟨_, 3, rfl, rfl, .inr (.inl ⟨_, _, rfl, cur_len hh, rate3 hh (by decide)⟩), .inr (.inl rfl), by decide⟩
  | n + 16, h => exact absurd h (by omega)
def spLaw (K : PySem.W.Frag) (A : Ad) : Sp := fun vs H Q _ => ∃ (a : Addr) (ns : List Int), vs = [.ref a] ∧ SqL K H a (ns.map V.int) ∧ ns.length ≤ 63 ∧ TabsIn A H ∧ LamsIn H A ∧ ∀ H', TabsIn A H' → Q (.bl true) H'
theorem law_go {A : Ad} {H : Hp} {a : Addr} {ns : List Int} {Q : VK} (hl : ns.length ≤ 63) (hbits : ∀ z ∈ ns, Builtin.Int.intBits z ≤ 1048576) (ht : TabsIn A H) (hlam : LamsIn H A) (hS : SqL K H a (ns.map V.int)) (q : ∀ v H', v = .bl true → TabsIn A H' → Q v H') : spLaw K A [.ref a] H Q E0 :=
  ⟨a, ns, rfl, hS, hl, ht, hlam, fun H' t => q _ _ rfl t⟩
/-- _law_cell; slots ["_law_script", "_law_k"] -/
theorem kn__law_cell (B : Bs K mg A base) : Kn P w K mg base 1 "_law_cell" (spCell K) := by
  refine B.d__law_cell.ok sc__law_cell (fun vs H Q E h => ?_) (fun f cdv A0 outer s H vs Q E hr h => ?_)
  · obtain ⟨l, ns, j, rfl, _⟩ := h; rfl
  · obtain ⟨l, ns, j, rfl, hS, q⟩ := h
    refine ⟨_, (pss_cons (ps_if (pt_cmpR op_lt (pv 1) (pe_callB call_len_seq (by rfl) B.b_len (by decide +kernel) (pa_cons (pv 0) pa_nil)) (nomark _)) (pss_one (ps_ret (pe_ix ix_list (pv 0) (pv 1) (fun _ _ => rfl)))) pss_nil)
      (pss_one (ps_ret pe_int))), ?_⟩
    refine ⟨_, rfl, _, rfl, l, ns.map V.int, rfl, .inl hS, _, _, rfl, rfl, _, rfl, ite2 (fun e => ?_) (fun e => ?_)⟩
    · have e1 := of_decide_eq_true e
      rw [List.length_map] at e1
      exact ⟨_, rfl, _, rfl, l, _, _, _, rfl, rfl, hS, atI_cell (by omega), q⟩
    · have e1 : ¬ j < ns.length := fun z => e (decide_eq_true (by rw [List.length_map]; omega))
      rw [cell_out e1] at q
      exact q
/-- _law_whole; slots ["_law_found"] -/
theorem kn__law_whole (B : Bs K mg A base) : Kn P w K mg base 1 "_law_whole" spWhole := by
  refine B.d__law_whole.ok sc__law_whole (fun vs H Q E h => ?_) (fun f cdv A0 outer s H vs Q E hr h => ?_)
  · obtain ⟨i, rfl, _⟩ := h; rfl
  · obtain ⟨i, rfl, q⟩ := h
    refine ⟨_, (pss_one (ps_ret (pe_and (pe_callB call_isi (by rfl) B.b_isinstance (by decide +kernel) (pa_cons (pv 0) (pa_cons (pe_bltn (v := .ty "int") (by rfl) B.b_int (by decide +kernel) rfl) pa_nil))) (pe_one (pe_not (pe_callB call_isi (by rfl) B.b_isinstance (by decide +kernel) (pa_cons (pv 0) (pa_cons (pe_bltn (v := .ty "bool") (by rfl) B.b_bool (by decide +kernel) rfl) pa_nil)))))))), ?_⟩
    refine ⟨_, rfl, .int i, .ty "int", _, _, true, rfl, .ty "int", .base (.int i), kit_ty (by decide +kernel), _, rfl, ?_⟩
    refine iteT ?_
    refine ⟨_, rfl, .int i, .ty "bool", _, _, false, rfl, .ty "bool", .base (.int i), kit_ty (by decide +kernel), _, rfl, ?_⟩
    exact q
/-- _law_lone; slots ["_law_e", "_law_found"] -/
theorem kn__law_lone (B : Bs K mg A base) : Ke P w K mg base 1 "_law_lone" (spLone A) := by
  refine B.d__law_lone.okE sc__law_lone (fun a cls d vs H Q E h => ?_) (fun f cdv A0 outer s H vs Q a oe cls d hr isx h => ?_)
  · obtain ⟨i, _, _, _, rfl, _⟩ := h; rfl
  · obtain ⟨i, hi, rfl, rfl, rfl, q⟩ := h
    refine ⟨_, (pss_cons (ps_set (i := 1) sc__law_lone.nd rfl (Or.inl rfl) (pe_op op_add (pe_op op_add (pe_callTy call_int1 (by rfl) B.b_int (by decide +kernel) (pa_cons (pe_callB (id := "isinstance") (r := rIsX K _ _ _) (call_isX List.mem_cons_self isx) (by rfl) B.b_isinstance (by decide +kernel) (pa_cons (pv 0) (pa_cons (pe_glob (v := .ref (A.cl.getD 0 0)) (by rfl) B.g_BadName rfl) pa_nil))) pa_nil)) (pe_callTy call_int1 (by rfl) B.b_int (by decide +kernel) (pa_cons (pe_callB (id := "isinstance") (r := rIsX K _ _ _) (call_isX List.mem_cons_self isx) (by rfl) B.b_isinstance (by decide +kernel) (pa_cons (pv 0) (pa_cons (pe_glob (v := .ref (A.cl.getD 1 0)) (by rfl) B.g_BadCurrency rfl) pa_nil))) pa_nil))) (pe_callTy call_int1 (by rfl) B.b_int (by decide +kernel) (pa_cons (pe_callB (id := "isinstance") (r := rIsX K _ _ _) (call_isX List.mem_cons_self isx) (by rfl) B.b_isinstance (by decide +kernel) (pa_cons (pv 0) (pa_cons (pe_glob (v := .ref (A.cl.getD 2 0)) (by rfl) B.g_BadAmount rfl) pa_nil))) pa_nil))))
      (pss_cons (ps_set (i := 1) sc__law_lone.nd rfl (Or.inl rfl) (pe_op op_add (pe_op op_add (pe_op op_add (pv 1) (pe_callTy call_int1 (by rfl) B.b_int (by decide +kernel) (pa_cons (pe_callB (id := "isinstance") (r := rIsX K _ _ _) (call_isX List.mem_cons_self isx) (by rfl) B.b_isinstance (by decide +kernel) (pa_cons (pv 0) (pa_cons (pe_glob (v := .ref (A.cl.getD 3 0)) (by rfl) B.g_BadDay rfl) pa_nil))) pa_nil))) (pe_callTy call_int1 (by rfl) B.b_int (by decide +kernel) (pa_cons (pe_callB (id := "isinstance") (r := rIsX K _ _ _) (call_isX List.mem_cons_self isx) (by rfl) B.b_isinstance (by decide +kernel) (pa_cons (pv 0) (pa_cons (pe_glob (v := .ref (A.cl.getD 4 0)) (by rfl) B.g_BadNote rfl) pa_nil))) pa_nil))) (pe_callTy call_int1 (by rfl) B.b_int (by decide +kernel) (pa_cons (pe_callB (id := "isinstance") (r := rIsX K _ _ _) (call_isX List.mem_cons_self isx) (by rfl) B.b_isinstance (by decide +kernel) (pa_cons (pv 0) (pa_cons (pe_glob (v := .ref (A.cl.getD 5 0)) (by rfl) B.g_BadRate rfl) pa_nil))) pa_nil))))
      (pss_cons (ps_set (i := 1) sc__law_lone.nd rfl (Or.inl rfl) (pe_op op_add (pe_op op_add (pe_op op_add (pv 1) (pe_callTy call_int1 (by rfl) B.b_int (by decide +kernel) (pa_cons (pe_callB (id := "isinstance") (r := rIsX K _ _ _) (call_isX List.mem_cons_self isx) (by rfl) B.b_isinstance (by decide +kernel) (pa_cons (pv 0) (pa_cons (pe_glob (v := .ref (A.cl.getD 6 0)) (by rfl) B.g_Unbalanced rfl) pa_nil))) pa_nil))) (pe_callTy call_int1 (by rfl) B.b_int (by decide +kernel) (pa_cons (pe_callB (id := "isinstance") (r := rIsX K _ _ _) (call_isX List.mem_cons_self isx) (by rfl) B.b_isinstance (by decide +kernel) (pa_cons (pv 0) (pa_cons (pe_glob (v := .ref (A.cl.getD 7 0)) (by rfl) B.g_Closed rfl) pa_nil))) pa_nil))) (pe_callTy call_int1 (by rfl) B.b_int (by decide +kernel) (pa_cons (pe_callB (id := "isinstance") (r := rIsX K _ _ _) (call_isX List.mem_cons_self isx) (by rfl) B.b_isinstance (by decide +kernel) (pa_cons (pv 0) (pa_cons (pe_glob (v := .ref (A.cl.getD 8 0)) (by rfl) B.g_Taken rfl) pa_nil))) pa_nil))))
      (pss_cons (ps_set (i := 1) sc__law_lone.nd rfl (Or.inl rfl) (pe_op op_add (pe_op op_add (pe_op op_add (pv 1) (pe_callTy call_int1 (by rfl) B.b_int (by decide +kernel) (pa_cons (pe_callB (id := "isinstance") (r := rIsX K _ _ _) (call_isX List.mem_cons_self isx) (by rfl) B.b_isinstance (by decide +kernel) (pa_cons (pv 0) (pa_cons (pe_glob (v := .ref (A.cl.getD 9 0)) (by rfl) B.g_TakenBack rfl) pa_nil))) pa_nil))) (pe_callTy call_int1 (by rfl) B.b_int (by decide +kernel) (pa_cons (pe_callB (id := "isinstance") (r := rIsX K _ _ _) (call_isX List.mem_cons_self isx) (by rfl) B.b_isinstance (by decide +kernel) (pa_cons (pv 0) (pa_cons (pe_glob (v := .ref (A.cl.getD 10 0)) (by rfl) B.g_NoAccount rfl) pa_nil))) pa_nil))) (pe_callTy call_int1 (by rfl) B.b_int (by decide +kernel) (pa_cons (pe_callB (id := "isinstance") (r := rIsX K _ _ _) (call_isX List.mem_cons_self isx) (by rfl) B.b_isinstance (by decide +kernel) (pa_cons (pv 0) (pa_cons (pe_glob (v := .ref (A.cl.getD 11 0)) (by rfl) B.g_NoEntry rfl) pa_nil))) pa_nil))))
      (pss_cons (ps_set (i := 1) sc__law_lone.nd rfl (Or.inl rfl) (pe_op op_add (pe_op op_add (pe_op op_add (pv 1) (pe_callTy call_int1 (by rfl) B.b_int (by decide +kernel) (pa_cons (pe_callB (id := "isinstance") (r := rIsX K _ _ _) (call_isX List.mem_cons_self isx) (by rfl) B.b_isinstance (by decide +kernel) (pa_cons (pv 0) (pa_cons (pe_glob (v := .ref (A.cl.getD 12 0)) (by rfl) B.g_NoRate rfl) pa_nil))) pa_nil))) (pe_callTy call_int1 (by rfl) B.b_int (by decide +kernel) (pa_cons (pe_callB (id := "isinstance") (r := rIsX K _ _ _) (call_isX List.mem_cons_self isx) (by rfl) B.b_isinstance (by decide +kernel) (pa_cons (pv 0) (pa_cons (pe_glob (v := .ref (A.cl.getD 13 0)) (by rfl) B.g_NoPeriod rfl) pa_nil))) pa_nil))) (pe_callTy call_int1 (by rfl) B.b_int (by decide +kernel) (pa_cons (pe_callB (id := "isinstance") (r := rIsX K _ _ _) (call_isX List.mem_cons_self isx) (by rfl) B.b_isinstance (by decide +kernel) (pa_cons (pv 0) (pa_cons (pe_glob (v := .ref (A.cl.getD 14 0)) (by rfl) B.g_TooSmall rfl) pa_nil))) pa_nil))))
      (pss_one (ps_ret (pe_and (pe_callB (id := "isinstance") (r := rIsX K _ _ _) (call_isX List.mem_cons_self isx) (by rfl) B.b_isinstance (by decide +kernel) (pa_cons (pv 0) (pa_cons (pe_bltn (v := .ty "ValueError") (by rfl) B.b_ValueError (by decide +kernel) rfl) pa_nil))) (pe_one (pe_cmpR op_eq (pe_op op_add (pv 1) (pe_callTy call_int1 (by rfl) B.b_int (by decide +kernel) (pa_cons (pe_callB (id := "isinstance") (r := rIsX K _ _ _) (call_isX List.mem_cons_self isx) (by rfl) B.b_isinstance (by decide +kernel) (pa_cons (pv 0) (pa_cons (pe_glob (v := .ref (A.cl.getD 15 0)) (by rfl) B.g_BadText rfl) pa_nil))) pa_nil))) pe_int (nomark _))))))))))), ?_⟩
    have hl : i < A.cl.length := by rw [B.len]; exact hi
    have C := (B.exs.one i hl).c
    have kt : ∀ j, j < 16 → PySem.W.kitOne K (.ref (A.cl.getD i 0)) (.ref (A.cl.getD j 0)) = some (decide (i = j)) := fun j hj => B.exs.kit i j hl (by rw [B.len]; exact hj)
    have kv := B.exs.kitV i hl
    refine ⟨_, rfl, _, _, _, _, rfl, rfl, C, rfl, known_ref, kt 0 (by decide), .inr ⟨_, rfl, ?_⟩⟩
    refine ⟨_, rfl, _, _, _, _, rfl, rfl, C, rfl, known_ref, kt 1 (by decide), .inr ⟨_, rfl, ?_⟩⟩
    refine ⟨_, _, rfl, rfl, ?_⟩
    refine ⟨_, rfl, _, _, _, _, rfl, rfl, C, rfl, known_ref, kt 2 (by decide), .inr ⟨_, rfl, ?_⟩⟩
    refine ⟨_, _, rfl, rfl, ?_⟩
    refine ⟨_, rfl, ?_⟩
    refine ⟨_, rfl, _, _, _, _, rfl, rfl, C, rfl, known_ref, kt 3 (by decide), .inr ⟨_, rfl, ?_⟩⟩
    refine ⟨_, _, rfl, rfl, ?_⟩
    refine ⟨_, rfl, _, _, _, _, rfl, rfl, C, rfl, known_ref, kt 4 (by decide), .inr ⟨_, rfl, ?_⟩⟩
    refine ⟨_, _, rfl, rfl, ?_⟩
    refine ⟨_, rfl, _, _, _, _, rfl, rfl, C, rfl, known_ref, kt 5 (by decide), .inr ⟨_, rfl, ?_⟩⟩
    refine ⟨_, _, rfl, rfl, ?_⟩
    refine ⟨_, rfl, ?_⟩
    refine ⟨_, rfl, _, _, _, _, rfl, rfl, C, rfl, known_ref, kt 6 (by decide), .inr ⟨_, rfl, ?_⟩⟩
    refine ⟨_, _, rfl, rfl, ?_⟩
    refine ⟨_, rfl, _, _, _, _, rfl, rfl, C, rfl, known_ref, kt 7 (by decide), .inr ⟨_, rfl, ?_⟩⟩
    refine ⟨_, _, rfl, rfl, ?_⟩
    refine ⟨_, rfl, _, _, _, _, rfl, rfl, C, rfl, known_ref, kt 8 (by decide), .inr ⟨_, rfl, ?_⟩⟩
    refine ⟨_, _, rfl, rfl, ?_⟩
    refine ⟨_, rfl, ?_⟩
    refine ⟨_, rfl, _, _, _, _, rfl, rfl, C, rfl, known_ref, kt 9 (by decide), .inr ⟨_, rfl, ?_⟩⟩
    refine ⟨_, _, rfl, rfl, ?_⟩
    refine ⟨_, rfl, _, _, _, _, rfl, rfl, C, rfl, known_ref, kt 10 (by decide), .inr ⟨_, rfl, ?_⟩⟩
    refine ⟨_, _, rfl, rfl, ?_⟩
    refine ⟨_, rfl, _, _, _, _, rfl, rfl, C, rfl, known_ref, kt 11 (by decide), .inr ⟨_, rfl, ?_⟩⟩
    refine ⟨_, _, rfl, rfl, ?_⟩
    refine ⟨_, rfl, ?_⟩
    refine ⟨_, rfl, _, _, _, _, rfl, rfl, C, rfl, known_ref, kt 12 (by decide), .inr ⟨_, rfl, ?_⟩⟩
    refine ⟨_, _, rfl, rfl, ?_⟩
    refine ⟨_, rfl, _, _, _, _, rfl, rfl, C, rfl, known_ref, kt 13 (by decide), .inr ⟨_, rfl, ?_⟩⟩
    refine ⟨_, _, rfl, rfl, ?_⟩
    refine ⟨_, rfl, _, _, _, _, rfl, rfl, C, rfl, known_ref, kt 14 (by decide), .inr ⟨_, rfl, ?_⟩⟩
    refine ⟨_, _, rfl, rfl, ?_⟩
    refine ⟨_, rfl, _, _, _, _, rfl, rfl, C, rfl, known_ty, kv, _, rfl, ?_⟩
    refine iteT ?_
    refine ⟨_, rfl, ?_⟩
    refine ⟨_, rfl, _, _, _, _, rfl, rfl, C, rfl, known_ref, kt 15 (by decide), .inr ⟨_, rfl, ?_⟩⟩
    refine ⟨_, _, rfl, rfl, ?_⟩
    refine ⟨rfl, ?_⟩
    exact q_bl (Q := Q) (decide_eq_true (congrArg V.int (lone_sum i hi))) q
/-- _law_currency; slots ["_law_cell_here", "_law_signs", "_law_found"] -/
theorem kn__law_currency (B : Bs K mg A base) : Kn P w K mg base 1 "_law_currency" spCur := by
  refine B.d__law_currency.ok sc__law_currency (fun vs H Q E h => ?_) (fun f cdv A0 outer s H vs Q E hr h => ?_)
  · obtain ⟨c, rfl, _⟩ := h; rfl
  · obtain ⟨c, rfl, q⟩ := h
    refine ⟨_, (pss_cons (ps_set (i := 1) sc__law_currency.nd rfl (Or.inl rfl) pe_str)
      (pss_cons (ps_set (i := 2) sc__law_currency.nd rfl (Or.inl rfl) (pe_ix ix_str (pv 1) (pe_op op_mod (pv 0) pe_int) (fun _ _ => rfl)))
      (pss_cons (ps_set (i := 2) sc__law_currency.nd rfl (Or.inl rfl) (pe_op op_add_str (pv 2) (pe_ix ix_str (pv 1) (pe_op op_mod (pe_op op_fdivW (pv 0) pe_int) pe_int) (fun _ _ => rfl))))
      (pss_one (ps_ret (pe_op op_add_str (pv 2) (pe_ix ix_str (pv 1) (pe_op op_mod (pe_op op_fdivW (pv 0) pe_int) pe_int) (fun _ _ => rfl)))))))), ?_⟩
    have z : (Str.ofString "ABCDEFGHIJKLMNOPQRSTUVWXYZ").length ≤ sizeLine := by decide +kernel
    have c1 := cell_mod (x := c) (m := 26) (by decide)
    have c2 := cell_mod (x := c / 26) (m := 26) (by decide)
    have c3 := cell_mod (x := c / 676) (m := 26) (by decide)
    refine ⟨_, rfl, _, rfl, _, _, rfl, rfl, by show (0 : Int) < 26; decide, _, _, _, rfl, rfl, z, at_up c1, ?_⟩
    refine ⟨_, rfl, _, rfl, _, rfl, _, _, rfl, rfl, wide_div (by decide) (b := 5) (by decide) (by decide) (by decide), _, _, rfl, rfl, by show (0 : Int) < 26; decide, _, _, _, rfl, rfl, z, at_up c2, _, _, rfl, rfl, by show 1 + 1 ≤ sizeLine; decide, ?_⟩
    refine ⟨_, rfl, _, rfl, _, rfl, _, _, rfl, rfl, wide_div (by decide) (b := 10) (by decide) (by decide) (by decide), _, _, rfl, rfl, by show (0 : Int) < 26; decide, _, _, _, rfl, rfl, z, at_up c3, _, _, rfl, rfl, by show 2 + 1 ≤ sizeLine; decide, ?_⟩
    exact q
/-- _law_day; slots ["_law_cell_here"] -/
theorem kn__law_day (B : Bs K mg A base) : Kn P w K mg base 1 "_law_day" spDay := by
  refine B.d__law_day.ok sc__law_day (fun vs H Q E h => ?_) (fun f cdv A0 outer s H vs Q E hr h => ?_)
  · obtain ⟨c, rfl, _⟩ := h; rfl
  · obtain ⟨c, rfl, q⟩ := h
    refine ⟨_, (pss_cons (ps_if (pt_cmpR op_eq (pe_op op_mod (pv 0) pe_int) pe_int (nomark _)) (pss_one (ps_ret (pe_op op_mod (pe_op op_fdivW (pv 0) pe_int) pe_int))) pss_nil)
      (pss_one (ps_ret (pe_op op_mod (pe_op op_fdivW (pv 0) pe_int) pe_int)))), ?_⟩
    refine ⟨_, rfl, _, _, rfl, rfl, by show (0 : Int) < 2; decide, rfl, _, rfl, ite2 (fun _ => ?_) (fun _ => ?_)⟩
    · refine ⟨_, rfl, _, _, rfl, rfl, wide_div (by decide) (b := 2) (by decide) (by decide) (by decide), _, _, rfl, rfl, by show (0 : Int) < 10; decide, ?_⟩
      refine q _ (dayOk_iff.mpr ?_)
      have := cell_mod (x := c / 2) (m := 10) (by decide)
      omega
    · refine ⟨_, rfl, _, _, rfl, rfl, wide_div (by decide) (b := 2) (by decide) (by decide) (by decide), _, _, rfl, rfl, by show (0 : Int) < 100000; decide, ?_⟩
      refine q _ (dayOk_iff.mpr ?_)
      have := cell_mod (x := c / 2) (m := 100000) (by decide)
      omega
/-- _law_part; slots ["_law_cell_here"] -/
theorem kn__law_part (B : Bs K mg A base) : Kn P w K mg base 1 "_law_part" spPart := by
  refine B.d__law_part.ok sc__law_part (fun vs H Q E h => ?_) (fun f cdv A0 outer s H vs Q E hr h => ?_)
  · obtain ⟨c, rfl, _⟩ := h; rfl
  · obtain ⟨c, rfl, q⟩ := h
    refine ⟨_, (pss_cons (ps_if (pt_cmpR op_eq (pe_op op_mod (pv 0) pe_int) pe_int (nomark _)) (pss_one (ps_ret (pe_op op_pow pe_int pe_int))) pss_nil)
      (pss_one (ps_ret (pe_op op_add pe_int (pe_op op_mod (pv 0) (pe_op op_pow pe_int pe_int)))))), ?_⟩
    refine ⟨_, rfl, _, _, rfl, rfl, by show (0 : Int) < 9; decide, rfl, _, rfl, ite2 (fun _ => ?_) (fun _ => ?_)⟩
    · refine ⟨_, _, rfl, rfl, cpow (by decide), ?_⟩
      exact q _ (by decide)
    · refine ⟨_, rfl, _, _, rfl, rfl, cpow (by decide), _, _, rfl, rfl, by show (0 : Int) < 10 ^ (9 : Int).toNat; decide, _, _, rfl, rfl, ?_⟩
      refine q _ (partOk_iff.mpr ?_)
      have := cell_mod (x := c) (m := 10 ^ (9 : Int).toNat) (by decide)
      rw [p9] at this ⊢
      omega
/-- _law_due; slots ["_law_told", "_law_currency_here", "_law_day_here", "_law_found", "_law_row"] -/
theorem kn__law_due (B : Bs K mg A base) : Kn P w K mg base 1 "_law_due" (spDue K) := by
  refine B.d__law_due.ok sc__law_due (fun vs H Q E h => ?_) (fun f cdv A0 outer s H vs Q E hr h => ?_)
  · obtain ⟨a, c, d, rs, L, rfl, _⟩ := h; rfl
  · obtain ⟨a, c, d, rs, L, rfl, hS, hL, q0, q1⟩ := h
    have hlr : rs.length = L.length := Paired.length hL
    refine ⟨_, (pss_cons (ps_set (i := 3) sc__law_due.nd rfl (Or.inl rfl) pe_non)
      (pss_cons (ps_for PassesOwn.never rfl (pi_list (pv 0)) (pg_name (i := 4) sc__law_due.nd rfl (Or.inl rfl)) (pss_one (ps_if (PW.pt (pw_and (pt_cmpR op_eq (pe_ix ix_tup (pv 4) pe_int (fun _ _ => rfl)) (pv 1) (nomark _)) (pw_and (pt_cmpR op_le (pe_ix ix_tup (pv 4) pe_int (fun _ _ => rfl)) (pv 2) (nomark _)) (pw_and1 (PW.pt (pw_or (pt_cmpR op_isN (pv 3) pe_non (nomark _)) (pw_or1 (pt_cmpR op_ge (pe_ix ix_tup (pv 4) pe_int (fun _ _ => rfl)) (pe_ix ix_tup (pv 3) pe_int (fun _ _ => rfl)) (nomark _))))))))) (pss_one (ps_set (i := 3) sc__law_due.nd rfl (Or.inl rfl) (pv 4))) pss_nil)))
      (pss_one (ps_ret (pv 3))))), ?_⟩
    refine ⟨_, rfl, a, rfl, ⟨_, hS⟩, for_list (K := K) (a := a) (xs := rs.map V.ref) (fun i σ H' => H' = H ∧ ∃ y v, σ = [some (.ref a), some (.str c), some (.int d), some v, y] ∧
        ((dueR (L.take i) c d = none ∧ v = .non) ∨ ∃ row r, dueR (L.take i) c d = some row ∧ v = .ref r ∧ SqT K H r (rowV row)))
      ⟨rfl, none, .non, rfl, .inl ⟨rfl, rfl⟩⟩ (fun i σ H' _ h => by rw [h.1]; exact hS) ?_ ?_⟩
    · rintro i x σ H' hi ⟨rfl, y, v, rfl, hv⟩
      obtain ⟨r, hr1, rfl⟩ := refs_get hi
      obtain ⟨row, hl1, ht⟩ := pr_get hL hr1
      rw [take_snoc hl1, dueR_snoc]
      refine ⟨_, rfl, _, _, _, _, rfl, rfl, ht, atI_nat (j := 0) rfl, _, rfl, rfl, _, rfl, ite2 (fun e1 => ?_) (fun e1 => ?_)⟩
      · have e1 : row.1 = c := V.str.inj (of_decide_eq_true e1)
        refine ⟨_, rfl, _, _, _, _, rfl, rfl, ht, atI_nat (j := 1) rfl, _, rfl, _, _, rfl, rfl, _, rfl, ite2 (fun e2 => ?_) (fun e2 => ?_)⟩
        · have e2 : row.2.1 ≤ d := of_decide_eq_true e2
          rcases hv with ⟨hn, rfl⟩ | ⟨old, r0, ho, rfl, h0⟩
          · refine ⟨_, rfl, rfl, _, rfl, iteT (iteT ?_)⟩
            refine ⟨_, rfl, rfl, some (.ref r), .ref r, rfl, .inr ⟨row, r, ?_, rfl, ht⟩⟩
            unfold dueStep
            rw [if_pos ⟨e1, e2, by rw [hn]; intro a h; cases h⟩]
          · refine ⟨_, rfl, rfl, _, rfl, iteF ?_⟩
            refine ⟨_, rfl, _, _, _, _, rfl, rfl, ht, atI_nat (j := 1) rfl, _, rfl, _, _, _, _, rfl, rfl, h0, atI_nat (j := 1) rfl, _, _, rfl, rfl, _, rfl, ite2 (fun e3 => ?_) (fun e3 => ?_)⟩
            · have e3 : old.2.1 ≤ row.2.1 := of_decide_eq_true e3
              refine ⟨_, rfl, rfl, some (.ref r), .ref r, rfl, .inr ⟨row, r, ?_, rfl, ht⟩⟩
              unfold dueStep
              rw [if_pos ⟨e1, e2, by rw [ho]; intro a h; cases h; exact e3⟩]
            · have e3 : ¬ old.2.1 ≤ row.2.1 := fun z => e3 (decide_eq_true z)
              refine ⟨rfl, some (.ref r), .ref r0, rfl, .inr ⟨old, r0, ?_, rfl, h0⟩⟩
              unfold dueStep
              rw [if_neg (fun z => e3 (z.2.2 old (by rw [ho]; rfl))), ho]
        · have e2 : ¬ row.2.1 ≤ d := fun z => e2 (decide_eq_true z)
          refine iteF ?_
          refine ⟨rfl, some (.ref r), v, rfl, ?_⟩
          unfold dueStep
          rw [if_neg (fun z => e2 z.2.1)]
          exact hv
      · have e1 : ¬ row.1 = c := fun z => e1 (decide_eq_true (congrArg V.str z))
        refine iteF ?_
        refine ⟨rfl, some (.ref r), v, rfl, ?_⟩
        unfold dueStep
        rw [if_neg (fun z => e1 z.1)]
        exact hv
    · rintro σ H' ⟨rfl, y, v, rfl, hv⟩
      rw [List.take_of_length_le (by rw [List.length_map]; omega)] at hv
      refine ⟨_, rfl, ?_⟩
      rcases hv with ⟨hn, rfl⟩ | ⟨old, r0, ho, rfl, h0⟩
      · exact q0 hn
      · exact q1 _ _ ho h0
/-- _law_refused; slots ["_law_book", "_law_currency_here", "_law_day_here", "_law_e"] -/
theorem kn__law_refused (B : Bs K mg A base) : Kn P w K mg base 3 "_law_refused" (spRefused K A) := by
  have c_Book_rate : Km P w K mg base 2 (A.co.getD 0 0) "rate" (spRate K A) := kn_Book_rate B
  have c__law_lone : Ke P w K mg base 1 "_law_lone" (spLone A) := kn__law_lone B
  refine B.d__law_refused.ok sc__law_refused (fun vs H Q E h => ?_) (fun f cdv A0 outer s H vs Q E hr h => ?_)
  · obtain ⟨p, F, S, c, d, rfl, _⟩ := h; rfl
  · obtain ⟨p, F, S, c, d, rfl, hB, hcl, hF, he, q⟩ := h
    refine ⟨_, (pss_cons (ps_try_mix rfl rfl sc__law_refused.nd takes0 (fun pn xe W tk pas => (pss_one (ps_expr (pm1 c_Book_rate (pv 0) hr (by decide) tk (pa_cons (pv 1) (pa_cons (pv 2) pa_nil)))))) (.cons (oi := (some 3)) ⟨rfl, by decide, .inl B.g_LedgerError⟩ ⟨rfl, rfl⟩ (fun a oe cls d pn hz hf => (pss_one (ps_ret (pe_and (pe_callB (id := "isinstance") (r := rIsX K a cls d) (call_isX List.mem_cons_self ⟨hz, hf⟩) (by rfl) B.b_isinstance (by decide +kernel) (pa_cons (pv 3) (pa_cons (pe_glob (v := .ref (A.cl.getD 12 0)) (by rfl) B.g_NoRate rfl) pa_nil))) (pe_one (pE1 c__law_lone (roomS hr) (by decide) List.mem_cons_self ⟨hz, hf⟩ rfl (pa_cons (pv 3) pa_nil))))))) .nil))
      (pss_one (ps_ret pe_bl))), ?_⟩
    have l12 : 12 < A.cl.length := by rw [B.len]; decide
    have C := (B.exs.one 12 l12).c
    obtain ⟨dx, fs, hp, nnhp, n3⟩ := hB.ins
    have n1 := nnhp (Str.ofString "rate") (by decide)
    have n2 := nnhp (Str.ofString "tell_rate") (by decide)
    refine fun _ _ => ⟨_, rfl, p, dx, fs, rfl, hp, n1, _, rfl, _, rfl, p, F, S, c, d, rfl, hB, hcl, hF.1, fun i hi H' e => ?_, fun hn => ?_⟩
    · rw [he] at hi
      cases hi
      refine ⟨true, B.exs.exmL 12 l12, fun _ a na => ?_, fun z => nomatch z⟩
      refine ⟨_, rfl, _, _, _, _, rfl, rfl, C, rfl, known_ref, B.exs.kit 12 12 l12 l12, _, rfl, iteT ?_⟩
      exact ⟨_, rfl, 12, by decide, rfl, rfl, rfl, q _ e⟩
    · rw [he] at hn
      cases hn
/-- _law_asked; slots ["_law_book", "_law_told", "_law_currency_here", "_law_day_here", "_law_due_here", "_law_found"] -/
theorem kn__law_asked (B : Bs K mg A base) : Kn P w K mg base 4 "_law_asked" (spAsked K A) := by
  have c__law_whole : Kn P w K mg base 1 "_law_whole" spWhole := kn__law_whole B
  have c_Book_rate : Km P w K mg base 2 (A.co.getD 0 0) "rate" (spRate K A) := kn_Book_rate B
  have c__law_refused : Kn P w K mg base 3 "_law_refused" (spRefused K A) := kn__law_refused B
  have c__law_due : Kn P w K mg base 1 "_law_due" (spDue K) := kn__law_due B
  refine B.d__law_asked.ok sc__law_asked (fun vs H Q E h => ?_) (fun f cdv A0 outer s H vs Q E hr h => ?_)
  · obtain ⟨p, a, F, rs, S, c, d, rfl, _⟩ := h; rfl
  · obtain ⟨p, a, F, rs, S, c, d, rfl, hB, hF, hS, hL, hc, hd, hn, q⟩ := h
    refine ⟨_, (pss_cons (ps_set (i := 4) sc__law_asked.nd rfl (Or.inl rfl) (pc1 c__law_due hr (by decide) rfl (pa_cons (pv 1) (pa_cons (pv 2) (pa_cons (pv 3) pa_nil)))))
      (pss_cons (ps_if (pt_cmpR op_isN (pv 4) pe_non (nomark _)) (pss_one (ps_ret (pc1 c__law_refused hr (by decide) rfl (pa_cons (pv 0) (pa_cons (pv 2) (pa_cons (pv 3) pa_nil)))))) pss_nil)
      (pss_cons (ps_set (i := 5) sc__law_asked.nd rfl (Or.inl rfl) (pm1 c_Book_rate (pv 0) hr (by decide) takes0 (pa_cons (pv 2) (pa_cons (pv 3) pa_nil))))
      (pss_cons (ps_if (PW.pt (pw_or (pt_not (pt_val (pe_callB call_isi (by rfl) B.b_isinstance (by decide +kernel) (pa_cons (pv 5) (pa_cons (pe_bltn (v := .ty "tuple") (by rfl) B.b_tuple (by decide +kernel) rfl) pa_nil))))) (pw_or1 (pt_cmpR op_ne (pe_callB call_len_seq (by rfl) B.b_len (by decide +kernel) (pa_cons (pv 5) pa_nil)) pe_int (nomark _))))) (pss_one (ps_ret pe_bl)) pss_nil)
      (pss_cons (ps_if (PW.pt (pw_or (pt_not (pt_val (pc1 c__law_whole hr (by decide) rfl (pa_cons (pe_ix ix_tup (pv 5) pe_int (fun _ _ => rfl)) pa_nil)))) (pw_or1 (pt_not (pt_val (pc1 c__law_whole hr (by decide) rfl (pa_cons (pe_ix ix_tup (pv 5) pe_int (fun _ _ => rfl)) pa_nil))))))) (pss_one (ps_ret pe_bl)) pss_nil)
      (pss_one (ps_ret (pe_cmpR (op_eqD hr.units) (pv 5) (pe_tup (pa_cons (pe_ix ix_tup (pv 4) pe_int (fun _ _ => rfl)) (pa_cons (pe_ix ix_tup (pv 4) pe_int (fun _ _ => rfl)) pa_nil))) (nomark _))))))))), ?_⟩
    have er : S.rate c d = (dueR S.told c d).map fun r => r.2.2 := by
      unfold BkS.rate
      rw [if_neg hn]
    have ee : rateErr S c d = if S.rate c d = none then some 12 else none := by
      unfold rateErr
      rw [hc, hd, if_neg (by decide), if_neg (by decide)]
    refine ⟨_, rfl, _, rfl, _, rfl, a, c, d, rs, S.told, rfl, hS, hL, fun h0 => ?_, fun row r h1 hrow => ?_⟩
    · refine ⟨_, rfl, rfl, _, rfl, iteT ?_⟩
      rw [er, h0] at ee
      exact ⟨_, rfl, _, rfl, _, rfl, p, F, S, c, d, rfl, hB, cur_len hc, hF, ee, q⟩
    · refine ⟨_, rfl, rfl, _, rfl, iteF ?_⟩
      rw [er, h1] at ee
      rw [h1] at er
      obtain ⟨dx, fs, hp, nnhp, n3⟩ := hB.ins
      have n1 := nnhp (Str.ofString "rate") (by decide)
      have n2 := nnhp (Str.ofString "tell_rate") (by decide)
      refine ⟨_, rfl, p, dx, fs, rfl, hp, n1, _, rfl, _, rfl, p, F, S, c, d, rfl, hB, cur_len hc, hF.1, fun i hi => ?_, fun _ t b ht H2 r2 e2 hf => ?_⟩
      · rw [ee] at hi
        cases hi
      · rw [er] at ht
        have ht2 := Option.some.inj ht
        obtain rfl : row.2.2.1 = t := congrArg Prod.fst ht2
        obtain rfl : row.2.2.2 = b := congrArg Prod.snd ht2
        refine ⟨_, rfl, .ref r2, .ty "tuple", _, _, true, rfl, .ty "tuple", tyx_tup hf, kit_ty (by decide +kernel), _, rfl, iteF ?_⟩
        refine ⟨_, rfl, r2, _, rfl, .inr hf, rfl, _, rfl, iteBF (nb_f rfl) ?_⟩
        refine ⟨_, rfl, _, _, _, _, rfl, rfl, hf, atI_nat (j := 0) rfl, _, rfl, _, rfl, iteF ?_⟩
        refine ⟨_, rfl, _, _, _, _, rfl, rfl, hf, atI_nat (j := 1) rfl, _, rfl, _, rfl, iteF ?_⟩
        have hrow2 := ex_t e2 hrow
        refine ⟨_, rfl, _, rfl, _, _, _, _, rfl, rfl, hrow2, atI_nat (j := 2) rfl, _, rfl, _, _, _, _, rfl, rfl, hrow2, atI_nat (j := 3) rfl, sz_of (by show (2 : Nat) ≤ 100000; decide), fun p3 n3 => ?_⟩
        refine ⟨.tuple [.int row.2.2.1, .int row.2.2.2], .tuple [.int row.2.2.1, .int row.2.2.2], .tup (ex_t (Ex.new n3) hf) (.cons (.int _) (.cons (.int _) .nil)), .tup (st_of upd_same) (.cons (.int _) (.cons (.int _) .nil)), rfl, rfl, ?_⟩
        exact q_bl (Q := Q) (SeqAt.eqv_refl _ rfl) (q _ (e2.trans (Ex.new n3)))
/-- _law_tried_again; slots ["_law_book", "_law_row"] -/
theorem kn__law_tried_again (B : Bs K mg A base) : Kx P w K mg base 4 "_law_tried_again" (spAgain K A) := by
  have c_Book___init__ : Ki P w K mg base 2 "Book" (A.co.getD 0 0) (spInit K A) := kn_Book___init__ B
  have c_Book_tell_rate : Km P w K mg base 3 (A.co.getD 0 0) "tell_rate" (spTell K A) := kn_Book_tell_rate B
  have c_Book_rate : Km P w K mg base 2 (A.co.getD 0 0) "rate" (spRate K A) := kn_Book_rate B
  refine B.d__law_tried_again.okX sc__law_tried_again (fun vs H Q E h => ?_) (fun f cdv A0 outer s H vs Q E hr h => ?_)
  · obtain ⟨p, r, F, S, xs, i, rfl, _⟩ := h; rfl
  · obtain ⟨p, r, F, S, xs, i, rfl, hB, hl, hS, hR, q⟩ := h
    refine ⟨_, (pss_cut (ps_if (pt_cmpR op_eq (pe_callB call_len_seq (by rfl) B.b_len (by decide +kernel) (pa_cons (pv 1) pa_nil)) pe_int (nomark _)) (pss_one (ps_expr (pm1 c_Book_rate (pv 0) hr (by decide) (takes_of rfl rfl rfl rfl) (pa_cons (pe_ix ix_list (pv 1) pe_int (fun _ _ => rfl)) (pa_cons (pe_ix ix_list (pv 1) pe_int (fun _ _ => rfl)) pa_nil))))) pss_nil)
      (pss_cut (ps_if (pt_cmpR op_eq (pe_callB call_len_seq (by rfl) B.b_len (by decide +kernel) (pa_cons (pv 1) pa_nil)) pe_int (nomark _)) (pss_one (ps_expr (pm1 c_Book_tell_rate (pv 0) hr (by decide) (takes_of rfl rfl rfl rfl) (pa_cons (pe_ix ix_list (pv 1) pe_int (fun _ _ => rfl)) (pa_cons (pe_ix ix_list (pv 1) pe_int (fun _ _ => rfl)) (pa_cons (pe_ix ix_list (pv 1) pe_int (fun _ _ => rfl)) (pa_cons (pe_ix ix_list (pv 1) pe_int (fun _ _ => rfl)) pa_nil))))))) pss_nil)
      (pss_one (ps_if (pt_cmpR op_eq (pe_callB call_len_seq (by rfl) B.b_len (by decide +kernel) (pa_cons (pv 1) pa_nil)) pe_int (nomark _)) (pss_one (ps_expr (pi1 c_Book___init__ hr (by decide) (takes_of rfl rfl rfl rfl) rfl (pa_cons (pe_ix ix_list (pv 1) pe_int (fun _ _ => rfl)) pa_nil)))) pss_nil)))), ?_⟩
    obtain ⟨dx, fs, hp, nnhp, n3⟩ := hB.ins
    have n1 := nnhp (Str.ofString "rate") (by decide)
    have n2 := nnhp (Str.ofString "tell_rate") (by decide)
    rcases hR with ⟨c, rfl, hcl, he⟩ | ⟨c, d, rfl, hcl, he⟩ | ⟨c, d, t, b, rfl, hcl, he⟩
    · refine ⟨fun σ H' => σ = [some (.ref p), some (.ref r)] ∧ H' = H, ?_, ?_⟩
      · exact ⟨_, rfl, r, _, rfl, .inl hS, rfl, _, rfl, iteF ⟨rfl, rfl⟩⟩
      rintro σ H' ⟨rfl, rfl⟩
      refine ⟨fun σ H2 => σ = [some (.ref p), some (.ref r)] ∧ H2 = H', ?_, ?_⟩
      · exact ⟨_, rfl, r, _, rfl, .inl hS, rfl, _, rfl, iteF ⟨rfl, rfl⟩⟩
      rintro σ H ⟨rfl, rfl⟩
      refine ⟨_, rfl, r, _, rfl, .inl hS, rfl, _, rfl, iteT ?_⟩
      refine ⟨_, rfl, r, _, _, _, rfl, rfl, hS, atI_nat (j := 0) rfl, ?_⟩
      refine fun x0 dx0 h1 h2 h3 => ⟨x0, dx0, c, rfl, hcl, hB.tabs.ex (Ex.new2 h1 h2 h3), LamsIn.ex hB.lams (Ex.new2 h1 h2 h3), upd_same, ?_, Ne.symm h3, fun j hj H2 e2 => ?_, fun hn => ?_⟩
      · rw [upd_ne h3]; exact upd_same
      · rw [he] at hj; cases hj
        exact q _ (((Ex.new h2).trans (Ex.new (by rw [upd_ne (Ne.symm h3)]; exact h1))).trans e2)
      · rw [he] at hn; cases hn
    · refine ⟨fun _ _ => False, ?_, fun _ _ z => z.elim⟩
      refine ⟨_, rfl, r, _, rfl, .inl hS, rfl, _, rfl, iteT ?_⟩
      refine ⟨_, rfl, p, dx, fs, rfl, hp, n1, _, rfl, r, _, _, _, rfl, rfl, hS, atI_nat (j := 0) rfl, _, rfl, r, _, _, _, rfl, rfl, hS, atI_nat (j := 1) rfl, p, F, S, c, d, rfl, hB, hcl, hl.1, fun j hj H2 e2 => ?_, fun hn => ?_⟩
      · rw [he] at hj; cases hj
        exact q _ e2
      · rw [he] at hn; cases hn
    · refine ⟨fun σ H' => σ = [some (.ref p), some (.ref r)] ∧ H' = H, ?_, ?_⟩
      · exact ⟨_, rfl, r, _, rfl, .inl hS, rfl, _, rfl, iteF ⟨rfl, rfl⟩⟩
      rintro σ H' ⟨rfl, rfl⟩
      refine ⟨fun _ _ => False, ?_, fun _ _ z => z.elim⟩
      refine ⟨_, rfl, r, _, rfl, .inl hS, rfl, _, rfl, iteT ?_⟩
      refine ⟨_, rfl, p, dx, fs, rfl, hp, n2, _, rfl, r, _, _, _, rfl, rfl, hS, atI_nat (j := 0) rfl, _, rfl, r, _, _, _, rfl, rfl, hS, atI_nat (j := 1) rfl,
        _, rfl, r, _, _, _, rfl, rfl, hS, atI_nat (j := 2) rfl, _, rfl, r, _, _, _, rfl, rfl, hS, atI_nat (j := 3) rfl, p, F, S, c, d, t, b, rfl, hB, hcl, hl.1, hl.2, fun j hj H2 e2 => ?_, fun hn => ?_⟩
      · rw [he] at hj; cases hj
        exact q _ e2
      · rw [he] at hn; cases hn
/-- _law_tried; slots ["_law_book", "_law_row"] -/
theorem kn__law_tried (B : Bs K mg A base) : Kn P w K mg base 4 "_law_tried" (spTried K A) := by
  have c_Book_tell_rate : Km P w K mg base 3 (A.co.getD 0 0) "tell_rate" (spTell K A) := kn_Book_tell_rate B
  have c_Book_rate : Km P w K mg base 2 (A.co.getD 0 0) "rate" (spRate K A) := kn_Book_rate B
  have c_Book___init__ : Ki P w K mg base 2 "Book" (A.co.getD 0 0) (spInit K A) := kn_Book___init__ B
  refine B.d__law_tried.ok sc__law_tried (fun vs H Q E h => ?_) (fun f cdv A0 outer s H vs Q E hr h => ?_)
  · obtain ⟨p, r, F, S, xs, i, rfl, _⟩ := h; rfl
  · obtain ⟨p, r, F, S, xs, i, rfl, hB, hl, hS, hR, hi, q⟩ := h
    refine ⟨_, (pss_cons (ps_try_mix rfl rfl sc__law_tried.nd takes0 (fun pn xe W tk pas => (pss_cut (ps_if (pt_cmpR op_eq (pe_callB call_len_seq (by rfl) B.b_len (by decide +kernel) (pa_cons (pv 1) pa_nil)) pe_int (nomark _)) (pss_one (ps_expr (pi1 c_Book___init__ hr (by decide) tk rfl (pa_cons (pe_ix ix_list (pv 1) pe_int (fun _ _ => rfl)) pa_nil)))) pss_nil)
      (pss_cut (ps_if (pt_cmpR op_eq (pe_callB call_len_seq (by rfl) B.b_len (by decide +kernel) (pa_cons (pv 1) pa_nil)) pe_int (nomark _)) (pss_one (ps_expr (pm1 c_Book_rate (pv 0) hr (by decide) tk (pa_cons (pe_ix ix_list (pv 1) pe_int (fun _ _ => rfl)) (pa_cons (pe_ix ix_list (pv 1) pe_int (fun _ _ => rfl)) pa_nil))))) pss_nil)
      (pss_one (ps_if (pt_cmpR op_eq (pe_callB call_len_seq (by rfl) B.b_len (by decide +kernel) (pa_cons (pv 1) pa_nil)) pe_int (nomark _)) (pss_one (ps_expr (pm1 c_Book_tell_rate (pv 0) hr (by decide) tk (pa_cons (pe_ix ix_list (pv 1) pe_int (fun _ _ => rfl)) (pa_cons (pe_ix ix_list (pv 1) pe_int (fun _ _ => rfl)) (pa_cons (pe_ix ix_list (pv 1) pe_int (fun _ _ => rfl)) (pa_cons (pe_ix ix_list (pv 1) pe_int (fun _ _ => rfl)) pa_nil))))))) pss_nil))))) (.cons (oi := none) ⟨rfl, by decide, .inl B.g_BadCurrency⟩ True.intro (fun a oe cls d pn hz hf => (pss_one (ps_ret pe_str))) (.cons (oi := none) ⟨rfl, by decide, .inl B.g_BadDay⟩ True.intro (fun a oe cls d pn hz hf => (pss_one (ps_ret pe_str))) (.cons (oi := none) ⟨rfl, by decide, .inl B.g_BadRate⟩ True.intro (fun a oe cls d pn hz hf => (pss_one (ps_ret pe_str))) .nil))))
      (pss_one (ps_ret pe_str))), ?_⟩
    obtain ⟨dx, fs, hp, nnhp, n3⟩ := hB.ins
    have n1 := nnhp (Str.ofString "rate") (by decide)
    have n2 := nnhp (Str.ofString "tell_rate") (by decide)
    have l1 : 1 < A.cl.length := by rw [B.len]; decide
    have l3 : 3 < A.cl.length := by rw [B.len]; decide
    have l5 : 5 < A.cl.length := by rw [B.len]; decide
    intro pn xe
    rcases hR with ⟨c, rfl, hcl, he⟩ | ⟨c, d, rfl, hcl, he⟩ | ⟨c, d, t, b, rfl, hcl, he⟩
    · refine ⟨fun _ _ => False, ?_, fun _ _ z => z.elim⟩
      refine ⟨_, rfl, r, _, rfl, .inl hS, rfl, _, rfl, iteT ?_⟩
      refine ⟨_, rfl, r, _, _, _, rfl, rfl, hS, atI_nat (j := 0) rfl, ?_⟩
      refine fun x0 dx0 h1 h2 h3 => ⟨x0, dx0, c, rfl, hcl, hB.tabs.ex (Ex.new2 h1 h2 h3), LamsIn.ex hB.lams (Ex.new2 h1 h2 h3), upd_same, ?_, Ne.symm h3, fun j hj H2 e2 => ?_, fun hn => ?_⟩
      · rw [upd_ne h3]; exact upd_same
      · rw [he] at hj; cases hj
        have e3 := ((Ex.new h2).trans (Ex.new (by rw [upd_ne (Ne.symm h3)]; exact h1))).trans e2
        rcases hi with rfl | rfl | rfl
        · exact mix_hit (B.exs.exm 1 1 l1 l1) fun _ na => q _ e3
        · exact mix_miss (B.exs.exm 3 1 l3 l1) (mix_hit (B.exs.exm 3 3 l3 l3) fun _ na => q _ e3)
        · exact mix_miss (B.exs.exm 5 1 l5 l1) (mix_miss (B.exs.exm 5 3 l5 l3) (mix_hit (B.exs.exm 5 5 l5 l5) fun _ na => q _ e3))
      · rw [he] at hn; cases hn
    · refine ⟨fun σ H' => σ = [some (.ref p), some (.ref r)] ∧ H' = H, ?_, ?_⟩
      · exact ⟨_, rfl, r, _, rfl, .inl hS, rfl, _, rfl, iteF ⟨rfl, rfl⟩⟩
      rintro σ H' ⟨rfl, rfl⟩
      refine ⟨fun _ _ => False, ?_, fun _ _ z => z.elim⟩
      refine ⟨_, rfl, r, _, rfl, .inl hS, rfl, _, rfl, iteT ?_⟩
      refine ⟨_, rfl, p, dx, fs, rfl, hp, n1, _, rfl, r, _, _, _, rfl, rfl, hS, atI_nat (j := 0) rfl, _, rfl, r, _, _, _, rfl, rfl, hS, atI_nat (j := 1) rfl, p, F, S, c, d, rfl, hB, hcl, hl.1, fun j hj H2 e2 => ?_, fun hn => ?_⟩
      · rw [he] at hj; cases hj
        rcases hi with rfl | rfl | rfl
        · exact mix_hit (B.exs.exm 1 1 l1 l1) fun _ na => q _ e2
        · exact mix_miss (B.exs.exm 3 1 l3 l1) (mix_hit (B.exs.exm 3 3 l3 l3) fun _ na => q _ e2)
        · exact mix_miss (B.exs.exm 5 1 l5 l1) (mix_miss (B.exs.exm 5 3 l5 l3) (mix_hit (B.exs.exm 5 5 l5 l5) fun _ na => q _ e2))
      · rw [he] at hn; cases hn
    · refine ⟨fun σ H' => σ = [some (.ref p), some (.ref r)] ∧ H' = H, ?_, ?_⟩
      · exact ⟨_, rfl, r, _, rfl, .inl hS, rfl, _, rfl, iteF ⟨rfl, rfl⟩⟩
      rintro σ H' ⟨rfl, rfl⟩
      refine ⟨fun σ H2 => σ = [some (.ref p), some (.ref r)] ∧ H2 = H', ?_, ?_⟩
      · exact ⟨_, rfl, r, _, rfl, .inl hS, rfl, _, rfl, iteF ⟨rfl, rfl⟩⟩
      rintro σ H ⟨rfl, rfl⟩
      refine ⟨_, rfl, r, _, rfl, .inl hS, rfl, _, rfl, iteT ?_⟩
      refine ⟨_, rfl, p, dx, fs, rfl, hp, n2, _, rfl, r, _, _, _, rfl, rfl, hS, atI_nat (j := 0) rfl, _, rfl, r, _, _, _, rfl, rfl, hS, atI_nat (j := 1) rfl,
        _, rfl, r, _, _, _, rfl, rfl, hS, atI_nat (j := 2) rfl, _, rfl, r, _, _, _, rfl, rfl, hS, atI_nat (j := 3) rfl, p, F, S, c, d, t, b, rfl, hB, hcl, hl.1, hl.2, fun j hj H2 e2 => ?_, fun hn => ?_⟩
      · rw [he] at hj; cases hj
        rcases hi with rfl | rfl | rfl
        · exact mix_hit (B.exs.exm 1 1 l1 l1) fun _ na => q _ e2
        · exact mix_miss (B.exs.exm 3 1 l3 l1) (mix_hit (B.exs.exm 3 3 l3 l3) fun _ na => q _ e2)
        · exact mix_miss (B.exs.exm 5 1 l5 l1) (mix_miss (B.exs.exm 5 3 l5 l3) (mix_hit (B.exs.exm 5 5 l5 l5) fun _ na => q _ e2))
      · rw [he] at hn; cases hn
/-- _law_based; slots ["_law_book", "_law_row", "_law_e"] -/
theorem kn__law_based (B : Bs K mg A base) : Kn P w K mg base 5 "_law_based" (spBased K A) := by
  have c__law_tried_again : Kx P w K mg base 4 "_law_tried_again" (spAgain K A) := kn__law_tried_again B
  have c__law_lone : Ke P w K mg base 1 "_law_lone" (spLone A) := kn__law_lone B
  refine B.d__law_based.ok sc__law_based (fun vs H Q E h => ?_) (fun f cdv A0 outer s H vs Q E hr h => ?_)
  · obtain ⟨p, r, F, S, xs, i, rfl, _⟩ := h; rfl
  · obtain ⟨p, r, F, S, xs, i, rfl, hB, hl, hS, hR, hi, q⟩ := h
    refine ⟨_, (pss_cons (ps_try_mix rfl rfl sc__law_based.nd takes0 (fun pn xe W tk pas => (pss_one (ps_expr (px1 c__law_tried_again hr (by decide) tk rfl (pa_cons (pv 0) (pa_cons (pv 1) pa_nil)))))) (.cons (oi := (some 2)) ⟨rfl, by decide, .inl B.g_LedgerError⟩ ⟨rfl, rfl⟩ (fun a oe cls d pn hz hf => (pss_one (ps_ret (pE1 c__law_lone (roomS hr) (by decide) List.mem_cons_self ⟨hz, hf⟩ rfl (pa_cons (pv 2) pa_nil))))) .nil))
      (pss_one (ps_ret pe_bl))), ?_⟩
    intro pn xe
    have li : i < A.cl.length := by rw [B.len]; exact hi
    refine ⟨_, rfl, _, rfl, p, r, F, S, xs, i, rfl, hB, hl, hS, hR, fun H2 e2 => ?_⟩
    refine ⟨true, B.exs.exmL i li, fun _ a na => ?_, fun z => nomatch z⟩
    exact ⟨_, rfl, i, hi, rfl, rfl, rfl, q _ e2⟩
/-- _law_refusals; slots ["_law_book", "_law_home", "_law_other", "_law_cell_here", "_law_none", "_law_rows", "_law_dues", "_law_at"] -/
theorem kn__law_refusals (B : Bs K mg A base) : Kn P w K mg base 6 "_law_refusals" (spRefusals K A) := by
  have c__law_based : Kn P w K mg base 5 "_law_based" (spBased K A) := kn__law_based B
  have c__law_tried : Kn P w K mg base 4 "_law_tried" (spTried K A) := kn__law_tried B
  refine B.d__law_refusals.ok sc__law_refusals (fun vs H Q E h => ?_) (fun f cdv A0 outer s H vs Q E hr h => ?_)
  · obtain ⟨p, F, S, o, c, rfl, _⟩ := h; rfl
  · obtain ⟨p, F, S, o, c, rfl, hB, hl, hh, ho, hn, he, q⟩ := h
    refine ⟨_, (pss_cons (ps_set (i := 4) sc__law_refusals.nd rfl (Or.inl rfl) (pe_ix ix_list (pe_lst (pa_cons pe_str (pa_cons pe_str (pa_cons pe_str (pa_cons pe_str (pa_cons pe_str (pa_cons pe_str (pa_cons pe_str pa_nil)))))))) (pe_op op_mod (pv 3) pe_int) (fun _ _ => rfl)))
      (pss_cons (ps_set (i := 5) sc__law_refusals.nd rfl (Or.inl rfl) (pe_lst (pa_cons (pe_lst (pa_cons (pv 4) pa_nil)) (pa_cons (pe_lst (pa_cons (pv 4) (pa_cons pe_int pa_nil))) (pa_cons (pe_lst (pa_cons (pv 4) (pa_cons (pe_un un_neg pe_int) (pa_cons pe_int (pa_cons pe_int pa_nil))))) (pa_cons (pe_lst (pa_cons (pv 4) (pa_cons pe_int (pa_cons pe_int (pa_cons pe_int pa_nil))))) pa_nil))))))
      (pss_cons (ps_set (i := 6) sc__law_refusals.nd rfl (Or.inl rfl) (pe_lst (pa_cons pe_str (pa_cons pe_str (pa_cons pe_str (pa_cons pe_str pa_nil))))))
      (pss_cons (ps_set (i := 5) sc__law_refusals.nd rfl (Or.inl rfl) (pe_op op_cat (pv 5) (pe_lst (pa_cons (pe_lst (pa_cons (pv 2) (pa_cons (pe_un un_neg pe_int) pa_nil))) (pa_cons (pe_lst (pa_cons (pv 2) (pa_cons pe_int pa_nil))) (pa_cons (pe_lst (pa_cons (pv 2) (pa_cons (pe_un un_neg pe_int) (pa_cons pe_int (pa_cons pe_int pa_nil))))) (pa_cons (pe_lst (pa_cons (pv 1) (pa_cons pe_int (pa_cons pe_int (pa_cons pe_int pa_nil))))) pa_nil)))))))
      (pss_cons (ps_set (i := 6) sc__law_refusals.nd rfl (Or.inl rfl) (pe_op op_cat (pv 6) (pe_lst (pa_cons pe_str (pa_cons pe_str (pa_cons pe_str (pa_cons pe_str pa_nil)))))))
      (pss_cons (ps_set (i := 5) sc__law_refusals.nd rfl (Or.inl rfl) (pe_op op_cat (pv 5) (pe_lst (pa_cons (pe_lst (pa_cons (pv 1) (pa_cons pe_int (pa_cons pe_int (pa_cons pe_int pa_nil))))) (pa_cons (pe_lst (pa_cons (pv 2) (pa_cons pe_int (pa_cons pe_int (pa_cons pe_int pa_nil))))) (pa_cons (pe_lst (pa_cons (pv 2) (pa_cons pe_int (pa_cons pe_int (pa_cons pe_int pa_nil))))) (pa_cons (pe_lst (pa_cons (pv 2) (pa_cons pe_int (pa_cons (pe_op op_add (pe_op op_pow pe_int pe_int) pe_int) (pa_cons pe_int pa_nil))))) pa_nil)))))))
      (pss_cons (ps_set (i := 5) sc__law_refusals.nd rfl (Or.inl rfl) (pe_op op_cat (pv 5) (pe_lst (pa_cons (pe_lst (pa_cons (pv 2) (pa_cons pe_int (pa_cons pe_int (pa_cons (pe_op op_add (pe_op op_pow pe_int pe_int) pe_int) pa_nil))))) (pa_cons (pe_lst (pa_cons (pv 2) (pa_cons pe_int (pa_cons (pe_un un_neg pe_int) (pa_cons pe_int pa_nil))))) pa_nil)))))
      (pss_cons (ps_set (i := 6) sc__law_refusals.nd rfl (Or.inl rfl) (pe_op op_cat (pv 6) (pe_op op_rep (pe_lst (pa_cons pe_str pa_nil)) pe_int)))
      (pss_cons (ps_set (i := 5) sc__law_refusals.nd rfl (Or.inl rfl) (pe_op op_cat (pv 5) (pe_lst (pa_cons (pe_lst (pa_cons (pv 1) (pa_cons (pe_un un_neg pe_int) pa_nil))) (pa_cons (pe_lst (pa_cons (pv 1) (pa_cons pe_int pa_nil))) pa_nil)))))
      (pss_cons (ps_set (i := 6) sc__law_refusals.nd rfl (Or.inl rfl) (pe_op op_cat (pv 6) (pe_lst (pa_cons pe_str (pa_cons pe_str pa_nil)))))
      (pss_cons (ps_set (i := 7) sc__law_refusals.nd rfl (Or.inl rfl) (pe_op op_mod (pe_op op_fdivW (pv 3) pe_int) pe_int))
      (pss_one (ps_ret (pe_and (pe_cmpR op_eq (pc1 c__law_tried hr (by decide) rfl (pa_cons (pv 0) (pa_cons (pe_ix ix_list (pv 5) (pv 7) (fun _ _ => rfl)) pa_nil))) (pe_ix ix_list (pv 6) (pv 7) (fun _ _ => rfl)) (nomark _)) (pe_one (pc1 c__law_based hr (by decide) rfl (pa_cons (pv 0) (pa_cons (pe_ix ix_list (pv 5) (pv 7) (fun _ _ => rfl)) pa_nil)))))))))))))))))), ?_⟩
    have c7 := cell_mod (x := c) (m := 7) (by decide)
    obtain ⟨n, hnat, hnc, hnl⟩ := noCur_at c7
    refine s_asg (v := .str n) (ev_opL1 (xs := noCur) (y := .int (c % 7)) (el_lst (ea_cons ev_c (ea_cons ev_c (ea_cons ev_c (ea_cons ev_c (ea_cons ev_c (ea_cons ev_c (ea_cons ev_c ea_nil))))))) (by decide))
      (fun H1 _ => ev_op (ev_var rfl) ev_c (rv_I (by show (0 : Int) < 7; decide))) (fun p H1 h1 _ => rv_ixL (sq_of h1) hnat)) fun H1 e1 => ?_
    refine s_rows (er_cons (el_lst (ea_cons (ev_var rfl) ea_nil) lz) (er_cons (el_lst (ea_cons (ev_var rfl) (ea_cons ev_c ea_nil)) lz) (er_cons (el_lst (ea_cons (ev_var rfl) (ea_cons (ev_un ev_c ru_neg) (ea_cons ev_c (ea_cons ev_c ea_nil)))) lz) (er_cons (el_lst (ea_cons (ev_var rfl) (ea_cons ev_c (ea_cons ev_c (ea_cons ev_c ea_nil)))) lz) er_nil)))) lz fun p1 r1 H2 e2 h2 R2 => ?_
    refine s_asgL (el_lst (ea_cons ev_c (ea_cons ev_c (ea_cons ev_c (ea_cons ev_c ea_nil)))) lz) fun d1 H3 _ e3 g3 => ?_
    refine s_rowsCat rfl (e3 _ _ h2) (R2.ex e3) (er_cons (el_lst (ea_cons (ev_var rfl) (ea_cons (ev_un ev_c ru_neg) ea_nil)) lz) (er_cons (el_lst (ea_cons (ev_var rfl) (ea_cons ev_c ea_nil)) lz) (er_cons (el_lst (ea_cons (ev_var rfl) (ea_cons (ev_un ev_c ru_neg) (ea_cons ev_c (ea_cons ev_c ea_nil)))) lz) (er_cons (el_lst (ea_cons (ev_var rfl) (ea_cons ev_c (ea_cons ev_c (ea_cons ev_c ea_nil)))) lz) er_nil)))) lz fun p4 r4 H4 e4 h4 R4 => ?_
    refine s_asgL (el_cat (ev_var rfl) (e4 _ _ g3) (el_lst (ea_cons ev_c (ea_cons ev_c (ea_cons ev_c (ea_cons ev_c ea_nil)))) lz) lz) fun d5 H5 _ e5 g5 => ?_
    refine s_rowsCat rfl (e5 _ _ h4) (R4.ex e5) (er_cons (el_lst (ea_cons (ev_var rfl) (ea_cons ev_c (ea_cons ev_c (ea_cons ev_c ea_nil)))) lz) (er_cons (el_lst (ea_cons (ev_var rfl) (ea_cons ev_c (ea_cons ev_c (ea_cons ev_c ea_nil)))) lz) (er_cons (el_lst (ea_cons (ev_var rfl) (ea_cons ev_c (ea_cons ev_c (ea_cons ev_c ea_nil)))) lz) (er_cons (el_lst (ea_cons (ev_var rfl) (ea_cons ev_c (ea_cons (ev_op (ev_op ev_c ev_c (rv_I (cpow (by decide)))) ev_c rv_I0) (ea_cons ev_c ea_nil)))) lz) er_nil)))) lz fun p6 r6 H6 e6 h6 R6 => ?_
    refine s_rowsCat rfl h6 R6 (er_cons (el_lst (ea_cons (ev_var rfl) (ea_cons ev_c (ea_cons ev_c (ea_cons (ev_op (ev_op ev_c ev_c (rv_I (cpow (by decide)))) ev_c rv_I0) ea_nil)))) lz) (er_cons (el_lst (ea_cons (ev_var rfl) (ea_cons ev_c (ea_cons (ev_un ev_c ru_neg) (ea_cons ev_c ea_nil)))) lz) er_nil)) lz fun p7 r7 H7 e7 h7 R7 => ?_
    refine s_asgL (el_cat (ev_var rfl) (e7 _ _ (e6 _ _ g5)) (el_rep (el_lst (ea_cons ev_c ea_nil) lz) (fun _ _ => ev_c) ⟨by decide, by decide, Nat.le_of_ble_eq_true rfl⟩) lz) fun d8 H8 _ e8 g8 => ?_
    refine s_rowsCat rfl (e8 _ _ h7) (R7.ex e8) (er_cons (el_lst (ea_cons (ev_var rfl) (ea_cons (ev_un ev_c ru_neg) ea_nil)) lz) (er_cons (el_lst (ea_cons (ev_var rfl) (ea_cons ev_c ea_nil)) lz) er_nil)) lz fun p9 r9 H9 e9 h9 R9 => ?_
    refine s_asgL (el_cat (ev_var rfl) (e9 _ _ g8) (el_lst (ea_cons ev_c (ea_cons ev_c ea_nil)) lz) lz) fun d10 H10 _ e10 g10 => ?_
    have hrows := (e10 _ _ h9)
    have hR := (R9.ex e10)
    have hdues := g10
    have eAll := (((((((((e1.trans e2).trans e3).trans e4).trans e5).trans e6).trans e7).trans e8).trans e9).trans e10)
    have c16 := cell_mod (x := c / 7) (m := 16) (by decide)
    refine s_asg (v := .int (c / 7 % 16)) (ev_op (y := .int 16) (ev_op (z := .int (c / 7)) (y := .int 7) (ev_var (by rfl)) ev_c (rv_I (C := CDivW) (g := fun i j => .int (i / j)) (i := c) (wide_div (j := 7) (by decide) (b := 3) (by decide) (by decide) (by decide)))) ev_c (rv_I (C := fun _ j => 0 < j) (g := fun i j => .int (i % j)) (i := c / 7) (j := 16) (by decide))) fun H11 e11 => ?_
    obtain ⟨xs, i, hx, hd, hE, hi, hi16⟩ := refusal_rows (S := S) hnc hnl hh ho he (c / 7 % 16).toNat (by omega)
    obtain ⟨r0, hr0, hr1⟩ := ListsIn.get (hR.ex e11) hx
    have hix : atI (r9.map V.ref) (c / 7 % 16) = some (.ref r0) := by
      have e := atI_nat (xs := r9.map V.ref) (j := (c / 7 % 16).toNat) (v := .ref r0) (by rw [List.getElem?_map, hr0]; rfl)
      rw [Int.toNat_of_nonneg c16.1] at e
      exact e
    have hid : atI refDues (c / 7 % 16) = some (.str (errNm i)) := by
      have e := atI_nat (xs := refDues) (j := (c / 7 % 16).toNat) (v := .str (errNm i)) hd
      rw [Int.toNat_of_nonneg c16.1] at e
      exact e
    have hB11 := hB.ex (eAll.trans e11)
    have hr11 := hr1
    have hrows11 := e11 _ _ hrows
    have hdues11 := e11 _ _ hdues
    have u1 : ∀ H1, Ex H11 H1 → ∀ Q1 : VK, (∀ H2, Ex H1 H2 → Q1 (.str (errNm i)) H2) → ∀ E1 : XK, spTried K A [.ref p, .ref r0] H1 Q1 E1 := fun H1 e Q1 q1 E1 => ⟨p, r0, F, S, xs, i, rfl, hB11.ex e, hl, sq_of (e _ _ hr11), hE, hi, q1⟩
    have u2 : ∀ H1, Ex H11 H1 → ∀ Q1 : VK, (∀ H2, Ex H1 H2 → Q1 (.bl true) H2) → ∀ E1 : XK, spBased K A [.ref p, .ref r0] H1 Q1 E1 := fun H1 e Q1 q1 E1 => ⟨p, r0, F, S, xs, i, rfl, hB11.ex e, hl, sq_of (e _ _ hr11), hE, hi16, q1⟩
    refine s_ret (v := .bl (decide (V.str (errNm i) = V.str (errNm i)) && true)) (ev_andV (ev_op (x := .str (errNm i)) (y := .str (errNm i)) (ev_call (vs := [.ref p, .ref r0]) (dvs := []) (ea_cons (ev_var (by rfl)) (ea_cons (ev_op (x := .ref p9) (y := .int (c / 7 % 16)) (ev_var (by rfl)) (ev_var (by rfl)) (rv_ixL (sq_of hrows11) hix)) ea_nil)) u1)
      (ev_op (x := .ref d10) (y := .int (c / 7 % 16)) (ev_var (by rfl)) (ev_var (by rfl)) (rv_ixL (xs := refDues) (sq_of hdues11) hid)) (rv_eq rfl))
      (fun _ => ev_call (vs := [.ref p, .ref r0]) (dvs := []) (ea_cons (ev_var (by rfl)) (ea_cons (ev_op (x := .ref p9) (y := .int (c / 7 % 16)) (ev_var (by rfl)) (ev_var (by rfl)) (rv_ixL (sq_of hrows11) hix)) ea_nil)) u2)) fun H12 e12 => ?_
    exact q_bl (Q := Q) (by rw [decide_eq_true rfl]; rfl) (q _ ((eAll.trans e11).trans e12))
/-! ### the world of the law -/
structure W3 (K : PySem.W.Frag) (A : Ad) (p l a o : Addr) (ns : List Int) (cs : List Str) (home : Str) (H : Hp) (F : List Addr) (S : BkS) (rs : List Addr) : Prop where
  bk : BkAt K H A p F S
  few : S.deeds.length = S.told.length
  told : H a = some (.lst (rs.map V.ref))
  out : a ∉ F
  rows : HeldRows K H (a :: F) rowV rs S.told
  oth : Held H (a :: F) (fun H' => SqL K H' o (cs.map V.str)) o
  scr : Held H (a :: F) (fun H' => SqL K H' l (ns.map V.int)) l
  home : S.home = home
  ends : S.ends = []
  good : ∀ r ∈ S.told, dayOk r.2.1 = true
section
variable {A : Ad} {p l a o : Addr} {ns : List Int} {cs : List Str} {home : Str} {H H' : Hp} {F F' : List Addr} {S : BkS} {rs : List Addr}
theorem W3.ex (w : W3 K A p l a o ns cs home H F S rs) (e : Ex H H') : W3 K A p l a o ns cs home H' F S rs :=
  ⟨w.bk.ex e, w.few, e _ _ w.told, w.out, w.rows.grow (.of_ex e), w.oth.ex e, w.scr.ex e, w.home, w.ends, w.good⟩
theorem W3.rin (w : W3 K A p l a o ns cs home H F S rs) : RowsIn K H rs S.told := w.rows.now
/-- told one more -/
theorem W3.tl (w : W3 K A p l a o ns cs home H F S rs) (g : Grow H F H' F') : H' a = some (.lst (rs.map V.ref)) ∧ a ∉ F' :=
  ⟨g.keep a _ w.told w.out, fun z => by
    rcases g.new a z with z | z
    · exact w.out z
    · rw [w.told] at z
      cases z⟩
/-- told one more, and put behind -/
theorem W3.step (w : W3 K A p l a o ns cs home H F S rs) {r : Addr} {row : RateRow} (b : BkAt K H' A p F' (S.tell row)) (g : Grow H F H' F') (hr : Held H' (a :: F') (fun H' => SqT K H' r (rowV row)) r) (hd : dayOk row.2.1 = true) :
    W3 K A p l a o ns cs home (upd H' a (.lst (rs.map V.ref ++ [.ref r]))) F' (S.tell row) (rs ++ [r]) := by
  obtain ⟨t, n⟩ := w.tl g
  have G : Grow H (a :: F) (upd H' a (.lst (rs.map V.ref ++ [.ref r]))) (a :: F') := g.cons.trans (.upd List.mem_cons_self)
  refine ⟨b.keep (.upd t n still_lst), by show (S.deeds ++ _).length = (S.told ++ _).length; rw [List.length_append, List.length_append, w.few]; rfl, by rw [upd_same, List.map_append]; rfl, n, (w.rows.grow G).snoc (hr.grow (.upd List.mem_cons_self)), w.oth.grow G, w.scr.grow G, w.home, w.ends, fun r hr => ?_⟩
  rcases List.mem_append.mp hr with h | h
  · exact w.good r h
  · rw [List.mem_singleton.mp h]
    exact hd
/-- a new one is held -/
theorem W3.newT (w : W3 K A p l a o ns cs home H F S rs) {r : Addr} {xs : List V} (n : H r = none) (e : Ex H H') (h : H' r = some (.tup xs)) : Held H' (a :: F) (fun H' => SqT K H' r xs) r := by
  refine held_o h (fun z => ?_) fun H2 h2 => st_of h2
  rcases List.mem_cons.mp z with rfl | z
  · rw [w.told] at n
    cases n
  · obtain ⟨u, hu⟩ := w.bk.live r z
    rw [hu] at n
    cases n
end
theorem sp_cur (c : Int) {H : Hp} : SpV spCur [.int c] H (.str (cur3 c)) := fun H1 e Q q E => ⟨c, rfl, q H1 (Ex.refl _)⟩
theorem at_ints {ns : List Int} {k : Int} (h0 : 0 ≤ k) (h1 : k < ns.length) : ∃ z, atI (ns.map V.int) k = some (.int z) := by
  have e := at_list (zs := ns.map V.int) (i := k) .non h0 (by rw [List.length_map]; exact h1)
  have hj : k.toNat < ns.length := by omega
  rw [List.getD_eq_getElem?_getD, List.getElem?_map, List.getElem?_eq_getElem hj] at e
  exact ⟨_, e⟩
theorem at_strs {cs : List Str} {k : Int} (h0 : 0 ≤ k) (h1 : k < cs.length) : ∃ c, atI (cs.map V.str) k = some (.str c) ∧ c ∈ cs := by
  have e := at_list (zs := cs.map V.str) (i := k) .non h0 (by rw [List.length_map]; exact h1)
  have hj : k.toNat < cs.length := by omega
  rw [List.getD_eq_getElem?_getD, List.getElem?_map, List.getElem?_eq_getElem hj] at e
  exact ⟨_, e, List.getElem_mem hj⟩
theorem idx8 (z : Int) : 0 ≤ z % 3 * (1 + z / 3 % 4) ∧ z % 3 * (1 + z / 3 % 4) ≤ 8 := by
  have h : z % 3 = 0 ∨ z % 3 = 1 ∨ z % 3 = 2 := by omega
  rcases h with h | h | h <;> rw [h] <;> omega
theorem small3 (z : Int) : -(2 ^ 64) < z % 3 ∧ z % 3 < 2 ^ 64 := by
  have h : 0 ≤ z % 3 ∧ z % 3 < 3 := by omega
  exact ⟨Int.lt_of_lt_of_le (by decide) h.1, Int.lt_trans h.2 (by decide)⟩
theorem tell_ok {S : BkS} {c : Str} {d t b : Int} (h1 : curOk c = true) (h2 : dayOk d = true) (h3 : partOk t = true) (h4 : partOk b = true) (h5 : c ≠ S.home) (h6 : S.ends = []) : tellErr S c d t b = none := by
  have hc : S.closed = -1 := by unfold BkS.closed; rw [h6]; rfl
  have hd := dayOk_iff.mp h2
  unfold tellErr
  rw [if_neg (by rw [h1]; decide), if_neg (by rw [h2]; decide), if_neg (by rw [hc]; omega), if_neg (fun z => by
    rcases z with z | z | z
    · rw [h3] at z; cases z
    · rw [h4] at z; cases z
    · exact h5 z)]
theorem W3.fewS {A : Ad} {p l a o : Addr} {ns : List Int} {cs : List Str} {home : Str} {H : Hp} {F : List Addr} {S : BkS} {rs : List Addr} (w : W3 K A p l a o ns cs home H F S rs) (h : rs.length ≤ 1000) : Few S := by
  have e : rs.length = S.told.length := Paired.length w.rows
  have e2 := w.few
  exact ⟨by omega, by omega⟩
theorem W3.asked {A : Ad} {p l a o : Addr} {ns : List Int} {cs : List Str} {home : Str} {H : Hp} {F : List Addr} {S : BkS} {rs : List Addr} (w : W3 K A p l a o ns cs home H F S rs) (hs : rs.length ≤ 1000) {c : Str} {d : Int} (hc : curOk c = true) (hd : dayOk d = true) (hn : c ≠ home) :
    SpV (spAsked K A) [.ref p, .ref a, .str c, .int d] H (.bl true) :=
  fun H1 e Q q E => ⟨p, a, F, rs, S, c, d, rfl, (w.ex e).bk, w.fewS hs, sq_of (w.ex e).told, (w.ex e).rin, hc, hd, fun z => hn (z.trans w.home), q⟩
def abc : Str := Str.ofString "ABCDEFGHIJ"
def qqv (i : Nat) : Str := Str.ofString "QQ" ++ (⟨#[abc.cps.getD i 0]⟩ : Str)
def qq : List Str := (List.range 10).map qqv
theorem abc_size : abc.cps.size = 10 := by decide +kernel
theorem qq_ok : ∀ c ∈ qq, curOk c = true := by decide +kernel
theorem qq_nd : qq.Nodup := by decide +kernel
def oth12 (ns : List Int) : List Str := [cur3 (cellOf ns 1), cur3 (cellOf ns 2)] ++ qq
def othF (ns : List Int) (home : Str) : List Str := (oth12 ns).filter fun c => decide (c ≠ home)
theorem othF_ok {ns : List Int} {home c : Str} (h : c ∈ othF ns home) : curOk c = true ∧ c ≠ home := by
  unfold othF at h
  rw [List.mem_filter] at h
  refine ⟨?_, of_decide_eq_true h.2⟩
  unfold oth12 at h
  rcases List.mem_append.mp h.1 with h | h
  · rcases List.mem_cons.mp h with rfl | h
    · exact cur3_ok _
    · rcases List.mem_cons.mp h with rfl | h
      · exact cur3_ok _
      · cases h
  · exact qq_ok c h
theorem othF_len (ns : List Int) (home : Str) : 9 ≤ (othF ns home).length ∧ (othF ns home).length ≤ 12 := by
  have h1 : (othF ns home).length ≤ 12 := Nat.le_trans (List.length_filter_le _ _) (by show 2 + 10 ≤ 12; decide)
  refine ⟨?_, h1⟩
  unfold othF oth12
  rw [List.filter_append, List.length_append]
  have h2 : (qq.filter fun c => decide (c ≠ home)) = qq.erase home := by
    rw [List.Nodup.erase_eq_filter qq_nd]
    apply List.filter_congr
    intro x _
    by_cases h : x = home <;> simp [h]
  have h3 : 9 ≤ (qq.filter fun c => decide (c ≠ home)).length := by
    rw [h2, List.length_erase]
    split
    · show 9 ≤ 10 - 1; decide
    · show 9 ≤ 10; decide
  omega
/-- law; slots ["_law_script", "_law_home", "_law_others", "_law_k", "_law_sign", "_law_currency_here", "_law_book", "_law_told", "_law_row", "_law_day_here", "_law_days", "_law_some"] -/
theorem fok_law {f : Addr} {fd : FuncData} (F : Fun K "law" "law" s_law f fd) (B : Bs K mg A base) : FnOk P w K mg base CX0 7 f fd ["_law_script"] (spLaw K A) := by
  have c_Book_rate : Km P w K mg base 2 (A.co.getD 0 0) "rate" (spRate K A) := kn_Book_rate B
  have c__law_asked : Kn P w K mg base 4 "_law_asked" (spAsked K A) := kn__law_asked B
  have c_Book_tell_rate : Km P w K mg base 3 (A.co.getD 0 0) "tell_rate" (spTell K A) := kn_Book_tell_rate B
  have c__law_refusals : Kn P w K mg base 6 "_law_refusals" (spRefusals K A) := kn__law_refusals B
  have c__law_cell : Kn P w K mg base 1 "_law_cell" (spCell K) := kn__law_cell B
  have c__law_day : Kn P w K mg base 1 "_law_day" spDay := kn__law_day B
  have c__law_part : Kn P w K mg base 1 "_law_part" spPart := kn__law_part B
  have c_Book___init__ : Ki P w K mg base 2 "Book" (A.co.getD 0 0) (spInit K A) := kn_Book___init__ B
  have c__law_currency : Kn P w K mg base 1 "_law_currency" spCur := kn__law_currency B
  refine okF F sc_law (fun vs H Q E h => ?_) (fun f cdv A0 outer s H vs Q E hr h => ?_)
  · obtain ⟨a, ns, rfl, _⟩ := h; rfl
  · obtain ⟨l, ns, rfl, hS, hlen, hT, hLam, q⟩ := h
    refine ⟨_, (pss_cons (ps_set (i := 1) sc_law.nd rfl (Or.inr rfl) (pc1 c__law_currency hr (by decide) rfl (pa_cons (pc1 c__law_cell hr (by decide) rfl (pa_cons (pv 0) (pa_cons pe_int pa_nil))) pa_nil)))
      (pss_cons (ps_setLc (i := 2) (own := [("_law_k", 3)]) (g := gName 3) (tt := tYes) rfl sc_law.nd rfl rfl (sw_true rfl rfl rfl (by decide +kernel)) (pi_list (pe_lst (pa_cons pe_int (pa_cons pe_int pa_nil)))) (blkOk_by (own := [("_law_k", 3)]) (N := ["_law_script", "_law_home", "_law_others", "_law_k", "_law_sign", "_law_currency_here", "_law_book", "_law_told", "_law_row", "_law_day_here", "_law_days", "_law_some"]) (sc := defScope s_law) (by decide +kernel)) (fun _ _ _ _ _ => (pg_name (i := 3) sc_law.nd rfl (Or.inl rfl))) (fun _ _ _ _ _ => pts_nil) (fun _ _ _ _ _ => (pc1 c__law_currency hr (by decide) rfl (pa_cons (pc1 c__law_cell hr (by decide) rfl (pa_cons (pv 0) (pa_cons (pv 3) pa_nil))) pa_nil))))
      (pss_cons (ps_set (i := 2) sc_law.nd rfl (Or.inl rfl) (pe_op op_cat (pv 2) (pe_lc (own := [("_law_sign", 4)]) (g := gName 4) (tt := tYes) rfl sc_law.nd (pi_str pe_str) (blkOk_by (own := [("_law_sign", 4)]) (N := ["_law_script", "_law_home", "_law_others", "_law_k", "_law_sign", "_law_currency_here", "_law_book", "_law_told", "_law_row", "_law_day_here", "_law_days", "_law_some"]) (sc := defScope s_law) (by decide +kernel)) (fun _ _ _ _ _ => (pg_name (i := 4) sc_law.nd rfl (Or.inl rfl))) (fun _ _ _ _ _ => pts_nil) (fun _ _ _ _ _ => (pe_op op_add_str pe_str (pv 4))))))
      (pss_cons (ps_setLc (i := 2) (own := [("_law_currency_here", 5)]) (g := gName 5) rfl sc_law.nd rfl rfl (sw_true rfl rfl rfl (by decide +kernel)) (pi_list (pv 2)) (blkOk_by (own := [("_law_currency_here", 5)]) (N := ["_law_script", "_law_home", "_law_others", "_law_k", "_law_sign", "_law_currency_here", "_law_book", "_law_told", "_law_row", "_law_day_here", "_law_days", "_law_some"]) (sc := defScope s_law) (by decide +kernel)) (fun _ _ _ _ _ => (pg_name (i := 5) sc_law.nd rfl (Or.inl rfl))) (fun _ _ _ _ _ => (pts_one (pt_cmpR op_ne (pv 5) (pv 1) (nomark _)))) (fun _ _ _ _ _ => (pv 5)))
      (pss_cons (ps_set (i := 6) sc_law.nd rfl (Or.inl rfl) (pi1 c_Book___init__ hr (by decide) takes0 rfl (pa_cons (pv 1) pa_nil)))
      (pss_cons (ps_set (i := 7) sc_law.nd rfl (Or.inl rfl) (pe_lst pa_nil))
      (pss_cons (ps_for PassesOwn.never rfl (pi_range3 rfl B.b_range (pa_cons pe_int (pa_cons (pe_op op_sub (pe_callB (call_min2 rfl) (by rfl) B.b_min (by decide +kernel) (pa_cons (pe_callB call_len_seq (by rfl) B.b_len (by decide +kernel) (pa_cons (pv 0) pa_nil)) (pa_cons pe_int pa_nil))) pe_int) (pa_cons pe_int pa_nil)))) (pg_name (i := 3) sc_law.nd rfl (Or.inl rfl)) (pss_cons (ps_set (i := 8) sc_law.nd rfl (Or.inl rfl) (pe_tup (pa_cons (pe_ix ix_list (pv 2) (pe_op op_mul (pe_op op_mod (pe_ix ix_list (pv 0) (pv 3) (fun _ _ => rfl)) pe_int) (pe_op op_add pe_int (pe_op op_mod (pe_op op_fdivW (pe_ix ix_list (pv 0) (pv 3) (fun _ _ => rfl)) pe_int) pe_int))) (fun _ _ => rfl)) (pa_cons (pc1 c__law_day hr (by decide) rfl (pa_cons (pe_op op_fdivW (pe_ix ix_list (pv 0) (pv 3) (fun _ _ => rfl)) pe_int) pa_nil)) pa_nil))))
      (pss_cons (ps_set (i := 8) sc_law.nd rfl (Or.inl rfl) (pe_op op_catT (pv 8) (pe_tup (pa_cons (pc1 c__law_part hr (by decide) rfl (pa_cons (pe_ix ix_list (pv 0) (pe_op op_add (pv 3) pe_int) (fun _ _ => rfl)) pa_nil)) (pa_cons (pc1 c__law_part hr (by decide) rfl (pa_cons (pe_ix ix_list (pv 0) (pe_op op_add (pv 3) pe_int) (fun _ _ => rfl)) pa_nil)) pa_nil)))))
      (pss_cons (ps_if (pt_cmpR op_notN (pm1 c_Book_tell_rate (pv 6) hr (by decide) takes0 (pa_cons (pe_ix ix_tup (pv 8) pe_int (fun _ _ => rfl)) (pa_cons (pe_ix ix_tup (pv 8) pe_int (fun _ _ => rfl)) (pa_cons (pe_ix ix_tup (pv 8) pe_int (fun _ _ => rfl)) (pa_cons (pe_ix ix_tup (pv 8) pe_int (fun _ _ => rfl)) pa_nil))))) pe_non (nomark _)) (pss_one (ps_ret pe_bl)) pss_nil)
      (pss_cons (ps_expr (pe_bm PySem.F.plainAttrs_list PySem.F.slot_list_append PySem.F.type_list_append mt_append (pv 7) (pa_cons (pv 8) pa_nil)))
      (pss_one (ps_if (PW.pt (pw_or (pt_not (pt_val (pc1 c__law_asked hr (by decide) rfl (pa_cons (pv 6) (pa_cons (pv 7) (pa_cons (pe_ix ix_list (pv 2) pe_int (fun _ _ => rfl)) (pa_cons pe_int pa_nil))))))) (pw_or1 (pt_not (pt_val (pc1 c__law_asked hr (by decide) rfl (pa_cons (pv 6) (pa_cons (pv 7) (pa_cons (pe_ix ix_tup (pv 8) pe_int (fun _ _ => rfl)) (pa_cons (pe_ix ix_tup (pv 8) pe_int (fun _ _ => rfl)) pa_nil)))))))))) (pss_one (ps_ret pe_bl)) pss_nil)))))))
      (pss_cons (ps_set (i := 9) sc_law.nd rfl (Or.inl rfl) (pc1 c__law_day hr (by decide) rfl (pa_cons (pc1 c__law_cell hr (by decide) rfl (pa_cons (pv 0) (pa_cons pe_int pa_nil))) pa_nil)))
      (pss_cons (ps_set (i := 10) sc_law.nd rfl (Or.inl rfl) (pe_op op_cat (pe_lst (pa_cons (pv 9) (pa_cons (pe_callB (call_max2 rfl) (by rfl) B.b_max (by decide +kernel) (pa_cons pe_int (pa_cons (pe_op op_sub (pv 9) pe_int) pa_nil))) (pa_cons pe_int (pa_cons pe_int pa_nil))))) (pe_lc (own := [("_law_row", 8)]) (g := gName 8) (tt := tYes) rfl sc_law.nd (pi_list (pe_slice sl_list (pv 7) po_none (po_some pe_int))) (blkOk_by (own := [("_law_row", 8)]) (N := ["_law_script", "_law_home", "_law_others", "_law_k", "_law_sign", "_law_currency_here", "_law_book", "_law_told", "_law_row", "_law_day_here", "_law_days", "_law_some"]) (sc := defScope s_law) (by decide +kernel)) (fun _ _ _ _ _ => (pg_name (i := 8) sc_law.nd rfl (Or.inl rfl))) (fun _ _ _ _ _ => pts_nil) (fun _ _ _ _ _ => (pe_ix (r := rIxT K) (by exact ix_tup) (pv 8) pe_int (fun _ _ => rfl))))))
      (pss_cons (ps_for PassesOwn.never rfl (pi_list (pe_slice sl_list (pv 2) po_none (po_some pe_int))) (pg_name (i := 5) sc_law.nd rfl (Or.inl rfl)) (pss_one (ps_for PassesOwn.never rfl (pi_list (pv 10)) (pg_name (i := 11) sc_law.nd rfl (Or.inl rfl)) (pss_one (ps_if (pt_not (pt_val (pc1 c__law_asked hr (by decide) rfl (pa_cons (pv 6) (pa_cons (pv 7) (pa_cons (pv 5) (pa_cons (pv 11) pa_nil))))))) (pss_one (ps_ret pe_bl)) pss_nil)))))
      (pss_cons (ps_if (pt_not (pt_val (pc1 c__law_refusals hr (by decide) rfl (pa_cons (pv 6) (pa_cons (pv 1) (pa_cons (pe_ix ix_list (pv 2) pe_int (fun _ _ => rfl)) (pa_cons (pe_op op_fdivW (pc1 c__law_cell hr (by decide) rfl (pa_cons (pv 0) (pa_cons pe_int pa_nil))) pe_int) pa_nil))))))) (pss_one (ps_ret pe_bl)) pss_nil)
      (pss_cons (ps_for PassesOwn.never rfl (pi_list (pe_slice sl_list (pv 2) po_none (po_some pe_int))) (pg_name (i := 5) sc_law.nd rfl (Or.inl rfl)) (pss_one (ps_if (pt_not (pt_val (pc1 c__law_asked hr (by decide) rfl (pa_cons (pv 6) (pa_cons (pv 7) (pa_cons (pv 5) (pa_cons (pv 9) pa_nil))))))) (pss_one (ps_ret pe_bl)) pss_nil)))
      (pss_cons (ps_expr (pm1 c_Book_tell_rate (pv 6) hr (by decide) takes0 (pa_cons (pe_ix ix_list (pv 2) pe_int (fun _ _ => rfl)) (pa_cons pe_int (pa_cons pe_int (pa_cons pe_int pa_nil))))))
      (pss_cons (ps_expr (pe_bm PySem.F.plainAttrs_list PySem.F.slot_list_append PySem.F.type_list_append mt_append (pv 7) (pa_cons (pe_tup (pa_cons (pe_ix ix_list (pv 2) pe_int (fun _ _ => rfl)) (pa_cons pe_int (pa_cons pe_int (pa_cons pe_int pa_nil))))) pa_nil)))
      (pss_cons (ps_for PassesOwn.never rfl (pi_list (pe_lst (pa_cons pe_int (pa_cons pe_int (pa_cons pe_int pa_nil))))) (pg_name (i := 11) sc_law.nd rfl (Or.inl rfl)) (pss_one (ps_if (pt_not (pt_val (pc1 c__law_asked hr (by decide) rfl (pa_cons (pv 6) (pa_cons (pv 7) (pa_cons (pe_ix ix_list (pv 2) pe_int (fun _ _ => rfl)) (pa_cons (pv 11) pa_nil))))))) (pss_one (ps_ret pe_bl)) pss_nil)))
      (pss_one (ps_ret (pe_and (pe_cmpR op_eq (pe_fld (pv 6) rfl) (pv 1) (nomark _)) (pe_one (pe_cmpR (op_eqD hr.units) (pm1 c_Book_rate (pv 6) hr (by decide) takes0 (pa_cons (pv 1) (pa_cons (pv 9) pa_nil))) (pe_tup (pa_cons pe_int (pa_cons pe_int pa_nil))) (nomark _))))))))))))))))))))), ?_⟩
    refine s_asg (v := .str (cur3 (cellOf ns 0))) (ev_c1 (ea_cons (ev_c1 (ea_cons (ev_var rfl) (ea_cons ev_c ea_nil)) (sp_cell 0 hS)) ea_nil) (sp_cur _)) fun H1 e1 => ?_
    generalize hhome : cur3 (cellOf ns 0) = home
    have hhok : curOk home = true := hhome ▸ cur3_ok _
    have hS1 := ex_l e1 hS
    refine s_asgL (xs := [.str (cur3 (cellOf ns 1)), .str (cur3 (cellOf ns 2))]) (el_lcNL (xs := [.int 1, .int 2]) (fun _ => true) (fun i => .str (cur3 (cellOf ns (i + 1)))) (el_lst (ea_cons ev_c (ea_cons ev_c ea_nil)) lz) (by decide) (fun x => rfl)
      (fun i x H2 _ _ => fun H3 _ Q3 q3 => q3 H3 (Ex.refl _)) (fun i x H2 e2 hx _ => ?_)) fun o1 H2 n2 e2 h2 => ?_
    · match i, hx with
      | 0, hx => cases hx; exact ev_c1 (ea_cons (ev_c1 (ea_cons (ev_var (by rfl)) (ea_cons (ev_var (by rfl)) ea_nil)) (sp_cell 1 (ex_l e2 hS1))) ea_nil) (sp_cur _)
      | 1, hx => cases hx; exact ev_c1 (ea_cons (ev_c1 (ea_cons (ev_var (by rfl)) (ea_cons (ev_var (by rfl)) ea_nil)) (sp_cell 2 (ex_l e2 hS1))) ea_nil) (sp_cur _)
      | n + 2, hx => cases hx
    refine s_asgL (xs := [.str (cur3 (cellOf ns 1)), .str (cur3 (cellOf ns 2))] ++ given abc.cps.size (fun _ => true) (fun i => .str (qqv i))) (el_cat (ev_var (by rfl)) h2
      (el_lcStr (z := abc) (fun _ => true) (fun i => .str (qqv i)) ev_c (by rw [abc_size]; decide) (fun x => rfl) (fun i x H2 _ _ => fun H3 _ Q3 q3 => q3 H3 (Ex.refl _)) (fun i c H3 e3 hc _ => ?_)) ?_) fun o2 H3 n3 e3 h3 => ?_
    · refine ev_op (z := .str (qqv i)) ev_c (ev_var (by rfl)) (fun H4 e4 Q4 q4 => ⟨_, _, rfl, rfl, ?_, ?_⟩)
      · show 2 + 1 ≤ sizeLine; decide
      · have : qqv i = Str.ofString "QQ" ++ (⟨#[c]⟩ : Str) := by
          unfold qqv
          rw [Array.getD_eq_getD_getElem?, hc]
          rfl
        rw [← this]
        exact q4 H4 (Ex.refl _)
    · rw [abc_size]; exact lz
    have h3' : H3 o2 = some (.lst ((oth12 ns).map V.str)) := by
      rw [abc_size] at h3
      exact h3
    have hS3 := ex_l (e2.trans e3) hS1
    have he := el_lcL (K := K) (σ := ((((L2.start ["_law_script", "_law_home", "_law_others", "_law_k", "_law_sign", "_law_currency_here", "_law_book", "_law_told", "_law_row", "_law_day_here", "_law_days", "_law_some"] [.ref l]).set 1 (some (.str home))).set 2 (some (.ref o1))).set 2 (some (.ref o2)))) (H := H3) (j := 5) (vs := [5]) (xs := (oth12 ns).map V.str) (tl := tVar 2) (a := o2)
        (te := tVar 5) (t := tTest (tOp rNe (tVar 5) (tVar 1))) (fun i => decide ((oth12 ns).getD i home ≠ home)) (fun i => .str ((oth12 ns).getD i home)) (ev_var (by rfl)) (sq_of h3') (by rw [List.length_map]; show 2 + 10 ≤ 40000; decide) (fun x => rfl)
        (fun i x H5 e5 hx => by
          rw [List.getElem?_map] at hx
          cases hc : (oth12 ns)[i]? with
          | none => rw [hc] at hx; cases hx
          | some c =>
            rw [hc] at hx
            cases hx
            rw [getD_of hc]
            exact et_is (et_test (ev_op (ev_var (by rfl)) (ev_var (by rfl)) (rv_ne rfl))) (by by_cases h : c = home <;> simp [h]))
        (fun i x H5 e5 hx _ => by
          rw [List.getElem?_map] at hx
          cases hc : (oth12 ns)[i]? with
          | none => rw [hc] at hx; cases hx
          | some c =>
            rw [hc] at hx
            cases hx
            rw [getD_of hc]
            exact ev_var (by rfl))
    rw [List.length_map, given_filter home (oth12 ns) (fun c => decide (c ≠ home)) V.str] at he
    refine s_asgL he fun o H4 n4 e4 h4 => ?_
    have h4 : H4 o = some (.lst ((othF ns home).map V.str)) := h4
    have hl := othF_len ns home
    have hcs : ∀ c ∈ othF ns home, curOk c = true ∧ c ≠ home := fun c => othF_ok
    generalize othF ns home = cs at h4 hl hcs
    have hS4 := ex_l e4 hS3
    refine ⟨_, rfl, fun p dx hp hdx hne => ⟨p, dx, home, rfl, cur_len hhok, hT.ex ((((((e1.trans e2).trans e3).trans e4)).trans (Ex.new2 hp hdx hne))), LamsIn.ex hLam ((((((e1.trans e2).trans e3).trans e4)).trans (Ex.new2 hp hdx hne))), upd_same, by rw [upd_ne hne]; exact upd_same, Ne.symm hne, fun i hi => ?_, fun _ H5 F5 hB keep fresh => ⟨rfl, ?_⟩⟩⟩
    · unfold homeErr at hi
      rw [if_pos hhok] at hi
      cases hi
    have e5 : Ex H4 H5 := fun x u hx => by
      have h1 : x ≠ p := fun z => by rw [z, hp] at hx; cases hx
      have h2 : x ≠ dx := fun z => by rw [z, hdx] at hx; cases hx
      exact keep x u (by rw [upd_ne h1, upd_ne h2]; exact hx) h1 h2
    have out5 : ∀ x u, H4 x = some u → (∀ ps, u ≠ .tbl ps) → x ∉ F5 := fun x u hx nt z => by
      have h1 : x ≠ p := fun z => by rw [z, hp] at hx; cases hx
      have h2 : x ≠ dx := fun z => by rw [z, hdx] at hx; cases hx
      rcases fresh x z with z | z | z | ⟨ps, z⟩
      · exact h1 z
      · exact h2 z
      · rw [upd_ne h1, upd_ne h2, hx] at z
        cases z
      · rw [upd_ne h1, upd_ne h2, hx] at z
        exact nt ps (Option.some.inj z)
    refine s_asgL (el_lst ea_nil lz) fun a H6 n6 e6 h6 => ?_
    have w : W3 K A p l a o ns cs home H6 F5 (BkS.start home) [] := by
      refine ⟨hB.ex e6, rfl, h6, fun z => ?_, .nil, ?_, ?_, rfl, rfl, fun _ h => absurd h (by simp [BkS.start])⟩
      · obtain ⟨u, hu⟩ := hB.live a z
        rw [n6] at hu
        cases hu
      · exact ((heldL (K := K) (sq_of (e5 _ _ h4)) (fun u hu => out5 o _ h4 fun ps z => by cases z)).consN n6).ex e6
      · have hk : Held H4 F5 (fun H' => SqL K H' l (ns.map V.int)) l := heldL2 (K := K) hS4 (fun u hu nt => out5 l _ hu nt)
        exact ((hk.ex e5).consN n6).ex e6
    have hlen6 : SqL K H6 l (ns.map V.int) := w.scr.now
    have hml : (ns.map V.int).length = ns.length := List.length_map _
    have hm2 : -2 ≤ (if (62 : Int) < ((ns.map V.int).length : Int) then 62 else ((ns.map V.int).length : Int)) - 2 ∧ (if (62 : Int) < ((ns.map V.int).length : Int) then 62 else ((ns.map V.int).length : Int)) - 2 ≤ 60 ∧
      (if (62 : Int) < ((ns.map V.int).length : Int) then 62 else ((ns.map V.int).length : Int)) - 2 + 2 ≤ ns.length := by rw [hml]; split <;> omega
    obtain ⟨n, hn, hlt⟩ := rg_up (a := 4) (b := (if (62 : Int) < ((ns.map V.int).length : Int) then 62 else ((ns.map V.int).length : Int)) - 2) (c := 3) (by decide) (by decide) (by omega)
    refine ⟨_, rfl, l, ns.map V.int, rfl, .inl hlen6, _, _, rfl, _, _, rfl, rfl, 4, _, 3, n, rfl, hn, for_rangeC (fun i σ H' => ∃ F S rs y3 y8, W3 K A p l a o ns cs home H' F S rs ∧ rs.length = i ∧ σ = [some (.ref l), some (.str home), some (.ref o), y3, none, none, some (.ref p), some (.ref a), y8, none, none, none])
      ⟨F5, _, _, none, none, w, rfl, rfl⟩ ?_ ?_⟩
    · rintro i σ H7 hi ⟨F, S, rs, y3, y8, w, hrs, rfl⟩
      have hk := hlt i hi
      have s3 : SqL K H7 l (ns.map V.int) := w.scr.now
      obtain ⟨z, hz⟩ := at_ints (ns := ns) (k := 4 + (i : Int) * 3) (by omega) (by omega)
      obtain ⟨z1, hz1⟩ := at_ints (ns := ns) (k := 4 + (i : Int) * 3 + 1) (by omega) (by omega)
      obtain ⟨z2, hz2⟩ := at_ints (ns := ns) (k := 4 + (i : Int) * 3 + 2) (by omega) (by omega)
      have h8 := idx8 z
      obtain ⟨c, hc, hcm⟩ := at_strs (cs := cs) (k := z % 3 * (1 + z / 3 % 4)) h8.1 (by omega)
      obtain ⟨hc1, hc2⟩ := hcs c hcm
      obtain ⟨c0, hc0, hc0m⟩ := at_strs (cs := cs) (k := 0) (by decide) (by omega)
      obtain ⟨hc01, hc02⟩ := hcs c0 hc0m
      refine ⟨_, rfl, _, rfl, _, rfl, _, _, _, _, rfl, rfl, s3, hz, _, _, rfl, rfl, by show (0 : Int) < 3; decide, _, rfl, _, rfl, _, _, _, _, rfl, rfl, s3, hz, _, _, rfl, rfl, wide_div (by decide) (b := 2) (by decide) (by decide) (by decide), _, _, rfl, rfl, by show (0 : Int) < 4; decide,
        _, _, rfl, rfl, _, _, rfl, rfl, .inl (small3 z), _, _, _, _, rfl, rfl, w.oth.now, hc, ?_⟩
      refine ⟨_, rfl, _, rfl, _, _, _, _, rfl, rfl, s3, hz, _, _, rfl, rfl, wide_div (by decide) (b := 2) (by decide) (by decide) (by decide), _, rfl, fun d hd => ⟨sz_of (by show (2 : Nat) ≤ 100000; decide), fun r1 m1 => ?_⟩⟩
      have g1 : SqT K (upd H7 r1 (.tup [.str c, .int d])) r1 [.str c, .int d] := st_of upd_same
      have x1 : Ex H7 (upd H7 r1 (.tup [.str c, .int d])) := Ex.new m1
      generalize hE : upd H7 r1 (.tup [.str c, .int d]) = H8 at g1 x1
      have s8 := ex_l x1 s3
      refine ⟨_, rfl, _, rfl, _, rfl, _, _, rfl, rfl, _, _, _, _, rfl, rfl, s8, hz1, _, rfl, fun t ht => ?_⟩
      refine ⟨_, rfl, _, rfl, _, _, rfl, rfl, _, _, _, _, rfl, rfl, s8, hz2, _, rfl, fun b hb => ⟨sz_of (by show (2 : Nat) ≤ 100000; decide), fun r2 m2 => ?_⟩⟩
      have g2 : SqT K (upd H8 r2 (.tup [.int t, .int b])) r2 [.int t, .int b] := st_of upd_same
      have x2 : Ex H8 (upd H8 r2 (.tup [.int t, .int b])) := Ex.new m2
      refine ⟨_, _, _, _, rfl, rfl, ex_t x2 g1, g2, by simp, sz_of (by show (4 : Nat) ≤ 100000; decide), fun z => by simp at z, fun _ r m3 => ?_⟩
      have mr : H7 r = none := fresh_back (x1.trans x2) m3
      have x3 : Ex H7 (upd (upd H8 r2 (.tup [.int t, .int b])) r (.tup (rowV (c, d, t, b)))) := (x1.trans x2).trans (Ex.new m3)
      have hrow : upd (upd H8 r2 (.tup [.int t, .int b])) r (.tup (rowV (c, d, t, b))) r = some (.tup (rowV (c, d, t, b))) := upd_same
      show tSeq _ _ _ _ (upd (upd H8 r2 (.tup [.int t, .int b])) r (.tup (rowV (c, d, t, b))))
      generalize upd (upd H8 r2 (.tup [.int t, .int b])) r (.tup (rowV (c, d, t, b))) = H9 at x3 hrow
      have w9 := w.ex x3
      have hheld := w.newT mr x3 hrow
      obtain ⟨dx9, fs9, hp9, nnhp9, n93⟩ := w9.bk.ins
      have n91 := nnhp9 (Str.ofString "rate") (by decide)
      have n92 := nnhp9 (Str.ofString "tell_rate") (by decide)
      have st := st_of (K := K) hrow
      have hlr : S.told.length = i := by rw [← hrs]; exact (Paired.length w.rows).symm
      refine ⟨_, rfl, p, dx9, fs9, rfl, hp9, n92, _, rfl, _, _, _, _, rfl, rfl, st, atI_nat (j := 0) rfl, _, rfl, _, _, _, _, rfl, rfl, st, atI_nat (j := 1) rfl, _, rfl, _, _, _, _, rfl, rfl, st, atI_nat (j := 2) rfl, _, rfl, _, _, _, _, rfl, rfl, st, atI_nat (j := 3) rfl,
        p, F, S, c, d, t, b, rfl, w9.bk, cur_len hc1, by omega, by have := w9.few; omega, fun k hk => ?_, fun _ H10 F10 hB10 g10 => ?_⟩
      · rw [tell_ok hc1 hd ht hb (fun z => hc2 (z.trans w.home)) w.ends] at hk
        cases hk
      refine ⟨rfl, _, rfl, iteF ?_⟩
      obtain ⟨t10, o10⟩ := w9.tl g10
      refine s_app t10 (ev_var (by rfl)) (v := .ref r) (ev_var (by rfl)) (by rw [List.length_map]; omega) fun H11 e11 => ?_
      have hh11 := hheld.grow (g10.trans (.of_ex e11)).cons
      have w11 := w9.step (hB10.ex e11) (g10.trans (.of_ex e11)) hh11 hd
      refine s_when (b := (!true || !true)) (et_or (et_not (et_B (ev_c1 (ea_cons (ev_var (by rfl)) (ea_cons (ev_var (by rfl)) (ea_cons (ev_op (x := .ref o) (y := .int 0) (ev_var (by rfl)) ev_c (rv_ixL w11.oth.now hc0)) (ea_cons ev_c ea_nil)))) (w11.asked (by first | assumption | omega | (simp only [List.length_append, List.length_singleton]; omega)) (d := 5) hc01 (by decide) hc02))))
        (fun _ => et_not (et_B (ev_c1 (ea_cons (ev_var (by rfl)) (ea_cons (ev_var (by rfl)) (ea_cons (ev_op (x := .ref r) (y := .int 0) (ev_var (by rfl)) ev_c (rv_ixT (hh11.grow (.upd List.mem_cons_self)).now (atI_nat (j := 0) rfl))) (ea_cons (ev_op (x := .ref r) (y := .int 1) (ev_var (by rfl)) ev_c (rv_ixT (hh11.grow (.upd List.mem_cons_self)).now (atI_nat (j := 1) rfl))) ea_nil)))) (w11.asked (by first | assumption | omega | (simp only [List.length_append, List.length_singleton]; omega)) hc1 hd hc2)))))
        (fun z => nomatch z) fun _ H12 e12 => ?_
      exact ⟨F10, _, _, _, _, w11.ex e12, by rw [List.length_append, hrs]; rfl, rfl⟩
    · rintro σ H7 ⟨F, S, rs, y3, y8, w, hrs, rfl⟩
      have s7 : SqL K H7 l (ns.map V.int) := w.scr.now
      have hlr : S.told.length = n := by rw [← hrs]; exact (Paired.length w.rows).symm
      have hn20 : n ≤ 20 := by
        rcases Nat.lt_or_ge 20 n with h | h
        · have := hlt 20 h
          omega
        · exact h
      obtain ⟨c1, hc1, hc1m⟩ := at_strs (cs := cs) (k := 1) (by decide) (by omega)
      obtain ⟨hc11, hc12⟩ := hcs c1 hc1m
      refine ⟨_, rfl, l, ns, 3, rfl, s7, _, rfl, fun d0 hd0 => ?_⟩
      have hd0' := dayOk_iff.mp hd0
      have hcut : ∀ (i : Nat) (x : V) H1, Ex H7 H1 → (cutV (rs.map V.ref) none (some 3))[i]? = some x → ∃ (r : Addr) (row : RateRow), x = .ref r ∧ S.told[HT.sIx (rs.map V.ref).length 0 none + i]? = some row ∧ SqT K H1 r (rowV row) := by
        intro i x H1 e1 hx
        obtain ⟨r, hr1, rfl⟩ := refs_get (cut_get hx)
        obtain ⟨row, h1, h2⟩ := pr_get w.rin hr1
        exact ⟨r, row, rfl, h1, ex_t e1 h2⟩
      refine s_asgL (xs := [.int d0, .int (if d0 - 1 > 0 then d0 - 1 else 0), .int 0, .int 99999] ++ given (cutV (rs.map V.ref) none (some 3)).length (fun _ => true) (fun i => .int (S.told.getD (HT.sIx (rs.map V.ref).length 0 none + i) (home, 0, 0, 0)).2.1))
        (el_catLL (el_lst (ea_cons (ev_var (by rfl)) (ea_cons (ev_max2 ev_c (ev_op (x := .int d0) (y := .int 1) (ev_var (by rfl)) ev_c rv_I0)) (ea_cons ev_c (ea_cons ev_c ea_nil)))) lz)
          (el_lcNL (fun _ => true) (fun i => .int (S.told.getD (HT.sIx (rs.map V.ref).length 0 none + i) (home, 0, 0, 0)).2.1) (el_sl (ev_var (by rfl)) eo_none (eo_some ev_c) (sq_of w.told)) ?_ (fun x => rfl) (fun i x H2 _ _ => fun H3 _ Q3 q3 => q3 H3 (Ex.refl _)) (fun i x H2 e2 hx _ => ?_)) ?_) fun dl H8 n8 e8 h8 => ?_
      · have := cutV_length (rs.map V.ref) none (some 3)
        rw [List.length_map] at this
        omega
      · obtain ⟨r, row, rfl, h1, h2⟩ := hcut i x H2 e2 hx
        rw [getD_of h1]
        exact ev_op (x := .ref r) (y := .int 1) (ev_var (by rfl)) ev_c (rv_ixT h2 (atI_nat (j := 1) rfl))
      · have h1 := cutV_length (rs.map V.ref) none (some 3)
        have h2 := given_len (cutV (rs.map V.ref) none (some 3)).length (fun _ => true) (fun i => .int (S.told.getD (HT.sIx (rs.map V.ref).length 0 none + i) (home, 0, 0, 0)).2.1)
        rw [List.length_map] at h1
        show 4 + _ ≤ 100000
        omega
      have hds : ∀ x ∈ [V.int d0, .int (if d0 - 1 > 0 then d0 - 1 else 0), .int 0, .int 99999] ++ given (cutV (rs.map V.ref) none (some 3)).length (fun _ => true) (fun i => .int (S.told.getD (HT.sIx (rs.map V.ref).length 0 none + i) (home, 0, 0, 0)).2.1), ∃ d, x = .int d ∧ dayOk d = true := by
        intro x hx
        rcases List.mem_append.mp hx with hx | hx
        · simp only [List.mem_cons, List.not_mem_nil, or_false] at hx
          rcases hx with rfl | rfl | rfl | rfl
          · exact ⟨_, rfl, hd0⟩
          · exact ⟨_, rfl, dayOk_iff.mpr (by split <;> omega)⟩
          · exact ⟨_, rfl, by decide⟩
          · exact ⟨_, rfl, by decide⟩
        · obtain ⟨i, h1, _, rfl⟩ := given_mem hx
          obtain ⟨r, row, _, h2, _⟩ := hcut i _ H7 (Ex.refl _) (List.getElem?_eq_getElem h1)
          rw [getD_of h2]
          exact ⟨_, rfl, w.good row (List.mem_of_getElem? h2)⟩
      generalize [V.int d0, .int (if d0 - 1 > 0 then d0 - 1 else 0), .int 0, .int 99999] ++ given (cutV (rs.map V.ref) none (some 3)).length (fun _ => true) (fun i => .int (S.told.getD (HT.sIx (rs.map V.ref).length 0 none + i) (home, 0, 0, 0)).2.1) = ds at h8 hds
      have w8 := w.ex e8
      refine s_forNL (xs := cutV (cs.map V.str) none (some 9)) (el_sl (ev_var (by rfl)) eo_none (eo_some ev_c) w8.oth.now) (fun q i σ H' => H' q = some (.lst (cutV (cs.map V.str) none (some 9))) ∧ H' dl = some (.lst ds) ∧ W3 K A p l a o ns cs home H' F S rs ∧
          ∃ y5 y11, σ = [some (.ref l), some (.str home), some (.ref o), y3, none, y5, some (.ref p), some (.ref a), y8, some (.int d0), some (.ref dl), y11])
        (fun q H9 _ e9 h9 => ⟨h9, e9 _ _ h8, w8.ex e9, _, _, rfl⟩) (fun q i σ' H' _ hp => sq_of hp.1) ?_ ?_
      · rintro q i x σ H9 hx ⟨hq, hdl, w9, y5, y11, rfl⟩
        obtain ⟨c, hcm, rfl⟩ := List.mem_map.mp (cut_mem (List.mem_of_getElem? hx))
        obtain ⟨hc1, hc2⟩ := hcs c hcm
        refine s_forL (a := dl) (xs := ds) (ev_var (by rfl)) (sq_of hdl) (fun j σ H' => H' q = some (.lst (cutV (cs.map V.str) none (some 9))) ∧ H' dl = some (.lst ds) ∧ W3 K A p l a o ns cs home H' F S rs ∧
          ∃ y11, σ = [some (.ref l), some (.str home), some (.ref o), y3, none, some (.str c), some (.ref p), some (.ref a), y8, some (.int d0), some (.ref dl), y11])
          (fun H10 e10 => ⟨e10 _ _ hq, e10 _ _ hdl, w9.ex e10, _, rfl⟩) (fun j σ' H' _ hp => sq_of hp.2.1) ?_ ?_
        · rintro j x σ H10 hx ⟨hq10, hdl10, w10, y11, rfl⟩
          obtain ⟨d, rfl, hd⟩ := hds x (List.mem_of_getElem? hx)
          refine s_when (b := !true) (et_not (et_B (ev_c1 (ea_cons (ev_var (by rfl)) (ea_cons (ev_var (by rfl)) (ea_cons (ev_var (by rfl)) (ea_cons (ev_var (by rfl)) ea_nil)))) (w10.asked (by first | assumption | omega | (simp only [List.length_append, List.length_singleton]; omega)) hc1 hd hc2)))) (fun z => nomatch z) fun _ H11 e11 => ?_
          exact ⟨e11 _ _ hq10, e11 _ _ hdl10, w10.ex e11, _, rfl⟩
        · rintro σ H10 ⟨hq10, hdl10, w10, y11, rfl⟩
          exact ⟨hq10, hdl10, w10, _, _, rfl⟩
      rintro _ σ H9 ⟨_, _, w9, y5, y11, rfl⟩
      have s9 : SqL K H9 l (ns.map V.int) := w9.scr.now
      refine s_when (b := !true) (et_not (et_B (ev_c1 (ea_cons (ev_var (by rfl)) (ea_cons (ev_var (by rfl)) (ea_cons (ev_op (x := .ref o) (y := .int 1) (ev_var (by rfl)) ev_c (rv_ixL w9.oth.now hc1))
        (ea_cons (ev_op (x := .int (cellOf ns 3)) (y := .int 2) (ev_c1 (ea_cons (ev_var (by rfl)) (ea_cons ev_c ea_nil)) (sp_cell 3 s9)) ev_c (rv_I (C := CDivW) (g := fun i j => .int (i / j)) (i := cellOf ns 3) (j := 2) (wide_div (by decide) (b := 2) (by decide) (by decide) (by decide)))) ea_nil)))) (z := .bl true) ?_)))
        (fun z => nomatch z) fun _ H10 e10 => ?_
      · intro H1 e1 Q1 q1 E1
        exact ⟨p, F, S, c1, _, by rw [w.home], (w9.ex e1).bk, w.fewS (by omega), by rw [w.home]; exact hhok, hc11, fun z => hc12 (z.trans w.home), w.ends, q1⟩
      have w10 := w9.ex e10
      refine s_forNL (xs := cutV (cs.map V.str) none (some 2)) (el_sl (ev_var (by rfl)) eo_none (eo_some ev_c) w10.oth.now) (fun q i σ H' => H' q = some (.lst (cutV (cs.map V.str) none (some 2))) ∧ W3 K A p l a o ns cs home H' F S rs ∧
          ∃ y5, σ = [some (.ref l), some (.str home), some (.ref o), y3, none, y5, some (.ref p), some (.ref a), y8, some (.int d0), some (.ref dl), y11])
        (fun q H9 _ e9 h9 => ⟨h9, w10.ex e9, _, rfl⟩) (fun q i σ' H' _ hp => sq_of hp.1) ?_ ?_
      · rintro q i x σ H11 hx ⟨hq, w11, y5, rfl⟩
        obtain ⟨c, hcm, rfl⟩ := List.mem_map.mp (cut_mem (List.mem_of_getElem? hx))
        obtain ⟨hc1', hc2'⟩ := hcs c hcm
        refine s_when (b := !true) (et_not (et_B (ev_c1 (ea_cons (ev_var (by rfl)) (ea_cons (ev_var (by rfl)) (ea_cons (ev_var (by rfl)) (ea_cons (ev_var (by rfl)) ea_nil)))) (w11.asked (by first | assumption | omega | (simp only [List.length_append, List.length_singleton]; omega)) hc1' hd0 hc2')))) (fun z => nomatch z) fun _ H12 e12 => ?_
        exact ⟨e12 _ _ hq, w11.ex e12, _, rfl⟩
      rintro _ σ H11 ⟨_, w11, y5, rfl⟩
      obtain ⟨dx11, fs11, hp11, nnhp11, n113⟩ := w11.bk.ins
      have n111 := nnhp11 (Str.ofString "rate") (by decide)
      have n112 := nnhp11 (Str.ofString "tell_rate") (by decide)
      refine ⟨_, rfl, p, dx11, fs11, rfl, hp11, n112, _, rfl, _, _, _, _, rfl, rfl, w11.oth.now, hc1, p, F, S, c1, 5, 3, 4, rfl, w11.bk, cur_len hc11, by omega, by have := w11.few; omega, fun k hk => ?_, fun _ H12 F12 hB12 g12 => ?_⟩
      · rw [tell_ok hc11 (by decide) (by decide) (by decide) (fun z => hc12 (z.trans w.home)) w.ends] at hk
        cases hk
      obtain ⟨t12, o12⟩ := w11.tl g12
      refine s_appU t12 (ev_var (by rfl)) (eu_tup (ea_cons (ev_op (x := .ref o) (y := .int 1) (ev_var (by rfl)) ev_c (rv_ixL (w11.oth.grow g12.cons).now hc1)) (ea_cons ev_c (ea_cons ev_c (ea_cons ev_c ea_nil)))) lz) (by rw [List.length_map]; omega) fun r H13 m13 e13 h13 => ?_
      have hh13 : Held H13 (a :: F12) (fun H' => SqT K H' r (rowV (c1, 5, 3, 4))) r := by
        refine held_o h13 (fun z => ?_) fun H2 h2 => st_of h2
        rcases List.mem_cons.mp z with rfl | z
        · rw [t12] at m13; cases m13
        · obtain ⟨u, hu⟩ := hB12.live r z
          rw [hu] at m13; cases m13
      have w13 := w11.step (hB12.ex e13) (g12.trans (.of_ex e13)) hh13 (by show dayOk 5 = true; decide)
      have hr2 : (rs ++ [r]).length ≤ 1000 := by rw [List.length_append]; show rs.length + 1 ≤ 1000; omega
      generalize S.tell (c1, 5, 3, 4) = S2 at w13
      generalize rs ++ [r] = rs2 at w13 hr2
      generalize upd H13 a (.lst (rs.map V.ref ++ [.ref r])) = H14 at w13
      refine s_forNL (xs := [.int 5, .int 0, .int 99999]) (el_lst (ea_cons ev_c (ea_cons ev_c (ea_cons ev_c ea_nil))) lz) (fun q i σ H' => H' q = some (.lst [.int 5, .int 0, .int 99999]) ∧ W3 K A p l a o ns cs home H' F12 S2 rs2 ∧
          ∃ y11, σ = [some (.ref l), some (.str home), some (.ref o), y3, none, y5, some (.ref p), some (.ref a), y8, some (.int d0), some (.ref dl), y11])
        (fun q H9 _ e9 h9 => ⟨h9, w13.ex e9, _, rfl⟩) (fun q i σ' H' _ hp => sq_of hp.1) ?_ ?_
      · rintro q i x σ H15 hx ⟨hq, w15, y11, rfl⟩
        have hd : ∃ d, x = .int d ∧ dayOk d = true := by
          have := List.mem_of_getElem? hx
          simp only [List.mem_cons, List.not_mem_nil, or_false] at this
          rcases this with rfl | rfl | rfl <;> exact ⟨_, rfl, by decide⟩
        obtain ⟨d, rfl, hd⟩ := hd
        refine s_when (b := !true) (et_not (et_B (ev_c1 (ea_cons (ev_var (by rfl)) (ea_cons (ev_var (by rfl)) (ea_cons (ev_op (x := .ref o) (y := .int 1) (ev_var (by rfl)) ev_c (rv_ixL w15.oth.now hc1)) (ea_cons (ev_var (by rfl)) ea_nil)))) (w15.asked (by first | assumption | omega | (simp only [List.length_append, List.length_singleton]; omega)) hc11 hd hc12)))) (fun z => nomatch z) fun _ H16 e16 => ?_
        exact ⟨e16 _ _ hq, w15.ex e16, _, rfl⟩
      rintro _ σ H15 ⟨_, w15, y11, rfl⟩
      obtain ⟨dx15, fs15, hp15, nnhp15, n153⟩ := w15.bk.ins
      have n151 := nnhp15 (Str.ofString "rate") (by decide)
      have n152 := nnhp15 (Str.ofString "tell_rate") (by decide)
      refine ⟨_, rfl, p, _, dx15, fs15, .str S2.home, rfl, hp15, B.c_Book, B.n_Book_home, n153, _, rfl, rfl, _, rfl, ?_⟩
      rw [w15.home, decide_eq_true rfl]
      refine ⟨_, rfl, p, dx15, fs15, rfl, hp15, n151, _, rfl, _, rfl, p, F12, S2, home, d0, rfl, w15.bk, cur_len hhok, (w15.fewS hr2).1, fun i hi => ?_, fun _ t b ht H16 r16 e16 h16 => ?_⟩
      · unfold rateErr at hi
        have hr15 : S2.rate home d0 = some (1, 1) := by unfold BkS.rate; rw [if_pos w15.home.symm]
        rw [if_neg (by rw [hhok]; decide), if_neg (by rw [hd0]; decide), hr15, if_neg (by decide)] at hi
        cases hi
      · have hr15 : S2.rate home d0 = some (1, 1) := by unfold BkS.rate; rw [if_pos w15.home.symm]
        rw [hr15] at ht
        have ht2 := Option.some.inj ht
        obtain rfl : 1 = t := congrArg Prod.fst ht2
        obtain rfl : 1 = b := congrArg Prod.snd ht2
        refine ⟨sz_of (by show (2 : Nat) ≤ 100000; decide), fun p3 n3 => ?_⟩
        refine ⟨.tuple [.int 1, .int 1], .tuple [.int 1, .int 1], .tup (ex_t (Ex.new n3) h16) (.cons (.int _) (.cons (.int _) .nil)), .tup (st_of upd_same) (.cons (.int _) (.cons (.int _) .nil)), rfl, rfl, ?_⟩
        exact q_bl (Q := Q) (SeqAt.eqv_refl _ rfl) (q _ (w15.bk.tabs.ex (e16.trans (Ex.new n3))))

end
theorem all_mk {l : PySem.W.OpenLaw} {w : World} {K : PySem.W.Frag} {h : Heap} {mg : Str → Option Value} {fa : Addr} (X : K.In h) (G : h.Ns mainGlobals mg) (hfa : mg "law" = some (.ref fa))
    {xL x0 x1 x2 x3 x4 x5 x6 x7 x8 x9 x10 x11 x12 x13 x14 x15 y0 : Addr}
    (g_LedgerError : PySem.W.nsIn K mainGlobals "LedgerError" = some (some (.ref xL)))
    (g_BadName : PySem.W.nsIn K mainGlobals "BadName" = some (some (.ref x0)))
    (g_BadCurrency : PySem.W.nsIn K mainGlobals "BadCurrency" = some (some (.ref x1)))
    (g_BadAmount : PySem.W.nsIn K mainGlobals "BadAmount" = some (some (.ref x2)))
    (g_BadDay : PySem.W.nsIn K mainGlobals "BadDay" = some (some (.ref x3)))
    (g_BadNote : PySem.W.nsIn K mainGlobals "BadNote" = some (some (.ref x4)))
    (g_BadRate : PySem.W.nsIn K mainGlobals "BadRate" = some (some (.ref x5)))
    (g_Unbalanced : PySem.W.nsIn K mainGlobals "Unbalanced" = some (some (.ref x6)))
    (g_Closed : PySem.W.nsIn K mainGlobals "Closed" = some (some (.ref x7)))
    (g_Taken : PySem.W.nsIn K mainGlobals "Taken" = some (some (.ref x8)))
    (g_TakenBack : PySem.W.nsIn K mainGlobals "TakenBack" = some (some (.ref x9)))
    (g_NoAccount : PySem.W.nsIn K mainGlobals "NoAccount" = some (some (.ref x10)))
    (g_NoEntry : PySem.W.nsIn K mainGlobals "NoEntry" = some (some (.ref x11)))
    (g_NoRate : PySem.W.nsIn K mainGlobals "NoRate" = some (some (.ref x12)))
    (g_NoPeriod : PySem.W.nsIn K mainGlobals "NoPeriod" = some (some (.ref x13)))
    (g_TooSmall : PySem.W.nsIn K mainGlobals "TooSmall" = some (some (.ref x14)))
    (g_BadText : PySem.W.nsIn K mainGlobals "BadText" = some (some (.ref x15)))
    (x_all : excAll K xL [x0, x1, x2, x3, x4, x5, x6, x7, x8, x9, x10, x11, x12, x13, x14, x15] = true)
    (g_Book : PySem.W.nsIn K mainGlobals "Book" = some (some (.ref y0)))
    (q_Book : clsAll K y0 = true)
    (n_Book_home : PySem.W.findIn K (.ref y0) "home" = some none)
    (n_Book__accounts : PySem.W.findIn K (.ref y0) "_accounts" = some none)
    (n_Book__rates : PySem.W.findIn K (.ref y0) "_rates" = some none)
    (n_Book__entries : PySem.W.findIn K (.ref y0) "_entries" = some none)
    (n_Book__taken_back : PySem.W.findIn K (.ref y0) "_taken_back" = some none)
    (n_Book__ends : PySem.W.findIn K (.ref y0) "_ends" = some none)
    (n_Book__deeds : PySem.W.findIn K (.ref y0) "_deeds" = some none)
    {f0 : Addr} {od0 an0 : Option Addr} {sl0 : Array (Option Value)} {oc0 kV0 dc0 pm0 ct0 : Value} {cd0 : Addr}
    (a0 : PySem.W.nsIn K mainGlobals "check_currency" = some (some (.ref f0)))
    (l0 : K.lookup f0 = some ⟨oc0, od0, .func (PySem.W.fnOf "check_currency" "check_currency" (defArgs s_check_currency) (defBody s_check_currency) (defScope s_check_currency) .none kV0 dc0 pm0 an0 (.ref cd0) ct0), sl0⟩)
    (c0 : PySem.W.codeIn K (.ref cd0) "check_currency" = true)
    (k0 : PySem.W.keepIn K (.ref f0) = true)
    (h0 : PySem.W.codeHdIn K cd0 228 = true)
    (n0 : K.lookup 228 = none)
    (e0 : h.get? 228 = some { cls := .none, data := .fields #[] })
    {f1 : Addr} {od1 an1 : Option Addr} {sl1 : Array (Option Value)} {oc1 kV1 dc1 pm1 ct1 : Value} {cd1 : Value}
    (a1 : PySem.W.nsIn K mainGlobals "check_day" = some (some (.ref f1)))
    (l1 : K.lookup f1 = some ⟨oc1, od1, .func (PySem.W.fnOf "check_day" "check_day" (defArgs s_check_day) (defBody s_check_day) (defScope s_check_day) .none kV1 dc1 pm1 an1 cd1 ct1), sl1⟩)
    (c1 : PySem.W.codeIn K cd1 "check_day" = true)
    (k1 : PySem.W.keepIn K (.ref f1) = true)
    {f2 : Addr} {od2 an2 : Option Addr} {sl2 : Array (Option Value)} {oc2 kV2 dc2 pm2 ct2 : Value} {cd2 : Value}
    (a2 : PySem.W.nsIn K mainGlobals "check_rate" = some (some (.ref f2)))
    (l2 : K.lookup f2 = some ⟨oc2, od2, .func (PySem.W.fnOf "check_rate" "check_rate" (defArgs s_check_rate) (defBody s_check_rate) (defScope s_check_rate) .none kV2 dc2 pm2 an2 cd2 ct2), sl2⟩)
    (c2 : PySem.W.codeIn K cd2 "check_rate" = true)
    (k2 : PySem.W.keepIn K (.ref f2) = true)
    {f3 : Addr} {od3 an3 : Option Addr} {sl3 : Array (Option Value)} {oc3 kV3 dc3 pm3 ct3 : Value} {cd3 : Value}
    (a3 : PySem.W.findIn K (.ref y0) "closed" = some (some (.ref f3)))
    (i3 : PySem.W.isFn K (.ref f3) = true)
    (l3 : K.lookup f3 = some ⟨oc3, od3, .func (PySem.W.fnOf "closed" "Book.closed" (defArgs s_Book_closed) (defBody s_Book_closed) (defScope s_Book_closed) .none kV3 dc3 pm3 an3 cd3 ct3), sl3⟩)
    (c3 : PySem.W.codeIn K cd3 "Book.closed" = true)
    (k3 : PySem.W.keepIn K (.ref f3) = true)
    {f4 : Addr} {od4 an4 : Option Addr} {sl4 : Array (Option Value)} {oc4 kV4 dc4 pm4 ct4 : Value} {cd4 : Value}
    (a4 : PySem.W.findIn K (.ref y0) "_check_open" = some (some (.ref f4)))
    (i4 : PySem.W.isFn K (.ref f4) = true)
    (l4 : K.lookup f4 = some ⟨oc4, od4, .func (PySem.W.fnOf "_check_open" "Book._check_open" (defArgs s_Book__check_open) (defBody s_Book__check_open) (defScope s_Book__check_open) .none kV4 dc4 pm4 an4 cd4 ct4), sl4⟩)
    (c4 : PySem.W.codeIn K cd4 "Book._check_open" = true)
    (k4 : PySem.W.keepIn K (.ref f4) = true)
    {f5 : Addr} {od5 an5 : Option Addr} {sl5 : Array (Option Value)} {oc5 kV5 dc5 pm5 ct5 : Value} {cd5 : Value}
    (a5 : PySem.W.findIn K (.ref y0) "__init__" = some (some (.ref f5)))
    (i5 : PySem.W.isFn K (.ref f5) = true)
    (l5 : K.lookup f5 = some ⟨oc5, od5, .func (PySem.W.fnOf "__init__" "Book.__init__" (defArgs s_Book___init__) (defBody s_Book___init__) (defScope s_Book___init__) .none kV5 dc5 pm5 an5 cd5 ct5), sl5⟩)
    (c5 : PySem.W.codeIn K cd5 "Book.__init__" = true)
    (k5 : PySem.W.keepIn K (.ref f5) = true)
    {f6 : Addr} {od6 an6 : Option Addr} {sl6 : Array (Option Value)} {oc6 kV6 dc6 pm6 ct6 : Value} {cd6 : Value}
    (a6 : PySem.W.findIn K (.ref y0) "rate" = some (some (.ref f6)))
    (i6 : PySem.W.isFn K (.ref f6) = true)
    (l6 : K.lookup f6 = some ⟨oc6, od6, .func (PySem.W.fnOf "rate" "Book.rate" (defArgs s_Book_rate) (defBody s_Book_rate) (defScope s_Book_rate) .none kV6 dc6 pm6 an6 cd6 ct6), sl6⟩)
    (c6 : PySem.W.codeIn K cd6 "Book.rate" = true)
    (k6 : PySem.W.keepIn K (.ref f6) = true)
    {f7 : Addr} {od7 an7 : Option Addr} {sl7 : Array (Option Value)} {oc7 kV7 dc7 pm7 ct7 : Value} {cd7 : Value}
    (a7 : PySem.W.findIn K (.ref y0) "tell_rate" = some (some (.ref f7)))
    (i7 : PySem.W.isFn K (.ref f7) = true)
    (l7 : K.lookup f7 = some ⟨oc7, od7, .func (PySem.W.fnOf "tell_rate" "Book.tell_rate" (defArgs s_Book_tell_rate) (defBody s_Book_tell_rate) (defScope s_Book_tell_rate) .none kV7 dc7 pm7 an7 cd7 ct7), sl7⟩)
    (c7 : PySem.W.codeIn K cd7 "Book.tell_rate" = true)
    (k7 : PySem.W.keepIn K (.ref f7) = true)
    {f8 : Addr} {od8 an8 : Option Addr} {sl8 : Array (Option Value)} {oc8 kV8 dc8 pm8 ct8 : Value} {cd8 : Value}
    (a8 : PySem.W.nsIn K mainGlobals "_law_cell" = some (some (.ref f8)))
    (l8 : K.lookup f8 = some ⟨oc8, od8, .func (PySem.W.fnOf "_law_cell" "_law_cell" (defArgs s__law_cell) (defBody s__law_cell) (defScope s__law_cell) .none kV8 dc8 pm8 an8 cd8 ct8), sl8⟩)
    (c8 : PySem.W.codeIn K cd8 "_law_cell" = true)
    (k8 : PySem.W.keepIn K (.ref f8) = true)
    {f9 : Addr} {od9 an9 : Option Addr} {sl9 : Array (Option Value)} {oc9 kV9 dc9 pm9 ct9 : Value} {cd9 : Value}
    (a9 : PySem.W.nsIn K mainGlobals "_law_whole" = some (some (.ref f9)))
    (l9 : K.lookup f9 = some ⟨oc9, od9, .func (PySem.W.fnOf "_law_whole" "_law_whole" (defArgs s__law_whole) (defBody s__law_whole) (defScope s__law_whole) .none kV9 dc9 pm9 an9 cd9 ct9), sl9⟩)
    (c9 : PySem.W.codeIn K cd9 "_law_whole" = true)
    (k9 : PySem.W.keepIn K (.ref f9) = true)
    {f10 : Addr} {od10 an10 : Option Addr} {sl10 : Array (Option Value)} {oc10 kV10 dc10 pm10 ct10 : Value} {cd10 : Value}
    (a10 : PySem.W.nsIn K mainGlobals "_law_lone" = some (some (.ref f10)))
    (l10 : K.lookup f10 = some ⟨oc10, od10, .func (PySem.W.fnOf "_law_lone" "_law_lone" (defArgs s__law_lone) (defBody s__law_lone) (defScope s__law_lone) .none kV10 dc10 pm10 an10 cd10 ct10), sl10⟩)
    (c10 : PySem.W.codeIn K cd10 "_law_lone" = true)
    (k10 : PySem.W.keepIn K (.ref f10) = true)
    {f11 : Addr} {od11 an11 : Option Addr} {sl11 : Array (Option Value)} {oc11 kV11 dc11 pm11 ct11 : Value} {cd11 : Value}
    (a11 : PySem.W.nsIn K mainGlobals "_law_currency" = some (some (.ref f11)))
    (l11 : K.lookup f11 = some ⟨oc11, od11, .func (PySem.W.fnOf "_law_currency" "_law_currency" (defArgs s__law_currency) (defBody s__law_currency) (defScope s__law_currency) .none kV11 dc11 pm11 an11 cd11 ct11), sl11⟩)
    (c11 : PySem.W.codeIn K cd11 "_law_currency" = true)
    (k11 : PySem.W.keepIn K (.ref f11) = true)
    {f12 : Addr} {od12 an12 : Option Addr} {sl12 : Array (Option Value)} {oc12 kV12 dc12 pm12 ct12 : Value} {cd12 : Value}
    (a12 : PySem.W.nsIn K mainGlobals "_law_day" = some (some (.ref f12)))
    (l12 : K.lookup f12 = some ⟨oc12, od12, .func (PySem.W.fnOf "_law_day" "_law_day" (defArgs s__law_day) (defBody s__law_day) (defScope s__law_day) .none kV12 dc12 pm12 an12 cd12 ct12), sl12⟩)
    (c12 : PySem.W.codeIn K cd12 "_law_day" = true)
    (k12 : PySem.W.keepIn K (.ref f12) = true)
    {f13 : Addr} {od13 an13 : Option Addr} {sl13 : Array (Option Value)} {oc13 kV13 dc13 pm13 ct13 : Value} {cd13 : Value}
    (a13 : PySem.W.nsIn K mainGlobals "_law_part" = some (some (.ref f13)))
    (l13 : K.lookup f13 = some ⟨oc13, od13, .func (PySem.W.fnOf "_law_part" "_law_part" (defArgs s__law_part) (defBody s__law_part) (defScope s__law_part) .none kV13 dc13 pm13 an13 cd13 ct13), sl13⟩)
    (c13 : PySem.W.codeIn K cd13 "_law_part" = true)
    (k13 : PySem.W.keepIn K (.ref f13) = true)
    {f14 : Addr} {od14 an14 : Option Addr} {sl14 : Array (Option Value)} {oc14 kV14 dc14 pm14 ct14 : Value} {cd14 : Value}
    (a14 : PySem.W.nsIn K mainGlobals "_law_due" = some (some (.ref f14)))
    (l14 : K.lookup f14 = some ⟨oc14, od14, .func (PySem.W.fnOf "_law_due" "_law_due" (defArgs s__law_due) (defBody s__law_due) (defScope s__law_due) .none kV14 dc14 pm14 an14 cd14 ct14), sl14⟩)
    (c14 : PySem.W.codeIn K cd14 "_law_due" = true)
    (k14 : PySem.W.keepIn K (.ref f14) = true)
    {f15 : Addr} {od15 an15 : Option Addr} {sl15 : Array (Option Value)} {oc15 kV15 dc15 pm15 ct15 : Value} {cd15 : Value}
    (a15 : PySem.W.nsIn K mainGlobals "_law_refused" = some (some (.ref f15)))
    (l15 : K.lookup f15 = some ⟨oc15, od15, .func (PySem.W.fnOf "_law_refused" "_law_refused" (defArgs s__law_refused) (defBody s__law_refused) (defScope s__law_refused) .none kV15 dc15 pm15 an15 cd15 ct15), sl15⟩)
    (c15 : PySem.W.codeIn K cd15 "_law_refused" = true)
    (k15 : PySem.W.keepIn K (.ref f15) = true)
    {f16 : Addr} {od16 an16 : Option Addr} {sl16 : Array (Option Value)} {oc16 kV16 dc16 pm16 ct16 : Value} {cd16 : Value}
    (a16 : PySem.W.nsIn K mainGlobals "_law_asked" = some (some (.ref f16)))
    (l16 : K.lookup f16 = some ⟨oc16, od16, .func (PySem.W.fnOf "_law_asked" "_law_asked" (defArgs s__law_asked) (defBody s__law_asked) (defScope s__law_asked) .none kV16 dc16 pm16 an16 cd16 ct16), sl16⟩)
    (c16 : PySem.W.codeIn K cd16 "_law_asked" = true)
    (k16 : PySem.W.keepIn K (.ref f16) = true)
    {f17 : Addr} {od17 an17 : Option Addr} {sl17 : Array (Option Value)} {oc17 kV17 dc17 pm17 ct17 : Value} {cd17 : Value}
    (a17 : PySem.W.nsIn K mainGlobals "_law_tried_again" = some (some (.ref f17)))
    (l17 : K.lookup f17 = some ⟨oc17, od17, .func (PySem.W.fnOf "_law_tried_again" "_law_tried_again" (defArgs s__law_tried_again) (defBody s__law_tried_again) (defScope s__law_tried_again) .none kV17 dc17 pm17 an17 cd17 ct17), sl17⟩)
    (c17 : PySem.W.codeIn K cd17 "_law_tried_again" = true)
    (k17 : PySem.W.keepIn K (.ref f17) = true)
    {f18 : Addr} {od18 an18 : Option Addr} {sl18 : Array (Option Value)} {oc18 kV18 dc18 pm18 ct18 : Value} {cd18 : Value}
    (a18 : PySem.W.nsIn K mainGlobals "_law_tried" = some (some (.ref f18)))
    (l18 : K.lookup f18 = some ⟨oc18, od18, .func (PySem.W.fnOf "_law_tried" "_law_tried" (defArgs s__law_tried) (defBody s__law_tried) (defScope s__law_tried) .none kV18 dc18 pm18 an18 cd18 ct18), sl18⟩)
    (c18 : PySem.W.codeIn K cd18 "_law_tried" = true)
    (k18 : PySem.W.keepIn K (.ref f18) = true)
    {f19 : Addr} {od19 an19 : Option Addr} {sl19 : Array (Option Value)} {oc19 kV19 dc19 pm19 ct19 : Value} {cd19 : Value}
    (a19 : PySem.W.nsIn K mainGlobals "_law_based" = some (some (.ref f19)))
    (l19 : K.lookup f19 = some ⟨oc19, od19, .func (PySem.W.fnOf "_law_based" "_law_based" (defArgs s__law_based) (defBody s__law_based) (defScope s__law_based) .none kV19 dc19 pm19 an19 cd19 ct19), sl19⟩)
    (c19 : PySem.W.codeIn K cd19 "_law_based" = true)
    (k19 : PySem.W.keepIn K (.ref f19) = true)
    {f20 : Addr} {od20 an20 : Option Addr} {sl20 : Array (Option Value)} {oc20 kV20 dc20 pm20 ct20 : Value} {cd20 : Value}
    (a20 : PySem.W.nsIn K mainGlobals "_law_refusals" = some (some (.ref f20)))
    (l20 : K.lookup f20 = some ⟨oc20, od20, .func (PySem.W.fnOf "_law_refusals" "_law_refusals" (defArgs s__law_refusals) (defBody s__law_refusals) (defScope s__law_refusals) .none kV20 dc20 pm20 an20 cd20 ct20), sl20⟩)
    (c20 : PySem.W.codeIn K cd20 "_law_refusals" = true)
    (k20 : PySem.W.keepIn K (.ref f20) = true)
    {f21 : Addr} {od21 an21 : Option Addr} {sl21 : Array (Option Value)} {oc21 kV21 dc21 pm21 ct21 : Value} {cd21 : Value}
    (a21 : PySem.W.nsIn K mainGlobals "law" = some (some (.ref f21)))
    (l21 : K.lookup f21 = some ⟨oc21, od21, .func (PySem.W.fnOf "law" "law" (defArgs s_law) (defBody s_law) (defScope s_law) .none kV21 dc21 pm21 an21 cd21 ct21), sl21⟩)
    (c21 : PySem.W.codeIn K cd21 "law" = true)
    (k21 : PySem.W.keepIn K (.ref f21) = true)
    (z_ValueError : PySem.W.nsIn K mainGlobals "ValueError" = some none)
    (z_all : PySem.W.nsIn K mainGlobals "all" = some none)
    (z_bool : PySem.W.nsIn K mainGlobals "bool" = some none)
    (z_int : PySem.W.nsIn K mainGlobals "int" = some none)
    (z_isinstance : PySem.W.nsIn K mainGlobals "isinstance" = some none)
    (z_len : PySem.W.nsIn K mainGlobals "len" = some none)
    (z_max : PySem.W.nsIn K mainGlobals "max" = some none)
    (z_min : PySem.W.nsIn K mainGlobals "min" = some none)
    (z_range : PySem.W.nsIn K mainGlobals "range" = some none)
    (z_tuple : PySem.W.nsIn K mainGlobals "tuple" = some none)
    {t_CURRENCY_LETTERS : Tok}
    (k_CURRENCY_LETTERS : PySem.W.nsIn K mainGlobals "CURRENCY_LETTERS" = some (some (.int (3) t_CURRENCY_LETTERS)))
    {t_EXCHANGE : Tok}
    (k_EXCHANGE : PySem.W.nsIn K mainGlobals "EXCHANGE" = some (some (.str (Str.ofString "exchange") t_EXCHANGE)))
    {t_GREATEST_RATE : Tok}
    (k_GREATEST_RATE : PySem.W.nsIn K mainGlobals "GREATEST_RATE" = some (some (.int (1000000000) t_GREATEST_RATE)))
    {t_LAST_DAY : Tok}
    (k_LAST_DAY : PySem.W.nsIn K mainGlobals "LAST_DAY" = some (some (.int (99999) t_LAST_DAY)))
    : ∃ A sp, LawX l w K 63 7 "_law_script" mg fa h A sp := by
  refine ⟨(⟨xL, [x0, x1, x2, x3, x4, x5, x6, x7, x8, x9, x10, x11, x12, x13, x14, x15], [y0], [(cd0, 228)], []⟩ : Ad), (spLaw K (⟨xL, [x0, x1, x2, x3, x4, x5, x6, x7, x8, x9, x10, x11, x12, x13, x14, x15], [y0], [(cd0, 228)], []⟩ : Ad)), ?_, ?_, ?_, ?_, ?_, ?_⟩
  · intro p hp
    simp only [List.append_nil, List.mem_cons, List.not_mem_nil, or_false, or_assoc] at hp
    rcases hp with rfl
    · exact e0
  · intro p hp
    simp only [List.append_nil, List.mem_cons, List.not_mem_nil, or_false, or_assoc] at hp
    rcases hp with rfl
    · exact n0
  · intro p hp
    simp only [List.append_nil, List.mem_cons, List.not_mem_nil, or_false, or_assoc] at hp
    rcases hp with rfl
    · exact h0
  · intro p hp
    cases hp
  · have e := hfa.symm.trans (PySem.W.mg_of X G a21)
    cases e
    have F := fun_mk (st := s_law) l21 c21 k21
    refine ⟨PySem.W.fnOf "law" "law" (defArgs s_law) (defBody s_law) (defScope s_law) .none kV21 dc21 pm21 an21 cd21 ct21, fun s v => .of_eq rfl, fun base _ _ tb => ?_⟩
    have B : Bs K mg (⟨xL, [x0, x1, x2, x3, x4, x5, x6, x7, x8, x9, x10, x11, x12, x13, x14, x15], [y0], [(cd0, 228)], []⟩ : Ad) base := ⟨exs_of x_all,
      rfl,
      PySem.W.mg_of X G g_LedgerError,
      PySem.W.mg_of X G g_BadName,
      PySem.W.mg_of X G g_BadCurrency,
      PySem.W.mg_of X G g_BadAmount,
      PySem.W.mg_of X G g_BadDay,
      PySem.W.mg_of X G g_BadNote,
      PySem.W.mg_of X G g_BadRate,
      PySem.W.mg_of X G g_Unbalanced,
      PySem.W.mg_of X G g_Closed,
      PySem.W.mg_of X G g_Taken,
      PySem.W.mg_of X G g_TakenBack,
      PySem.W.mg_of X G g_NoAccount,
      PySem.W.mg_of X G g_NoEntry,
      PySem.W.mg_of X G g_NoRate,
      PySem.W.mg_of X G g_NoPeriod,
      PySem.W.mg_of X G g_TooSmall,
      PySem.W.mg_of X G g_BadText,
      (cls_of q_Book).1,
      n_Book_home,
      n_Book__accounts,
      n_Book__rates,
      n_Book__entries,
      n_Book__taken_back,
      n_Book__ends,
      n_Book__deeds,
      rfl,
      tb _ (by simp [Ad.t]),
      dfc_mk X G a0 l0 c0 k0 fun _ _ _ _ _ _ us hl => match us, hl with | [_], _ => rfl,
      df_mk X G a1 l1 c1 k1 fun _ _ _ _ _ _ us hl => match us, hl with | [_], _ => rfl,
      df_mk X G a2 l2 c2 k2 fun _ _ _ _ _ _ us hl => match us, hl with | [_, _], _ => rfl,
      dm_mk a3 i3 l3 c3 k3 fun _ _ _ _ _ _ us hl => match us, hl with | [_], _ => rfl,
      dm_mk a4 i4 l4 c4 k4 fun _ _ _ _ _ _ us hl => match us, hl with | [_, _], _ => rfl,
      di_mk X G g_Book (cls_of q_Book).2.1 (cls_of q_Book).2.2 a5 i5 l5 c5 k5 fun _ _ _ _ _ _ us hl => match us, hl with | [_, _], _ => rfl,
      dm_mk a6 i6 l6 c6 k6 fun _ _ _ _ _ _ us hl => match us, hl with | [_, _, _], _ => rfl,
      dm_mk a7 i7 l7 c7 k7 fun _ _ _ _ _ _ us hl => match us, hl with | [_, _, _, _, _], _ => rfl,
      df_mk X G a8 l8 c8 k8 fun _ _ _ _ _ _ us hl => match us, hl with | [_, _], _ => rfl,
      df_mk X G a9 l9 c9 k9 fun _ _ _ _ _ _ us hl => match us, hl with | [_], _ => rfl,
      df_mk X G a10 l10 c10 k10 fun _ _ _ _ _ _ us hl => match us, hl with | [_], _ => rfl,
      df_mk X G a11 l11 c11 k11 fun _ _ _ _ _ _ us hl => match us, hl with | [_], _ => rfl,
      df_mk X G a12 l12 c12 k12 fun _ _ _ _ _ _ us hl => match us, hl with | [_], _ => rfl,
      df_mk X G a13 l13 c13 k13 fun _ _ _ _ _ _ us hl => match us, hl with | [_], _ => rfl,
      df_mk X G a14 l14 c14 k14 fun _ _ _ _ _ _ us hl => match us, hl with | [_, _, _], _ => rfl,
      df_mk X G a15 l15 c15 k15 fun _ _ _ _ _ _ us hl => match us, hl with | [_, _, _], _ => rfl,
      df_mk X G a16 l16 c16 k16 fun _ _ _ _ _ _ us hl => match us, hl with | [_, _, _, _], _ => rfl,
      df_mk X G a17 l17 c17 k17 fun _ _ _ _ _ _ us hl => match us, hl with | [_, _], _ => rfl,
      df_mk X G a18 l18 c18 k18 fun _ _ _ _ _ _ us hl => match us, hl with | [_, _], _ => rfl,
      df_mk X G a19 l19 c19 k19 fun _ _ _ _ _ _ us hl => match us, hl with | [_, _], _ => rfl,
      df_mk X G a20 l20 c20 k20 fun _ _ _ _ _ _ us hl => match us, hl with | [_, _, _, _], _ => rfl,
      df_mk X G a21 l21 c21 k21 fun _ _ _ _ _ _ us hl => match us, hl with | [_], _ => rfl,
      PySem.W.mg_none_of X G z_ValueError,
      PySem.W.mg_none_of X G z_all,
      PySem.W.mg_none_of X G z_bool,
      PySem.W.mg_none_of X G z_int,
      PySem.W.mg_none_of X G z_isinstance,
      PySem.W.mg_none_of X G z_len,
      PySem.W.mg_none_of X G z_max,
      PySem.W.mg_none_of X G z_min,
      PySem.W.mg_none_of X G z_range,
      PySem.W.mg_none_of X G z_tuple,
      int_found X G k_CURRENCY_LETTERS,
      str_found X G k_EXCHANGE,
      int_found X G k_GREATEST_RATE,
      int_found X G k_LAST_DAY⟩
    exact fok_law F B
  · intro H a ns hl hbits ht hlam hS Q q
    exact law_go hl hbits ht hlam hS q
end Prf
open PySem PySem.W PyProof.Rows
local macro_rules | `(tactic| o_head ($f $K $as $e)) => `(tactic| o_head (id (PySem.W.kmHook $K $as $e [228])))
local macro_rules | `(tactic| o_head ($f $K $as $e $ts)) => `(tactic| o_head (id (PySem.W.kmHook $K $as $e [228])))
set_option maxHeartbeats 0 in
theorem PySem.Challenge.cw_doubleledger_k03_rates_by_days_holds : PySem.Challenge.rw_doubleledger_k03_rates_by_days.Holds := by
  w_on; o_law; k_head; (case hw => w_witness2)
  k_fill
  refine My.walk_X (l := PySem.Challenge.rw_doubleledger_k03_rates_by_days) (n := 63) (k := 7) (x := "_law_script") rfl (by decide) rfl ⟨rfl, by decide, by decide⟩ (fun w h Y => PySem.W.km_in_of Y) ?F
  case F =>
    intro w mg fa h Y KX G hmg
    have tabE := PySem.W.km_tabs_of Y
    refine' Prf.all_mk KX G hmg ?g_LedgerError ?g_BadName ?g_BadCurrency ?g_BadAmount ?g_BadDay ?g_BadNote ?g_BadRate ?g_Unbalanced ?g_Closed ?g_Taken ?g_TakenBack ?g_NoAccount ?g_NoEntry ?g_NoRate ?g_NoPeriod ?g_TooSmall ?g_BadText ?x_all ?g_Book ?q_Book ?n_Book_home ?n_Book__accounts ?n_Book__rates ?n_Book__entries ?n_Book__taken_back ?n_Book__ends ?n_Book__deeds ?a0 ?l0 ?c0 ?k0 ?h0 ?n0 ?e0 ?a1 ?l1 ?c1 ?k1 ?a2 ?l2 ?c2 ?k2 ?a3 ?i3 ?l3 ?c3 ?k3 ?a4 ?i4 ?l4 ?c4 ?k4 ?a5 ?i5 ?l5 ?c5 ?k5 ?a6 ?i6 ?l6 ?c6 ?k6 ?a7 ?i7 ?l7 ?c7 ?k7 ?a8 ?l8 ?c8 ?k8 ?a9 ?l9 ?c9 ?k9 ?a10 ?l10 ?c10 ?k10 ?a11 ?l11 ?c11 ?k11 ?a12 ?l12 ?c12 ?k12 ?a13 ?l13 ?c13 ?k13 ?a14 ?l14 ?c14 ?k14 ?a15 ?l15 ?c15 ?k15 ?a16 ?l16 ?c16 ?k16 ?a17 ?l17 ?c17 ?k17 ?a18 ?l18 ?c18 ?k18 ?a19 ?l19 ?c19 ?k19 ?a20 ?l20 ?c20 ?k20 ?a21 ?l21 ?c21 ?k21 ?z_ValueError ?z_all ?z_bool ?z_int ?z_isinstance ?z_len ?z_max ?z_min ?z_range ?z_tuple ?k_CURRENCY_LETTERS ?k_EXCHANGE ?k_GREATEST_RATE ?k_LAST_DAY
    (case g_LedgerError => k_is)
    (case g_BadName => k_is)
    (case g_BadCurrency => k_is)
    (case g_BadAmount => k_is)
    (case g_BadDay => k_is)
    (case g_BadNote => k_is)
    (case g_BadRate => k_is)
    (case g_Unbalanced => k_is)
    (case g_Closed => k_is)
    (case g_Taken => k_is)
    (case g_TakenBack => k_is)
    (case g_NoAccount => k_is)
    (case g_NoEntry => k_is)
    (case g_NoRate => k_is)
    (case g_NoPeriod => k_is)
    (case g_TooSmall => k_is)
    (case g_BadText => k_is)
    (case x_all => kernel_rfl)
    (case g_Book => k_is)
    (case q_Book => kernel_rfl)
    (case n_Book_home => k_is)
    (case n_Book__accounts => k_is)
    (case n_Book__rates => k_is)
    (case n_Book__entries => k_is)
    (case n_Book__taken_back => k_is)
    (case n_Book__ends => k_is)
    (case n_Book__deeds => k_is)
    (case a0 => k_is)
    (case l0 => k_is)
    (case c0 => k_is)
    (case k0 => k_is)
    (case h0 => kernel_rfl)
    (case n0 => kernel_rfl)
    (case e0 => exact tabE _ (by decide))
    (case a1 => k_is)
    (case l1 => k_is)
    (case c1 => k_is)
    (case k1 => k_is)
    (case a2 => k_is)
    (case l2 => k_is)
    (case c2 => k_is)
    (case k2 => k_is)
    (case a3 => k_is)
    (case i3 => k_is)
    (case l3 => k_is)
    (case c3 => k_is)
    (case k3 => k_is)
    (case a4 => k_is)
    (case i4 => k_is)
    (case l4 => k_is)
    (case c4 => k_is)
    (case k4 => k_is)
    (case a5 => k_is)
    (case i5 => k_is)
    (case l5 => k_is)
    (case c5 => k_is)
    (case k5 => k_is)
    (case a6 => k_is)
    (case i6 => k_is)
    (case l6 => k_is)
    (case c6 => k_is)
    (case k6 => k_is)
    (case a7 => k_is)
    (case i7 => k_is)
    (case l7 => k_is)
    (case c7 => k_is)
    (case k7 => k_is)
    (case a8 => k_is)
    (case l8 => k_is)
    (case c8 => k_is)
    (case k8 => k_is)
    (case a9 => k_is)
    (case l9 => k_is)
    (case c9 => k_is)
    (case k9 => k_is)
    (case a10 => k_is)
    (case l10 => k_is)
    (case c10 => k_is)
    (case k10 => k_is)
    (case a11 => k_is)
    (case l11 => k_is)
    (case c11 => k_is)
    (case k11 => k_is)
    (case a12 => k_is)
    (case l12 => k_is)
    (case c12 => k_is)
    (case k12 => k_is)
    (case a13 => k_is)
    (case l13 => k_is)
    (case c13 => k_is)
    (case k13 => k_is)
    (case a14 => k_is)
    (case l14 => k_is)
    (case c14 => k_is)
    (case k14 => k_is)
    (case a15 => k_is)
    (case l15 => k_is)
    (case c15 => k_is)
    (case k15 => k_is)
    (case a16 => k_is)
    (case l16 => k_is)
    (case c16 => k_is)
    (case k16 => k_is)
    (case a17 => k_is)
    (case l17 => k_is)
    (case c17 => k_is)
    (case k17 => k_is)
    (case a18 => k_is)
    (case l18 => k_is)
    (case c18 => k_is)
    (case k18 => k_is)
    (case a19 => k_is)
    (case l19 => k_is)
    (case c19 => k_is)
    (case k19 => k_is)
    (case a20 => k_is)
    (case l20 => k_is)
    (case c20 => k_is)
    (case k20 => k_is)
    (case a21 => k_is)
    (case l21 => k_is)
    (case c21 => k_is)
    (case k21 => k_is)
    (case z_ValueError => k_is)
    (case z_all => k_is)
    (case z_bool => k_is)
    (case z_int => k_is)
    (case z_isinstance => k_is)
    (case z_len => k_is)
    (case z_max => k_is)
    (case z_min => k_is)
    (case z_range => k_is)
    (case z_tuple => k_is)
    (case k_CURRENCY_LETTERS => k_is)
    (case k_EXCHANGE => k_is)
    (case k_GREATEST_RATE => k_is)
    (case k_LAST_DAY => k_is)
