import PyProof.Rows.All
import Wide.All
import OpenK.AllK
import Wide.FinOn
import HandS.ForMost
import HandS.IsInst
import HandS.Wide
import HandS.Gcd
import HandS.Evl
import HandS.More
import PySem.Challenge.RW_doubleledger_k02_balanced
set_option Elab.async false
set_option linter.all false
set_option maxRecDepth 100000
set_option maxHeartbeats 4000000
namespace My
open PySem PySem.Spec PyProof.Rows L2 Evl

/-! ### a def of the text, by its name; what it promises -/
structure Df (K : PySem.W.Frag) (mg : Str → Option Value) (x : Str) (st : Stmt) (ps : List Str) : Prop where
  ex : ∃ (f : Addr) (fd : FuncData), Fun K x x st f fd ∧ mg x = some (.ref f) ∧ Binds K fd ps []
structure Kn (P : Program) (w : World) (K : PySem.W.Frag) (mg : Str → Option Value) (base : Heap) (k : Nat) (x : Str) (sp : Sp) : Prop where
  ex : ∃ (f : Addr) (fd : FuncData) (ps : List Str), FnOk P w K mg base CX0 k f fd ps sp ∧ mg x = some (.ref f) ∧ PySem.W.keepIn K (.ref f) = true ∧ Binds K fd ps []
section
variable {P : Program} {w : World} {K : PySem.W.Frag} {mg : Str → Option Value} {base : Heap}
theorem Df.ok {x : Str} {st : Stmt} {N ps : List Str} {k : Nat} {sp : Sp} (D : Df K mg x st ps) (S : FnScope N ps (defScope st)) (len : ∀ vs H Q E, sp vs H Q E → vs.length = ps.length)
    (hbody : ∀ (f : Addr) (cdv : Value) (A : Around) (outer : List Env) (s : Shared) (H : Hp) (vs : List V) (Q : VK) (E : XK), Room k (A.deeper (envOfC x (defScope st) s.heap.objs.size f cdv)) → sp vs H Q E →
      ∃ t, PSs (cxOf CX0 P w K mg base N x (defScope st) f cdv A outer s H E).nox (defBody st) t ∧ t { nx := fun _ H' => Q .non H', rt := Q } (start N vs) H) : Kn P w K mg base (k + 1) x sp := by
  obtain ⟨f, fd, F, hm, hb⟩ := D.ex
  exact ⟨f, fd, ps, F.ok S len fun cdv A outer s H vs Q E hr h => hbody f cdv A outer s H vs Q E hr h, hm, F.kp, hb⟩
theorem okF {x : Str} {st : Stmt} {f : Addr} {fd : FuncData} {N ps : List Str} {k : Nat} {sp : Sp} (F : Fun K x x st f fd) (S : FnScope N ps (defScope st)) (len : ∀ vs H Q E, sp vs H Q E → vs.length = ps.length)
    (hbody : ∀ (f : Addr) (cdv : Value) (A : Around) (outer : List Env) (s : Shared) (H : Hp) (vs : List V) (Q : VK) (E : XK), Room k (A.deeper (envOfC x (defScope st) s.heap.objs.size f cdv)) → sp vs H Q E →
      ∃ t, PSs (cxOf CX0 P w K mg base N x (defScope st) f cdv A outer s H E).nox (defBody st) t ∧ t { nx := fun _ H' => Q .non H', rt := Q } (start N vs) H) : FnOk P w K mg base CX0 (k + 1) f fd ps sp :=
  F.ok S len (hbody f)
theorem df_mk {h : Heap} {x : Str} {st : Stmt} {ps : List Str} {f : Addr} {oc : Value} {od an : Option Addr} {osl : Array (Option Value)} {kV doc pm cdv ct : Value} (X : K.In h) (G : h.Ns mainGlobals mg)
    (a : PySem.W.nsIn K mainGlobals x = some (some (.ref f))) (l : K.lookup f = some ⟨oc, od, .func (PySem.W.fnOf x x (defArgs st) (defBody st) (defScope st) .none kV doc pm an cdv ct), osl⟩)
    (c : PySem.W.codeIn K cdv x = true) (k : PySem.W.keepIn K (.ref f) = true)
    (b : ∀ (kV doc pm : Value) (an : Option Addr) (cdv ct : Value) (us : List Value), us.length = ps.length → bindArgs (PySem.W.fnOf x x (defArgs st) (defBody st) (defScope st) .none kV doc pm an cdv ct) ⟨us, []⟩ = pure (ps.zip us)) : Df K mg x st ps := by
  have F := fun_mk (st := st) l c k
  exact ⟨f, _, F, PySem.W.mg_of X G a, F.binds b⟩
end
section
variable {X : Cx} {k j : Nat} {x : Str} {sp : Sp} {p pos : Pos} {e : Expr} {es : List Expr} {t : TA}
theorem pc1 (c : Kn X.prog X.w X.K X.mg X.base k x sp) (hr : Room j X.A) (hk : k ≤ j) (hg : Gl X x) (ha : PA X (e :: es) t)
    (hdb : (x == ("__debug__" : Str)) = false := by decide) (he : starEach (e :: es) X.env = (false, eval e X.env) :: starEach es X.env := by rfl) (hpl : (backTo pos (starEach es X.env)).any (·.1) = false := by rfl) :
    PE X (.Call (.Name x p) (e :: es) [] pos) (tCall sp [] E0 t) := by
  obtain ⟨f, fd, ps, F, hm, kp, b⟩ := c.ex
  exact pe_call F (hr.mono hk) hg hm kp b .nil pass0 ha hdb he hpl
theorem pc0 (c : Kn X.prog X.w X.K X.mg X.base k x sp) (hr : Room j X.A) (hk : k ≤ j) (hg : Gl X x)
    (hdb : (x == ("__debug__" : Str)) = false := by decide) :
    PE X (.Call (.Name x p) [] [] pos) (tCall sp [] E0 tNil) := by
  obtain ⟨f, fd, ps, F, hm, kp, b⟩ := c.ex
  exact pe_call0 F (hr.mono hk) hg hm kp b .nil pass0 hdb
end
/-! ### more of Ev -/
section
variable {K : PySem.W.Frag} {σ : L2.St} {H H' : Hp} {ta tb te tx : TE} {t u : TT} {x y z v : V} {r : R2}
/-- a call that hands back a value, heap kept or grown -/
theorem ev_c1 {sp : Sp} {vs : List V} {E : XK} {ta : TA} (h : EvA ta σ H vs) (hs : ∀ H1, Ex H H1 → ∀ Q : VK, (∀ H2, Ex H1 H2 → Q z H2) → ∀ E : XK, sp vs H1 Q E) : Ev (tCall sp [] E ta) σ H z :=
  ev_call h (by rw [List.append_nil]; exact hs)
theorem eu_c1 {sp : Sp} {vs xs : List V} {E : XK} {ta : TA} (h : EvA ta σ H vs) (hs : ∀ H1, Ex H H1 → ∀ Q : VK, (∀ p H2, H1 p = none → Ex H1 H2 → H2 p = some (.tup xs) → Q (.ref p) H2) → ∀ E : XK, sp vs H1 Q E) : EvU (tCall sp [] E ta) σ H xs := fun H1 e Q q =>
  h H1 e _ fun H2 e2 => by
    show sp (vs ++ []) H2 Q _
    rw [List.append_nil]
    exact hs H2 (e.trans e2) Q (fun p H3 hp e3 h3 => q p H3 (fresh_back e2 hp) (e2.trans e3) h3) _
end
/-- a cell of the script -/
theorem sp_cell {K : PySem.W.Frag} {H : Hp} {l : Addr} {ns : List Int} (j : Nat) (hS : SqL K H l (ns.map V.int)) : ∀ H1, Ex H H1 → ∀ Q : VK, (∀ H2, Ex H1 H2 → Q (.int (cellOf ns j)) H2) → ∀ E : XK, spCell K [.ref l, .int (j : Nat)] H1 Q E :=
  fun H1 e Q q E => ⟨l, ns, j, rfl, ex_l e hS, q H1 (Ex.refl _)⟩
end My

namespace My
open PySem PySem.Spec PyProof.Rows L2 Evl
/-- any(o.values()): a dict whose values are whole numbers -/
def tAnyVals (td : TE) : TE := fun σ H Q => td σ H fun x H1 => ∃ (d : Addr) (kvs : List (Key × V)) (ns : List Int),
  x = V.ref d ∧ H1 d = some (.dK kvs) ∧ kvs.map (·.2) = ns.map V.int ∧ Q (.bl (ns.any fun n => decide (n ≠ 0))) H1
theorem any_ix : ∀ ns : List Int, (List.range ns.length).any (fun i => decide (ns.getD i 0 ≠ 0)) = ns.any fun n => decide (n ≠ 0)
  | [] => rfl
  | n :: ns => by
    rw [List.length_cons, List.range_succ_eq_map, List.any_cons, List.any_map, List.any_cons, ← any_ix ns]
    congr 1
theorem kv_here : ∀ {kvs : List (Key × V)} {vs : List (Key × Value)} {i : Nat} {k : Key} {u : Value}, KV kvs vs → vs[i]? = some (k, u) → ∃ x, kvs[i]? = some (k, x) ∧ RelV x u
  | _, _, _, _, _, .nil, e => by simp at e
  | _, _, 0, _, _, .cons (a := a) r _, e => by
    have e := Option.some.inj e
    subst e
    exact ⟨_, congrArg some (Prod.ext r.1 rfl), r.2⟩
  | _, _, i + 1, k, u, .cons _ t, e => by
    obtain ⟨x, h1, h2⟩ := kv_here (i := i) t (by simpa using e)
    exact ⟨x, by simpa using h1, h2⟩
section
variable {X : Cx} {o : Expr} {p pos apos mpos : Pos} {td : TE}
theorem pe_anyVals (calm : X.calm = true) (gl : Gl X "any") (no : X.mg "any" = none) (ho : PE X o td)
    (h1 : attributeBase o "values" X.env (eval o X.env) = eval o X.env := by rfl) (h2 : (apos.endLine == mpos.line) = true := by rfl)
    (h3 : starEach [Expr.Call (.Attribute o "values" apos) [] [] mpos] X.env
      = [(false, eval (Expr.Call (.Attribute o "values" apos) [] [] mpos) X.env)] := by rfl) :
    PE X (.Call (.Name "any" p) [.Call (.Attribute o "values" apos) [] [] mpos] [] pos) (tAnyVals td) := by
  refine ⟨fun pins s σ H Q I h => ?_⟩
  refine wpAny_Call_Name_kw (ld_blt I gl no (u := .builtin "any") (by first
    | rfl
    | decide +kernel) ?_ (by decide) (by decide))
  rw [h3]
  refine PySem.callWith_builtin1 (wpAny_Call_method0_late h1 h2 (thn (ho.run pins s σ H _ I h) fun v s1 got => ?_))
  obtain ⟨x, H1, I1, r1, d, kvs, ns, ex, hd, hv, q⟩ := got
  subst ex
  obtain rfl : v = Value.ref d := r1
  obtain ⟨_, nosys, vs, rel, isd⟩ := dk_of I1.hok hd
  obtain ⟨ep, at0⟩ := isd.dictAt
  have at1 := at0
  obtain ⟨ob, es, hob, exact0, hdat, _, _, _⟩ := at1
  refine ⟨"dict", "dict.values", F.plainAttrs_dict, F.slot_dict_values, F.type_dict_values, ⟨ob, hob, exact0.1⟩, fun b e => ?_,
    Calls.callWith_builtin rfl (PySem.evalArgs_none ?_)⟩
  · cases e
    exact ⟨ob, hob, exact0.2.1⟩
  refine call_meetsIn F.slot_dict_values ⟨ob, hob, exact0.1⟩ F.entry_dict_values (F.args_dict_values_1 _)
    (meets_dict_values (mixKind X.prog X.w) d nosys) ⟨⟨vs, isd⟩, ?_⟩
  generalize eV : s1.heap.push { cls := .type "dict_values", data := .fields #[.ref d] } = hV
  have old : ∀ b u, s1.heap.get? b = some u → hV.get? b = some u := fun b u e => by
    rw [← eV]
    exact Heap.get?_push_of_some _ e
  have atV : hV.DictAt (mixKind X.prog X.w) d vs ep := at0.keep old
  have view : hV.get? s1.heap.objs.size = some { cls := .type "dict_values", data := .fields #[.ref d] } := by
    rw [← eV]
    exact Heap.get?_push_size _ rfl
  have size : hV.objs.size = s1.heap.objs.size + 1 := by
    rw [← eV]
    exact Heap.size_push _ _
  have small : d < s1.heap.objs.size := Heap.lt_size hob
  have len : vs.length = ns.length := by
    have e1 := congrArg List.length hv
    rw [List.length_map, List.length_map] at e1
    have e2 := KV.length rel
    omega
  refine call_any_walk (wpAny_pyIter_values (v := s1.heap.objs.size) (d := d) ⟨_, view, rfl, rfl⟩ atV ?_)
  refine ⟨_, _, _, _, _, _, fun i => decide (ns.getD i 0 ≠ 0), rfl,
    Walks.dictValues (knd := mixKind X.prog X.w) (A := X.A.in1) (I.ok.hd calm) hV.objs.size d
      (by rw [size]; exact Nat.ne_of_lt (Nat.lt_succ_of_lt small)) vs ep,
    ⟨⟨_, Heap.get?_push_size _ rfl, rfl, rfl⟩, atV.keep fun b u e => Heap.get?_push_of_some _ e⟩, ?_, fun h' tk hk => ?_⟩
  · intro i v s2 Q2 E2 hP hQ
    obtain ⟨k, hk⟩ := hP
    obtain ⟨x, g1, g2⟩ := kv_here rel hk
    have e1 : (kvs.map (·.2))[i]? = some x := by
      rw [List.getElem?_map, g1]
      rfl
    rw [hv, List.getElem?_map] at e1
    obtain ⟨j, hj, e2⟩ := Option.map_eq_some_iff.mp e1
    subst e2
    obtain ⟨t, e3⟩ := g2
    have e3 : v = Value.int j t := e3
    rw [e3]
    have e4 : ns.getD i 0 = j := by
      rw [List.getD_eq_getElem?_getD, hj]
      rfl
    have hQ : Q2 (decide (ns.getD i 0 ≠ 0)) s2 := hQ
    rw [e4] at hQ
    refine PySem.P.truthy_int ?_
    have e5 : (j != 0) = decide (j ≠ 0) := by
      by_cases z : j = 0
      · subst z
        rfl
      · rw [decide_eq_true z]
        exact bne_iff_ne.mpr z
    rw [e5]
    exact hQ
  · refine ⟨.bl _, H1, I1.kept (t' := tk) fun b u e => hk b u (fun hmem => ?_) (Heap.get?_push_of_some _ (old b u e)), rfl, ?_⟩
    · have e1 : b = hV.objs.size := List.mem_singleton.mp hmem
      have e2 := Heap.lt_size e
      rw [e1, size] at e2
      exact absurd e2 (Nat.not_lt.mpr (Nat.le_succ _))
    · have e1 : ((List.range vs.length).any fun i => decide (ns.getD i 0 ≠ 0)) = ns.any fun n => decide (n ≠ 0) := by
        rw [len]
        exact any_ix ns
      rw [e1]
      exact q
end
end My

namespace My
open PySem PySem.Spec PyProof.Rows L2 Evl
/-! ### tests whose answer is known -/
theorem iteBT {b : Bool} {A B : Prop} (e : b = true) (h : A) : if b = true then A else B := by
  rw [if_pos e]
  exact h
theorem iteBF {b : Bool} {A B : Prop} (e : b = false) (h : B) : if b = true then A else B := by
  rw [e]
  exact iteF h
theorem nb_f {p : Prop} [Decidable p] (h : p) : (!decide p) = false := by
  rw [decide_eq_true h]
  rfl
theorem nb_t {p : Prop} [Decidable p] (h : ¬ p) : (!decide p) = true := by
  rw [decide_eq_false h]
  rfl
theorem q_bl {Q : VK} {b c : Bool} {H : Hp} (e : b = c) (h : Q (.bl c) H) : Q (.bl b) H := by
  rw [e]
  exact h
/-! ### pairs of lists -/
theorem pr_get {α β : Type} {F : α → β → Prop} : ∀ {xs : List α} {ys : List β} {i : Nat} {x : α}, Paired F xs ys → xs[i]? = some x → ∃ y, ys[i]? = some y ∧ F x y
  | _, _, _, _, .nil, e => by simp at e
  | _, _, 0, _, .cons r _, e => by
    have e := Option.some.inj e
    subst e
    exact ⟨_, rfl, r⟩
  | _, _, i + 1, _, .cons _ t, e => by
    obtain ⟨y, h1, h2⟩ := pr_get (i := i) t (by simpa using e)
    exact ⟨y, by simpa using h1, h2⟩
theorem refs_get {rs : List Addr} {i : Nat} {x : V} (h : (rs.map V.ref)[i]? = some x) : ∃ r, rs[i]? = some r ∧ x = .ref r := by
  rw [List.getElem?_map] at h
  cases e : rs[i]? with
  | none =>
    rw [e] at h
    cases h
  | some r =>
    rw [e] at h
    exact ⟨r, rfl, (Option.some.inj h).symm⟩
theorem ints_get {ns : List Int} {i : Nat} {x : V} (h : (ns.map V.int)[i]? = some x) : ∃ n, ns[i]? = some n ∧ x = .int n := by
  rw [List.getElem?_map] at h
  cases e : ns[i]? with
  | none =>
    rw [e] at h
    cases h
  | some r =>
    rw [e] at h
    exact ⟨r, rfl, (Option.some.inj h).symm⟩
/-! ### heaps -/
theorem sqt_mut {K : PySem.W.Frag} {H : Hp} {a r : Addr} {xs ys : List V} {o : HO} (h : H a = some (.lst ys)) (t : SqT K H r xs) : SqT K (upd H a o) r xs := by
  rcases t with (t | ⟨ob, t⟩) | t
  · exact .inl (.inl (by rw [upd_ne (ne_of t h (by intro z; cases z))]; exact t))
  · exact .inl (.inr ⟨ob, by rw [upd_ne (ne_of t h (by intro z; cases z))]; exact t⟩)
  · exact .inr t
/-! ### lines: account, currency, amount -/
abbrev Line := Str × Str × Int
def lineV (l : Line) : List V := [.str l.1, .str l.2.1, .int l.2.2]
def lineD (l : Line) : PyData := .tuple [.str l.1, .str l.2.1, .int l.2.2]
def lineOk (l : Line) : Bool := PyData.strOk l.1 && PyData.strOk l.2.1
def LinesIn (K : PySem.W.Frag) (H : Hp) (rs : List Addr) (L : List Line) : Prop := Paired (fun r l => SqT K H r (lineV l)) rs L
theorem LinesIn.ex {K : PySem.W.Frag} {H H' : Hp} {rs : List Addr} {L : List Line} (e : Ex H H') (h : LinesIn K H rs L) : LinesIn K H' rs L := Paired.mapP h fun _ _ t => ex_t e t
theorem LinesIn.mut {K : PySem.W.Frag} {H : Hp} {a : Addr} {ys : List V} {o : HO} {rs : List Addr} {L : List Line} (ha : H a = some (.lst ys)) (h : LinesIn K H rs L) : LinesIn K (upd H a o) rs L := Paired.mapP h fun _ _ t => sqt_mut ha t
theorem LinesIn.snoc {K : PySem.W.Frag} {H : Hp} {rs : List Addr} {L : List Line} {r : Addr} {l : Line} (h : LinesIn K H rs L) (t : SqT K H r (lineV l)) : LinesIn K H (rs ++ [r]) (L ++ [l]) := Paired.snoc h t
theorem LinesIn.dp {K : PySem.W.Frag} {H : Hp} : ∀ {rs : List Addr} {L : List Line}, LinesIn K H rs L → DpAll K H (rs.map V.ref) (L.map lineD)
  | _, _, .nil => .nil
  | _, _, .cons t r => .cons (.tup t (.cons (.str _) (.cons (.str _) (.cons (.int _) .nil)))) (LinesIn.dp r)
theorem lines_can : ∀ {L : List Line}, (∀ l ∈ L, lineOk l = true) → PyData.canLayAll0 (L.map lineD) = true
  | [], _ => rfl
  | l :: L, h => by
    have h1 := h l List.mem_cons_self
    unfold lineOk at h1
    rw [Bool.and_eq_true] at h1
    have h2 := lines_can (L := L) fun x hx => h x (List.mem_cons_of_mem _ hx)
    show (PyData.canLay0 (lineD l) && PyData.canLayAll0 (L.map lineD)) = true
    rw [h2, Bool.and_true]
    show (PyData.strOk l.1 && (PyData.strOk l.2.1 && (true && true))) = true
    rw [h1.1, h1.2]
    rfl
theorem lines_deep : ∀ L : List Line, PyData.depthAll (L.map lineD) ≤ 1
  | [] => Nat.zero_le _
  | l :: L => by
    have h := lines_deep L
    show max (PyData.depth (lineD l)) (PyData.depthAll (L.map lineD)) ≤ 1
    exact Nat.max_le.mpr ⟨Nat.le_refl _, h⟩
theorem lines_shaped {L : List Line} (h : ∀ l ∈ L, lineOk l = true) : SeqAt.shaped (.list (L.map lineD)) = true := by
  have h1 := lines_can h
  have h2 := lines_deep L
  show (PyData.canLayAll0 (L.map lineD) && decide (PyData.depthAll (L.map lineD) + 1 ≤ 64)) = true
  rw [h1, decide_eq_true (by omega)]
  rfl
/-- the sum of the amounts in a currency -/
def sumOf (c : Str) : List Line → Int
  | [] => 0
  | l :: L => (if l.2.1 = c then l.2.2 else 0) + sumOf c L
theorem sumOf_append (c : Str) : ∀ L M : List Line, sumOf c (L ++ M) = sumOf c L + sumOf c M
  | [], M => by show sumOf c M = 0 + sumOf c M; omega
  | l :: L, M => by
    show (if l.2.1 = c then l.2.2 else 0) + sumOf c (L ++ M) = (if l.2.1 = c then l.2.2 else 0) + sumOf c L + sumOf c M
    rw [sumOf_append c L M]
    omega
theorem sumOf_one (c : Str) (l : Line) : sumOf c [l] = if l.2.1 = c then l.2.2 else 0 := by
  show (if l.2.1 = c then l.2.2 else 0) + 0 = _
  omega
theorem sumOf_none {c : Str} : ∀ {L : List Line}, (∀ l ∈ L, l.2.1 ≠ c) → sumOf c L = 0
  | [], _ => rfl
  | l :: L, h => by
    show (if l.2.1 = c then l.2.2 else 0) + sumOf c L = 0
    rw [if_neg (h l List.mem_cons_self), sumOf_none fun x hx => h x (List.mem_cons_of_mem _ hx)]
    rfl
theorem take_snoc {α : Type} {L : List α} {i : Nat} {l : α} (h : L[i]? = some l) : L.take (i + 1) = L.take i ++ [l] := by
  rw [List.take_add_one, h]
  rfl
/-- balanced in each currency -/
def balB (L : List Line) : Bool := L.all fun l => decide (sumOf l.2.1 L = 0)
theorem balB_iff {L : List Line} : balB L = true ↔ ∀ c, sumOf c L = 0 := by
  unfold balB
  rw [List.all_eq_true]
  constructor
  · intro h c
    by_cases hc : ∃ l ∈ L, l.2.1 = c
    · obtain ⟨l, hl, rfl⟩ := hc
      exact of_decide_eq_true (h l hl)
    · exact sumOf_none fun l hl e => hc ⟨l, hl, e⟩
  · intro h l _
    exact decide_eq_true (h _)
/-! ### the dict of the sums -/
structure Tally (kvs : List (Key × V)) (L : List Line) : Prop where
  nd : (kvs.map (·.1)).Nodup
  len : kvs.length ≤ L.length
  at' : ∀ c, valV kvs (.inr c : Key) = if c ∈ L.map (·.2.1) then some (.int (sumOf c L)) else none
  txt : ∀ p ∈ kvs, ∃ c, p.1 = (.inr c : Key)
theorem Tally.nil : Tally [] [] := ⟨List.nodup_nil, Nat.le_refl _, fun _ => rfl, fun _ h => absurd h (by simp)⟩
theorem put_keys {kvs : List (Key × V)} {k : Key} {v w : V} (h : valV kvs k = some w) : (putK kvs k v).map (·.1) = kvs.map (·.1) := by
  have ha : (kvs.any fun kv => decide (kv.1 = k)) = true := by
    rw [valV_any, h]
    rfl
  unfold putK
  rw [if_pos ha, List.map_map]
  refine List.map_congr_left fun p _ => ?_
  show (if p.1 = k then (p.1, v) else p).1 = p.1
  split <;> rfl
theorem Tally.old {kvs : List (Key × V)} {L : List Line} (T : Tally kvs L) (c : Str) : (valV kvs (.inr c : Key)).getD (.int 0) = .int (sumOf c L) := by
  rw [T.at']
  split
  · rfl
  · next h =>
    rw [sumOf_none fun l hl e => h (List.mem_map.mpr ⟨l, hl, e⟩)]
    rfl
theorem Tally.put {kvs : List (Key × V)} {L : List Line} (T : Tally kvs L) (l : Line) : Tally (putK kvs (.inr l.2.1) (.int (sumOf l.2.1 L + l.2.2))) (L ++ [l]) := by
  refine ⟨?_, ?_, fun c => ?_, ?_⟩
  · cases e : valV kvs (.inr l.2.1 : Key) with
    | none => exact nd_putK _ T.nd e
    | some w =>
      rw [put_keys e]
      exact T.nd
  · rw [List.length_append]
    cases e : valV kvs (.inr l.2.1 : Key) with
    | none =>
      rw [putK_new _ e, List.length_append]
      exact Nat.add_le_add_right T.len _
    | some w =>
      have := congrArg List.length (put_keys (v := .int (sumOf l.2.1 L + l.2.2)) e)
      rw [List.length_map, List.length_map] at this
      rw [this]
      exact Nat.le_succ_of_le T.len
  · rw [valV_put, T.at', sumOf_append, sumOf_one, List.map_append]
    by_cases e : c = l.2.1
    · subst e
      rw [if_pos rfl, if_pos (by simp), if_pos rfl]
    · rw [if_neg (fun z => e (Sum.inr.inj z)), if_neg (show ¬ l.2.1 = c from fun z => e z.symm), Int.add_zero]
      have : c ∈ L.map (·.2.1) ++ [l].map (·.2.1) ↔ c ∈ L.map (·.2.1) := by
        rw [List.mem_append]
        constructor
        · rintro (h | h)
          · exact h
          · exact absurd (by simpa using h) e
        · exact .inl
      simp only [this]
  · intro p hp
    cases e : valV kvs (.inr l.2.1 : Key) with
    | none =>
      rw [putK_new _ e] at hp
      rcases List.mem_append.mp hp with h | h
      · exact T.txt p h
      · rw [List.mem_singleton.mp h]
        exact ⟨_, rfl⟩
    | some w =>
      have hk : p.1 ∈ kvs.map (·.1) := by
        rw [← put_keys (v := .int (sumOf l.2.1 L + l.2.2)) e]
        exact List.mem_map_of_mem hp
      obtain ⟨q, hq, eq⟩ := List.mem_map.mp hk
      obtain ⟨c, hc⟩ := T.txt q hq
      exact ⟨c, by rw [← eq]; exact hc⟩
theorem valV_here : ∀ {kvs : List (Key × V)}, (kvs.map (·.1)).Nodup → ∀ p ∈ kvs, valV kvs p.1 = some p.2
  | [], _, _, h => absurd h (by simp)
  | q :: r, nd, p, h => by
    rw [List.map_cons, List.nodup_cons] at nd
    rcases List.mem_cons.mp h with e | h
    · subst e
      exact valV_pos rfl
    · rw [valV_neg fun e => nd.1 (by rw [e]; exact List.mem_map_of_mem h)]
      exact valV_here nd.2 p h
theorem valV_mem {k : Key} {v : V} : ∀ {kvs : List (Key × V)}, valV kvs k = some v → (k, v) ∈ kvs
  | [], h => by cases h
  | q :: r, h => by
    by_cases e : q.1 = k
    · rw [valV_pos e] at h
      have h := Option.some.inj h
      subst e
      subst h
      exact List.mem_cons_self
    · rw [valV_neg e] at h
      exact List.mem_cons_of_mem _ (valV_mem h)
def keyS : Key → Str
  | .inr c => c
  | .inl _ => Str.empty
theorem Tally.vals {kvs : List (Key × V)} {L : List Line} (T : Tally kvs L) : kvs.map (·.2) = (kvs.map fun p => sumOf (keyS p.1) L).map V.int := by
  rw [List.map_map]
  refine List.map_congr_left fun p hp => ?_
  obtain ⟨c, hc⟩ := T.txt p hp
  have h := valV_here T.nd p hp
  rw [hc, T.at'] at h
  show p.2 = V.int (sumOf (keyS p.1) L)
  rw [hc]
  by_cases m : c ∈ L.map (·.2.1)
  · rw [if_pos m] at h
    exact (Option.some.inj h).symm
  · rw [if_neg m] at h
    cases h
theorem Tally.any {kvs : List (Key × V)} {L : List Line} (T : Tally kvs L) : (!(kvs.map fun p => sumOf (keyS p.1) L).any fun n => decide (n ≠ 0)) = balB L := by
  rw [Bool.eq_iff_iff, Bool.not_eq_true', ← Bool.not_eq_true]
  rw [balB_iff, List.any_eq_true]
  constructor
  · intro h c
    by_cases m : c ∈ L.map (·.2.1)
    · have e := T.at' c
      rw [if_pos m] at e
      by_cases z : sumOf c L = 0
      · exact z
      · exact absurd ⟨_, List.mem_map_of_mem (valV_mem e), decide_eq_true z⟩ h
    · exact sumOf_none fun l hl e => m (List.mem_map.mpr ⟨l, hl, e⟩)
  · rintro h ⟨n, hn, z⟩
    obtain ⟨p, _, rfl⟩ := List.mem_map.mp hn
    exact of_decide_eq_true z (h _)
end My


namespace Prf
open PySem PySem.Spec PyProof.Rows L2 Evl My
def topS (i : Nat) : Stmt := PySem.Challenge.pw_doubleledger_k02_balanced.main.body.getD i (.Pass ⟨0, 0, 0, 0⟩)
abbrev s_balanced : Stmt := topS 1
theorem sc_balanced : FnScope ["lines", "sums", "_", "currency", "amount"] ["lines"] (defScope s_balanced) := ⟨rfl, rfl, rfl, by decide +kernel, rfl, by decide +kernel, by decide +kernel⟩
abbrev s__law_cell : Stmt := topS 3
theorem sc__law_cell : FnScope ["_law_script", "_law_k"] ["_law_script", "_law_k"] (defScope s__law_cell) := ⟨rfl, rfl, rfl, by decide +kernel, rfl, by decide +kernel, by decide +kernel⟩
abbrev s__law_currency : Stmt := topS 5
theorem sc__law_currency : FnScope ["_law_cell_here", "_law_more", "_law_signs", "_law_found"] ["_law_cell_here", "_law_more"] (defScope s__law_currency) := ⟨rfl, rfl, rfl, by decide +kernel, rfl, by decide +kernel, by decide +kernel⟩
abbrev s__law_line : Stmt := topS 6
theorem sc__law_line : FnScope ["_law_cell_here", "_law_more", "_law_amount"] ["_law_cell_here", "_law_more"] (defScope s__law_line) := ⟨rfl, rfl, rfl, by decide +kernel, rfl, by decide +kernel, by decide +kernel⟩
abbrev s__law_sum : Stmt := topS 7
theorem sc__law_sum : FnScope ["_law_lines", "_law_currency_here", "_law_found", "_law_line_here"] ["_law_lines", "_law_currency_here"] (defScope s__law_sum) := ⟨rfl, rfl, rfl, by decide +kernel, rfl, by decide +kernel, by decide +kernel⟩
abbrev s_law : Stmt := topS 8
theorem sc_law : FnScope ["_law_script", "_law_way", "_law_more", "_law_less", "_law_lines", "_law_cell_here", "_law_k", "_law_rest", "_law_due", "_law_handed", "_law_found", "_law_again"] ["_law_script"] (defScope s_law) := ⟨rfl, rfl, rfl, by decide +kernel, rfl, by decide +kernel, by decide +kernel⟩
/-- what the top has written, and what it left -/
structure Bs (K : PySem.W.Frag) (mg : Str → Option Value) : Prop where
  d_balanced : Df K mg "balanced" s_balanced ["lines"]
  d__law_cell : Df K mg "_law_cell" s__law_cell ["_law_script", "_law_k"]
  d__law_currency : Df K mg "_law_currency" s__law_currency ["_law_cell_here", "_law_more"]
  d__law_line : Df K mg "_law_line" s__law_line ["_law_cell_here", "_law_more"]
  d__law_sum : Df K mg "_law_sum" s__law_sum ["_law_lines", "_law_currency_here"]
  d_law : Df K mg "law" s_law ["_law_script"]
  b_any : mg "any" = none
  b_bool : mg "bool" = none
  b_isinstance : mg "isinstance" = none
  b_len : mg "len" = none
  b_list : mg "list" = none
  b_range : mg "range" = none
  b_tuple : mg "tuple" = none
section
variable {P : Program} {w : World} {K : PySem.W.Frag} {mg : Str → Option Value} {base : Heap}
/-! ### promises -/
def spBal (K : PySem.W.Frag) : Sp := fun vs H Q _ => ∃ (a : Addr) (rs : List Addr) (L : List Line), vs = [.ref a] ∧ (SqL K H a (rs.map V.ref) ∨ SqT K H a (rs.map V.ref)) ∧ LinesIn K H rs L ∧ L.length ≤ 1000 ∧
  ∀ H', Ex H H' → Q (.bl (balB L)) H'
def spSum (K : PySem.W.Frag) : Sp := fun vs H Q _ => ∃ (a : Addr) (c : Str) (rs : List Addr) (L : List Line), vs = [.ref a, .str c] ∧ SqL K H a (rs.map V.ref) ∧ LinesIn K H rs L ∧ Q (.int (sumOf c L)) H
def upper : List Nat := [65, 66, 67, 68, 69, 70, 71, 72, 73, 74, 75, 76, 77, 78, 79, 80, 81, 82, 83, 84, 85, 86, 87, 88, 89, 90]
def up (i : Int) : Nat := upper.getD i.toNat 0
def curS (c m : Int) : Str := ⟨#[up (c % 20), up ((m + 7 * c) % 26), up (m / 26 % 26)]⟩
def spCur : Sp := fun vs H Q _ => ∃ c m : Int, vs = [.int c, .int m] ∧ Q (.str (curS c m)) H
def spLine : Sp := fun vs H Q _ => ∃ c m : Int, vs = [.int c, .int m] ∧ ∀ (r : Addr) (l : Line), H r = none → lineOk l = true → l.2.1 = curS (c % 20) m → Q (.ref r) (upd H r (.tup (lineV l)))
def spLaw (K : PySem.W.Frag) : Sp := fun vs H Q _ => ∃ (a : Addr) (ns : List Int), vs = [.ref a] ∧ SqL K H a (ns.map V.int) ∧ ns.length ≤ 63 ∧ ∀ H', Q (.bl true) H'
theorem cell_mod {x m : Int} (h : 0 < m) : 0 ≤ x % m ∧ x % m < m := ⟨Int.emod_nonneg _ (by omega), Int.emod_lt_of_pos _ h⟩
theorem cpow {j : Int} (h : 0 ≤ j ∧ j ≤ 1000) : CPow 10 j := ⟨h.1, by omega, by decide⟩
theorem ofUpper : (Str.ofString "ABCDEFGHIJKLMNOPQRSTUVWXYZ").cps.toList = upper := by decide +kernel
theorem at_list {α : Type} {zs : List α} {i : Int} (d : α) (h0 : 0 ≤ i) (h1 : i < zs.length) : atI zs i = some (zs.getD i.toNat d) := by
  have hj : i.toNat < zs.length := by omega
  have e := atI_nat (xs := zs) (j := i.toNat) (v := zs.getD i.toNat d) (by
    rw [List.getD_eq_getElem?_getD, List.getElem?_eq_getElem hj]
    rfl)
  rw [Int.toNat_of_nonneg h0] at e
  exact e
theorem at_up {i : Int} (h : 0 ≤ i ∧ i < 26) : atI (Str.ofString "ABCDEFGHIJKLMNOPQRSTUVWXYZ").cps.toList i = some (up i) := by
  rw [ofUpper]
  exact at_list 0 h.1 h.2
theorem up_ok {i : Int} : up i < 0x110000 := by
  have h : ∀ x ∈ upper, x < 0x110000 := by decide
  unfold up
  rw [List.getD_eq_getElem?_getD]
  cases e : upper[i.toNat]? with
  | none => decide
  | some x => exact h x (List.mem_of_getElem? e)
theorem curS_ok (c m : Int) : PyData.strOk (curS c m) = true := by
  show (#[up (c % 20), up ((m + 7 * c) % 26), up (m / 26 % 26)] : Array Nat).all (· < 0x110000) = true
  rw [← Array.all_toList]
  show (decide _ && (decide _ && (decide _ && true))) = true
  rw [decide_eq_true up_ok, decide_eq_true up_ok, decide_eq_true up_ok]
  rfl
theorem cut_map (ns : List Int) (lo hi : Option Int) : ∃ ms : List Int, cutV (ns.map V.int) lo hi = ms.map V.int ∧ ms.length ≤ ns.length := by
  refine ⟨(ns.drop (HT.sIx (ns.map V.int).length 0 lo)).take (HT.sIx (ns.map V.int).length (ns.map V.int).length hi - HT.sIx (ns.map V.int).length 0 lo), ?_, ?_⟩
  · unfold cutV
    rw [← List.map_drop, ← List.map_take]
  · rw [List.length_take, List.length_drop]
    omega
/-- balanced; slots ["lines", "sums", "_", "currency", "amount"] -/
theorem kn_balanced (B : Bs K mg) : Kn P w K mg base 1 "balanced" (spBal K) := by
  refine B.d_balanced.ok sc_balanced (fun vs H Q E h => ?_) (fun f cdv A outer s H vs Q E hr h => ?_)
  · obtain ⟨a, rs, L, rfl, _⟩ := h; rfl
  · obtain ⟨a, rs, L, rfl, hS, hL, hl, q⟩ := h
    have hlr : rs.length = L.length := Paired.length hL
    have small : L.length < sizeLine := Nat.lt_of_le_of_lt hl (by decide)
    rcases hS with hS | hS
    · refine ⟨_, (pss_cons (ps_set (i := 1) sc_balanced.nd rfl (Or.inl rfl) (pe_dnewK))
      (pss_cons (ps_for PassesOwn.never rfl (pi_list (pv 0)) (pg_tup rfl (pgs_cons (pg_name (i := 2) sc_balanced.nd rfl (Or.inl rfl)) (pgs_cons (pg_name (i := 3) sc_balanced.nd rfl (Or.inl rfl)) (pgs_cons (pg_name (i := 4) sc_balanced.nd rfl (Or.inl rfl)) pgs_nil)))) (pss_one (ps_dput (hu_of hr) (pv 1) (pv 3) (pe_op op_add (pe_dget2 (hu_of hr) (pv 1) (pv 3) pe_int ⟨rfl, rfl, rfl, rfl⟩) (pv 4)) rfl)))
      (pss_one (ps_ret (pe_not (pe_anyVals rfl (by rfl) B.b_any (pv 1))))))), ?_⟩
      intro d hd
      refine ⟨_, rfl, a, rfl, ⟨_, ex_l (Ex.new hd) hS⟩, for_list (K := K) (a := a) (xs := rs.map V.ref) (fun i σ H' => Ex H H' ∧ ∃ y2 y3 y4 kvs, σ = [some (.ref a), some (.ref d), y2, y3, y4] ∧ H' d = some (.dK kvs) ∧ Tally kvs (L.take i))
        ⟨Ex.new hd, none, none, none, [], rfl, upd_same, Tally.nil⟩ (fun i σ H' _ h => ex_l h.1 hS) ?_ ?_⟩
      · rintro i x σ H' hi ⟨e, y2, y3, y4, kvs, rfl, h1, T⟩
        obtain ⟨r, hr1, rfl⟩ := refs_get hi
        obtain ⟨l, hl1, ht⟩ := pr_get hL hr1
        have ht := ex_t e ht
        have il : i < L.length := (List.getElem?_eq_some_iff.mp hl1).1
        have tl : (L.take i).length = i := by rw [List.length_take]; omega
        have T2 := T.put l
        rw [← take_snoc hl1] at T2
        refine ⟨r, _, rfl, ht, rfl, _, _, rfl, _, _, rfl, _, _, rfl, rfl, ?_⟩
        refine ⟨_, rfl, d, rfl, .inl ⟨kvs, .inl h1⟩, _, rfl, _, DGet.k (k := Sum.inr l.2.1) h1, _, rfl, _, _, T.old l.2.1, rfl, _, rfl, _, rfl, d, _, rfl, DPut.k (k := Sum.inr l.2.1) h1 (by have := T.len; omega), ?_⟩
        refine ⟨?_, _, _, _, _, rfl, upd_same, T2⟩
        exact Ex.mut e hd
      · rintro σ H' ⟨e, y2, y3, y4, kvs, rfl, h1, T⟩
        rw [List.take_of_length_le (by rw [List.length_map]; omega)] at T
        refine ⟨_, rfl, d, kvs, _, rfl, h1, T.vals, _, rfl, ?_⟩
        rw [T.any]
        exact q H' e
    · refine ⟨_, (pss_cons (ps_set (i := 1) sc_balanced.nd rfl (Or.inl rfl) (pe_dnewK))
      (pss_cons (ps_for PassesOwn.never rfl (pi_tup (pv 0)) (pg_tup rfl (pgs_cons (pg_name (i := 2) sc_balanced.nd rfl (Or.inl rfl)) (pgs_cons (pg_name (i := 3) sc_balanced.nd rfl (Or.inl rfl)) (pgs_cons (pg_name (i := 4) sc_balanced.nd rfl (Or.inl rfl)) pgs_nil)))) (pss_one (ps_dput (hu_of hr) (pv 1) (pv 3) (pe_op op_add (pe_dget2 (hu_of hr) (pv 1) (pv 3) pe_int ⟨rfl, rfl, rfl, rfl⟩) (pv 4)) rfl)))
      (pss_one (ps_ret (pe_not (pe_anyVals rfl (by rfl) B.b_any (pv 1))))))), ?_⟩
      intro d hd
      refine ⟨_, rfl, a, rfl, ⟨_, ex_t (Ex.new hd) hS⟩, for_tup (K := K) (a := a) (xs := rs.map V.ref) (fun i σ H' => Ex H H' ∧ ∃ y2 y3 y4 kvs, σ = [some (.ref a), some (.ref d), y2, y3, y4] ∧ H' d = some (.dK kvs) ∧ Tally kvs (L.take i))
        ⟨Ex.new hd, none, none, none, [], rfl, upd_same, Tally.nil⟩ (fun i σ H' _ h => ex_t h.1 hS) ?_ ?_⟩
      · rintro i x σ H' hi ⟨e, y2, y3, y4, kvs, rfl, h1, T⟩
        obtain ⟨r, hr1, rfl⟩ := refs_get hi
        obtain ⟨l, hl1, ht⟩ := pr_get hL hr1
        have ht := ex_t e ht
        have il : i < L.length := (List.getElem?_eq_some_iff.mp hl1).1
        have tl : (L.take i).length = i := by rw [List.length_take]; omega
        have T2 := T.put l
        rw [← take_snoc hl1] at T2
        refine ⟨r, _, rfl, ht, rfl, _, _, rfl, _, _, rfl, _, _, rfl, rfl, ?_⟩
        refine ⟨_, rfl, d, rfl, .inl ⟨kvs, .inl h1⟩, _, rfl, _, DGet.k (k := Sum.inr l.2.1) h1, _, rfl, _, _, T.old l.2.1, rfl, _, rfl, _, rfl, d, _, rfl, DPut.k (k := Sum.inr l.2.1) h1 (by have := T.len; omega), ?_⟩
        refine ⟨?_, _, _, _, _, rfl, upd_same, T2⟩
        exact Ex.mut e hd
      · rintro σ H' ⟨e, y2, y3, y4, kvs, rfl, h1, T⟩
        rw [List.take_of_length_le (by rw [List.length_map]; omega)] at T
        refine ⟨_, rfl, d, kvs, _, rfl, h1, T.vals, _, rfl, ?_⟩
        rw [T.any]
        exact q H' e
/-- _law_cell; slots ["_law_script", "_law_k"] -/
theorem kn__law_cell (B : Bs K mg) : Kn P w K mg base 1 "_law_cell" (spCell K) := by
  refine B.d__law_cell.ok sc__law_cell (fun vs H Q E h => ?_) (fun f cdv A outer s H vs Q E hr h => ?_)
  · obtain ⟨l, ns, j, rfl, _⟩ := h; rfl
  · obtain ⟨l, ns, j, rfl, hS, q⟩ := h
    refine ⟨_, (pss_cons (ps_if (pt_cmpR op_lt (pv 1) (pe_callB call_len_seq (by rfl) B.b_len (by decide +kernel) (pa_cons (pv 0) pa_nil)) (nomark _)) (pss_one (ps_ret (pe_ix ix_list (pv 0) (pv 1) (fun _ _ => rfl)))) pss_nil)
      (pss_one (ps_ret pe_int))), ?_⟩
    refine ⟨_, rfl, _, rfl, l, ns.map V.int, rfl, .inl hS, _, _, rfl, rfl, _, rfl, ite2 (fun e => ?_) (fun e => ?_)⟩
    · have e1 := of_decide_eq_true e
      rw [List.length_map] at e1
      exact ⟨_, rfl, _, rfl, l, _, _, _, rfl, rfl, hS, atI_cell (by omega), q⟩
    · have e1 : ¬ j < ns.length := fun z => e (decide_eq_true (by rw [List.length_map]; omega))
      rw [cell_out e1] at q
      exact q
/-- _law_currency; slots ["_law_cell_here", "_law_more", "_law_signs", "_law_found"] -/
theorem kn__law_currency (B : Bs K mg) : Kn P w K mg base 1 "_law_currency" spCur := by
  refine B.d__law_currency.ok sc__law_currency (fun vs H Q E h => ?_) (fun f cdv A outer s H vs Q E hr h => ?_)
  · obtain ⟨c, m, rfl, _⟩ := h; rfl
  · obtain ⟨c, m, rfl, q⟩ := h
    refine ⟨_, (pss_cons (ps_set (i := 2) sc__law_currency.nd rfl (Or.inl rfl) pe_str)
      (pss_cons (ps_set (i := 3) sc__law_currency.nd rfl (Or.inl rfl) (pe_ix ix_str (pv 2) (pe_op op_mod (pv 0) pe_int) (fun _ _ => rfl)))
      (pss_cons (ps_set (i := 3) sc__law_currency.nd rfl (Or.inl rfl) (pe_op op_add_str (pv 3) (pe_ix ix_str (pv 2) (pe_op op_mod (pe_op op_add (pv 1) (pe_op op_mul pe_int (pv 0))) pe_int) (fun _ _ => rfl))))
      (pss_one (ps_ret (pe_op op_add_str (pv 3) (pe_ix ix_str (pv 2) (pe_op op_mod (pe_op op_fdivW (pv 1) pe_int) pe_int) (fun _ _ => rfl)))))))), ?_⟩
    have z : (Str.ofString "ABCDEFGHIJKLMNOPQRSTUVWXYZ").length ≤ sizeLine := by decide +kernel
    have c1 := cell_mod (x := c) (m := 20) (by decide)
    have c2 := cell_mod (x := m + 7 * c) (m := 26) (by decide)
    have c3 := cell_mod (x := m / 26) (m := 26) (by decide)
    refine ⟨_, rfl, _, rfl, _, _, rfl, rfl, by show (0 : Int) < 20; decide, _, _, _, rfl, rfl, z, at_up (by omega), ?_⟩
    refine ⟨_, rfl, _, rfl, _, rfl, _, rfl, _, _, rfl, rfl, .inl ⟨by decide, by decide⟩, _, _, rfl, rfl, _, _, rfl, rfl, by show (0 : Int) < 26; decide, _, _, _, rfl, rfl, z, at_up c2, _, _, rfl, rfl, by show 1 + 1 ≤ sizeLine; decide, ?_⟩
    refine ⟨_, rfl, _, rfl, _, rfl, _, _, rfl, rfl, wide_div (by decide) (b := 5) (by decide) (by decide) (by decide), _, _, rfl, rfl, by show (0 : Int) < 26; decide, _, _, _, rfl, rfl, z, at_up c3, _, _, rfl, rfl, by show 2 + 1 ≤ sizeLine; decide, ?_⟩
    exact q
/-- _law_line; slots ["_law_cell_here", "_law_more", "_law_amount"] -/
theorem kn__law_line (B : Bs K mg) : Kn P w K mg base 2 "_law_line" spLine := by
  have c__law_currency : Kn P w K mg base 1 "_law_currency" spCur := kn__law_currency B
  refine B.d__law_line.ok sc__law_line (fun vs H Q E h => ?_) (fun f cdv A outer s H vs Q E hr h => ?_)
  · obtain ⟨c, m, rfl, _⟩ := h; rfl
  · obtain ⟨c, m, rfl, q⟩ := h
    refine ⟨_, (pss_cons (ps_set (i := 2) sc__law_line.nd rfl (Or.inl rfl) (pe_op op_sub (pe_op op_mod (pe_op op_mul (pv 0) pe_int) (pe_op op_add (pe_op op_mulW pe_int (pe_op op_pow pe_int pe_int)) pe_int)) (pe_op op_pow pe_int pe_int)))
      (pss_cut (ps_if (pt_cmpR op_eq (pe_op op_mod (pe_op op_fdivW (pv 0) pe_int) pe_int) pe_int (nomark _)) (pss_one (ps_set (i := 2) sc__law_line.nd rfl (Or.inl rfl) (pe_op op_sub (pe_op op_mod (pe_op op_fdivW (pv 0) pe_int) pe_int) pe_int))) pss_nil)
      (pss_one (ps_ret (pe_tup (pa_cons (pe_ix ix_str pe_str (pe_op op_mod (pe_op op_fdivW (pv 0) pe_int) pe_int) (fun _ _ => rfl)) (pa_cons (pc1 c__law_currency hr (by decide) rfl (pa_cons (pe_op op_mod (pv 0) pe_int) (pa_cons (pv 1) pa_nil))) (pa_cons (pv 2) pa_nil)))))))), ?_⟩
    refine ⟨_, rfl, _, _, rfl, rfl, .inr ⟨by decide, by decide⟩, _, _, rfl, rfl, cpow (by decide), _, _, rfl, rfl, wide_mul (a := 2) (b := 200) (by decide) (by decide) (by decide) (by decide) (by decide), _, _, rfl, rfl, _, _, rfl, rfl, by show (0 : Int) < 2 * 10 ^ (30 : Int).toNat + 1; decide, _, _, rfl, rfl, cpow (by decide), _, _, rfl, rfl, ?_⟩
    refine ⟨fun σ H' => H' = H ∧ ∃ n : Int, σ = [some (.int c), some (.int m), some (.int n)], ?_, ?_⟩
    · refine ⟨_, rfl, _, _, rfl, rfl, wide_div (by decide) (b := 2) (by decide) (by decide) (by decide), _, _, rfl, rfl, by show (0 : Int) < 2; decide, rfl, _, rfl, ite2 (fun _ => ?_) (fun _ => ?_)⟩
      · exact ⟨_, rfl, _, _, rfl, rfl, wide_div (by decide) (b := 3) (by decide) (by decide) (by decide), _, _, rfl, rfl, by show (0 : Int) < 9; decide, _, _, rfl, rfl, rfl, _, rfl⟩
      · exact ⟨rfl, _, rfl⟩
    rintro σ H' ⟨rfl, n, rfl⟩
    have c3 := cell_mod (x := c / 5) (m := 26) (by decide)
    have ez : (Str.ofString "abcdefghijklmnopqrstuvwxyz").cps.toList = [97, 98, 99, 100, 101, 102, 103, 104, 105, 106, 107, 108, 109, 110, 111, 112, 113, 114, 115, 116, 117, 118, 119, 120, 121, 122] := by decide +kernel
    have hx : atI (Str.ofString "abcdefghijklmnopqrstuvwxyz").cps.toList (c / 5 % 26) = some ([97, 98, 99, 100, 101, 102, 103, 104, 105, 106, 107, 108, 109, 110, 111, 112, 113, 114, 115, 116, 117, 118, 119, 120, 121, 122].getD (c / 5 % 26).toNat 0) := by
      rw [ez]
      exact at_list 0 c3.1 c3.2
    have hk : [97, 98, 99, 100, 101, 102, 103, 104, 105, 106, 107, 108, 109, 110, 111, 112, 113, 114, 115, 116, 117, 118, 119, 120, 121, 122].getD (c / 5 % 26).toNat 0 < 0x110000 := by
      have h : ∀ x ∈ [97, 98, 99, 100, 101, 102, 103, 104, 105, 106, 107, 108, 109, 110, 111, 112, 113, 114, 115, 116, 117, 118, 119, 120, 121, 122], x < 0x110000 := by decide
      rw [List.getD_eq_getElem?_getD]
      cases e : [97, 98, 99, 100, 101, 102, 103, 104, 105, 106, 107, 108, 109, 110, 111, 112, 113, 114, 115, 116, 117, 118, 119, 120, 121, 122][(c / 5 % 26).toNat]? with
      | none => decide
      | some x => exact h x (List.mem_of_getElem? e)
    refine ⟨_, rfl, _, _, rfl, rfl, wide_div (by decide) (b := 4) (by decide) (by decide) (by decide), _, _, rfl, rfl, by show (0 : Int) < 26; decide, _, _, _, rfl, rfl, by decide +kernel, hx, _, rfl, _, _, rfl, rfl, by show (0 : Int) < 20; decide, _, rfl, _, _, rfl, _, rfl, by show 3 ≤ sizeLine; decide, fun r hr1 => ?_⟩
    refine q r (⟨#[_]⟩, _, n) hr1 ?_ rfl
    show (PyData.strOk ⟨#[_]⟩ && PyData.strOk (curS _ _)) = true
    rw [curS_ok, Bool.and_true]
    show (#[_] : Array Nat).all (· < 0x110000) = true
    rw [← Array.all_toList]
    show (decide _ && true) = true
    rw [decide_eq_true hk]
    rfl
/-- _law_sum; slots ["_law_lines", "_law_currency_here", "_law_found", "_law_line_here"] -/
theorem kn__law_sum (B : Bs K mg) : Kn P w K mg base 1 "_law_sum" (spSum K) := by
  refine B.d__law_sum.ok sc__law_sum (fun vs H Q E h => ?_) (fun f cdv A outer s H vs Q E hr h => ?_)
  · obtain ⟨a, c, rs, L, rfl, _⟩ := h; rfl
  · obtain ⟨a, c, rs, L, rfl, hS, hL, q⟩ := h
    have hlr : rs.length = L.length := Paired.length hL
    refine ⟨_, (pss_cons (ps_set (i := 2) sc__law_sum.nd rfl (Or.inl rfl) pe_int)
      (pss_cons (ps_for PassesOwn.never rfl (pi_list (pv 0)) (pg_name (i := 3) sc__law_sum.nd rfl (Or.inl rfl)) (pss_one (ps_if (pt_cmpR op_eq (pe_ix ix_tup (pv 3) pe_int (fun _ _ => rfl)) (pv 1) (nomark _)) (pss_one (ps_set (i := 2) sc__law_sum.nd rfl (Or.inl rfl) (pe_op op_add (pv 2) (pe_ix ix_tup (pv 3) pe_int (fun _ _ => rfl))))) pss_nil)))
      (pss_one (ps_ret (pv 2))))), ?_⟩
    refine ⟨_, rfl, a, rfl, ⟨_, hS⟩, for_list (K := K) (a := a) (xs := rs.map V.ref) (fun i σ H' => H' = H ∧ ∃ y, σ = [some (.ref a), some (.str c), some (.int (sumOf c (L.take i))), y])
      ⟨rfl, none, rfl⟩ (fun i σ H' _ h => by rw [h.1]; exact hS) ?_ ?_⟩
    · rintro i x σ H' hi ⟨rfl, y, rfl⟩
      obtain ⟨r, hr1, rfl⟩ := refs_get hi
      obtain ⟨l, hl1, ht⟩ := pr_get hL hr1
      have es : sumOf c (L.take (i + 1)) = sumOf c (L.take i) + (if l.2.1 = c then l.2.2 else 0) := by
        rw [take_snoc hl1, sumOf_append, sumOf_one]
      refine ⟨_, rfl, _, _, _, _, rfl, rfl, ht, atI_nat (j := 1) rfl, _, rfl, rfl, _, rfl, ite2 (fun e => ?_) (fun e => ?_)⟩
      · have e1 : l.2.1 = c := V.str.inj (of_decide_eq_true e)
        rw [if_pos e1] at es
        refine ⟨_, rfl, _, rfl, _, _, _, _, rfl, rfl, ht, atI_nat (j := 2) rfl, _, _, rfl, rfl, rfl, some (.ref r), ?_⟩
        rw [es]
        rfl
      · have e1 : ¬ l.2.1 = c := fun z => e (decide_eq_true (congrArg V.str z))
        rw [if_neg e1] at es
        refine ⟨rfl, some (.ref r), ?_⟩
        rw [es, Int.add_zero]
        rfl
    · rintro σ H' ⟨rfl, y, rfl⟩
      rw [List.take_of_length_le (by rw [List.length_map]; omega)]
      exact ⟨_, rfl, q⟩
structure LS (K : PySem.W.Frag) (H : Hp) (D : Addr) (rs : List Addr) (L : List Line) (m : Int) : Prop where
  at' : H D = some (.lst (rs.map V.ref))
  inn : LinesIn K H rs L
  good : ∀ l ∈ L, lineOk l = true ∧ ∃ k : Nat, k < 20 ∧ l.2.1 = curS (k : Int) m
theorem LS.ex {K : PySem.W.Frag} {H H' : Hp} {D : Addr} {rs : List Addr} {L : List Line} {m : Int} (S : LS K H D rs L m) (e : Ex H H') : LS K H' D rs L m := ⟨e D _ S.at', S.inn.ex e, S.good⟩
theorem LS.add {K : PySem.W.Frag} {H : Hp} {D r : Addr} {rs : List Addr} {L : List Line} {m : Int} {l : Line} (S : LS K H D rs L m) (hr : H r = none) (ok : lineOk l = true) {k : Nat} (hk : k < 20) (hc : l.2.1 = curS (k : Int) m) :
    LS K (upd (upd H r (.tup (lineV l))) D (.lst (rs.map V.ref ++ [.ref r]))) D (rs ++ [r]) (L ++ [l]) m := by
  have e1 := Ex.new (o := .tup (lineV l)) hr
  have h1 := e1 D _ S.at'
  refine ⟨?_, ?_, ?_⟩
  · rw [upd_same, List.map_append]
    rfl
  · exact LinesIn.mut h1 ((S.inn.ex e1).snoc (st_of upd_same))
  · intro x hx
    rcases List.mem_append.mp hx with h | h
    · exact S.good x h
    · rw [List.mem_singleton.mp h]
      exact ⟨ok, k, hk, hc⟩
/-- another list with the same lines stays -/
theorem LS.other {K : PySem.W.Frag} {H : Hp} {D b r : Addr} {rs ts : List Addr} {L M : List Line} {m : Int} {l : Line} {o : HO} (S : LS K H D rs L m) (T : LS K H b ts M m) (ne : D ≠ b) (hr : H r = none) :
    LS K (upd (upd H r (.tup (lineV l))) b o) D rs L m := by
  have e1 := Ex.new (o := .tup (lineV l)) hr
  refine ⟨?_, ?_, S.good⟩
  · rw [upd_ne ne]
    exact e1 D _ S.at'
  · exact LinesIn.mut (e1 b _ T.at') (S.inn.ex e1)
def dueB (L : List Line) (m : Int) (i : Nat) : Bool := (List.range i).all fun k => decide (sumOf (curS ((k : Nat) : Int) m) L = 0)
theorem dueB_no {L : List Line} {m : Int} {i : Nat} (h : ¬ sumOf (curS (i : Int) m) L = 0) : dueB L m (i + 1) = false := by
  unfold dueB
  rw [List.range_succ, List.all_append, List.all_cons, decide_eq_false h]
  simp
theorem dueB_yes {L : List Line} {m : Int} {i : Nat} (h : sumOf (curS (i : Int) m) L = 0) : dueB L m (i + 1) = dueB L m i := by
  unfold dueB
  rw [List.range_succ, List.all_append, List.all_cons, decide_eq_true h]
  simp
theorem due_bal {L : List Line} {m : Int} (g : ∀ l ∈ L, lineOk l = true ∧ ∃ k : Nat, k < 20 ∧ l.2.1 = curS (k : Int) m) : dueB L m 20 = balB L := by
  rw [Bool.eq_iff_iff, balB_iff]
  unfold dueB
  rw [List.all_eq_true]
  constructor
  · intro h c
    by_cases hc : ∃ l ∈ L, l.2.1 = c
    · obtain ⟨l, hl, rfl⟩ := hc
      obtain ⟨_, k, hk, e⟩ := g l hl
      rw [e]
      exact of_decide_eq_true (h k (List.mem_range.mpr hk))
    · exact sumOf_none fun l hl e => hc ⟨l, hl, e⟩
  · intro h k _
    exact decide_eq_true (h _)
theorem zOk (c m n : Int) (x : Str) (h : PyData.strOk x = true) : lineOk (x, curS c m, n) = true := by
  show (PyData.strOk x && PyData.strOk (curS c m)) = true
  rw [h, curS_ok]
  rfl
/-- law; slots ["_law_script", "_law_way", "_law_more", "_law_less", "_law_lines", "_law_cell_here", "_law_k", "_law_rest", "_law_due", "_law_handed", "_law_found", "_law_again"] -/
theorem fok_law {f : Addr} {fd : FuncData} (F : Fun K "law" "law" s_law f fd) (B : Bs K mg) : FnOk P w K mg base CX0 3 f fd ["_law_script"] (spLaw K) := by
  have c_balanced : Kn P w K mg base 1 "balanced" (spBal K) := kn_balanced B
  have c__law_sum : Kn P w K mg base 1 "_law_sum" (spSum K) := kn__law_sum B
  have c__law_currency : Kn P w K mg base 1 "_law_currency" spCur := kn__law_currency B
  have c__law_line : Kn P w K mg base 2 "_law_line" spLine := kn__law_line B
  have c__law_cell : Kn P w K mg base 1 "_law_cell" (spCell K) := kn__law_cell B
  refine okF F sc_law (fun vs H Q E h => ?_) (fun f cdv A outer s H vs Q E hr h => ?_)
  · obtain ⟨l, ns, rfl, _⟩ := h; rfl
  · obtain ⟨l, ns, rfl, hS, hl, k⟩ := h
    refine ⟨_, (pss_cons (ps_set (i := 1) sc_law.nd rfl (Or.inl rfl) (pe_op op_mod (pc1 c__law_cell hr (by decide) rfl (pa_cons (pv 0) (pa_cons pe_int pa_nil))) pe_int))
      (pss_cons (ps_set (i := 2) sc_law.nd rfl (Or.inr rfl) (pe_op op_mod (pe_op op_fdivW (pc1 c__law_cell hr (by decide) rfl (pa_cons (pv 0) (pa_cons pe_int pa_nil))) pe_int) pe_int))
      (pss_cons (ps_set (i := 3) sc_law.nd rfl (Or.inl rfl) (pe_op op_mod (pe_op op_fdivW (pc1 c__law_cell hr (by decide) rfl (pa_cons (pv 0) (pa_cons pe_int pa_nil))) pe_int) pe_int))
      (pss_cons (ps_setLc (i := 4) (own := [("_law_cell_here", 5)]) (g := gName 5) (tt := tYes) rfl sc_law.nd rfl rfl (sw_true rfl rfl rfl (by decide +kernel)) (pi_list (pe_slice sl_list (pv 0) (po_some pe_int) (po_some pe_int))) (blkOk_by (own := [("_law_cell_here", 5)]) (N := ["_law_script", "_law_way", "_law_more", "_law_less", "_law_lines", "_law_cell_here", "_law_k", "_law_rest", "_law_due", "_law_handed", "_law_found", "_law_again"]) (sc := defScope s_law) (by decide +kernel)) (fun _ _ _ _ _ => (pg_name (i := 5) sc_law.nd rfl (Or.inl rfl))) (fun _ _ _ _ _ => pts_nil) (fun _ _ _ _ _ => (pc1 c__law_line hr (by decide) rfl (pa_cons (pv 5) (pa_cons (pv 2) pa_nil)))))
      (pss_cut (ps_if (pt_cmpR op_gt (pv 1) pe_int (nomark _)) (pss_one (ps_for PassesOwn.never rfl (pi_range1 rfl B.b_range (pa_cons pe_int pa_nil)) (pg_name (i := 6) sc_law.nd rfl (Or.inl rfl)) (pss_cons (ps_set (i := 7) sc_law.nd rfl (Or.inl rfl) (pe_op op_sub pe_int (pc1 c__law_sum hr (by decide) rfl (pa_cons (pv 4) (pa_cons (pc1 c__law_currency hr (by decide) rfl (pa_cons (pv 6) (pa_cons (pv 2) pa_nil))) pa_nil)))))
      (pss_cut (ps_if (PW.pt (pw_and (pt_cmpR op_eq (pv 1) pe_int (nomark _)) (pw_and1 (pt_cmpR op_eq (pv 6) pe_int (nomark _))))) (pss_one (ps_set (i := 7) sc_law.nd rfl (Or.inl rfl) (pe_op op_add (pv 7) pe_int))) pss_nil)
      (pss_cut (ps_if (PW.pt (pw_and (pt_cmpR op_eq (pv 1) pe_int (nomark _)) (pw_and1 (pt_cmpR op_eq (pv 6) pe_int (nomark _))))) (pss_one (ps_set (i := 7) sc_law.nd rfl (Or.inl rfl) (pe_op op_sub (pv 7) (pv 3)))) pss_nil)
      (pss_one (ps_expr (pe_bm PySem.F.plainAttrs_list PySem.F.slot_list_append PySem.F.type_list_append mt_append (pv 4) (pa_cons (pe_tup (pa_cons pe_str (pa_cons (pc1 c__law_currency hr (by decide) rfl (pa_cons (pv 6) (pa_cons (pv 2) pa_nil))) (pa_cons (pv 7) pa_nil)))) pa_nil))))))))) pss_nil)
      (pss_cons (ps_set (i := 8) sc_law.nd rfl (Or.inl rfl) pe_bl)
      (pss_cons (ps_for PassesOwn.never rfl (pi_range1 rfl B.b_range (pa_cons pe_int pa_nil)) (pg_name (i := 6) sc_law.nd rfl (Or.inl rfl)) (pss_one (ps_if (pt_cmpR op_ne (pc1 c__law_sum hr (by decide) rfl (pa_cons (pv 4) (pa_cons (pc1 c__law_currency hr (by decide) rfl (pa_cons (pv 6) (pa_cons (pv 2) pa_nil))) pa_nil))) pe_int (nomark _)) (pss_one (ps_set (i := 8) sc_law.nd rfl (Or.inl rfl) pe_bl)) pss_nil)))
      (pss_cons (ps_set (i := 9) sc_law.nd rfl (Or.inl rfl) (pe_callTy call_list_of (by rfl) B.b_list (by decide +kernel) (pa_cons (pv 4) pa_nil)))
      (pss_cons (ps_set (i := 10) sc_law.nd rfl (Or.inl rfl) (pc1 c_balanced hr (by decide) rfl (pa_cons (pv 9) pa_nil)))
      (pss_cons (ps_set (i := 11) sc_law.nd rfl (Or.inl rfl) (pc1 c_balanced hr (by decide) rfl (pa_cons (pe_callTy call_tuple_of (by rfl) B.b_tuple (by decide +kernel) (pa_cons (pv 4) pa_nil)) pa_nil)))
      (pss_cons (ps_if (PW.pt (pw_or (pt_not (pt_val (pe_callB call_isi (by rfl) B.b_isinstance (by decide +kernel) (pa_cons (pv 10) (pa_cons (pe_bltn (v := .ty "bool") (by rfl) B.b_bool (by decide +kernel) rfl) pa_nil))))) (pw_or1 (pt_not (pt_val (pe_callB call_isi (by rfl) B.b_isinstance (by decide +kernel) (pa_cons (pv 11) (pa_cons (pe_bltn (v := .ty "bool") (by rfl) B.b_bool (by decide +kernel) rfl) pa_nil)))))))) (pss_one (ps_ret pe_bl)) pss_nil)
      (pss_cons (ps_if (PW.pt (pw_or (pt_cmpR (op_neD hr.units) (pv 9) (pv 4) (nomark _)) (pw_or (pt_cmpR op_ne (pv 10) (pv 8) (nomark _)) (pw_or1 (pt_cmpR op_ne (pv 11) (pv 8) (nomark _)))))) (pss_one (ps_ret pe_bl)) pss_nil)
      (pss_cons (ps_set (i := 7) sc_law.nd rfl (Or.inl rfl) (pc1 c__law_sum hr (by decide) rfl (pa_cons (pv 4) (pa_cons (pc1 c__law_currency hr (by decide) rfl (pa_cons pe_int (pa_cons (pv 2) pa_nil))) pa_nil))))
      (pss_cons (ps_expr (pe_bm PySem.F.plainAttrs_list PySem.F.slot_list_append PySem.F.type_list_append mt_append (pv 9) (pa_cons (pe_tup (pa_cons pe_str (pa_cons (pc1 c__law_currency hr (by decide) rfl (pa_cons pe_int (pa_cons (pv 2) pa_nil))) (pa_cons (pe_op op_sub pe_int (pv 7)) pa_nil)))) pa_nil)))
      (pss_cons (ps_expr (pe_bm PySem.F.plainAttrs_list PySem.F.slot_list_append PySem.F.type_list_append mt_append (pv 4) (pa_cons (pe_tup (pa_cons pe_str (pa_cons (pc1 c__law_currency hr (by decide) rfl (pa_cons pe_int (pa_cons (pv 2) pa_nil))) (pa_cons (pe_op op_sub pe_int (pv 7)) pa_nil)))) pa_nil)))
      (pss_cons (ps_set (i := 8) sc_law.nd rfl (Or.inl rfl) pe_bl)
      (pss_cons (ps_for PassesOwn.never rfl (pi_range1 rfl B.b_range (pa_cons pe_int pa_nil)) (pg_name (i := 6) sc_law.nd rfl (Or.inl rfl)) (pss_one (ps_if (pt_cmpR op_ne (pc1 c__law_sum hr (by decide) rfl (pa_cons (pv 4) (pa_cons (pc1 c__law_currency hr (by decide) rfl (pa_cons (pv 6) (pa_cons (pv 2) pa_nil))) pa_nil))) pe_int (nomark _)) (pss_one (ps_set (i := 8) sc_law.nd rfl (Or.inl rfl) pe_bl)) pss_nil)))
      (pss_one (ps_ret (pe_and (pe_not (pc1 c_balanced hr (by decide) rfl (pa_cons (pv 9) pa_nil))) (pe_one (pe_cmpR op_eq (pc1 c_balanced hr (by decide) rfl (pa_cons (pv 4) pa_nil)) (pv 8) (nomark _))))))))))))))))))))))), ?_⟩
    -- way, more, less
    refine ⟨_, rfl, l, ns, 0, rfl, hS, _, _, rfl, rfl, by show (0 : Int) < 4; decide, ?_⟩
    refine ⟨_, rfl, l, ns, 0, rfl, hS, _, _, rfl, rfl, wide_div (by decide) (b := 4) (by decide) (by decide) (by decide), _, _, rfl, rfl, by show (0 : Int) < 676; decide, ?_⟩
    refine ⟨_, rfl, l, ns, 0, rfl, hS, _, _, rfl, rfl, wide_div (by decide) (b := 4) (by decide) (by decide) (by decide), _, _, rfl, rfl, by show (0 : Int) < 2; decide, ?_⟩
    dsimp only
    generalize cellOf ns 0 / 8 % 676 = m
    -- lines
    obtain ⟨ms, e1, e2⟩ := cut_map ns (some 1) (some 56)
    refine ⟨_, rfl, 1, rfl, 56, rfl, l, _, rfl, hS, fun p hp => ?_⟩
    rw [e1]
    refine ⟨p, rfl, ⟨_, sq_of upd_same⟩, fun D hD => ?_⟩
    have hpl : (upd H p (.lst (ms.map V.int))) p = some (.lst (ms.map V.int)) := upd_same
    generalize upd H p (.lst (ms.map V.int)) = H1 at hD hpl ⊢
    refine lc_list (K := K) (a := p) (xs := ms.map V.int) (fun i H' => Ex H1 H' ∧ ∃ rs L, LS K H' D rs L m ∧ L.length = i) ⟨Ex.new hD, [], [], ⟨upd_same, .nil, fun _ h => absurd h (by simp)⟩, rfl⟩ (fun i H' _ h => sq_of (h.1 p _ hpl)) ?_ ?_
    · rintro i x H' hi ⟨ex1, rs, L, S, hlen⟩
      obtain ⟨c, hc, rfl⟩ := ints_get hi
      have hil : i < ms.length := (List.getElem?_eq_some_iff.mp hc).1
      refine ⟨rfl, ?_⟩
      refine ⟨_, rfl, _, rfl, c, m, rfl, fun r ln hr1 ok cu => ?_⟩
      have c0 := cell_mod (x := c) (m := 20) (by decide)
      have S2 := S.add hr1 ok (k := (c % 20).toNat) (by omega) (by rw [cu, Int.toNat_of_nonneg c0.1])
      refine ⟨_, Ex.new hr1 D _ S.at', ?_, ?_, _, _, S2, by rw [List.length_append, hlen]; rfl⟩
      · rw [List.length_map, Paired.length S.inn, hlen]
        exact Nat.lt_of_le_of_lt (show i ≤ 63 by omega) (by decide)
      · exact Ex.mut (ex1.trans (Ex.new hr1)) hD
    rintro H2 ⟨ex1, rs, L, S, hlen⟩
    rw [List.length_map] at hlen
    -- a line for each currency
    refine ⟨fun σ H' => ∃ rs L y6 y7, LS K H' D rs L m ∧ L.length ≤ 90 ∧ σ = [some (.ref l), some (.int (cellOf ns 0 % 4)), some (.int m), some (.int (cellOf ns 0 / 4 % 2)), some (.ref D), none, y6, y7, none, none, none, none], ?_, ?_⟩
    · refine ⟨_, rfl, _, _, rfl, rfl, _, rfl, ite2 (fun _ => ?_) (fun _ => ?_)⟩
      · refine ⟨20, rfl, by decide, by decide, for_range (n := 20) (fun i σ H' => ∃ rs L y6 y7, LS K H' D rs L m ∧ L.length = ms.length + i ∧ σ = [some (.ref l), some (.int (cellOf ns 0 % 4)), some (.int m), some (.int (cellOf ns 0 / 4 % 2)), some (.ref D), none, y6, y7, none, none, none, none]) ⟨rs, L, none, none, S, hlen, rfl⟩ ?_ ?_⟩
        · rintro i σ H' hi ⟨rs, L, y6, y7, S, hlen, rfl⟩
          refine ⟨_, rfl, _, rfl, _, rfl, _, _, rfl, D, _, _, L, rfl, sq_of S.at', S.inn, _, _, rfl, rfl, ?_⟩
          refine ⟨fun σ H3 => H3 = H' ∧ ∃ r7, σ = [some (.ref l), some (.int (cellOf ns 0 % 4)), some (.int m), some (.int (cellOf ns 0 / 4 % 2)), some (.ref D), none, some (.int (0 + (i : Int))), some (.int r7), none, none, none, none], ?_, ?_⟩
          · refine ⟨_, rfl, rfl, _, rfl, ite2 (fun _ => ⟨_, rfl, rfl, _, rfl, ite2 (fun _ => ?_) (fun _ => ?_)⟩) (fun _ => iteF ?_)⟩
            · exact ⟨_, rfl, _, _, rfl, rfl, rfl, _, rfl⟩
            · exact ⟨rfl, _, rfl⟩
            · exact ⟨rfl, _, rfl⟩
          rintro σ H' ⟨rfl, r7, rfl⟩
          refine ⟨fun σ H3 => H3 = H' ∧ ∃ r7, σ = [some (.ref l), some (.int (cellOf ns 0 % 4)), some (.int m), some (.int (cellOf ns 0 / 4 % 2)), some (.ref D), none, some (.int (0 + (i : Int))), some (.int r7), none, none, none, none], ?_, ?_⟩
          · refine ⟨_, rfl, rfl, _, rfl, ite2 (fun _ => ⟨_, rfl, rfl, _, rfl, ite2 (fun _ => ?_) (fun _ => ?_)⟩) (fun _ => iteF ?_)⟩
            · exact ⟨_, rfl, _, rfl, _, _, rfl, rfl, rfl, _, rfl⟩
            · exact ⟨rfl, _, rfl⟩
            · exact ⟨rfl, _, rfl⟩
          clear r7
          rintro σ H' ⟨rfl, r7, rfl⟩
          refine ⟨_, rfl, .inl ⟨rfl, _, sq_of S.at'⟩, _, rfl, _, rfl, _, _, rfl, _, rfl, by show 3 ≤ sizeLine; decide, fun r hr1 => ?_⟩
          have S2 := S.add (l := (Str.ofString "z", curS (0 + (i : Int)) m, r7)) hr1 (zOk _ _ _ _ (by decide +kernel)) hi (by rw [Int.zero_add])
          refine ⟨D, _, _, rfl, rfl, Ex.new hr1 D _ S.at', ?_, _, _, _, _, S2, ?_, rfl⟩
          · rw [List.length_map, Paired.length S.inn, hlen]
            exact Nat.lt_of_le_of_lt (show ms.length + i ≤ 83 by omega) (by decide)
          · rw [List.length_append, hlen]
            rfl
        · rintro σ H' ⟨rs, L, y6, y7, S, hlen, rfl⟩
          exact ⟨rs, L, y6, y7, S, by omega, rfl⟩
      · exact ⟨rs, L, none, none, S, by omega, rfl⟩
    clear S hlen L rs ex1 H2
    rintro σ H2 ⟨rs, L, y6, y7, S, hlen, rfl⟩
    -- due
    refine ⟨20, rfl, by decide, by decide, for_range (n := 20) (fun i σ H' => H' = H2 ∧ ∃ y6, σ = [some (.ref l), some (.int (cellOf ns 0 % 4)), some (.int m), some (.int (cellOf ns 0 / 4 % 2)), some (.ref D), none, y6, y7, some (.bl (dueB L m i)), none, none, none]) ⟨rfl, _, rfl⟩ ?_ ?_⟩
    · rintro i σ H' hi ⟨rfl, y6, rfl⟩
      have es : sumOf (curS (0 + (i : Int)) m) L = sumOf (curS (i : Int) m) L := by rw [Int.zero_add]
      refine ⟨_, rfl, _, rfl, _, rfl, _, _, rfl, D, _, _, L, rfl, sq_of S.at', S.inn, rfl, _, rfl, ite2 (fun e => ?_) (fun e => ?_)⟩
      · refine ⟨rfl, some (.int (0 + (i : Int))), ?_⟩
        have e1 : ¬ sumOf (curS (i : Int) m) L = 0 := fun z => by
          rw [nb_f (congrArg V.int (es.trans z))] at e
          cases e
        rw [dueB_no e1]
        rfl
      · refine ⟨rfl, some (.int (0 + (i : Int))), ?_⟩
        have e1 : sumOf (curS (i : Int) m) L = 0 := by
          by_cases z : sumOf (curS (i : Int) m) L = 0
          · exact z
          · exact absurd (nb_t fun y => z (es.symm.trans (V.int.inj y))) e
        rw [dueB_yes e1]
        rfl
    rintro σ H' ⟨rfl, y6, rfl⟩
    -- handed, found, again
    refine ⟨_, rfl, D, _, rfl, .inl (sq_of S.at'), fun b hb => ?_⟩
    have nDb : D ≠ b := ne_of_none S.at' hb
    have T : LS K (upd H' b (.lst (rs.map V.ref))) b rs L m := ⟨upd_same, S.inn.ex (Ex.new hb), S.good⟩
    have S := S.ex (Ex.new (o := .lst (rs.map V.ref)) hb)
    have hL : L.length ≤ 1000 := by omega
    refine ⟨_, rfl, b, rs, L, rfl, .inl (sq_of T.at'), T.inn, hL, fun H3 e3 => ?_⟩
    have T := T.ex e3
    have S := S.ex e3
    refine ⟨_, rfl, D, _, rfl, .inl ⟨sq_of S.at', fun t ht => ?_⟩⟩
    have e4 := Ex.new (o := .tup (rs.map V.ref)) ht
    refine ⟨t, rs, L, rfl, .inr (st_of upd_same), S.inn.ex e4, hL, fun H4 e5 => ?_⟩
    have T := T.ex (e4.trans e5)
    have S := S.ex (e4.trans e5)
    -- bools; the lines stay
    refine ⟨_, rfl, .bl _, .ty "bool", _, _, true, rfl, .ty "bool", .base (.bl _), kit_ty (by decide +kernel), _, rfl, iteF ?_⟩
    refine ⟨_, rfl, .bl _, .ty "bool", _, _, true, rfl, .ty "bool", .base (.bl _), kit_ty (by decide +kernel), _, rfl, iteF ?_⟩
    have sh := lines_shaped (L := L) fun x hx => (S.good x hx).1
    refine ⟨_, rfl, _, rfl, .list (L.map lineD), .list (L.map lineD), .lst (sq_of T.at') T.inn.dp, .lst (sq_of S.at') S.inn.dp, sh, sh, _, rfl, iteBF ?_ ?_⟩
    · rw [SeqAt.eqv_refl _ (SeqAt.canLay_of_shaped sh)]
      rfl
    have ed := due_bal S.good
    refine ⟨_, rfl, _, rfl, rfl, _, rfl, iteBF (nb_f (congrArg V.bl ed.symm)) ?_⟩
    refine ⟨_, rfl, _, rfl, rfl, _, rfl, iteBF (nb_f (congrArg V.bl ed.symm)) ?_⟩
    -- one line more
    refine ⟨_, rfl, _, rfl, _, _, rfl, D, _, _, L, rfl, sq_of S.at', S.inn, ?_⟩
    refine ⟨_, rfl, .inl ⟨rfl, _, sq_of T.at'⟩, _, rfl, _, _, rfl, _, rfl, _, _, rfl, rfl, by show 3 ≤ sizeLine; decide, fun r hr1 => ?_⟩
    have T2 := T.add (l := (Str.ofString "y", curS 3 m, 7 - sumOf (curS 3 m) L)) hr1 (zOk _ _ _ _ (by decide +kernel)) (k := 3) (by decide) rfl
    have S2 := S.other (l := (Str.ofString "y", curS 3 m, 7 - sumOf (curS 3 m) L)) (o := .lst (rs.map V.ref ++ [.ref r])) T nDb hr1
    have hz : (rs.map V.ref).length < sizeLine := by
      rw [List.length_map, Paired.length S.inn]
      exact Nat.lt_of_le_of_lt hlen (by decide)
    refine ⟨b, _, _, rfl, rfl, Ex.new hr1 b _ T.at', hz, ?_⟩
    refine ⟨_, rfl, .inl ⟨rfl, _, sq_of S2.at'⟩, _, rfl, _, _, rfl, _, rfl, _, _, rfl, rfl, by show 3 ≤ sizeLine; decide, fun r2 hr2 => ?_⟩
    have S3 := S2.add (l := (Str.ofString "y", curS 3 m, 0 - sumOf (curS 3 m) L)) hr2 (zOk _ _ _ _ (by decide +kernel)) (k := 3) (by decide) rfl
    have T3 := T2.other (l := (Str.ofString "y", curS 3 m, 0 - sumOf (curS 3 m) L)) (o := .lst (rs.map V.ref ++ [.ref r2])) S2 nDb.symm hr2
    refine ⟨D, _, _, rfl, rfl, Ex.new hr2 D _ S2.at', hz, ?_⟩
    dsimp only
    dsimp only [lineV] at S3 T3
    generalize upd (upd _ r2 _) D _ = H5 at S3 T3 ⊢
    -- due
    refine ⟨20, rfl, by decide, by decide, for_range (n := 20) (fun i σ H' => H' = H5 ∧ ∃ y6, σ = [some (.ref l), some (.int (cellOf ns 0 % 4)), some (.int m), some (.int (cellOf ns 0 / 4 % 2)), some (.ref D), none, y6, some (.int (sumOf (curS 3 m) L)), some (.bl (dueB (L ++ [(Str.ofString "y", curS 3 m, 0 - sumOf (curS 3 m) L)]) m i)), some (.ref b), some (.bl (balB L)), some (.bl (balB L))]) ⟨rfl, _, rfl⟩ ?_ ?_⟩
    · rintro i σ H' hi ⟨rfl, z6, rfl⟩
      have es : sumOf (curS (0 + (i : Int)) m) (L ++ [(Str.ofString "y", curS 3 m, 0 - sumOf (curS 3 m) L)]) = sumOf (curS (i : Int) m) (L ++ [(Str.ofString "y", curS 3 m, 0 - sumOf (curS 3 m) L)]) := by rw [Int.zero_add]
      refine ⟨_, rfl, _, rfl, _, rfl, _, _, rfl, D, _, _, (L ++ [(Str.ofString "y", curS 3 m, 0 - sumOf (curS 3 m) L)]), rfl, sq_of S3.at', S3.inn, rfl, _, rfl, ite2 (fun e => ?_) (fun e => ?_)⟩
      · refine ⟨rfl, some (.int (0 + (i : Int))), ?_⟩
        have e1 : ¬ sumOf (curS (i : Int) m) (L ++ [(Str.ofString "y", curS 3 m, 0 - sumOf (curS 3 m) L)]) = 0 := fun z => by
          rw [nb_f (congrArg V.int (es.trans z))] at e
          cases e
        rw [dueB_no e1]
        rfl
      · refine ⟨rfl, some (.int (0 + (i : Int))), ?_⟩
        have e1 : sumOf (curS (i : Int) m) (L ++ [(Str.ofString "y", curS 3 m, 0 - sumOf (curS 3 m) L)]) = 0 := by
          by_cases z : sumOf (curS (i : Int) m) (L ++ [(Str.ofString "y", curS 3 m, 0 - sumOf (curS 3 m) L)]) = 0
          · exact z
          · exact absurd (nb_t fun y => z (es.symm.trans (V.int.inj y))) e
        rw [dueB_yes e1]
        rfl
    rintro σ H' ⟨rfl, z6, rfl⟩
    have l1 : ∀ x : Line, (L ++ [x]).length ≤ 1000 := fun x => by
      rw [List.length_append]
      show L.length + 1 ≤ 1000
      omega
    refine ⟨_, rfl, b, _, _, rfl, .inl (sq_of T3.at'), T3.inn, l1 _, fun H6 e6 => ?_⟩
    have n1 : balB (L ++ [(Str.ofString "y", curS 3 m, 7 - sumOf (curS 3 m) L)]) = false := by
      cases e : balB (L ++ [(Str.ofString "y", curS 3 m, 7 - sumOf (curS 3 m) L)]) with
      | false => rfl
      | true =>
        have h := balB_iff.mp e (curS 3 m)
        rw [sumOf_append, sumOf_one, if_pos rfl] at h
        have h2 : sumOf (curS 3 m) L + (7 - sumOf (curS 3 m) L) = 0 := h
        omega
    refine ⟨_, rfl, _, rfl, iteBT (by rw [n1]; rfl) ?_⟩
    refine ⟨_, rfl, D, _, _, rfl, .inl (sq_of (S3.ex e6).at'), (S3.ex e6).inn, l1 _, fun H7 e7 => ?_⟩
    refine ⟨_, rfl, rfl, ?_⟩
    exact q_bl (Q := Q) (decide_eq_true (congrArg V.bl (due_bal S3.good).symm)) (k _)

end
theorem all_mk {l : PySem.W.OpenLaw} {w : World} {K : PySem.W.Frag} {h : Heap} {mg : Str → Option Value} {fa : Addr} (X : K.In h) (G : h.Ns mainGlobals mg) (hfa : mg "law" = some (.ref fa))
    {f0 : Addr} {od0 an0 : Option Addr} {sl0 : Array (Option Value)} {oc0 kV0 dc0 pm0 cd0 ct0 : Value}
    (a0 : PySem.W.nsIn K mainGlobals "balanced" = some (some (.ref f0))) (l0 : K.lookup f0 = some ⟨oc0, od0, .func (PySem.W.fnOf "balanced" "balanced" (defArgs s_balanced) (defBody s_balanced) (defScope s_balanced) .none kV0 dc0 pm0 an0 cd0 ct0), sl0⟩) (c0 : PySem.W.codeIn K cd0 "balanced" = true) (k0 : PySem.W.keepIn K (.ref f0) = true)
    {f1 : Addr} {od1 an1 : Option Addr} {sl1 : Array (Option Value)} {oc1 kV1 dc1 pm1 cd1 ct1 : Value}
    (a1 : PySem.W.nsIn K mainGlobals "_law_cell" = some (some (.ref f1))) (l1 : K.lookup f1 = some ⟨oc1, od1, .func (PySem.W.fnOf "_law_cell" "_law_cell" (defArgs s__law_cell) (defBody s__law_cell) (defScope s__law_cell) .none kV1 dc1 pm1 an1 cd1 ct1), sl1⟩) (c1 : PySem.W.codeIn K cd1 "_law_cell" = true) (k1 : PySem.W.keepIn K (.ref f1) = true)
    {f2 : Addr} {od2 an2 : Option Addr} {sl2 : Array (Option Value)} {oc2 kV2 dc2 pm2 cd2 ct2 : Value}
    (a2 : PySem.W.nsIn K mainGlobals "_law_currency" = some (some (.ref f2))) (l2 : K.lookup f2 = some ⟨oc2, od2, .func (PySem.W.fnOf "_law_currency" "_law_currency" (defArgs s__law_currency) (defBody s__law_currency) (defScope s__law_currency) .none kV2 dc2 pm2 an2 cd2 ct2), sl2⟩) (c2 : PySem.W.codeIn K cd2 "_law_currency" = true) (k2 : PySem.W.keepIn K (.ref f2) = true)
    {f3 : Addr} {od3 an3 : Option Addr} {sl3 : Array (Option Value)} {oc3 kV3 dc3 pm3 cd3 ct3 : Value}
    (a3 : PySem.W.nsIn K mainGlobals "_law_line" = some (some (.ref f3))) (l3 : K.lookup f3 = some ⟨oc3, od3, .func (PySem.W.fnOf "_law_line" "_law_line" (defArgs s__law_line) (defBody s__law_line) (defScope s__law_line) .none kV3 dc3 pm3 an3 cd3 ct3), sl3⟩) (c3 : PySem.W.codeIn K cd3 "_law_line" = true) (k3 : PySem.W.keepIn K (.ref f3) = true)
    {f4 : Addr} {od4 an4 : Option Addr} {sl4 : Array (Option Value)} {oc4 kV4 dc4 pm4 cd4 ct4 : Value}
    (a4 : PySem.W.nsIn K mainGlobals "_law_sum" = some (some (.ref f4))) (l4 : K.lookup f4 = some ⟨oc4, od4, .func (PySem.W.fnOf "_law_sum" "_law_sum" (defArgs s__law_sum) (defBody s__law_sum) (defScope s__law_sum) .none kV4 dc4 pm4 an4 cd4 ct4), sl4⟩) (c4 : PySem.W.codeIn K cd4 "_law_sum" = true) (k4 : PySem.W.keepIn K (.ref f4) = true)
    {f5 : Addr} {od5 an5 : Option Addr} {sl5 : Array (Option Value)} {oc5 kV5 dc5 pm5 cd5 ct5 : Value}
    (a5 : PySem.W.nsIn K mainGlobals "law" = some (some (.ref f5))) (l5 : K.lookup f5 = some ⟨oc5, od5, .func (PySem.W.fnOf "law" "law" (defArgs s_law) (defBody s_law) (defScope s_law) .none kV5 dc5 pm5 an5 cd5 ct5), sl5⟩) (c5 : PySem.W.codeIn K cd5 "law" = true) (k5 : PySem.W.keepIn K (.ref f5) = true)
    (z_any : PySem.W.nsIn K mainGlobals "any" = some none)
    (z_bool : PySem.W.nsIn K mainGlobals "bool" = some none)
    (z_isinstance : PySem.W.nsIn K mainGlobals "isinstance" = some none)
    (z_len : PySem.W.nsIn K mainGlobals "len" = some none)
    (z_list : PySem.W.nsIn K mainGlobals "list" = some none)
    (z_range : PySem.W.nsIn K mainGlobals "range" = some none)
    (z_tuple : PySem.W.nsIn K mainGlobals "tuple" = some none)
    : ∃ fd : FuncData, (∀ (s : Shared) (v : Value), BindsTo s fd ⟨[v], []⟩ [("_law_script", v)]) ∧ ∀ base : Heap, K.In base → base.Ns mainGlobals mg → FnOk l.prog w K mg base CX0 3 fa fd ["_law_script"] (spLaw K) := by
  have B : Bs K mg := ⟨df_mk X G a0 l0 c0 k0 fun _ _ _ _ _ _ us hl => match us, hl with | [_], _ => rfl,
    df_mk X G a1 l1 c1 k1 fun _ _ _ _ _ _ us hl => match us, hl with | [_, _], _ => rfl,
    df_mk X G a2 l2 c2 k2 fun _ _ _ _ _ _ us hl => match us, hl with | [_, _], _ => rfl,
    df_mk X G a3 l3 c3 k3 fun _ _ _ _ _ _ us hl => match us, hl with | [_, _], _ => rfl,
    df_mk X G a4 l4 c4 k4 fun _ _ _ _ _ _ us hl => match us, hl with | [_, _], _ => rfl,
    df_mk X G a5 l5 c5 k5 fun _ _ _ _ _ _ us hl => match us, hl with | [_], _ => rfl,
    PySem.W.mg_none_of X G z_any,
    PySem.W.mg_none_of X G z_bool,
    PySem.W.mg_none_of X G z_isinstance,
    PySem.W.mg_none_of X G z_len,
    PySem.W.mg_none_of X G z_list,
    PySem.W.mg_none_of X G z_range,
    PySem.W.mg_none_of X G z_tuple⟩
  have e := hfa.symm.trans (PySem.W.mg_of X G a5)
  cases e
  have F := fun_mk (st := s_law) l5 c5 k5
  refine ⟨PySem.W.fnOf "law" "law" (defArgs s_law) (defBody s_law) (defScope s_law) .none kV5 dc5 pm5 an5 cd5 ct5, fun s v => .of_eq rfl, fun base _ _ => ?_⟩
  exact fok_law F B
end Prf
open PySem PySem.W PyProof.Rows
set_option maxHeartbeats 0 in
theorem PySem.Challenge.cw_doubleledger_k02_balanced_holds : PySem.Challenge.rw_doubleledger_k02_balanced.Holds := by
  w_on; o_law; k_head; (case hw => w_witness2)
  k_fill
  refine L2.walk_of (l := PySem.Challenge.rw_doubleledger_k02_balanced) (n := 63) (k := 3) (x := "_law_script") (CX := fun _ => L2.CX0) (sp := fun w => (Prf.spLaw _)) rfl (by decide) rfl ⟨rfl, by decide, by decide⟩ (fun w h Y => PySem.W.kIn_of Y) ?F (fun _ _ a ns hl _ hS => ⟨a, ns, rfl, hS, hl, fun _ => rfl⟩) (fun _ _ _ _ _ h => h)
  case F =>
    intro w mg fa h KX G hmg
    refine' Prf.all_mk KX G hmg ?a0 ?l0 ?c0 ?k0 ?a1 ?l1 ?c1 ?k1 ?a2 ?l2 ?c2 ?k2 ?a3 ?l3 ?c3 ?k3 ?a4 ?l4 ?c4 ?k4 ?a5 ?l5 ?c5 ?k5 ?z_any ?z_bool ?z_isinstance ?z_len ?z_list ?z_range ?z_tuple
    (case a0 => k_is)
    (case l0 => k_is)
    (case c0 => k_is)
    (case k0 => k_is)
    (case a1 => k_is)
    (case l1 => k_is)
    (case c1 => k_is)
    (case k1 => k_is)
    (case a2 => k_is)
    (case l2 => k_is)
    (case c2 => k_is)
    (case k2 => k_is)
    (case a3 => k_is)
    (case l3 => k_is)
    (case c3 => k_is)
    (case k3 => k_is)
    (case a4 => k_is)
    (case l4 => k_is)
    (case c4 => k_is)
    (case k4 => k_is)
    (case a5 => k_is)
    (case l5 => k_is)
    (case c5 => k_is)
    (case k5 => k_is)
    (case z_any => k_is)
    (case z_bool => k_is)
    (case z_isinstance => k_is)
    (case z_len => k_is)
    (case z_list => k_is)
    (case z_range => k_is)
    (case z_tuple => k_is)
