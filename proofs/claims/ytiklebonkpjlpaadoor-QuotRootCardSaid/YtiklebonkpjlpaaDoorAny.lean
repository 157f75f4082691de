/-
  Regions that draw their order, for any program, told by what is known of memory: operations that answer the same wherever certain blocks are known (loads, calls that make memory, reckoning) are taken first, in whatever place they come; what makes blocks or stores whole ones comes in one order.
-/
import Derived.Test.YtiklebonkpjlpaaDoorReads
namespace KM
open Go Go.RowKit
section
variable (P : Program) (W : World) (Lc : List Ent)
/-- how an operation ends: with a value, in a world of which Lc's blocks and more are known -/
def Ends (K : Value → List Ent → Prop) : Result Next → Prop
  | .ok (.value v) w => ∃ L' : List Ent, Sub Lc L' ∧ Known W L' w ∧ K v L'
  | .ok .skip w => ∃ L' : List Ent, Sub Lc L' ∧ Known W L' w ∧ K undef L'
  | .ok (.enter f args) w => Calls P f args w fun e w' => ∃ (v : Value) (L' : List Ent), e = .returned v ∧ Sub Lc L' ∧ Known W L' w' ∧ K v L'
  | _ => False
/-- from whatever world in which L's blocks are known -/
def StepE (m : Sem Next) (L : List Ent) (K : Value → List Ent → Prop) : Prop := ∀ u : KW W L, Ends P W Lc K (m.run P u.w)
variable {P W Lc}
theorem Ends.mono {K K' : Value → List Ent → Prop} (h : ∀ v L', K v L' → K' v L') {r : Result Next} (hr : Ends P W Lc K r) : Ends P W Lc K' r := by
  cases r with
  | ok n w =>
    cases n with
    | value v => obtain ⟨L', h1, h2, h3⟩ := hr; exact ⟨L', h1, h2, h _ _ h3⟩
    | skip => obtain ⟨L', h1, h2, h3⟩ := hr; exact ⟨L', h1, h2, h _ _ h3⟩
    | enter f args => exact Calls.mono hr fun e w' ⟨v, L', h0, h1, h2, h3⟩ => ⟨v, L', h0, h1, h2, h _ _ h3⟩
    | _ => exact hr.elim
  | _ => exact hr.elim
theorem StepE.mono {m : Sem Next} {L : List Ent} {K K' : Value → List Ent → Prop} (h : ∀ v L', K v L' → K' v L') (hs : StepE P W Lc m L K) : StepE P W Lc m L K' := fun u => (hs u).mono h
theorem upon_of_ends {o : Oper} {a : Act} {next : Act → World → Prop} {Q : Exit → Act → World → Prop} {K : Value → List Ent → Prop} (h : ∀ v L' (u : KW W L'), K v L' → next (a.put o.dst v) u.w) {r : Result Next} (hr : Ends P W Lc K r) : o.upon P a next Q r := by
  cases r with
  | ok n w =>
    cases n with
    | value v => obtain ⟨L', h1, ⟨u, rfl⟩, h3⟩ := hr; exact h _ _ u h3
    | skip => obtain ⟨L', h1, ⟨u, rfl⟩, h3⟩ := hr; exact h _ _ u h3
    | enter f args =>
      refine Calls.mono hr fun e w' ⟨v, L', h0, h1, ⟨u, hu⟩, h3⟩ => ?_
      subst h0 hu
      exact h _ _ u h3
    | _ => exact hr.elim
  | _ => exact hr.elim
end
section
variable {P : Program} {ops : Array Oper} {md : Region.Mode} {Q : Exit → Act → World → Prop} {W : World} {Lc : List Ent}
/-- whatever may come up comes up, from whatever world in which L's blocks are known -/
def anyS (P : Program) (md : Region.Mode) (ops : Array Oper) (Q : Exit → Act → World → Prop) (W : World) (Lc : List Ent) : Nat → Array Bool → Act → List Ent → Prop
  | 0, ls, a, L => Region.ready md ops ls = [] ∧ ∀ u : KW W L, Q .normal a u.w
  | f + 1, ls, a, L => (Region.ready md ops ls = [] → ∀ u : KW W L, Q .normal a u.w) ∧ ∀ i ∈ Region.ready md ops ls, ∃ o, ops[i]? = some o ∧ o.guard = none ∧
      StepE P W Lc (execOp a.eval o) L fun v L' => anyS P md ops Q W Lc f (ls.setIfInBounds i true) (a.put o.dst v) L'
theorem any_sound : ∀ (f : Nat) (ls : Array Bool) (a : Act) (L : List Ent) (u : KW W L), anyS P md ops Q W Lc f ls a L → wpAny P md ops Q f ls a u.w
  | 0, _, _, _, u, h => ⟨h.1, h.2 u⟩
  | f + 1, ls, a, L, u, h => ⟨fun h0 => h.1 h0 u, fun i hi => by
    obtain ⟨o, ho, hg, hs⟩ := h.2 i hi
    unfold wpOp
    simp only [ho]
    rw [if_pos (wanted_none hg _)]
    exact Or.inl (upon_of_ends (fun v L' u' h' => any_sound f _ _ L' u' h') (hs u))⟩
/-- an operation that answers v wherever Lc's blocks are known, and leaves known what is known -/
def Says (P : Program) (W : World) (Lc : List Ent) (m : Sem Next) (v : Value) : Prop := ∀ L, Sub Lc L → StepE P W Lc m L fun v' L' => v' = v ∧ L' = L
theorem any_first {i : Nat} {oi : Oper} {v : Value} (hi : ops[i]? = some oi) (hgi : oi.guard = none) (hsel : ∀ (j : Nat) (o : Oper) cs b, ops[j]? = some o → o.op ≠ .select cs b) :
    ∀ (f : Nat) (ls : Array Bool) (a : Act) (L : List Ent),
      (∀ j oj, ops[j]? = some oj → j ≠ i → ls.getD j true = false → (∀ e ∈ oj.after, Region.binds md e = true → e.on ≠ i) → oi.apart ops oj = true) →
      i ∈ Region.ready md ops ls → Says P W Lc (execOp a.eval oi) v → Sub Lc L →
      anyS P md ops Q W Lc f (ls.setIfInBounds i true) (a.put oi.dst v) L → anyS P md ops Q W Lc (f + 1) ls a L := by
  intro f
  induction f with
  | zero =>
    intro ls a L _ hr hy hS H
    refine ⟨fun h => (by rw [h] at hr; cases hr), fun j hj => ?_⟩
    by_cases hji : j = i
    · subst hji
      exact ⟨oi, hi, hgi, (hy L hS).mono fun v' L' ⟨e1, e2⟩ => by subst e1 e2; exact H⟩
    · have := ready_mono hj hji
      rw [H.1] at this
      cases this
  | succ f ih =>
    intro ls a L hfree hr hy hS H
    refine ⟨fun h => (by rw [h] at hr; cases hr), fun j hj => ?_⟩
    by_cases hji : j = i
    · subst hji
      exact ⟨oi, hi, hgi, (hy L hS).mono fun v' L' ⟨e1, e2⟩ => by subst e1 e2; exact H⟩
    · obtain ⟨oj, hoj, hgj, hst⟩ := H.2 j (ready_mono hj hji)
      obtain ⟨hjun, oj', hoj', hall⟩ := mem_ready.1 hj
      obtain rfl : oj' = oj := Option.some.inj (hoj'.symm.trans hoj)
      have hun := (mem_ready.1 hr).1
      have hnot : ∀ e ∈ oj'.after, Region.binds md e = true → e.on ≠ i := fun e he hb heq => by
        have h1 := hall e he hb
        rw [heq, getD_both hun] at h1
        cases h1
      obtain ⟨h1, h2, h3⟩ := Oper.apart_spec (hfree j oj' hoj hji hjun hnot)
      rw [execOp_put oj' (fun cs b => hsel j oj' cs b hoj) a oi.dst v h1] at hst
      have hfree' : ∀ k ok, ops[k]? = some ok → k ≠ i → (ls.setIfInBounds j true).getD k true = false →
          (∀ e ∈ ok.after, Region.binds md e = true → e.on ≠ i) → oi.apart ops ok = true := fun k ok hk hki hkn hno => by
        refine hfree k ok hk hki ?_ hno
        by_cases hjk : j = k
        · subst hjk; exact hjun
        · rw [getD_set_ne true hjk] at hkn; exact hkn
      refine ⟨oj', hoj, hgj, fun u => ?_⟩
      have hE := hst u
      -- what j leaves: in each case a value, and more known blocks
      have key : ∀ (v' : Value) (L' : List Ent), Sub Lc L' → anyS P md ops Q W Lc f ((ls.setIfInBounds i true).setIfInBounds j true) ((a.put oi.dst v).put oj'.dst v') L' →
          anyS P md ops Q W Lc (f + 1) (ls.setIfInBounds j true) (a.put oj'.dst v') L' := fun v' L' hs' h' => by
        refine ih _ _ L' hfree' (ready_mono hr (Ne.symm hji)) ?_ hs' ?_
        · rw [execOp_put oi (fun cs b => hsel i oi cs b hi) a oj'.dst v' h3]; exact hy
        · rw [← Act.put_comm a v v' h2, Array.setIfInBounds_comm _ _ hji]; exact h'
      generalize (execOp a.eval oj').run P u.w = r at hE
      cases r with
      | ok n w =>
        cases n with
        | value v' => obtain ⟨L', e1, e2, e3⟩ := hE; exact ⟨L', e1, e2, key _ _ e1 e3⟩
        | skip => obtain ⟨L', e1, e2, e3⟩ := hE; exact ⟨L', e1, e2, key _ _ e1 e3⟩
        | enter fn args => exact Calls.mono hE fun e w' ⟨v', L', e0, e1, e2, e3⟩ => ⟨v', L', e0, e1, e2, key _ _ e1 e3⟩
        | _ => exact hE.elim
      | _ => exact hE.elim
/-- operations of one order, told with what is known -/
def tailS (P : Program) (Q : Exit → Act → World → Prop) (W : World) (Lc : List Ent) : List Oper → Act → List Ent → Prop
  | [], a, L => ∀ u : KW W L, Q .normal a u.w
  | o :: r, a, L => o.guard = none ∧ StepE P W Lc (execOp a.eval o) L fun v L' => tailS P Q W Lc r (a.put o.dst v) L'
def headS (P : Program) (W : World) (Lc : List Ent) (T : Act → Prop) : List Oper → Act → Prop
  | [], a => T a
  | o :: r, a => o.guard = none ∧ ∃ v, Says P W Lc (execOp a.eval o) v ∧ headS P W Lc T r (a.put o.dst v)
theorem any_tail {l : List Oper} (hl : ops = l.toArray) : ∀ (rs : List Nat) (ls : Array Bool) (a : Act) (L : List Ent), seqLB md ops rs ls = true → tailS P Q W Lc (pick l rs) a L → anyS P md ops Q W Lc rs.length ls a L
  | [], ls, a, L, hB, h => ⟨by simpa [seqLB] using hB, h⟩
  | r :: rs, ls, a, L, hB, h => by
    simp only [seqLB, Bool.and_eq_true, decide_eq_true_eq] at hB
    obtain ⟨o, h0⟩ := Option.isSome_iff_exists.1 hB.1.2
    have h0' : l[r]? = some o := by rw [hl] at h0; simpa using h0
    simp only [pick, List.filterMap_cons, h0'] at h
    refine ⟨fun h1 => (by rw [hB.1.1] at h1; cases h1), fun i hi => ?_⟩
    rw [hB.1.1] at hi
    have hik : i = r := by simpa using hi
    subst hik
    exact ⟨o, h0, h.1, h.2.mono fun v L' h' => any_tail hl rs _ _ L' hB.2 h'⟩
theorem any_head {l : List Oper} {rs : List Nat} {T : Act → Prop} {L : List Ent} (hl : ops = l.toArray) (hsel : Region.noSelect ops = true) (hs : Sub Lc L)
    (hT : ∀ ls a, seqLB md ops rs ls = true → T a → anyS P md ops Q W Lc rs.length ls a L) : ∀ (ks : List Nat) (ls : Array Bool) (a : Act), pickB md ops rs ks ls = true → headS P W Lc T (pick l ks) a → anyS P md ops Q W Lc (ks.length + rs.length) ls a L
  | [], ls, a, hB, h => by
    rw [List.length_nil, Nat.zero_add]
    exact hT ls a hB h
  | k :: ks, ls, a, hB, h => by
    simp only [pickB, Bool.and_eq_true] at hB
    obtain ⟨o, h0⟩ := Option.isSome_iff_exists.1 hB.1.2
    have h0' : l[k]? = some o := by rw [hl] at h0; simpa using h0
    simp only [pick, List.filterMap_cons, h0'] at h
    obtain ⟨hg, v, hy, hR⟩ := h
    rw [List.length_cons, Nat.add_right_comm]
    exact any_first h0 hg (Region.noSelect_spec hsel) _ ls a L (Region.free_spec h0 hB.1.1.2) (by simpa using hB.1.1.1) hy hs (any_head hl hsel hs hT ks _ _ hB.2 hR)
/-- THE LAW: operations ks answer the same wherever Lc's blocks are known; those of rs come in one order -/
theorem region_any {id : Nat} {l : List Oper} {a : Act} {L : List Ent} {u : KW W L} (ks rs : List Nat) (Lc : List Ent) (hs : Sub Lc L) (hm : P.follows .mixedOrders = true) (hB : (Region.noSelect l.toArray && decide (ks.length + rs.length = l.length) && pickB .any l.toArray rs ks (Array.replicate l.length false)) = true)
    (h : headS P W Lc (fun a' => tailS P Q W Lc (pick l rs) a' L) (pick l ks) a) : (Code.region id l.toArray true).wp P Q a u.w := by
  simp only [Bool.and_eq_true, decide_eq_true_eq] at hB
  refine wp_region_any hm ?_
  have A := any_head (md := .any) (Q := Q) (rs := rs) rfl hB.1.1 hs (fun ls a' hq hT => any_tail rfl rs ls a' L hq hT) ks _ a hB.2 h
  rw [hB.1.2] at A
  have e : l.toArray.size = l.length := by simp
  rw [e]
  exact any_sound _ _ _ L u.drew A
end
/-! ### single operations -/
section
variable {P : Program} {Q : Exit → Act → World → Prop} {rest : List Oper} {a : Act} {W : World} {L L' Lc : List Ent} {d : Tmp} {t ty : TypeId} {ps : String} {af : Array Edge} {x y : Operand} {T : Act → Prop}
theorem head_nil (h : T a) : headS P W Lc T [] a := h
theorem head_value {op : Op} {d : Option Tmp} {v : Value} (hv : ∀ w, (execOp a.eval ⟨d, op, ty, ps, af, none⟩).run P w = .ok (.value v) w) (h : headS P W Lc T rest (a.put d v)) : headS P W Lc T (⟨d, op, ty, ps, af, none⟩ :: rest) a :=
  ⟨rfl, v, fun L hL u => by rw [hv]; exact ⟨L, hL, ⟨u, rfl⟩, rfl, rfl⟩, h⟩
theorem head_load {g : Nat} {c : Array Value} {t' : TypeId} {n : Nat} (hx : a.eval x = .pointer (some ⟨g, 0, none⟩)) (hp : Has Lc g c t') (hr : Row P t n) (hn : c.size = n)
    (h : headS P W Lc T rest (a.put (some d) (.agg c))) : headS P W Lc T (⟨some d, .load t x, ty, ps, af, none⟩ :: rest) a := by
  refine ⟨rfl, .agg c, fun L hL u => ?_, h⟩
  have hp' : Has L g c t' := ⟨hL.out.subset hp.out⟩
  unfold execOp
  simp only [hx, Sem.run_bind, run_load u (h := hp') hr hn, Result.andThen_ok, Sem.run_pure]
  exact ⟨L, hL, ⟨u, rfl⟩, rfl, rfl⟩
theorem head_call {op : Op} {d : Option Tmp} {f : FuncId} {args : Array Value} {v : Value} (he : ∀ w, (execOp a.eval ⟨d, op, ty, ps, af, none⟩).run P w = .ok (.enter f args) w) (hc : ∀ w, Calls P f args w (Ret v w)) (h : headS P W Lc T rest (a.put d v)) : headS P W Lc T (⟨d, op, ty, ps, af, none⟩ :: rest) a := by
  refine ⟨rfl, v, fun L hL u => ?_, h⟩
  rw [he]
  refine (hc u.w).mono fun e w' ⟨h1, hb⟩ => ?_
  obtain ⟨u', hu'⟩ := u.go hb
  exact ⟨v, L, h1, hL, ⟨u', hu'⟩, rfl, rfl⟩
theorem tailS_nil (h : ∀ u : KW W L, Q .normal a u.w) : tailS P Q W Lc [] a L := h
theorem tailS_value {op : Op} {d : Option Tmp} {v : Value} (hv : ∀ w, (execOp a.eval ⟨d, op, ty, ps, af, none⟩).run P w = .ok (.value v) w) (hs : Sub Lc L) (h : tailS P Q W Lc rest (a.put d v) L) : tailS P Q W Lc (⟨d, op, ty, ps, af, none⟩ :: rest) a L :=
  ⟨rfl, fun u => by rw [hv]; exact ⟨L, hs, ⟨u, rfl⟩, h⟩⟩
theorem tailS_load {g : Nat} {c : Array Value} {t' : TypeId} {n : Nat} (hx : a.eval x = .pointer (some ⟨g, 0, none⟩)) (hp : Has L g c t') (hs : Sub Lc L) (hr : Row P t n) (hn : c.size = n)
    (h : tailS P Q W Lc rest (a.put (some d) (.agg c)) L) : tailS P Q W Lc (⟨some d, .load t x, ty, ps, af, none⟩ :: rest) a L := by
  refine ⟨rfl, fun u => ?_⟩
  unfold execOp
  simp only [hx, Sem.run_bind, run_load u (h := hp) hr hn, Result.andThen_ok, Sem.run_pure]
  exact ⟨L, hs, ⟨u, rfl⟩, h⟩
theorem tailS_store {g : Nat} {c c' : Array Value} {n : Nat} (hx : a.eval x = .pointer (some ⟨g, 0, none⟩)) (hy : a.eval y = .agg c') (hp : PutAll L g c' c L') (hs : Sub Lc L') (hr : Row P t n) (hn : c.size = n) (hn' : c'.size = n)
    (h1 : c'.all (·.oneCell') = true) (h : tailS P Q W Lc rest a L') : tailS P Q W Lc (⟨none, .store t x y, ty, ps, af, none⟩ :: rest) a L := by
  refine ⟨rfl, fun u => ?_⟩
  obtain ⟨u', hu'⟩ := u.ex_row (h := hp)
  obtain ⟨A, t', B, hL, _⟩ := hp.out
  have hg := (u.mem ⟨g, c, t'⟩ (by rw [hL]; simp)).1
  unfold execOp
  simp only [hx, hy, Instr.storeAt, Instr.sureAddr, Sem.run_bind, Sem.run_pure, Result.andThen_ok, run_storeVar_row u.w g t' t c c' hg (by rw [hn']; exact hr.2) (by omega) h1]
  rw [hu']
  exact ⟨L', hs, ⟨u', rfl⟩, h⟩
theorem tailS_alloc {c : Array Value} (hz : Zero P t c) (hs : Sub Lc L) (h : ∀ g, tailS P Q W Lc rest (a.put (some d) (.pointer (some ⟨g, 0, none⟩))) (⟨g, c, t⟩ :: L)) : tailS P Q W Lc (⟨some d, .alloc t, ty, ps, af, none⟩ :: rest) a L := by
  refine ⟨rfl, fun u => ?_⟩
  obtain ⟨i, hi, hz'⟩ := Option.map_eq_some_iff.1 hz
  obtain ⟨v, hv, rfl⟩ := Option.map_eq_some_iff.1 hz'
  have hr : (Instr.alloc t true (.tuple #[])).run P u.w = .ok (.pointer (some ⟨u.w.heap.size, 0, none⟩)) (u.alloc v.cells t).w := by
    simp [Instr.alloc, zeroValue, typeInfo, hi, hv, newVar, newRow, KW.alloc, go_sem]
  unfold execOp
  simp only [Sem.run_bind, hr, Result.andThen_ok, Sem.run_pure]
  exact ⟨_, Sub.skip (h := hs), ⟨u.alloc v.cells t, rfl⟩, h _⟩
theorem tailS_box {c : Array Value} (hx : a.eval x = .agg c) (hs : Sub Lc L) (h : ∀ g, tailS P Q W Lc rest (a.put (some d) (.pointer (some ⟨g, 0, none⟩))) (⟨g, c, t⟩ :: L)) : tailS P Q W Lc (⟨some d, .box t x, ty, ps, af, none⟩ :: rest) a L := by
  refine ⟨rfl, fun u => ?_⟩
  have hr : (Instr.box t (a.eval x)).run P u.w = .ok (.pointer (some ⟨u.w.heap.size, 0, none⟩)) (u.alloc c t).w := by
    rw [hx]; simp [Instr.box, newVar, newRow, Value.cells, KW.alloc, go_sem]
  unfold execOp
  simp only [Sem.run_bind, hr, Result.andThen_ok, Sem.run_pure]
  exact ⟨_, Sub.skip (h := hs), ⟨u.alloc c t, rfl⟩, h _⟩
theorem tailS_call {op : Op} {d : Option Tmp} {f : FuncId} {args : Array Value} {v : Value} (he : ∀ w, (execOp a.eval ⟨d, op, ty, ps, af, none⟩).run P w = .ok (.enter f args) w) (hs : Sub Lc L) (hc : ∀ w, Calls P f args w (Ret v w)) (h : tailS P Q W Lc rest (a.put d v) L) : tailS P Q W Lc (⟨d, op, ty, ps, af, none⟩ :: rest) a L := by
  refine ⟨rfl, fun u => ?_⟩
  rw [he]
  refine (hc u.w).mono fun e w' ⟨h1, hb⟩ => ?_
  obtain ⟨u', hu'⟩ := u.go hb
  exact ⟨v, L, h1, hs, ⟨u', hu'⟩, h⟩
end
end KM
