/-
  Regions that draw their order and hold loads and stores of whole aggregates, for any program: a load may come late, behind a store to another block.
-/
import Derived.Test.YtiklebonkpjlpaaDoorMem
import Derived.OrdersHeld
namespace KM
open Go Go.RowKit
/-- the blocks of Lc are among L's -/
class Sub (Lc L : List Ent) : Prop where
  out : Lc.Sublist L
instance Sub.nil {L} : Sub [] L := ⟨List.nil_sublist L⟩
instance Sub.skip {e Lc L} [h : Sub Lc L] : Sub Lc (e :: L) := ⟨h.out.cons e⟩
instance Sub.both {e Lc L} [h : Sub Lc L] : Sub (e :: Lc) (e :: L) := ⟨h.out.cons_cons e⟩
theorem KW.weak {W : World} {L Lc : List Ent} [h : Sub Lc L] (u : KW W L) : ∃ u' : KW W Lc, u.w = u'.w :=
  ⟨⟨u.w, u.below, fun e he => u.mem e (h.out.subset he), (h.out.map Ent.g).nodup u.nodup⟩, rfl⟩
section
variable {P : Program} {ops : Array Oper} {md : Region.Mode} {Q : Exit → Act → World → Prop} {S : World → Prop} {T : Act → Prop}
/-- operations that yield their values in every world of S, one behind the other; then T -/
def readsT (P : Program) (ops : Array Oper) (S : World → Prop) (T : Act → Prop) : List Oper → Act → Prop
  | [], a => T a
  | o :: r, a => ∃ v, YieldsIf P ops S o v a ∧ readsT P ops S T r (a.put o.dst v)
/-- operations behind each of which S holds -/
def tailT (P : Program) (S : World → Prop) (Q : Exit → Act → World → Prop) : List Oper → Act → World → Prop
  | [], a, w => Q .normal a w
  | o :: r, a, w => o.guard = none ∧ o.wp P a w (fun a' w' => S w' ∧ tailT P S Q r a' w') Q
theorem wanted_none {o : Oper} (h : o.guard = none) (y : Nat → Option Bool) : Region.wanted o y = true := by simp [Region.wanted, h]
theorem held_tail : ∀ (l : List Oper) (k : Nat) (ls : Array Bool) (a : Act) (w : World), (∀ j, l[j]? = ops[k + j]?) → Region.seqB md ops l.length k ls = true → tailT P S Q l a w → wpAnyH P md ops Q S l.length ls a w
  | [], _, _, _, _, _, hB, h => ⟨by simpa [Region.seqB] using hB, h⟩
  | o :: l, k, ls, a, w, hl, hB, h => by
    have h0 : ops[k]? = some o := by simpa using (hl 0).symm
    simp only [List.length_cons, Region.seqB, Bool.and_eq_true, decide_eq_true_eq] at hB
    refine ⟨fun h1 => (by rw [hB.1] at h1; cases h1), fun i hi => ?_⟩
    rw [hB.1] at hi
    have hik : i = k := by simpa using hi
    subst hik
    have hw : wpOp P ops Q i (fun a' w' => S w' ∧ tailT P S Q l a' w') a w := by
      unfold wpOp
      simp only [h0]
      rw [if_pos (wanted_none h.1 _)]
      exact Or.inl h.2
    exact wpOp_mono (fun a' w' h' => ⟨h'.1, held_tail l (i + 1) _ a' w' (fun j => by have := hl (j + 1); simpa [Nat.add_assoc, Nat.add_comm 1 j] using this) hB.2 h'.2⟩) hw
theorem held_head {n m : Nat} {w : World} (hsel : Region.noSelect ops = true) (hQ : ∀ c a w d v, Q (.panic c) (Act.put a d v) w → Q (.panic c) a w) (hS : S w)
    (hT : ∀ ls a, Region.seqB md ops m n ls = true → T a → wpAnyH P md ops Q S m ls a w) (l : List Oper) :
    ∀ (k : Nat) (ls : Array Bool) (a : Act), (∀ j, j < l.length → l[j]? = ops[k + j]?) → k + l.length = n → Region.lexHead md ops m l.length k ls = true → readsT P ops S T l a → wpAnyH P md ops Q S (l.length + m) ls a w := by
  induction l with
  | nil =>
    intro k ls a _ hk hB h
    have e : k = n := by simpa using hk
    rw [e] at hB
    rw [List.length_nil, Nat.zero_add]
    exact hT ls a (by simpa [Region.lexHead] using hB) h
  | cons o l ih =>
    intro k ls a hl hk hB h
    have h0 : ops[k]? = some o := by simpa using (hl 0 (by simp)).symm
    simp only [List.length_cons, Region.lexHead, Bool.and_eq_true] at hB
    obtain ⟨v, hy, hR⟩ := h
    rw [List.length_cons, Nat.add_right_comm]
    refine wpAnyH_take h0 hsel hB.1.2 hB.1.1 (fun c a w h => hQ c a w _ _ h) hy hS (ih (k + 1) _ _ (fun j hj => ?_) ?_ hB.2 hR)
    · have := hl (j + 1) (by simp; omega)
      simpa [Nat.add_assoc, Nat.add_comm 1 j] using this
    · simp only [List.length_cons] at hk; omega
def readsB (md : Region.Mode) (ops : Array Oper) (n : Nat) : Bool := Region.noSelect ops && decide (n ≤ ops.size) && Region.lexHead md ops (ops.size - n) n 0 (Array.replicate ops.size false)
end
section
variable {P : Program} {ops : Array Oper} {Q : Exit → Act → World → Prop} {rest : List Oper} {a : Act} {W : World} {L L' Lc : List Ent} {d : Tmp} {t ty : TypeId} {ps : String} {af : Array Edge} {x y : Operand} {T : Act → Prop}
/-- worlds in which the blocks of Lc are known -/
def Known (W : World) (Lc : List Ent) (w : World) : Prop := ∃ u : KW W Lc, w = u.w
theorem region_reads {id : Nat} {l : List Oper} {u : KW W L} (Lc : List Ent) (hs : Sub Lc L) (n : Nat) (hm : P.follows .mixedOrders = true) (hB : readsB .any l.toArray n = true)
    (hQ : ∀ c a w d v, Q (.panic c) (Act.put a d v) w → Q (.panic c) a w)
    (h : readsT P l.toArray (Known W Lc) (fun a' => ∀ u' : KW W L, tailT P (Known W Lc) Q (l.drop n) a' u'.w) (l.take n) a) : (Code.region id l.toArray true).wp P Q a u.w := by
  simp only [readsB, Bool.and_eq_true, decide_eq_true_eq] at hB
  obtain ⟨⟨hsel, hn⟩, hlex⟩ := hB
  have hn' : n ≤ l.length := by simpa using hn
  have htl : (l.take n).length = n := by simp; omega
  have hdl : (l.drop n).length = l.toArray.size - n := by simp
  have hsum : n + (l.toArray.size - n) = l.toArray.size := by omega
  refine wp_region_held (S := Known W Lc) hm ?_
  have A := held_head (md := .any) (n := n) (m := l.toArray.size - n) (w := u.drew.w) hsel hQ (KW.weak (h := hs) u.drew) (fun ls a' hq hT => by
    have := held_tail (ops := l.toArray) (md := .any) (Q := Q) (l.drop n) n ls a' u.drew.w (fun j => by simp [List.getElem?_drop]) (by rw [hdl]; exact hq) (hT u.drew)
    rwa [hdl] at this) (l.take n) 0 _ a (fun j hj => by
      rw [htl] at hj
      simp [hj]) (by simpa using htl) (by rw [htl]; exact hlex) h
  rw [htl, hsum] at A
  exact A
/-- the operations of numbers ks, in that order -/
def pick (l : List Oper) (ks : List Nat) : List Oper := ks.filterMap (l[·]?)
def seqLB (md : Region.Mode) (ops : Array Oper) : List Nat → Array Bool → Bool
  | [], ls => (Region.ready md ops ls).isEmpty
  | r :: rs, ls => decide (Region.ready md ops ls = [r]) && (ops[r]?).isSome && seqLB md ops rs (ls.setIfInBounds r true)
def pickB (md : Region.Mode) (ops : Array Oper) (rs : List Nat) : List Nat → Array Bool → Bool
  | [], ls => seqLB md ops rs ls
  | k :: ks, ls => (Region.ready md ops ls).contains k && Region.free md ops ls k && (ops[k]?).isSome && pickB md ops rs ks (ls.setIfInBounds k true)
theorem held_seq {md : Region.Mode} {S : World → Prop} {l : List Oper} (hl : ops = l.toArray) : ∀ (rs : List Nat) (ls : Array Bool) (a : Act) (w : World), seqLB md ops rs ls = true → tailT P S Q (pick l rs) a w → wpAnyH P md ops Q S rs.length ls a w
  | [], _, _, _, hB, h => ⟨by simpa [seqLB] using hB, h⟩
  | r :: rs, ls, a, w, hB, h => by
    simp only [seqLB, Bool.and_eq_true, decide_eq_true_eq] at hB
    obtain ⟨o, h0⟩ := Option.isSome_iff_exists.1 hB.1.2
    have h0' : l[r]? = some o := by rw [hl] at h0; simpa using h0
    simp only [pick, List.filterMap_cons, h0'] at h
    refine ⟨fun h1 => (by rw [hB.1.1] at h1; cases h1), fun i hi => ?_⟩
    rw [hB.1.1] at hi
    have hik : i = r := by simpa using hi
    subst hik
    have hw : wpOp P ops Q i (fun a' w' => S w' ∧ tailT P S Q (pick l rs) a' w') a w := by
      unfold wpOp
      simp only [h0]
      rw [if_pos (wanted_none h.1 _)]
      exact Or.inl h.2
    exact wpOp_mono (fun a' w' h' => ⟨h'.1, held_seq hl rs _ a' w' hB.2 h'.2⟩) hw
theorem held_pick {md : Region.Mode} {S : World → Prop} {l : List Oper} {rs : List Nat} {w : World} (hl : ops = l.toArray) (hsel : Region.noSelect ops = true) (hQ : ∀ c a w d v, Q (.panic c) (Act.put a d v) w → Q (.panic c) a w) (hS : S w)
    (hT : ∀ ls a, seqLB md ops rs ls = true → T a → wpAnyH P md ops Q S rs.length ls a w) : ∀ (ks : List Nat) (ls : Array Bool) (a : Act), pickB md ops rs ks ls = true → readsT P ops S T (pick l ks) a → wpAnyH P md ops Q S (ks.length + rs.length) ls a w
  | [], ls, a, hB, h => by
    rw [List.length_nil, Nat.zero_add]
    exact hT ls a hB h
  | k :: ks, ls, a, hB, h => by
    simp only [pickB, Bool.and_eq_true] at hB
    obtain ⟨o, h0⟩ := Option.isSome_iff_exists.1 hB.1.2
    have h0' : l[k]? = some o := by rw [hl] at h0; simpa using h0
    simp only [pick, List.filterMap_cons, h0'] at h
    obtain ⟨v, hy, hR⟩ := h
    rw [List.length_cons, Nat.add_right_comm]
    exact wpAnyH_take h0 hsel hB.1.1.2 hB.1.1.1 (fun c a w h => hQ c a w _ _ h) hy hS (held_pick hl hsel hQ hS hT ks _ _ hB.2 hR)
/-- operations ks are taken first; those of rs then come in one order -/
theorem region_pick {id : Nat} {l : List Oper} {u : KW W L} (ks rs : List Nat) (Lc : List Ent) (hs : Sub Lc L) (hm : P.follows .mixedOrders = true) (hB : (Region.noSelect l.toArray && decide (ks.length + rs.length = l.length) && pickB .any l.toArray rs ks (Array.replicate l.length false)) = true)
    (hQ : ∀ c a w d v, Q (.panic c) (Act.put a d v) w → Q (.panic c) a w)
    (h : readsT P l.toArray (Known W Lc) (fun a' => ∀ u' : KW W L, tailT P (Known W Lc) Q (pick l rs) a' u'.w) (pick l ks) a) : (Code.region id l.toArray true).wp P Q a u.w := by
  simp only [Bool.and_eq_true, decide_eq_true_eq] at hB
  refine wp_region_held (S := Known W Lc) hm ?_
  have A := held_pick (md := .any) (rs := rs) (w := u.drew.w) rfl hB.1.1 hQ (KW.weak (h := hs) u.drew) (fun ls a' hq hT => held_seq rfl rs ls a' u.drew.w hq (hT u.drew)) ks _ a hB.2 h
  rw [hB.1.2] at A
  have e : l.toArray.size = l.length := by simp
  rw [e]
  exact A
theorem tail_value {op : Op} {d : Option Tmp} {v : Value} {w : World} {S : World → Prop} (hv : (execOp a.eval ⟨d, op, ty, ps, af, none⟩).run P w = .ok (.value v) w) (hS : S w) (h : tailT P S Q rest (a.put d v) w) : tailT P S Q (⟨d, op, ty, ps, af, none⟩ :: rest) a w :=
  ⟨rfl, by unfold Oper.wp; rw [hv]; exact ⟨hS, h⟩⟩
theorem tail_enter {op : Op} {d : Option Tmp} {f : FuncId} {args : Array Value} {w : World} {S : World → Prop} (he : (execOp a.eval ⟨d, op, ty, ps, af, none⟩).run P w = .ok (.enter f args) w)
    (h : Calls P f args w fun e w' => ∃ v, e = .returned v ∧ S w' ∧ tailT P S Q rest (a.put d v) w') : tailT P S Q (⟨d, op, ty, ps, af, none⟩ :: rest) a w := by
  refine ⟨rfl, ?_⟩
  unfold Oper.wp
  rw [he]
  refine Calls.mono h fun e w' ⟨v, h0, h1, h2⟩ => ?_
  subst h0
  exact ⟨h1, h2⟩
theorem tail_load {u : KW W L} {g : Nat} {c : Array Value} {t' : TypeId} {n : Nat} (hx : a.eval x = .pointer (some ⟨g, 0, none⟩)) (hp : Has L g c t') (hs : Sub Lc L) (hr : Row P t n) (hn : c.size = n)
    (h : tailT P (Known W Lc) Q rest (a.put (some d) (.agg c)) u.w) : tailT P (Known W Lc) Q (⟨some d, .load t x, ty, ps, af, none⟩ :: rest) a u.w := by
  refine ⟨rfl, ?_⟩
  unfold Oper.wp execOp
  simp only [hx, Sem.run_bind, run_load u (h := hp) hr hn, Result.andThen_ok, Sem.run_pure]
  exact ⟨KW.weak (h := hs) u, h⟩
theorem defers_put (a : Act) (d : Option Tmp) (v : Value) : (a.put d v).defers = a.defers := by cases d <;> rfl
/-! ### the same in any mixture: (true, k): number k is taken first; (false, k): it is the only one that may come -/
def picks (l : List Oper) (ms : List (Bool × Nat)) : List (Bool × Oper) := ms.filterMap fun m => (l[m.2]?).map (m.1, ·)
def mixB (md : Region.Mode) (ops : Array Oper) : List (Bool × Nat) → Array Bool → Bool
  | [], ls => (Region.ready md ops ls).isEmpty
  | (true, k) :: r, ls => (Region.ready md ops ls).contains k && Region.free md ops ls k && (ops[k]?).isSome && mixB md ops r (ls.setIfInBounds k true)
  | (false, k) :: r, ls => decide (Region.ready md ops ls = [k]) && (ops[k]?).isSome && mixB md ops r (ls.setIfInBounds k true)
def mixT (P : Program) (ops : Array Oper) (S : World → Prop) (Q : Exit → Act → World → Prop) : List (Bool × Oper) → Act → World → Prop
  | [], a, w => Q .normal a w
  | (true, o) :: r, a, w => ∃ v, YieldsIf P ops S o v a ∧ mixT P ops S Q r (a.put o.dst v) w
  | (false, o) :: r, a, w => Region.wanted o (yielded ops a.tmps) = true ∧ o.wp P a w (fun a' w' => S w' ∧ mixT P ops S Q r a' w') Q
theorem held_mix {md : Region.Mode} {S : World → Prop} {l : List Oper} (hl : ops = l.toArray) (hsel : Region.noSelect ops = true) (hQ : ∀ c a w d v, Q (.panic c) (Act.put a d v) w → Q (.panic c) a w) :
    ∀ (ms : List (Bool × Nat)) (ls : Array Bool) (a : Act) (w : World), mixB md ops ms ls = true → S w → mixT P ops S Q (picks l ms) a w → wpAnyH P md ops Q S ms.length ls a w
  | [], ls, a, w, hB, hS, h => ⟨by simpa [mixB] using hB, h⟩
  | (true, k) :: ms, ls, a, w, hB, hS, h => by
    simp only [mixB, Bool.and_eq_true] at hB
    obtain ⟨o, h0⟩ := Option.isSome_iff_exists.1 hB.1.2
    have h0' : l[k]? = some o := by rw [hl] at h0; simpa using h0
    simp only [picks, List.filterMap_cons, h0', Option.map_some] at h
    obtain ⟨v, hy, hR⟩ := h
    exact wpAnyH_take h0 hsel hB.1.1.2 hB.1.1.1 (fun c a w h => hQ c a w _ _ h) hy hS (held_mix hl hsel hQ ms _ _ w hB.2 hS hR)
  | (false, k) :: ms, ls, a, w, hB, hS, h => by
    simp only [mixB, Bool.and_eq_true, decide_eq_true_eq] at hB
    obtain ⟨o, h0⟩ := Option.isSome_iff_exists.1 hB.1.2
    have h0' : l[k]? = some o := by rw [hl] at h0; simpa using h0
    simp only [picks, List.filterMap_cons, h0', Option.map_some] at h
    refine ⟨fun h1 => (by rw [hB.1.1] at h1; cases h1), fun i hi => ?_⟩
    rw [hB.1.1] at hi
    have hik : i = k := by simpa using hi
    subst hik
    have hw : wpOp P ops Q i (fun a' w' => S w' ∧ mixT P ops S Q (picks l ms) a' w') a w := by
      unfold wpOp
      simp only [h0]
      rw [if_pos h.1]
      exact Or.inl h.2
    exact wpOp_mono (fun a' w' h' => ⟨h'.1, held_mix hl hsel hQ ms _ a' w' hB.2 h'.1 h'.2⟩) hw
theorem region_mix {id : Nat} {l : List Oper} {u : KW W L} (ms : List (Bool × Nat)) (Lc : List Ent) (hs : Sub Lc L) (hm : P.follows .mixedOrders = true) (hB : (Region.noSelect l.toArray && decide (ms.length = l.length) && mixB .any l.toArray ms (Array.replicate l.length false)) = true)
    (hQ : ∀ c a w d v, Q (.panic c) (Act.put a d v) w → Q (.panic c) a w)
    (h : ∀ u' : KW W L, Below u.w.heap.size u.w u'.w → mixT P l.toArray (Known W Lc) Q (picks l ms) a u'.w) : (Code.region id l.toArray true).wp P Q a u.w := by
  simp only [Bool.and_eq_true, decide_eq_true_eq] at hB
  refine wp_region_held (S := Known W Lc) hm ?_
  have A := held_mix (md := .any) (Q := Q) rfl hB.1.1 hQ ms _ a u.drew.w hB.2 (KW.weak (h := hs) u.drew) (h u.drew (Below.drew (Below.refl _ _)))
  rw [hB.1.2] at A
  have e : l.toArray.size = l.length := by simp
  rw [e]
  exact A
section
variable {S : World → Prop} {w : World} {mr : List (Bool × Oper)}
theorem mix_nil (h : Q .normal a w) : mixT P ops S Q [] a w := h
theorem mix_value {op : Op} {d : Option Tmp} {v : Value} (hv : ∀ w, (execOp a.eval ⟨d, op, ty, ps, af, none⟩).run P w = .ok (.value v) w) (h : mixT P ops S Q mr (a.put d v) w) : mixT P ops S Q ((true, ⟨d, op, ty, ps, af, none⟩) :: mr) a w :=
  ⟨v, Or.inl ⟨wanted_none rfl _, fun w _ => hv w⟩, h⟩
theorem mix_load {g : Nat} {c : Array Value} {t' : TypeId} {n : Nat} (hx : a.eval x = .pointer (some ⟨g, 0, none⟩)) (hp : Has Lc g c t') (hr : Row P t n) (hn : c.size = n)
    (h : mixT P ops (Known W Lc) Q mr (a.put (some d) (.agg c)) w) : mixT P ops (Known W Lc) Q ((true, ⟨some d, .load t x, ty, ps, af, none⟩) :: mr) a w := by
  refine ⟨.agg c, Or.inl ⟨wanted_none rfl _, ?_⟩, h⟩
  rintro w ⟨u, rfl⟩
  unfold execOp
  simp only [hx, Sem.run_bind, run_load u (h := hp) hr hn, Result.andThen_ok, Sem.run_pure]
theorem mix_then {op : Op} {d : Option Tmp} {v : Value} (hv : (execOp a.eval ⟨d, op, ty, ps, af, none⟩).run P w = .ok (.value v) w) (hS : S w) (h : mixT P ops S Q mr (a.put d v) w) : mixT P ops S Q ((false, ⟨d, op, ty, ps, af, none⟩) :: mr) a w :=
  ⟨wanted_none rfl _, by unfold Oper.wp; rw [hv]; exact ⟨hS, h⟩⟩
theorem mix_enter {op : Op} {d : Option Tmp} {f : FuncId} {args : Array Value} (he : (execOp a.eval ⟨d, op, ty, ps, af, none⟩).run P w = .ok (.enter f args) w)
    (h : Calls P f args w fun e w' => ∃ v, e = .returned v ∧ S w' ∧ mixT P ops S Q mr (a.put d v) w') : mixT P ops S Q ((false, ⟨d, op, ty, ps, af, none⟩) :: mr) a w := by
  refine ⟨wanted_none rfl _, ?_⟩
  unfold Oper.wp
  rw [he]
  refine Calls.mono h fun e w' ⟨v, h0, h1, h2⟩ => ?_
  subst h0
  exact ⟨h1, h2⟩
theorem mixg_value {gd : Option (Nat × Bool)} {op : Op} {d : Option Tmp} {v : Value} (hw : Region.wanted ⟨d, op, ty, ps, af, gd⟩ (yielded ops a.tmps) = true) (hv : ∀ w, (execOp a.eval ⟨d, op, ty, ps, af, gd⟩).run P w = .ok (.value v) w) (h : mixT P ops S Q mr (a.put d v) w) : mixT P ops S Q ((true, ⟨d, op, ty, ps, af, gd⟩) :: mr) a w :=
  ⟨v, Or.inl ⟨hw, fun w _ => hv w⟩, h⟩
theorem mixg_load {gd : Option (Nat × Bool)} {g : Nat} {c : Array Value} {t' : TypeId} {n : Nat} (hw : Region.wanted ⟨some d, .load t x, ty, ps, af, gd⟩ (yielded ops a.tmps) = true) (hx : a.eval x = .pointer (some ⟨g, 0, none⟩)) (hp : Has Lc g c t') (hr : Row P t n) (hn : c.size = n)
    (h : mixT P ops (Known W Lc) Q mr (a.put (some d) (.agg c)) w) : mixT P ops (Known W Lc) Q ((true, ⟨some d, .load t x, ty, ps, af, gd⟩) :: mr) a w := by
  refine ⟨.agg c, Or.inl ⟨hw, ?_⟩, h⟩
  rintro w ⟨u, rfl⟩
  unfold execOp
  simp only [hx, Sem.run_bind, run_load u (h := hp) hr hn, Result.andThen_ok, Sem.run_pure]
theorem mixg_enter {gd : Option (Nat × Bool)} {op : Op} {d : Option Tmp} {f : FuncId} {args : Array Value} (hw : Region.wanted ⟨d, op, ty, ps, af, gd⟩ (yielded ops a.tmps) = true) (he : (execOp a.eval ⟨d, op, ty, ps, af, gd⟩).run P w = .ok (.enter f args) w)
    (h : Calls P f args w fun e w' => ∃ v, e = .returned v ∧ S w' ∧ mixT P ops S Q mr (a.put d v) w') : mixT P ops S Q ((false, ⟨d, op, ty, ps, af, gd⟩) :: mr) a w := by
  refine ⟨hw, ?_⟩
  unfold Oper.wp
  rw [he]
  refine Calls.mono h fun e w' ⟨v, h0, h1, h2⟩ => ?_
  subst h0
  exact ⟨h1, h2⟩
end
theorem reads_nil (h : T a) {S : World → Prop} : readsT P ops S T [] a := h
theorem reads_value {o : Oper} {v : Value} {S : World → Prop} (hg : o.guard = none) (hv : ∀ w, (execOp a.eval o).run P w = .ok (.value v) w) (h : readsT P ops S T rest (a.put o.dst v)) : readsT P ops S T (o :: rest) a :=
  ⟨v, Or.inl ⟨wanted_none hg _, fun w _ => hv w⟩, h⟩
theorem reads_load {g : Nat} {c : Array Value} {t' : TypeId} {n : Nat} (hx : a.eval x = .pointer (some ⟨g, 0, none⟩)) (hp : Has Lc g c t') (hr : Row P t n) (hn : c.size = n)
    (h : readsT P ops (Known W Lc) T rest (a.put (some d) (.agg c))) : readsT P ops (Known W Lc) T (⟨some d, .load t x, ty, ps, af, none⟩ :: rest) a := by
  refine ⟨.agg c, Or.inl ⟨wanted_none rfl _, ?_⟩, h⟩
  rintro w ⟨u, rfl⟩
  unfold execOp
  simp only [hx, Sem.run_bind, run_load u (h := hp) hr hn, Result.andThen_ok, Sem.run_pure]
theorem tail_nil {w : World} {S : World → Prop} (h : Q .normal a w) : tailT P S Q [] a w := h
theorem tail_store {u : KW W L} {g : Nat} {c c' : Array Value} {n : Nat} (hx : a.eval x = .pointer (some ⟨g, 0, none⟩)) (hy : a.eval y = .agg c') (hp : PutAll L g c' c L') (hs : Sub Lc L') (hr : Row P t n) (hn : c.size = n) (hn' : c'.size = n)
    (h1 : c'.all (·.oneCell') = true) (h : ∀ u' : KW W L', tailT P (Known W Lc) Q rest a u'.w) : tailT P (Known W Lc) Q (⟨none, .store t x y, ty, ps, af, none⟩ :: rest) a u.w := by
  obtain ⟨u', hu'⟩ := u.ex_row (h := hp)
  obtain ⟨A, t', B, hL, _⟩ := hp.out
  have hg := (u.mem ⟨g, c, t'⟩ (by rw [hL]; simp)).1
  refine ⟨rfl, ?_⟩
  unfold Oper.wp execOp
  simp only [hx, hy, Instr.storeAt, Instr.sureAddr, Sem.run_bind, Sem.run_pure, Result.andThen_ok, run_storeVar_row u.w g t' t c c' hg (by rw [hn']; exact hr.2) (by omega) h1]
  rw [hu']
  exact ⟨KW.weak (h := hs) u', h u'⟩
theorem tail_assign {u : KW W L} {v : Value} (hv : a.eval x = v) (hs : Sub Lc L) (h : tailT P (Known W Lc) Q rest (a.put (some d) v) u.w) : tailT P (Known W Lc) Q (⟨some d, .assign x, ty, ps, af, none⟩ :: rest) a u.w := by
  refine ⟨rfl, ?_⟩
  unfold Oper.wp execOp
  simp only [hv, Sem.run_pure]
  exact ⟨KW.weak (h := hs) u, h⟩
end
/-! ### laws of the walk that tell more -/
section
variable {P : Program} {ops : Array Oper} {Q : Exit → Act → World → Prop} {rest : List Oper} {a : Act} {W : World} {L L' : List Ent} {u : KW W L} {d : Tmp} {t ty : TypeId} {ps : String} {af : Array Edge} {x y : Operand}
theorem list_alloc_n {c : Array Value} (hz : Zero P t c)
    (h : ∀ (g : Nat) (u' : KW W (⟨g, c, t⟩ :: L)), u.w.heap.size ≤ g → Below u.w.heap.size u.w u'.w → wpList P ops Q rest (a.put (some d) (.pointer (some ⟨g, 0, none⟩))) u'.w) :
    wpList P ops Q (⟨some d, .alloc t, ty, ps, af, none⟩ :: rest) a u.w := by
  obtain ⟨i, hi, hz'⟩ := Option.map_eq_some_iff.1 hz
  obtain ⟨v, hv, rfl⟩ := Option.map_eq_some_iff.1 hz'
  refine wpList_plain rfl fun K hK => ?_
  unfold Oper.wp execOp
  have hr : (Instr.alloc t true (.tuple #[])).run P u.w = .ok (.pointer (some ⟨u.w.heap.size, 0, none⟩)) (u.alloc v.cells t).w := by
    simp [Instr.alloc, zeroValue, typeInfo, hi, hv, newVar, newRow, KW.alloc, go_sem]
  simp only [Sem.run_bind, hr, Result.andThen_ok, Sem.run_pure]
  exact hK _ _ (h _ (u.alloc v.cells t) (Nat.le_refl _) ((Below.refl _ _).alloc (Nat.le_refl _) _))
theorem lst_store_k {g : Nat} {c c' : Array Value} {n : Nat}
    (hx : a.eval x = .pointer (some ⟨g, 0, none⟩)) (hy : a.eval y = .agg c') (hp : PutAll L g c' c L') (hr : Row P t n) (hn : c.size = n) (hn' : c'.size = n)
    (h1 : c'.all (·.oneCell') = true) (h : ∀ u' : KW W L', (∀ k, k ≠ g → u'.w.heap[k]? = u.w.heap[k]?) → (∀ B, B ≤ g → Below B u.w u'.w) → wpList P ops Q rest a u'.w) : wpList P ops Q (⟨none, .store t x y, ty, ps, af, none⟩ :: rest) a u.w := by
  obtain ⟨u', hu'⟩ := u.ex_row (h := hp)
  obtain ⟨A, t', B, hL, _⟩ := hp.out
  have hg := (u.mem ⟨g, c, t'⟩ (by rw [hL]; simp)).1
  refine wpList_plain rfl fun K hK => ?_
  unfold Oper.wp execOp
  simp only [hx, hy, Instr.storeAt, Instr.sureAddr, Sem.run_bind, Sem.run_pure, Result.andThen_ok, run_storeVar_row u.w g t' t c c' hg (by rw [hn']; exact hr.2) (by omega) h1]
  rw [hu']
  refine hK _ _ (h u' (fun k hk => by rw [← hu']; exact heap_setRow_other _ _ _ _ hk) fun B hB => ?_)
  rw [← hu']
  exact ⟨rfl, rfl, rfl, by rw [size_setRow]; exact Nat.le_refl _, fun k hk => heap_setRow_other _ _ _ _ (by omega)⟩
end
end KM
