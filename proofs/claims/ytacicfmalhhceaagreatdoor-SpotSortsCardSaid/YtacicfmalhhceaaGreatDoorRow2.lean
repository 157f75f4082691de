/-
  Rows of structs, for any program: regions that make rows, parts of rows as a call's source.
-/
import Derived.Test.YtacicfmalhhceaaGreatDoorRow
namespace KM
open Go Go.RowKit
section
variable {P : Program} {W : World} {L L1 : List Ent} {a : Act} {K : Value → List Ent → Prop} {d : Tmp} {t e ty : TypeId} {ps : String} {af : Array Edge} {x s : Operand} {b : Addr} {c : Array Value}
theorem se_oldr (hx : a.eval x = .pointer (some b)) (hp : OldR P W t b c) (h : K (.agg c) L) : SE P W ⟨some d, .load t x, ty, ps, af, none⟩ a L K := by
  refine ⟨rfl, fun u => ?_⟩
  unfold execOp
  simp only [hx, Sem.run_bind, run_loadAt_oldr hp u.below, Result.andThen_ok, Sem.run_pure]
  exact ⟨L, sub_nil _, ⟨u, rfl⟩, h⟩
theorem se_slice1 {c0 : Array Value} (h0 : a.eval x = .agg c0) (hb : SliceB P t 1 [(0, .agg c0)] e c) (h : ∀ g, K (.slice (some ⟨g, 0, none⟩) 1 1) (⟨g, c, e⟩ :: L)) :
    SE P W ⟨some d, .buildSlice t 1 #[(0, x)], ty, ps, af, none⟩ a L K := by
  refine ⟨rfl, fun u => ?_⟩
  have hr := run_slice (ps := #[(0, .agg c0)]) hb.out u.w
  unfold execOp
  simp only [List.map_toArray, List.map_cons, List.map_nil, h0, Sem.run_bind, hr, Result.andThen_ok, Sem.run_pure]
  exact ⟨_, sub_nil _, ⟨u.alloc c e, rfl⟩, h _⟩
theorem se_append {α : Type} [Inhabited α] {enc : α → Array Value} {k : Nat} (R : RowT P t e k enc) {g : Nat} {O : List α} {sp : List Value} {n cap m cp : Nat} (hp : L.Perm (⟨g, rowS enc O sp, e⟩ :: L1)) (N : List α)
    (hs : a.eval s = .slice (some ⟨g, 0, none⟩) n cap) (hx : a.eval x = .slice (some b) m cp) (hm : m = N.length) (hcap : (rowS enc O sp).size = cap * k) (hcm : cap ≤ maxLen) (hn : n ≤ O.length)
    (hN : ∀ v : KW W L, ∀ j y, (flat enc N)[j]? = some y → v.w.cell? (b.add j) = some y) (hl : n + N.length ≤ 1000000)
    (h : ∀ (g' cap' : Nat) (sp' : List Value), (rowS enc (O.take n ++ N) sp').size = cap' * k → cap' ≤ maxLen → K (.slice (some ⟨g', 0, none⟩) (n + m) cap') (⟨g', rowS enc (O.take n ++ N) sp', e⟩ :: L1)) :
    SE P W ⟨some d, .call ⟨.builtin .append, #[s, x], #[t, t]⟩, ty, ps, af, none⟩ a L K := by
  subst hm
  refine ⟨rfl, fun u => ?_⟩
  have hN' := hN u
  obtain ⟨v, hv⟩ := u.perm hp
  rw [hv] at hN' ⊢
  obtain ⟨g', cap', sp', u', hr, h1, h2⟩ := run_append_row R v hcap hcm hn N b cp hN' hl ty
  unfold execOp
  simp only [resolve, invoke, builtin, Sem.run_bind, Sem.run_pure, Result.andThen_ok, List.map_toArray, List.map_cons, List.map_nil, hs, hx, hr]
  exact ⟨_, sub_nil _, ⟨u', rfl⟩, h g' cap' sp' h1 h2⟩
end
section
variable {α : Type} [Inhabited α] {enc : α → Array Value} {k : Nat} {P : Program} {t e : TypeId} (R : RowT P t e k enc)
include R
omit [Inhabited α] in
/-- 'row[m:]', its cells known wherever the row is -/
theorem slice_from {g cap m : Nat} {O : List α} {sp : List Value} (hm : m ≤ O.length) (hc : O.length ≤ cap) : ∃ (b : Addr) (cp : Nat),
    (∀ w, (Instr.slice t (.slice (some ⟨g, 0, none⟩) O.length cap) (some (.int .i64 (m : Int))) none none).run P w = .ok (.slice (some b) (O.length - m) cp) w) ∧
    ∀ {W : World} {L : List Ent} (v : KW W L), Has L g (rowS enc O sp) e → ∀ j y, (flat enc (O.drop m))[j]? = some y → v.w.cell? (b.add j) = some y := by
  rcases Nat.lt_or_ge m cap with h | h
  · exact ⟨_, _, fun w => run_slice_lo R hm h w, fun v hp => by rw [Nat.zero_add]; exact cells_row R v hp m⟩
  · have e1 : m = O.length := by omega
    have e2 : cap = O.length := by omega
    subst e1
    refine ⟨⟨g, 0, none⟩, 0, fun w => ?_, fun v hp j y hy => ?_⟩
    · rw [Nat.sub_self]; exact run_slice_end R e2 w
    · rw [List.drop_length] at hy; simp [flat] at hy
omit [Inhabited α] in
/-- a row that is told of, as a row that came in -/
theorem row_in {W : World} {L : List Ent} {g cap : Nat} {O : List α} {sp : List Value} (u : KW W L) (hp : Has L g (rowS enc O sp) e) : RowIn enc u.w O (.slice (some ⟨g, 0, none⟩) O.length cap) :=
  .inr ⟨⟨g, 0, none⟩, cap, rfl, fun j y hy => by
    have := cells_row R u hp 0 j y (by rw [List.drop_zero]; exact hy)
    rwa [Nat.zero_mul] at this⟩
end
section
variable {P : Program} {ops : Array Oper} {rest : List Oper} {a : Act} {W : World} {L : List Ent} {u : KW W L} {Q : Exit → Act → World → Prop} {ty t : TypeId} {ps : String} {af : Array Edge} {d : Tmp} {x : Operand} {b : Addr} {c : Array Value} {gd : Option (Nat × Bool)}
theorem lsg_oldr (hw : Region.wanted ⟨some d, .load t x, ty, ps, af, gd⟩ (yielded ops a.tmps) = true) (hx : a.eval x = .pointer (some b)) (hp : OldR P W t b c) (h : wpList P ops Q rest (a.put (some d) (.agg c)) u.w) : wpList P ops Q (⟨some d, .load t x, ty, ps, af, gd⟩ :: rest) a u.w := by
  unfold wpList
  rw [if_pos hw]
  left
  unfold Oper.wp execOp
  simp only [hx, Sem.run_bind, run_loadAt_oldr hp u.below, Result.andThen_ok, Sem.run_pure]
  exact h
end
end KM
