/-
  Rows of structs, for any program: a row's cells, elements loaded and stored, append, rows that came in.
-/
import Derived.Test.YtacicfmalhhceaaGreatDoorBase
import Derived.Laws.AppendOwn
import Derived.Laws.CopyOwn
namespace KM
open Go Go.RowKit
section
variable {α : Type} [Inhabited α]
/-- a row's elements, cell by cell -/
def flat (enc : α → Array Value) (l : List α) : List Value := l.flatMap fun x => (enc x).toList
/-- a row's cells, and what lies spare behind them -/
def rowS (enc : α → Array Value) (l : List α) (sp : List Value) : Array Value := (flat enc l ++ sp).toArray
variable {enc : α → Array Value} {k : Nat}
omit [Inhabited α] in
theorem flat_app (A B : List α) : flat enc (A ++ B) = flat enc A ++ flat enc B := List.flatMap_append
omit [Inhabited α] in
theorem flat_len (hk : ∀ x, (enc x).size = k) : ∀ l : List α, (flat enc l).length = l.length * k
  | [] => by simp [flat]
  | x :: l => by
    show ((enc x).toList ++ flat enc l).length = _
    rw [List.length_append, flat_len hk l, Array.length_toList, hk, List.length_cons, Nat.add_mul, Nat.one_mul, Nat.add_comm]
omit [Inhabited α] in
theorem flat_take (hk : ∀ x, (enc x).size = k) : ∀ (l : List α) (n : Nat), (flat enc l).take (n * k) = flat enc (l.take n)
  | [], n => by simp [flat]
  | x :: l, 0 => by simp [flat]
  | x :: l, n + 1 => by
    show ((enc x).toList ++ flat enc l).take _ = (enc x).toList ++ flat enc (l.take n)
    rw [← flat_take hk l n, List.take_append, Array.length_toList, hk, Nat.add_mul, Nat.one_mul, Nat.add_sub_cancel, List.take_of_length_le (by rw [Array.length_toList, hk]; omega)]
omit [Inhabited α] in
theorem flat_drop (hk : ∀ x, (enc x).size = k) : ∀ (l : List α) (n : Nat), (flat enc l).drop (n * k) = flat enc (l.drop n)
  | [], n => by simp [flat]
  | x :: l, 0 => by simp
  | x :: l, n + 1 => by
    show ((enc x).toList ++ flat enc l).drop _ = flat enc (l.drop n)
    rw [← flat_drop hk l n, List.drop_append, Array.length_toList, hk, Nat.add_mul, Nat.one_mul, Nat.add_sub_cancel, List.drop_of_length_le (by rw [Array.length_toList, hk]; omega), List.nil_append]
theorem flat_get (hk : ∀ x, (enc x).size = k) : ∀ (l : List α) (i j : Nat), i < l.length → j < k → (flat enc l)[i * k + j]? = (enc l[i]!)[j]?
  | [], i, j, h, _ => absurd h (by simp)
  | x :: l, 0, j, _, hj => by
    show ((enc x).toList ++ flat enc l)[0 * k + j]? = (enc x)[j]?
    rw [Nat.zero_mul, Nat.zero_add, List.getElem?_append_left (by rw [Array.length_toList, hk]; exact hj), Array.getElem?_toList]
  | x :: l, i + 1, j, h, hj => by
    show ((enc x).toList ++ flat enc l)[(i + 1) * k + j]? = (enc l[i]!)[j]?
    rw [← flat_get hk l i j (by rw [List.length_cons] at h; omega) hj, List.getElem?_append_right (by rw [Array.length_toList, hk, Nat.add_mul]; omega), Array.length_toList, hk]
    congr 1
    rw [Nat.add_mul]; omega
theorem row_get (hk : ∀ x, (enc x).size = k) (hp : 0 < k) (l : List α) (sp : List Value) (m : Nat) : (rowS enc l sp)[m]? = if m < l.length * k then (enc l[m / k]!)[m % k]? else sp[m - l.length * k]? := by
  unfold rowS
  rw [List.getElem?_toArray]
  split
  · rename_i h
    have hd := Nat.div_add_mod m k
    have hi : m / k < l.length := Nat.div_lt_of_lt_mul (by rw [Nat.mul_comm]; exact h)
    rw [List.getElem?_append_left (by rw [flat_len hk]; exact h), ← flat_get hk l (m / k) (m % k) hi (Nat.mod_lt _ hp), Nat.mul_comm (m / k), hd]
  · rename_i h
    rw [List.getElem?_append_right (by rw [flat_len hk]; omega), flat_len hk]
omit [Inhabited α] in
theorem row_size (hk : ∀ x, (enc x).size = k) (l : List α) (sp : List Value) : (rowS enc l sp).size = l.length * k + sp.length := by
  unfold rowS
  rw [List.size_toArray, List.length_append, flat_len hk]
/-- what is told of a row's type: slices t of elements e of k cells -/
structure RowT (P : Program) (t e : TypeId) (k : Nat) (enc : α → Array Value) : Prop where
  und : P.underlying t = some (.slice e)
  cel : ∀ x, Cel P e (enc x)
  size : ∀ x, (enc x).size = k
  pos : 0 < k
  info : ∃ i z, P.info? e = some i ∧ i.zero = some z ∧ i.size = k ∧ z.cells.size = k ∧ i.bytes ≤ 100000 ∧ z.cells.all (·.oneCell') = true
omit [Inhabited α] in
theorem rowInfo_of {P : Program} {e : TypeId} {k b : Nat} (h : (P.info? e).bind (fun i => i.zero.map fun z => (i.size, z.cells.size, i.bytes, z.cells.all (·.oneCell'))) = some (k, k, b, true)) (hb : b ≤ 100000) :
    ∃ i z, P.info? e = some i ∧ i.zero = some z ∧ i.size = k ∧ z.cells.size = k ∧ i.bytes ≤ 100000 ∧ z.cells.all (·.oneCell') = true := by
  cases hi : P.info? e with
  | none => rw [hi] at h; cases h
  | some i =>
    rw [hi] at h
    cases hz : i.zero with
    | none => simp [hz] at h
    | some z =>
      simp only [Option.bind_some, hz, Option.map_some, Option.some.injEq, Prod.mk.injEq] at h
      exact ⟨i, z, rfl, hz, h.1, h.2.1, by omega, h.2.2.2⟩
variable {P : Program} {t e : TypeId} (R : RowT P t e k enc)
include R
theorem RowT.part {l : List α} {sp : List Value} {i : Nat} (hi : i < l.length) : Part P e (rowS enc l sp) (i * k) (enc l[i]!) :=
  ⟨(R.cel _).row, fun j hj => by
    rw [R.size] at hj
    have h1 : i * k + j < l.length * k := by
      have := Nat.mul_le_mul_right k (show i + 1 ≤ l.length from hi)
      rw [Nat.add_mul, Nat.one_mul] at this
      omega
    rw [row_get R.size R.pos, if_pos h1, Nat.mul_comm, Nat.mul_add_div R.pos, Nat.div_eq_of_lt hj, Nat.add_zero, Nat.mul_add_mod, Nat.mod_eq_of_lt hj]⟩
theorem RowT.put {l : List α} {sp : List Value} {i : Nat} (hi : i < l.length) (x : α) : PutP P e (rowS enc l sp) (i * k) (enc x) (rowS enc (l.set i x) sp) :=
  have hb : i * k + k ≤ l.length * k := by
    have := Nat.mul_le_mul_right k (show i + 1 ≤ l.length from hi)
    rwa [Nat.add_mul, Nat.one_mul] at this
  ⟨(R.cel _).row, (R.cel _).one, by rw [R.size, row_size R.size]; omega, by
    apply Array.ext_getElem?
    intro m
    rw [splice_get _ _ _ (by rw [Array.length_toList, R.size, row_size R.size]; omega), row_get R.size R.pos, row_get R.size R.pos, List.length_set, Array.length_toList, R.size]
    by_cases h1 : m < l.length * k
    · rw [if_pos h1, if_pos h1]
      by_cases h2 : i * k ≤ m ∧ m < i * k + k
      · have e1 : m / k = i := by
          have : m = k * i + (m - i * k) := by rw [Nat.mul_comm]; omega
          rw [this, Nat.mul_add_div R.pos, Nat.div_eq_of_lt (by omega), Nat.add_zero]
        have e2 : m % k = m - i * k := by
          have : m = k * i + (m - i * k) := by rw [Nat.mul_comm]; omega
          rw [this, Nat.mul_add_mod, Nat.mod_eq_of_lt (by omega)]
          rw [Nat.mul_comm k i]; omega
        rw [if_pos h2, e1, e2, getElem!_pos _ i (by rw [List.length_set]; exact hi), List.getElem_set_self, Array.getElem?_toList]
      · have hne : m / k ≠ i := fun h => h2 (by
          have hd := Nat.div_add_mod m k
          have hm := Nat.mod_lt m R.pos
          rw [h, Nat.mul_comm] at hd
          omega)
        have hi2 : m / k < l.length := Nat.div_lt_of_lt_mul (by rw [Nat.mul_comm]; exact h1)
        rw [if_neg h2, getElem!_pos (l.set i x) (m / k) (by rw [List.length_set]; exact hi2), List.getElem_set_ne (fun h => hne h.symm), getElem!_pos l (m / k) hi2]
    · rw [if_neg h1, if_neg h1, if_neg (by omega)]⟩
omit [Inhabited α] in
theorem RowT.one (l : List α) : ∀ u ∈ flat enc l, u.oneCell' = true := fun u hu => by
  obtain ⟨x, _, h2⟩ := List.mem_flatMap.1 hu
  have := (R.cel x).one
  rw [Array.all_eq_true_iff_forall_mem] at this
  exact this u (Array.mem_toList_iff.1 h2)
end
section
variable {W : World} {L : List Ent}
/-- a block's cells, other ones -/
theorem KW.set_row {g : Nat} {c c' : Array Value} {e : TypeId} (u : KW W (⟨g, c, e⟩ :: L)) : ∃ u' : KW W (⟨g, c', e⟩ :: L), u.w.setRow g c' = u'.w := by
  have hm := u.mem ⟨g, c, e⟩ (by simp)
  have hn := u.nodup
  rw [List.map_cons, List.nodup_cons] at hn
  refine ⟨⟨u.w.setRow g c', u.below.trans ⟨rfl, rfl, rfl, by simp [World.setRow], fun i hi => setRow_other u.w g i c' (by have h2 : W.heap.size ≤ g := hm.2; omega)⟩, fun x hx => ?_, ?_⟩, rfl⟩
  · rcases List.mem_cons.1 hx with rfl | hx
    · exact ⟨setRow_heap u.w g c c' e (0, 0) hm.1, hm.2⟩
    · have h1 := u.mem x (List.mem_cons_of_mem _ hx)
      exact ⟨(setRow_other u.w g x.g c' (fun h => by
        have h3 : x.g ∈ L.map Ent.g := List.mem_map_of_mem hx
        rw [h] at h3
        exact hn.1 h3)).trans h1.1, h1.2⟩
  · rw [List.map_cons, List.nodup_cons]; exact hn
variable {α : Type} [Inhabited α] {enc : α → Array Value} {k : Nat} {P : Program} {t e : TypeId} (R : RowT P t e k enc)
include R
omit [Inhabited α] in
/-- append to the first n of a row that the call owns -/
theorem run_append_row {g : Nat} {O : List α} {sp : List Value} (u : KW W (⟨g, rowS enc O sp, e⟩ :: L)) {n cap : Nat} (hcap : (rowS enc O sp).size = cap * k) (hm : cap ≤ maxLen) (hn : n ≤ O.length)
    (N : List α) (b : Addr) (c : Nat) (hN : ∀ j v, (flat enc N)[j]? = some v → u.w.cell? (b.add j) = some v) (hs : n + N.length ≤ 1000000) (ty : TypeId) :
    ∃ (g' cap' : Nat) (sp' : List Value) (u' : KW W (⟨g', rowS enc (O.take n ++ N) sp', e⟩ :: L)),
      (Builtin.append_ #[t, t] ty #[.slice (some ⟨g, 0, none⟩) n cap, .slice (some b) N.length c]).run P u.w = .ok (.slice (some ⟨g', 0, none⟩) (n + N.length) cap') u'.w ∧
      (rowS enc (O.take n ++ N) sp').size = cap' * k ∧ cap' ≤ maxLen := by
  obtain ⟨i, z, hi, hz, hsz, hzs, hby, _⟩ := R.info
  have hmem := (u.mem ⟨g, rowS enc O sp, e⟩ (by simp)).1
  have hl : (flat enc N).length = N.length * i.size := by rw [flat_len R.size, hsz]
  have ht : (rowS enc O sp).toList.take (n * i.size) = flat enc (O.take n) := by
    unfold rowS
    rw [hsz, List.take_append_of_le_length (by rw [flat_len R.size]; exact Nat.mul_le_mul_right k hn), flat_take R.size]
  have htl : (O.take n).length = n := by rw [List.length_take]; omega
  by_cases hroom : n + N.length ≤ cap
  · have hfit : n * i.size + (flat enc N).length ≤ (rowS enc O sp).size := by rw [hl, hcap, hsz, ← Nat.add_mul]; exact Nat.mul_le_mul_right k hroom
    have hr := run_append_room (P := P) u.w t ty e i R.und hi g n cap (rowS enc O sp) hmem b N.length c (flat enc N) hl hN (R.one N) hroom hfit
    obtain ⟨u', hu'⟩ := u.set_row (c' := rowS enc (O.take n ++ N) ((rowS enc O sp).toList.drop (n * i.size + (flat enc N).length)))
    have hc : ((rowS enc O sp).toList.take (n * i.size) ++ flat enc N ++ (rowS enc O sp).toList.drop (n * i.size + (flat enc N).length)).toArray = rowS enc (O.take n ++ N) ((rowS enc O sp).toList.drop (n * i.size + (flat enc N).length)) := by
      rw [ht]
      show _ = (flat enc (O.take n ++ N) ++ _).toArray
      rw [flat_app]
    rw [hc, hu'] at hr
    have hL : (rowS enc O sp).toList.length = cap * k := by rw [Array.length_toList]; exact hcap
    refine ⟨g, cap, _, u', hr, ?_, hm⟩
    rw [row_size R.size, List.length_drop, hL, hl, hsz, List.length_append, htl, Nat.add_mul]
    have := Nat.mul_le_mul_right k hroom
    rw [Nat.add_mul] at this
    omega
  · have holds : ∀ j v, (flat enc (O.take n))[j]? = some v → u.w.cell? ((⟨g, 0, none⟩ : Addr).add j) = some v := fun j v h => by
      have hadd : (⟨g, 0, none⟩ : Addr).add j = ⟨g, j, none⟩ := by unfold Addr.add; split <;> simp_all
      rw [hadd, cell_of_row u.w g j _ e (0, 0) hmem]
      rw [← ht, List.getElem?_take] at h
      split at h
      · simpa using h
      · cases h
    have hr := run_append_grow (P := P) u.w t ty e i z R.und hi hz ⟨g, 0, none⟩ n cap (flat enc (O.take n)) (by rw [flat_len R.size, htl, hsz]) holds b N.length c (flat enc N) hl hN (by omega) (by omega) (growslice_fits (by omega) (by
      have := Nat.mul_le_mul hs hby
      omega))
    have hge := grownCap_ge u.w (n + N.length) cap e
    have hc : (flat enc (O.take n)).toArray ++ (flat enc N).toArray ++ Builtin.zeroCells z.cells (grownCap u.w (n + N.length) cap e - (n + N.length)) = rowS enc (O.take n ++ N) (Builtin.zeroCells z.cells (grownCap u.w (n + N.length) cap e - (n + N.length))).toList := by
      apply Array.ext'
      unfold rowS
      rw [flat_app]
      simp [List.append_assoc]
    rw [hc] at hr
    obtain ⟨u', hu'⟩ := KW.weak (h := Sub.both (h := Sub.skip (e := ⟨g, rowS enc O sp, e⟩) (h := ⟨List.Sublist.refl L⟩))) (u.drew.alloc (rowS enc (O.take n ++ N) (Builtin.zeroCells z.cells (grownCap u.w (n + N.length) cap e - (n + N.length))).toList) e)
    have hw : u.w.drew.alloc (.cells (rowS enc (O.take n ++ N) (Builtin.zeroCells z.cells (grownCap u.w (n + N.length) cap e - (n + N.length))).toList) e) = u'.w := hu'
    rw [hw] at hr
    refine ⟨u.w.heap.size, _, _, u', hr, ?_, grownCap_le_maxLen u.w _ cap e (by simp only [maxLen]; omega)⟩
    have hZ : (Builtin.zeroCells z.cells (grownCap u.w (n + N.length) cap e - (n + N.length))).toList.length = (grownCap u.w (n + N.length) cap e - (n + N.length)) * k := by rw [Array.length_toList, size_zeroCells, hzs]
    rw [row_size R.size, hZ, List.length_append, htl, ← Nat.add_mul]
    congr 1
    omega
omit [Inhabited α] in
/-- cells of a row that is told of -/
theorem cells_row {g : Nat} {O : List α} {sp : List Value} {L : List Ent} (u : KW W L) (hp : Has L g (rowS enc O sp) e) (m : Nat) : ∀ j v, (flat enc (O.drop m))[j]? = some v → u.w.cell? ((⟨g, m * k, none⟩ : Addr).add j) = some v := fun j v h => by
  have hadd : (⟨g, m * k, none⟩ : Addr).add j = ⟨g, m * k + j, none⟩ := by unfold Addr.add; split <;> simp_all
  rw [hadd, cell_of_row u.w g _ _ e (0, 0) (u.mem _ hp.out).1]
  rw [← flat_drop R.size, List.getElem?_drop] at h
  unfold rowS
  rw [List.getElem?_toArray, List.getElem?_append_left (List.getElem?_eq_some_iff.1 h).1, h]
end
/-! ### elements that came in -/
/-- what lies at an address, now and later, is, as type t, c -/
class OldR (P : Program) (W : World) (t : TypeId) (a : Addr) (c : outParam (Array Value)) : Prop where
  out : ∀ w, Below W.heap.size W w → (loadVar t a).run P w = .ok (.agg c) w
theorem run_loadAt_oldr {P : Program} {W w : World} {t : TypeId} {a : Addr} {c : Array Value} (h : OldR P W t a c) (hb : Below W.heap.size W w) : (Instr.loadAt t (.pointer (some a))).run P w = .ok (.agg c) w := by
  simp only [Instr.loadAt, Instr.sureAddr, Sem.run_bind, Sem.run_pure, Result.andThen_ok, h.out w hb]
theorem OldR.later {P : Program} {W w : World} {t : TypeId} {a : Addr} {c : Array Value} (h : OldR P W t a c) (hb : Below W.heap.size W w) : OldR P w t a c :=
  ⟨fun w' hb' => h.out w' (hb.trans (hb'.mono hb.size))⟩
section
variable {P : Program} {ops : Array Oper} {rest : List Oper} {a : Act} {W : World} {L Lc : List Ent} {u : KW W L} {Q : Exit → Act → World → Prop} {ty t : TypeId} {ps : String} {af : Array Edge} {d : Tmp} {x : Operand} {b : Addr} {c : Array Value} {gd : Option (Nat × Bool)}
theorem ls_oldr (hx : a.eval x = .pointer (some b)) (hp : OldR P W t b c) (h : wpList P ops Q rest (a.put (some d) (.agg c)) u.w) : wpList P ops Q (⟨some d, .load t x, ty, ps, af, none⟩ :: rest) a u.w := by
  refine wpList_plain rfl fun K hK => ?_
  unfold Oper.wp execOp
  simp only [hx, Sem.run_bind, run_loadAt_oldr hp u.below, Result.andThen_ok, Sem.run_pure]
  exact hK _ _ h
theorem qq_oldr {TQ : Act → Prop} (hx : a.eval x = .pointer (some b)) (hp : OldR P W t b c) (hw : Region.wanted ⟨some d, .load t x, ty, ps, af, gd⟩ (yielded ops a.tmps) = true)
    (h : QQ P ops (fun w' => ∃ u : KW W L, w' = u.w) TQ rest (a.put (some d) (.agg c))) : QQ P ops (fun w' => ∃ u : KW W L, w' = u.w) TQ (⟨some d, .load t x, ty, ps, af, gd⟩ :: rest) a := ⟨qt_some hw (by
    rintro w ⟨u, rfl⟩
    unfold Oper.quietAt execOp
    simp only [hx, Sem.run_bind, run_loadAt_oldr hp u.below, Result.andThen_ok, Sem.run_pure]
    exact ⟨rfl, rfl⟩) h.out⟩
/-- a call of a function value, in a region that only reads -/
theorem qq_callv {TQ : Act → Prop} {f : FuncId} {xs : Array Operand} {ts : Array TypeId} {args : Array Value} {v : Value} {dq : Option Tmp} (he : ∀ w, (execOp a.eval ⟨dq, .call ⟨.value x, xs, ts⟩, ty, ps, af, gd⟩).run P w = .ok (.enter f args) w) (hc : ∀ u : KW W L, Calls P f args u.w (Ret v u.w)) (hw : Region.wanted ⟨dq, .call ⟨.value x, xs, ts⟩, ty, ps, af, gd⟩ (yielded ops a.tmps) = true)
    (h : QQ P ops (fun w' => ∃ u : KW W L, w' = u.w) TQ rest (a.put dq v)) : QQ P ops (fun w' => ∃ u : KW W L, w' = u.w) TQ (⟨dq, .call ⟨.value x, xs, ts⟩, ty, ps, af, gd⟩ :: rest) a := ⟨qt_call hw he hc h.out⟩
/-- append -/
theorem ls_append {α : Type} [Inhabited α] {enc : α → Array Value} {k : Nat} {e : TypeId} (R : RowT P t e k enc) {g : Nat} {O : List α} {sp : List Value} {v : KW W (⟨g, rowS enc O sp, e⟩ :: L)} {s : Operand} {n cap m cp : Nat} (N : List α)
    (hs : a.eval s = .slice (some ⟨g, 0, none⟩) n cap) (hx : a.eval x = .slice (some b) m cp) (hm : m = N.length) (hcap : (rowS enc O sp).size = cap * k) (hcm : cap ≤ maxLen) (hn : n ≤ O.length)
    (hN : ∀ j y, (flat enc N)[j]? = some y → v.w.cell? (b.add j) = some y) (hl : n + N.length ≤ 1000000)
    (h : ∀ (g' cap' : Nat) (sp' : List Value) (u' : KW W (⟨g', rowS enc (O.take n ++ N) sp', e⟩ :: L)), (rowS enc (O.take n ++ N) sp').size = cap' * k → cap' ≤ maxLen → wpList P ops Q rest (a.put (some d) (.slice (some ⟨g', 0, none⟩) (n + m) cap')) u'.w) :
    wpList P ops Q (⟨some d, .call ⟨.builtin .append, #[s, x], #[t, t]⟩, ty, ps, af, none⟩ :: rest) a v.w := by
  subst hm
  obtain ⟨g', cap', sp', u', hr, h1, h2⟩ := run_append_row R v hcap hcm hn N b cp hN hl ty
  refine wpList_plain rfl fun K hK => ?_
  unfold Oper.wp execOp
  simp only [resolve, invoke, builtin, Sem.run_bind, Sem.run_pure, Result.andThen_ok, List.map_toArray, List.map_cons, List.map_nil, hs, hx, hr]
  exact hK _ _ (h g' cap' sp' u' h1 h2)
/-- a new row of no elements -/
theorem ls_slice0 {α : Type} [Inhabited α] {enc : α → Array Value} {k : Nat} {e : TypeId} (R : RowT P t e k enc) (h : ∀ (g : Nat) (u' : KW W (⟨g, rowS enc [] [], e⟩ :: L)), wpList P ops Q rest (a.put (some d) (.slice (some ⟨g, 0, none⟩) 0 0)) u'.w) :
    wpList P ops Q (⟨some d, .buildSlice t 0 #[], ty, ps, af, none⟩ :: rest) a u.w := by
  obtain ⟨i, z, hi, hz, _⟩ := R.info
  have hr : (Instr.buildSlice t 0 #[]).run P u.w = .ok (.slice (some ⟨u.w.heap.size, 0, none⟩) 0 0) (u.alloc (rowS enc [] []) e).w := by
    simp [Instr.buildSlice, run_underlying R.und, Go.sizeOf, typeInfo, hi, Instr.fill, newRow, KW.alloc, rowS, flat, go_sem]
  refine wpList_plain rfl fun K hK => ?_
  unfold Oper.wp execOp
  simp only [List.map_toArray, List.map_nil, Sem.run_bind, hr, Result.andThen_ok, Sem.run_pure]
  exact hK _ _ (h _ (u.alloc (rowS enc [] []) e))
end
/-! ### parts of rows, noughts, rows that came in, blocks that a call made -/
section
variable {α : Type} [Inhabited α] {enc : α → Array Value} {k : Nat} {P : Program} {t e : TypeId} (R : RowT P t e k enc)
include R
omit [Inhabited α] in
theorem run_slice_lo {g o n cap m : Nat} (h : m ≤ n) (hm : m < cap) (W : World) :
    (Instr.slice t (.slice (some ⟨g, o, none⟩) n cap) (some (.int .i64 (m : Int))) none none).run P W = .ok (.slice (some ⟨g, o + m * k, none⟩) (n - m) (cap - m)) W := by
  obtain ⟨i, z, hi, _, hsz, _⟩ := R.info
  have hne : cap ≠ m := by omega
  have ha : (⟨g, o, none⟩ : Addr).add (m * k) = ⟨g, o + m * k, none⟩ := by unfold Addr.add; split <;> simp_all
  have hb := run_sliceBound (P := P) (w := W) .i64 (m : Int) n .sliceB (by omega) (by omega)
  simp only [Int.toNat_natCast] at hb
  simp [Instr.slice, run_underlying R.und, Instr.sliceBounds, Go.sizeOf, typeInfo, hi, hsz, hne, ha, hb]
omit [Inhabited α] in
theorem run_slice_end {a : Addr} {n cap : Nat} (h : cap = n) (W : World) :
    (Instr.slice t (.slice (some a) n cap) (some (.int .i64 (n : Int))) none none).run P W = .ok (.slice (some a) 0 0) W := by
  subst h
  obtain ⟨i, z, hi, _, hsz, _⟩ := R.info
  have hb := run_sliceBound (P := P) (w := W) .i64 (cap : Int) cap .sliceB (by omega) (by omega)
  simp only [Int.toNat_natCast] at hb
  simp [Instr.slice, run_underlying R.und, Instr.sliceBounds, Go.sizeOf, typeInfo, hi, hb]
omit [Inhabited α] in
theorem run_slice_hi {a : Addr} {n cap m : Nat} (h : m ≤ cap) (W : World) :
    (Instr.slice t (.slice (some a) n cap) none (some (.int .i64 (m : Int))) none).run P W = .ok (.slice (some a) m cap) W := by
  obtain ⟨i, z, hi, _, hsz, _⟩ := R.info
  have hb := run_sliceBound (P := P) (w := W) .i64 (m : Int) cap .sliceAcap (by omega) (by omega)
  simp only [Int.toNat_natCast] at hb
  have h0 : a.add 0 = a := by simp [Addr.add]
  simp [Instr.slice, run_underlying R.und, Instr.sliceBounds, Go.sizeOf, typeInfo, hi, hb, h0]
omit [Inhabited α] in
/-- noughts from element m on -/
theorem ls_clear {ops : Array Oper} {rest : List Oper} {a : Act} {W : World} {L : List Ent} {Q : Exit → Act → World → Prop} {ty : TypeId} {ps : String} {af : Array Edge} {d : Option Tmp} {x : Operand} {g m n c : Nat} {O : List α} {sp : List Value} {u : KW W (⟨g, rowS enc O sp, e⟩ :: L)}
    (hx : a.eval x = .slice (some ⟨g, m * k, none⟩) n c) (hn : n = O.length - m) (hm : m < O.length)
    (h : ∀ (sp' : List Value) (u' : KW W (⟨g, rowS enc (O.take m) sp', e⟩ :: L)), (rowS enc (O.take m) sp').size = (rowS enc O sp).size → wpList P ops Q rest (a.put d (.tuple #[])) u'.w) :
    wpList P ops Q (⟨d, .call ⟨.builtin .clear, #[x], #[t]⟩, ty, ps, af, none⟩ :: rest) a u.w := by
  obtain ⟨i, z, hi, hz, hsz, hzs, _, hz1⟩ := R.info
  have hmem := (u.mem ⟨g, rowS enc O sp, e⟩ (by simp)).1
  have hzl : (Builtin.zeroCells z.cells n).toList.length = n * k := by rw [Array.length_toList, size_zeroCells, hzs]
  have hmn : m * k + n * k = O.length * k := by rw [← Nat.add_mul]; congr 1; omega
  have hsize := row_size R.size O sp
  have hone : ∀ v ∈ (Builtin.zeroCells z.cells n).toList, v.oneCell' = true := fun v hv => by
    rw [Array.all_eq_true_iff_forall_mem] at hz1
    simp only [Builtin.zeroCells, Array.toList_map, List.mem_map] at hv
    obtain ⟨j, hj, rfl⟩ := hv
    have hp : 0 < z.cells.size := by rw [hzs]; exact R.pos
    rw [getElem!_pos z.cells _ (Nat.mod_lt j hp)]
    exact hz1 _ (Array.getElem_mem _)
  have hst := run_storeCells_at (P := P) g (m * k) e (Builtin.zeroCells z.cells n).toList 0 (rowS enc O sp) u.w hmem (by rw [hzl, hsize]; omega) hone
  have ht : (rowS enc O sp).toList.take (m * k) = flat enc (O.take m) := by
    unfold rowS
    rw [List.take_append_of_le_length (by rw [flat_len R.size]; exact Nat.mul_le_mul_right k (by omega)), flat_take R.size]
  rw [Nat.add_zero, ht, List.append_assoc] at hst
  obtain ⟨u', hu'⟩ := u.set_row (c' := rowS enc (O.take m) ((Builtin.zeroCells z.cells n).toList ++ (rowS enc O sp).toList.drop (m * k + (Builtin.zeroCells z.cells n).toList.length)))
  have hst' : (storeCells ⟨g, m * k, none⟩ (Builtin.zeroCells z.cells n).toList 0).run P u.w = .ok () u'.w := hst.trans (by rw [← hu']; rfl)
  have hn0 : n ≠ 0 := by omega
  have hr : (Builtin.clear_ #[t] ty #[.slice (some ⟨g, m * k, none⟩) n c]).run P u.w = .ok (.tuple #[]) u'.w := by
    cases n with
    | zero => exact absurd rfl hn0
    | succ n => simp [Builtin.clear_, run_underlying R.und, zeroValue, typeInfo, hi, hz, hst']
  refine wpList_plain rfl fun K hK => ?_
  unfold Oper.wp execOp
  simp only [resolve, invoke, builtin, Sem.run_bind, Sem.run_pure, Result.andThen_ok, List.map_toArray, List.map_cons, List.map_nil, hx, hr]
  refine hK _ _ (h _ u' ?_)
  have hL : (rowS enc O sp).toList.length = O.length * k + sp.length := by rw [Array.length_toList, hsize]
  have hT : (O.take m).length = m := by rw [List.length_take]; omega
  rw [row_size R.size, List.length_append, List.length_drop, hzl, hL, hsize, hT]
  omega
end
/-- a row that came in: nil, or elements that lie somewhere -/
def RowIn {α : Type} (enc : α → Array Value) (w : World) (l : List α) (v : Value) : Prop :=
  (v = .slice none 0 0 ∧ l = []) ∨ ∃ a cap, v = .slice (some a) l.length cap ∧ ∀ j u, (flat enc l)[j]? = some u → w.cell? (a.add j) = some u
theorem cell_later {w w' : World} {a : Addr} {v : Value} (hb : Below w.heap.size w w') (h : w.cell? a = some v) : w'.cell? a = some v :=
  (World.cell?_of_block (hb.block _ (World.block_lt_of_cell? w a h))).trans h
theorem RowIn.later {α : Type} {enc : α → Array Value} {w w' : World} {l : List α} {v : Value} (h : RowIn enc w l v) (hb : Below w.heap.size w w') : RowIn enc w' l v := by
  rcases h with h | ⟨a, cap, rfl, h⟩
  · exact .inl h
  · exact .inr ⟨a, cap, rfl, fun j u hu => cell_later hb (h j u hu)⟩
theorem add_add (a : Addr) (i j : Nat) : (a.add i).add j = a.add (i + j) := by
  unfold Addr.add
  by_cases hi : i = 0 <;> by_cases hj : j = 0 <;> simp [hi, hj, Nat.add_assoc]
theorem OldR.of {P : Program} {W : World} {t : TypeId} {a : Addr} {c : Array Value} (hr : Row P t c.size) (h : ∀ j v, c[j]? = some v → W.cell? (a.add j) = some v) : OldR P W t a c := by
  refine ⟨fun w hb => ?_⟩
  obtain ⟨d, hu, hd⟩ := row_under hr
  have hl : (loadCells a c.toList.length).run P w = .ok c.toList.toArray w := run_loadCells_list (P := P) w a c.toList fun j v hv => cell_later hb (h j v (by simpa using hv))
  have hagg : (isAgg t).run P w = .ok true w := by
    unfold isAgg
    rw [Sem.run_bind, run_underlying hu w]
    cases d <;> simp_all
  have h2 := hr.2
  cases hq : P.info? t with
  | none => rw [hq] at h2; simp at h2
  | some i =>
    have hs : i.size = c.size := by rw [hq] at h2; simpa using h2
    simp only [Array.length_toList] at hl
    simp [loadVar, Sem.run_bind, hagg, Go.sizeOf, typeInfo, hq, hs, hl]
/-- an element of a row that came in -/
theorem old_get {α : Type} [Inhabited α] {enc : α → Array Value} {k : Nat} {P : Program} {t e : TypeId} (R : RowT P t e k enc) {w : World} {l : List α} {a : Addr} (h : ∀ j u, (flat enc l)[j]? = some u → w.cell? (a.add j) = some u) {i : Nat} (hi : i < l.length) :
    OldR P w e (a.add (i * k)) (enc l[i]!) :=
  OldR.of (R.cel _).row fun j v hj => by
    have hjk : j < k := by rw [← R.size l[i]!]; exact (Array.getElem?_eq_some_iff.1 hj).1
    rw [add_add]
    exact h _ _ (by rw [flat_get R.size l i j hi hjk]; exact hj)
/-- what a call has made is told of from now on -/
theorem KW.join {W : World} {L M : List Ent} (u : KW W L) (v : KW u.w M) : ∃ u' : KW W (M ++ L), v.w = u'.w := by
  refine ⟨⟨v.w, u.below.trans (v.below.mono u.size), fun x hx => ?_, ?_⟩, rfl⟩
  · rcases List.mem_append.1 hx with hx | hx
    · exact ⟨(v.mem x hx).1, Nat.le_trans u.size (v.mem x hx).2⟩
    · exact (u.later v.below).mem x hx
  · rw [List.map_append]
    refine List.nodup_append.2 ⟨v.nodup, u.nodup, fun i hi j hj hij => ?_⟩
    obtain ⟨x, hx, rfl⟩ := List.mem_map.1 hi
    obtain ⟨y, hy, rfl⟩ := List.mem_map.1 hj
    have h1 := (v.mem x hx).2
    have h2 := u.lt_of_mem y hy
    omega
/-! ### regions walked order by order: values taken first -/
section
variable {P : Program} {ops : Array Oper} {Q : Exit → Act → World → Prop} {W : World} {L : List Ent} {a : Act} {ls : Array Bool} {f : Nat} {o : Oper} {v : Value}
theorem aa_take (i : Nat) (hB : (Region.noSelect ops && (Region.ready .any ops ls).contains i && Region.free .any ops ls i && (ops[i]?).isSome) = true) (ho : ops[i]? = some o) (hg : o.guard = none) (hv : ∀ w, (execOp a.eval o).run P w = .ok (.value v) w)
    (h : AA P ops Q W f (ls.setIfInBounds i true) (a.put o.dst v) L) : AA P ops Q W (f + 1) ls a L := by
  simp only [Bool.and_eq_true] at hB
  exact ⟨any_first ho hg (Region.noSelect_spec hB.1.1.1) f ls a L (Region.free_spec ho hB.1.2) (by simpa using hB.1.1.2) (fun L' hL u => by rw [hv]; exact ⟨L', hL, ⟨u, rfl⟩, rfl, rfl⟩) (sub_nil L) h.out⟩
end
end KM
