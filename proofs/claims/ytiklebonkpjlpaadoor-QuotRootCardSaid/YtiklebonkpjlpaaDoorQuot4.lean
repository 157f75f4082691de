/-
  package quot: a shifted number: a contract over the translation.
-/
import Derived.Test.YtiklebonkpjlpaaDoorQuot3
import Derived.Test.YtiklebonkpjlpaaDoorQuotMath2
import Derived.Laws.CopyOwn
namespace KM
open Go Go.RowKit WideM WideV QuotM
theorem KW.perm_ex {W : World} {L L' : List Ent} (u : KW W L) (h : L'.Perm L) : ∃ u' : KW W L', u.w = u'.w :=
  ⟨⟨u.w, u.below, fun e he => u.mem e (h.mem_iff.1 he), (h.map _).nodup_iff.2 u.nodup⟩, rfl⟩
theorem KW.ex_put2 {W : World} {L : List Ent} {e e2 : Ent} {g : Nat} {c c' : Array Value} {t : TypeId} {j : Nat} {v : Value} (u : KW W (e :: e2 :: ⟨g, c, t⟩ :: L)) (h : c.setIfInBounds j v = c') : ∃ u' : KW W (e :: e2 :: ⟨g, c', t⟩ :: L), u.w.setCell ⟨g, j, none⟩ v = u'.w := by
  subst h
  exact u.ex_cell
theorem call_drew {P : Program} {W : World} {L : List Ent} {f : FuncId} {args : Array Value} {v : Value} (h : ∀ w, Calls P f args w (fun e w' => e = .returned v ∧ ∃ n, w' = w.drewN n)) (u : KW W L) :
    Calls P f args u.w fun e w'' => e = .returned v ∧ ∃ u' : KW W L, w'' = u'.w :=
  (h u.w).mono fun _ _ ⟨he, n, hn⟩ => ⟨he, by rw [hn]; exact u.go (below_drewN (Below.refl _ _) n)⟩
theorem cells_part (m m' s n : Nat) (hm : n ≤ m) (hm' : n ≤ m') : ((cells m 0).toList.take 0 ++ ((cells m' s).toList.take n ++ (cells m 0).toList.drop (0 + ((cells m' s).toList.take n).length))).toArray = cells m (s % B ^ n) := by
  have hl : ((cells m' s).toList.take n).length = n := by simp; omega
  rw [hl]
  apply Array.ext_getElem?
  intro i
  simp only [List.take_zero, List.nil_append, List.getElem?_toArray, Nat.zero_add]
  by_cases hi : i < n
  · rw [List.getElem?_append_left (by rw [hl]; exact hi), List.getElem?_take_of_lt hi, Array.getElem?_toList, cells_get (by omega), cells_get (by omega), wd_mod, if_pos hi]
  · rw [List.getElem?_append_right (by rw [hl]; omega), hl, List.getElem?_drop, show n + (i - n) = i by omega, Array.getElem?_toList]
    by_cases him : i < m
    · rw [cells_get him, cells_get him, wd_mod, if_neg hi]
      simp [wd]
    · rw [Array.getElem?_eq_none (by simp; omega), Array.getElem?_eq_none (by simp; omega)]
/-- copy of a row's lower words into a row of noughts -/
theorem list_copy0 {P : Program} {ops : Array Oper} {Q : Exit → Act → World → Prop} {rest : List Oper} {o : Oper} {a : Act} {W : World} {L L' : List Ent} {u : KW W L} {x y : Operand} {dT sT elem T2 : TypeId} {g g2 m m' s s' n dl dc sl sc : Nat}
    (hgd : o.guard = none) (ho : o.op = .call { callee := .builtin .copy, args := #[x, y], argTypes := #[dT, sT] }) (hu : P.underlying dT = some (.slice elem)) (hsz : (P.info? elem).map (·.size) = some 1)
    (hx : a.eval x = .slice (some ⟨g, 0, none⟩) dl dc) (hy : a.eval y = .slice (some ⟨g2, 0, none⟩) sl sc) (hn : n = Nat.min sl dl) (hm : n ≤ m) (hm' : n ≤ m') (he : s % B ^ n = s')
    [hp : PutAll L g (cells m s') (cells m 0) L'] [hs : Has L g2 (cells m' s) T2]
    (h : ∀ u' : KW W L', wpList P ops Q rest (a.put o.dst (goInt (n : Nat))) u'.w) : wpList P ops Q (o :: rest) a u.w := by
  subst he
  obtain ⟨A, t', C, hL, _⟩ := hp.out
  have hg := (u.mem ⟨g, cells m 0, t'⟩ (by rw [hL]; simp)).1
  have hl : ((cells m' s).toList.take n).length = n := by simp; omega
  refine wpList_copy_own hgd x y dT sT ho elem hu hsz g 0 dl dc ⟨g2, 0, none⟩ sl sc hx hy (cells m 0) t' hg ((cells m' s).toList.take n) (by rw [hl]; exact hn) ?_ (by rw [hl]; simp; omega) ?_ ?_
  · intro j v hj
    have hjn : j < n := by
      have := (List.getElem?_eq_some_iff.1 hj).1
      rw [hl] at this; exact this
    rw [List.getElem?_take_of_lt hjn, Array.getElem?_toList] at hj
    have e : (⟨g2, 0, none⟩ : Addr).add j = ⟨g2, j, none⟩ := by cases j <;> simp [Addr.add]
    rw [e, KW.cell? u j]; exact hj
  · intro v hv
    have := List.mem_of_mem_take hv
    have h1 := cells_one m' s
    rw [Array.all_eq_true_iff_forall_mem] at h1
    exact h1 v (by simpa using this)
  · rw [cells_part m m' s n hm hm', hl]
    obtain ⟨u', hu'⟩ := u.ex_row (h := hp)
    rw [hu']
    exact h u'
section
variable {P : Program} {fn : Func} {R : Ending → World → Prop} {tmps : Array Value} {W : World} {L : List Ent} {u : KW W L} {ty ty' : TypeId} {p q r : Tmp} {g g' n n' : Nat} {c c' : Array Value} {t t' : TypeId}
theorem body_cell2 (hf : fn.results = #[.cell p ty, .cell q ty']) (hp : tmps.getD p undef = .pointer (some ⟨g, 0, none⟩)) (hq : tmps.getD q undef = .pointer (some ⟨g', 0, none⟩)) [h : Has L g c t] [h' : Has L g' c' t'] (hr : Row P ty n) (hn : c.size = n) (hr' : Row P ty' n') (hn' : c'.size = n')
    (hR : R (.returned (.tuple #[.agg c, .agg c'])) u.w) : bodyPost P fn R .ret ⟨tmps, []⟩ u.w := by
  obtain ⟨h1, h2⟩ := run_cell (u := u) hp hr hn
  obtain ⟨h3, h4⟩ := run_cell (u := u) hq hr' hn'
  refine bodyPost_ret (v := .tuple #[.agg c, .agg c']) ?_ rfl hR
  simp only [Array.getD_eq_getD_getElem?] at h1 h3
  simp only [results, hf]
  simp [Sem.run_bind, h1, h2, h3, h4]
theorem body_cell2_tmp {v : Value} (hf : fn.results = #[.cell p ty, .cell q ty', .tmp r]) (hp : tmps.getD p undef = .pointer (some ⟨g, 0, none⟩)) (hq : tmps.getD q undef = .pointer (some ⟨g', 0, none⟩)) (hv : tmps.getD r undef = v) [h : Has L g c t] [h' : Has L g' c' t'] (hr : Row P ty n) (hn : c.size = n) (hr' : Row P ty' n') (hn' : c'.size = n')
    (hR : R (.returned (.tuple #[.agg c, .agg c', v])) u.w) : bodyPost P fn R .ret ⟨tmps, []⟩ u.w := by
  obtain ⟨h1, h2⟩ := run_cell (u := u) hp hr hn
  obtain ⟨h3, h4⟩ := run_cell (u := u) hq hr' hn'
  refine bodyPost_ret (v := .tuple #[.agg c, .agg c', v]) ?_ rfl hR
  simp only [Array.getD_eq_getD_getElem?] at h1 h3 hv
  simp only [results, hf]
  simp [Sem.run_bind, h1, h2, h3, h4, hv]
end
end KM
namespace Go.Proofs.YtiklebonkpjlpaaDoor.QuotW
open Go.RowKit
open DigM WideM WideV KM DigW WideW QuotM
theorem row9 : Row Tryd.prog 63 9 := ⟨by kernel_rfl, by kernel_rfl⟩
theorem zero9 : KM.Zero Tryd.prog 63 (cells 9 0) := by unfold KM.Zero; kernel_rfl
theorem size1 : (Tryd.prog.info? 22).map (·.size) = some 1 := by kernel_rfl
theorem index0 (n x : Nat) (hx : wd n 0 = x) (w : World) : (Instr.index 24 (wv n) (.int .i64 0)).run Tryd.prog w = .ok (.int .u64 (x : Nat)) w := by
  have hp : Tryd.prog.plainKey 22 = true := by kernel_rfl
  have hs : (sizeOf 22).run Tryd.prog w = .ok 1 w := by
    obtain ⟨i0, hi, hz0, hz1, hz2⟩ := info_parts infoU
    simp [sizeOf, typeInfo, hi, hz1, go_sem]
  have hg : (cells 8 n)[0 * 1]? = some (.int .u64 (x : Nat)) := cells_is (by decide) hx
  simp only [Instr.index, Sem.run_bind, run_underlying Tryd.underlying24, Result.andThen_ok, asIntOf, Sem.run_pure]
  simp only [hs, Sem.run_bind, Result.andThen_ok, Int.toNat_zero, Int.le_refl, true_and, show ((0 : Int) < (8 : Nat)) from by decide, if_true, run_part_plain w hp hg]
theorem shifted_parts (a k : Nat) (ha : Hid (a < M)) (hk : k < 64) : ∃ lo hi p x : Nat, p = a * 2 ^ k ∧ Hid (lo % B ^ 8 = lo) ∧ Hid (∀ w, (Instr.index 24 (wv hi) (.int .i64 0)).run Tryd.prog w = .ok (.int .u64 (x : Nat)) w) ∧ Hid ((cells 9 lo).setIfInBounds 8 (.int .u64 (x : Nat)) = cells 9 p) ∧
    Hid (∀ w, Calls Tryd.prog 31 #[wv a, .int .i64 k] w (Ret (wv lo) w)) ∧ Hid (∀ w, Calls Tryd.prog 31 #[wv a, .int .i64 ((k : Int) - 512)] w (Ret (wv hi) w)) := by
  have FL := fun w => wshift_any a k (by omega) (by omega) ha w
  have FH := fun w => wshift_any a ((k : Int) - 512) (by omega) (by omega) ha w
  have hS := shifted_is ha.out hk
  rw [sh_left] at FL
  have hxb := wd_lt (shN a ((k : Int) - 512)) 0
  exact ⟨low (a * 2 ^ k), shN a ((k : Int) - 512), a * 2 ^ k, wd (shN a ((k : Int) - 512)) 0, rfl, Lib.hid (Nat.mod_eq_of_lt (low_lt _)), Lib.hid (fun w => index0 _ _ rfl w), Lib.hid (by rw [cells_set hxb, hS]), Lib.hid FL, Lib.hid FH⟩
set_option maxRecDepth 100000 in
set_option maxHeartbeats 1600000 in
theorem shifted_any (a k : Nat) (ha : Hid (a < M)) (hk : k < 64) (w : World) : Calls Tryd.prog 38 #[wv a, .int .i64 k] w (Ret (.agg (cells 9 (a * 2 ^ k))) w) := by
  obtain ⟨lo, hi, p, x, hp, HL, HI, HC, HFL, HFH⟩ := shifted_parts a k ha hk
  rw [← hp]
  have hw1 : IntKind.i64.wrap ((k : Int) - 512) = (k : Int) - 512 := by rw [IntKind.wrap_i64]; omega
  clear hp
  unfold wv
  refine enter fun u => ?_
  go_enter Tryd.func38, Tryd.ntmps38
  go_wp2_with (first
    | ((with_reducible apply list_box); exact rfl; intro _ _)
    | ((with_reducible apply list_alloc); exact zeroW; intro _ _)
    | ((with_reducible apply list_alloc); exact zero9; intro _ _)
    | ((with_reducible apply lst_load); exact rfl; infer_instance; exact rowW; exact cells_size _ _)
    | ((with_reducible apply lst_store); exact rfl; exact rfl; infer_instance; exact rowW; exact cells_size _ _; exact cells_size _ _; exact cells_one _ _; intro _)
    | (go_at_call 31; (with_reducible refine (HFL.out _).mono ?_); rintro e w' ⟨rfl, hb'⟩; obtain ⟨_, rfl⟩ := KW.go _ hb'; clear hb'))
  simp only [Act.put, List.setIfInBounds_toArray, List.set_cons_succ, List.set_cons_zero]
  refine region_tail 2 (by kernel_rfl) (by kernel_rfl) fun _ => ?_
  simp only [List.take_succ_cons, List.take_zero, List.drop_succ_cons, List.drop_zero]
  repeat (go_big_quiet_step (fail))
  refine wpQuiet_nil ?_
  rintro _ ⟨u', rfl⟩
  refine list_copy0 (m := 9) (m' := 8) (n := 8) rfl rfl Tryd.underlying38 size1 rfl rfl (by decide) (by decide) (by decide) HL.out ?_
  intro u1
  go_wp2_with (first
    | ((with_reducible apply lst_load); exact rfl; infer_instance; exact rowW; exact cells_size _ _))
  refine (HFH.out _).mono ?_
  rintro e w' ⟨rfl, hb'⟩
  obtain ⟨u2, rfl⟩ := KW.go _ hb'
  obtain ⟨u3, hu3⟩ := u2.ex_put1 (j := 8) (v := .int .u64 (x : Nat)) HC.out
  have hI := HI.out
  clear hb'
  go_wp2_with (first
    | ((with_reducible apply lst_load); exact rfl; infer_instance; exact row9; exact cells_size _ _)
    | ((with_reducible apply lst_store); exact rfl; exact rfl; infer_instance; exact row9; exact cells_size _ _; exact cells_size _ _; exact cells_one _ _; intro _))
  exact body_cell Tryd.results38 rfl row9 (cells_size _ _) ⟨rfl, KW.below _⟩
end Go.Proofs.YtiklebonkpjlpaaDoor.QuotW
