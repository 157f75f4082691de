/-
  Rows of spots: how they lie in memory; the library's sort of them.
-/
import Derived.Test.YtacicfmalhhceaaGreatDoorSpRef
import Derived.Test.YtacicfmalhhceaaGreatDoorRow
import Derived.Test.YtacicfmalhhceaaGreatDoorSortMath
namespace Go.Proofs.YtacicfmalhhceaaGreatDoor.SpW
open Go.RowKit
open DigM WideM WideV KM DigW WideW QuotW QuotM DecM FmtW SignM SignW RatW PtW SpM SortM
/-- a spot, by its cells -/
structure RS where
  s : Bool
  n : Nat
  t : Bool
  m : Nat
  d : Nat
deriving DecidableEq, Inhabited
def RS.enc (r : RS) : Array Value := spc r.s r.n r.t r.m r.d
def RS.sp (r : RS) : Sp := spo r.s r.n r.t r.m r.d
def RS.small (r : RS) : Prop := r.n < M ∧ r.m < M ∧ r.d < M
def RS.ok (r : RS) : Bool := mayS r.s r.n r.t r.m r.d
def RS.may (r : RS) : Prop := r.small ∧ r.ok = true
def RS.lt (a b : RS) : Bool := decide (ordS a.sp b.sp < 0)
theorem RS.ext_sp {a b : RS} (ha : a.may) (hb : b.may) (h : a.sp = b.sp) : a = b := by
  obtain ⟨_, _, _, _, a5, a6, _⟩ := mayS_parts ha.2
  obtain ⟨_, _, _, _, b5, b6, _⟩ := mayS_parts hb.2
  cases a with | mk s n t m d =>
  cases b with | mk s' n' t' m' d' =>
  unfold RS.sp spo at h
  simp only [Sp.mk.injEq] at h
  obtain ⟨h1, h2, h3⟩ := h
  have c1 := congrArg Int.natAbs h1
  have c2 := congrArg Int.natAbs h2
  have e1 := congrArg ng h1
  have e2 := congrArg ng h2
  simp only [sg_abs, ng_sg] at *
  subst c1 c2 h3
  rw [a5, b5] at e1
  rw [a6, b6] at e2
  subst e1 e2
  rfl
theorem RS.low {a : RS} (ha : a.may) : Low3 a.sp := (may_good ha.2).1
theorem totRS : Tot RS.may RS.lt where
  irr a := decide_eq_false fun h => ltS_irrefl _ (ordS_neg.1 h)
  tr a b c ha hb hc h1 h2 := decide_eq_true (ordS_neg.2 (ltS_trans (RS.low ha).1 (RS.low hb).1 (RS.low hc).1 (ordS_neg.1 (of_decide_eq_true h1)) (ordS_neg.1 (of_decide_eq_true h2))))
  tri a b ha hb := by
    rcases ltS_total a.sp b.sp with h | h | h
    · exact .inl (decide_eq_true (ordS_neg.2 h))
    · exact .inr (.inl (RS.ext_sp ha hb (same_eq (RS.low ha) (RS.low hb) h)))
    · exact .inr (.inr (decide_eq_true (ordS_neg.2 h)))
set_option maxRecDepth 100000 in
theorem rowRS : RowT Tryz.prog 43 28 26 RS.enc where
  und := by kernel_rfl
  cel r := celSpot r.s r.n r.t r.m r.d
  size _ := rfl
  pos := by decide
  info := rowInfo_of (b := 208) (by kernel_rfl) (by decide)
theorem order_row {a b : RS} (ha : a.may) (hb : b.may) (w : World) : Calls Tryz.prog 43 #[.agg a.enc, .agg b.enc] w (Ret (.int .i64 (ordS a.sp b.sp)) w) :=
  order_any (Lib.hid ha.1.1) (Lib.hid ha.1.2.1) (Lib.hid ha.1.2.2) (Lib.hid hb.1.1) (Lib.hid hb.1.2.1) (Lib.hid hb.1.2.2) ha.2 hb.2 w
theorem mem_get {l : List RS} (h : ∀ r ∈ l, RS.may r) {i : Nat} (hi : i < l.length) : (l[i]!).may := h _ (get_mem hi)
theorem may_set {l : List RS} (h : ∀ r ∈ l, RS.may r) {i : Nat} {x : RS} (hx : x.may) : ∀ r ∈ l.set i x, RS.may r := fun r hr => by
  rcases List.mem_or_eq_of_mem_set hr with h1 | rfl
  · exact h r h1
  · exact hx
def OutF (n : Nat) (F : List RS) (k : Nat) (l : List RS) : Prop := l.length = n ∧ (∀ r ∈ l, RS.may r) ∧ 1 ≤ k ∧ k ≤ n + 1 ∧ sinks RS.lt (n - k) k l = F
def InF (n : Nat) (F : List RS) (k j : Nat) (l : List RS) : Prop := l.length = n ∧ (∀ r ∈ l, RS.may r) ∧ 1 ≤ k ∧ k < n ∧ j ≤ k ∧ sinks RS.lt (n - (k + 1)) (k + 1) (sink RS.lt j l) = F
def OutRel (W : World) (L : List Ent) (g : Nat) (sp : List Value) (n : Nat) (F : List RS) (i : Value) (wr : World) : Prop :=
  ∃ (k : Nat) (l : List RS) (u : KW W (⟨g, rowS RS.enc l sp, 28⟩ :: L)), i = .int .i64 (k : Int) ∧ wr = u.w ∧ Hid (OutF n F k l)
def InRel (W : World) (L : List Ent) (g : Nat) (sp : List Value) (n : Nat) (F : List RS) (k : Nat) (i : Value) (wr : World) : Prop :=
  ∃ (j : Nat) (l : List RS) (u : KW W (⟨g, rowS RS.enc l sp, 28⟩ :: L)), i = .int .i64 (j : Int) ∧ wr = u.w ∧ Hid (InF n F k j l)
/-- the row of block g holds F now -/
def Sorted (W : World) (L : List Ent) (g : Nat) (sp : List Value) (F : List RS) (e : Ending) (w' : World) : Prop :=
  ∃ u : KW W (⟨g, rowS RS.enc F sp, 28⟩ :: L), e = .returned (.tuple #[]) ∧ w' = u.w
set_option maxRecDepth 100000 in
set_option maxHeartbeats 3200000 in
theorem insertion_any {W : World} {L : List Ent} {g cap : Nat} {sp : List Value} (l : List RS) (hl : ∀ r ∈ l, RS.may r) (hn : l.length ≤ 12) (u0 : KW W (⟨g, rowS RS.enc l sp, 28⟩ :: L)) :
    Calls Tryz.prog 105 #[.slice (some ⟨g, 0, none⟩) l.length cap, .int .i64 0, .int .i64 (l.length : Int), .func (.func 43) #[] #[]] u0.w (Sorted W L g sp (srt RS.lt l)) := by
  have hF : Hid (OutF l.length (srt RS.lt l) 1 l) := Lib.hid ⟨rfl, hl, Nat.le_refl _, by omega, srt_eq RS.lt l⟩
  generalize srt RS.lt l = F at *
  obtain ⟨n, hn'⟩ : ∃ n, n = l.length := ⟨_, rfl⟩
  rw [← hn'] at hF hn ⊢
  replace hn := Lib.hid hn
  clear hn' hl
  go_enter Tryz.func105, Tryz.ntmps105
  go_wp2_with (fail)
  go_loopw [8] (OutRel W L g sp n F) (fun i _ => n - (intOf i).toNat)
  case atStart => exact ⟨1, l, u0, rfl, rfl, hF⟩
  case round =>
    clear u0 hF
    obtain ⟨k, l, u, rfl, rfl, hS⟩ := hrel
    by_cases hk : k < n
    · have b0 : decide (k < n) = true := decide_eq_true hk
      have c0 : IntKind.i64.wrap ((k : Int) + 1) = ((k + 1 : Nat) : Int) := by rw [IntKind.wrap_i64]; have := hn.out; omega
      have HM : Hid (n - (k + 1) < n - k) := Lib.hid (by omega)
      have hI : Hid (InF n F k k l) := Lib.hid (by
        obtain ⟨h1, h2, h3, _, h5⟩ := hS.out
        refine ⟨h1, h2, h3, hk, Nat.le_refl _, ?_⟩
        rw [show n - k = (n - (k + 1)) + 1 by omega, sinks] at h5
        exact h5)
      clear hS
      replace hk := Lib.hid hk
      go_wp2_with (fail)
      go_loopw [9] (InRel W L g sp n F k) (fun i _ => (intOf i).toNat)
      case atStart => exact ⟨k, l, u, rfl, rfl, hI⟩
      case round =>
        clear u hI l
        obtain ⟨j, l, u, rfl, rfl, hJ⟩ := hrel
        by_cases hj : 0 < j
        · obtain ⟨h1, h2, h3, h4, h5, h6⟩ := hJ.out
          obtain ⟨j', hj'⟩ : ∃ j', j = j' + 1 := ⟨j - 1, by omega⟩
          have b1 : decide (0 < j) = true := decide_eq_true hj
          have hjn : j < n := by omega
          have hjn' : j' < n := by omega
          have c1 : IntKind.i64.wrap ((j : Int) - 1) = (j' : Int) := by rw [IntKind.wrap_i64]; have := hn.out; omega
          have P1 := rowRS.part (l := l) (sp := sp) (i := j) (by omega)
          have P2 := rowRS.part (l := l) (sp := sp) (i := j') (by omega)
          have m1 := mem_get h2 (i := j) (by omega)
          have m2 := mem_get h2 (i := j') (by omega)
          have HO := fun w => order_row m1 m2 w
          have Q1 := rowRS.put (l := l) (sp := sp) (i := j) (by omega) l[j']!
          have Q2 := rowRS.put (l := l.set j l[j']!) (sp := sp) (i := j') (by rw [List.length_set]; omega) l[j]!
          have hl' := may_set (may_set h2 m2 (i := j)) m1 (i := j')
          have hs : sink RS.lt j l = if decide (ordS (l[j]!).sp (l[j']!).sp < 0) = true then sink RS.lt j' ((l.set j l[j']!).set j' l[j]!) else l := by
            subst hj'
            rfl
          have hlen : ((l.set j l[j']!).set j' l[j]!).length = n := by rw [List.length_set, List.length_set]; exact h1
          obtain ⟨o, ho⟩ : ∃ o, o = ordS (l[j]!).sp (l[j']!).sp := ⟨_, rfl⟩
          rw [← ho] at HO hs
          by_cases h0 : o < 0
          · rw [if_pos (decide_eq_true h0)] at hs
            have b2 : decide (o < 0) = true := decide_eq_true h0
            have hE : Hid (InF n F k j' ((l.set j l[j']!).set j' l[j]!)) := Lib.hid ⟨hlen, hl', h3, h4, by omega, by rw [← hs]; exact h6⟩
            have HM2 : Hid (j' < j) := Lib.hid (by omega)
            generalize (l.set j l[j']!).set j' l[j]! = l2 at *
            generalize l.set j l[j']! = l1 at *
            generalize (l[j]!).enc = x at *
            generalize (l[j']!).enc = y at *
            replace HO := Lib.hid HO
            clear h1 h2 h3 h4 h5 h6 hs hl' hlen ho m1 m2 hJ hj hj' h0
            go_wp2_with (fail)
            refine region (by kernel_rfl) (by kernel_rfl) fun _ => ?_
            refine QQ.out ?_
            repeat (first
              | ((with_reducible apply qq_skip); (exact rfl); (try simp only [Act.put, List.setIfInBounds_toArray, List.set_cons_succ, List.set_cons_zero]))
              | ((with_reducible apply qq_load); exact rfl; infer_instance; infer_instance; exact rfl; (try simp only [Act.put, List.setIfInBounds_toArray, List.set_cons_succ, List.set_cons_zero]))
              | ((with_reducible apply qq_cell); exact rfl; infer_instance; infer_instance; exact rfl; (try simp only [Act.put, List.setIfInBounds_toArray, List.set_cons_succ, List.set_cons_zero]))
              | ((with_reducible apply qq_callv (f := 43)); (intro _; go_simp; try exact rfl); (with_reducible exact fun u => HO.out _); exact rfl; (try simp only [Act.put, List.setIfInBounds_toArray, List.set_cons_succ, List.set_cons_zero]))
              | ((with_reducible apply qq_value); (intro _; go_simp; try exact rfl); exact rfl; (try simp only [Act.put, List.setIfInBounds_toArray, List.set_cons_succ, List.set_cons_zero]))
              | ((with_reducible apply qq_value); (intro _; go_simp; exact Eq.trans (if_neg (by first | omega | (simp only [ByteArray.size_append]; omega) | (simp [ByteArray.size_append]; omega))) rfl); exact rfl; (try simp only [Act.put, List.setIfInBounds_toArray, List.set_cons_succ, List.set_cons_zero])))
            refine qq_nil ?_
            rintro _ ⟨u7, rfl⟩
            go_wp2_with (fail)
            refine region_fork (by kernel_rfl) ?_
            (apply aa_take 0; (decide +kernel); exact rfl; exact rfl; (intro _; simp only [List.getElem_toArray, List.getElem_cons_zero]; go_simp; try exact rfl); (simp only [List.getElem_toArray, List.getElem_cons_zero]; try simp only [Act.put, List.setIfInBounds_toArray, List.set_cons_succ, List.set_cons_zero]))
            (apply aa_take 1; (decide +kernel); exact rfl; exact rfl; (intro _; simp only [List.getElem_toArray, List.getElem_cons_zero, List.getElem_cons_succ]; go_simp; try exact rfl); (simp only [List.getElem_toArray, List.getElem_cons_zero, List.getElem_cons_succ]; try simp only [Act.put, List.setIfInBounds_toArray, List.set_cons_succ, List.set_cons_zero]))
            (apply aa_take 2; (decide +kernel); exact rfl; exact rfl; (intro _; simp only [List.getElem_toArray, List.getElem_cons_zero, List.getElem_cons_succ]; go_simp; try exact rfl); (simp only [List.getElem_toArray, List.getElem_cons_zero, List.getElem_cons_succ]; try simp only [Act.put, List.setIfInBounds_toArray, List.set_cons_succ, List.set_cons_zero]))
            (apply aa_take 3; (decide +kernel); exact rfl; exact rfl; (intro _; simp only [List.getElem_toArray, List.getElem_cons_zero, List.getElem_cons_succ]; go_simp; try exact rfl); (simp only [List.getElem_toArray, List.getElem_cons_zero, List.getElem_cons_succ]; try simp only [Act.put, List.setIfInBounds_toArray, List.set_cons_succ, List.set_cons_zero]))
            (apply aa_take 4; (decide +kernel); exact rfl; exact rfl; (intro _; simp only [List.getElem_toArray, List.getElem_cons_zero, List.getElem_cons_succ]; go_simp; try exact rfl); (simp only [List.getElem_toArray, List.getElem_cons_zero, List.getElem_cons_succ]; try simp only [Act.put, List.setIfInBounds_toArray, List.set_cons_succ, List.set_cons_zero]))
            (apply aa_take 5; (decide +kernel); exact rfl; exact rfl; (intro _; simp only [List.getElem_toArray, List.getElem_cons_zero, List.getElem_cons_succ]; go_simp; try exact rfl); (simp only [List.getElem_toArray, List.getElem_cons_zero, List.getElem_cons_succ]; try simp only [Act.put, List.setIfInBounds_toArray, List.set_cons_succ, List.set_cons_zero]))
            (apply aa_take 6; (decide +kernel); exact rfl; exact rfl; (intro _; simp only [List.getElem_toArray, List.getElem_cons_zero, List.getElem_cons_succ]; go_simp; try exact rfl); (simp only [List.getElem_toArray, List.getElem_cons_zero, List.getElem_cons_succ]; try simp only [Act.put, List.setIfInBounds_toArray, List.set_cons_succ, List.set_cons_zero]))
            (apply aa_take 7; (decide +kernel); exact rfl; exact rfl; (intro _; simp only [List.getElem_toArray, List.getElem_cons_zero, List.getElem_cons_succ]; go_simp; try exact rfl); (simp only [List.getElem_toArray, List.getElem_cons_zero, List.getElem_cons_succ]; try simp only [Act.put, List.setIfInBounds_toArray, List.set_cons_succ, List.set_cons_zero]))
            (apply aa_take 8; (decide +kernel); exact rfl; exact rfl; (intro _; simp only [List.getElem_toArray, List.getElem_cons_zero, List.getElem_cons_succ]; go_simp; try exact rfl); (simp only [List.getElem_toArray, List.getElem_cons_zero, List.getElem_cons_succ]; try simp only [Act.put, List.setIfInBounds_toArray, List.set_cons_succ, List.set_cons_zero]))
            (apply aa_take 10; (decide +kernel); exact rfl; exact rfl; (intro _; simp only [List.getElem_toArray, List.getElem_cons_zero, List.getElem_cons_succ]; go_simp; try exact rfl); (simp only [List.getElem_toArray, List.getElem_cons_zero, List.getElem_cons_succ]; try simp only [Act.put, List.setIfInBounds_toArray, List.set_cons_succ, List.set_cons_zero]))
            (apply aa_take 11; (decide +kernel); exact rfl; exact rfl; (intro _; simp only [List.getElem_toArray, List.getElem_cons_zero, List.getElem_cons_succ]; go_simp; try exact rfl); (simp only [List.getElem_toArray, List.getElem_cons_zero, List.getElem_cons_succ]; try simp only [Act.put, List.setIfInBounds_toArray, List.set_cons_succ, List.set_cons_zero]))
            (apply aa_take 12; (decide +kernel); exact rfl; exact rfl; (intro _; simp only [List.getElem_toArray, List.getElem_cons_zero, List.getElem_cons_succ]; go_simp; try exact rfl); (simp only [List.getElem_toArray, List.getElem_cons_zero, List.getElem_cons_succ]; try simp only [Act.put, List.setIfInBounds_toArray, List.set_cons_succ, List.set_cons_zero]))
            repeat' (first
              | refine aa_nil (by decide +kernel) fun u8 => ?_
              | (refine aa_one 15 (by decide +kernel) rfl ?_ <;> simp only [List.getElem_toArray, List.getElem_cons_zero, List.getElem_cons_succ])
              | (refine aa_one 14 (by decide +kernel) rfl ?_ <;> simp only [List.getElem_toArray, List.getElem_cons_zero, List.getElem_cons_succ])
              | (refine aa_one 17 (by decide +kernel) rfl ?_ <;> simp only [List.getElem_toArray, List.getElem_cons_zero, List.getElem_cons_succ])
              | (refine aa_one 16 (by decide +kernel) rfl ?_ <;> simp only [List.getElem_toArray, List.getElem_cons_zero, List.getElem_cons_succ])
              | (refine aa_one 13 (by decide +kernel) rfl ?_ <;> simp only [List.getElem_toArray, List.getElem_cons_zero, List.getElem_cons_succ])
              | (refine aa_one 9 (by decide +kernel) rfl ?_ <;> simp only [List.getElem_toArray, List.getElem_cons_zero, List.getElem_cons_succ])
              | (refine aa_two 9 13 (by decide +kernel) rfl rfl ?_ ?_ <;> simp only [List.getElem_toArray, List.getElem_cons_zero, List.getElem_cons_succ])
              | ((with_reducible apply se_load); exact rfl; infer_instance; infer_instance; (unfold Nxt; try simp only [Act.put, List.setIfInBounds_toArray, List.set_cons_succ, List.set_cons_zero]))
              | ((with_reducible apply se_cell); exact rfl; infer_instance; infer_instance; (unfold Nxt; try simp only [Act.put, List.setIfInBounds_toArray, List.set_cons_succ, List.set_cons_zero]))
              | ((with_reducible apply se_store); exact rfl; exact rfl; infer_instance; infer_instance; infer_instance; (unfold Nxt; try simp only [Act.put]))
              | ((with_reducible apply se_put); exact rfl; exact rfl; infer_instance; infer_instance; infer_instance; (unfold Nxt; try simp only [Act.put]))
              | ((with_reducible apply se_value); (intro _; go_simp; try exact rfl); (unfold Nxt; try simp only [Act.put, List.setIfInBounds_toArray, List.set_cons_succ, List.set_cons_zero])))
            all_goals (
              go_wp2_with (fail)
              go_roundw
              case rel => exact ⟨j', l2, _, rfl, rfl, hE⟩
              case measure => simpa [intOf] using HM2.out)
          · rw [if_neg (by rw [decide_eq_false h0]; decide)] at hs
            have b2 : decide (o < 0) = false := decide_eq_false h0
            have hO : Hid (OutF n F (k + 1) l) := Lib.hid ⟨h1, h2, by omega, by omega, by rw [← hs]; exact h6⟩
            generalize (l[j]!).enc = x at *
            generalize (l[j']!).enc = y at *
            replace HO := Lib.hid HO
            clear h1 h2 h3 h4 h5 h6 hs hl' hlen ho m1 m2 hJ hj hj' h0 Q1 Q2
            go_wp2_with (fail)
            refine region (by kernel_rfl) (by kernel_rfl) fun _ => ?_
            refine QQ.out ?_
            repeat (first
              | ((with_reducible apply qq_skip); (exact rfl); (try simp only [Act.put, List.setIfInBounds_toArray, List.set_cons_succ, List.set_cons_zero]))
              | ((with_reducible apply qq_load); exact rfl; infer_instance; infer_instance; exact rfl; (try simp only [Act.put, List.setIfInBounds_toArray, List.set_cons_succ, List.set_cons_zero]))
              | ((with_reducible apply qq_cell); exact rfl; infer_instance; infer_instance; exact rfl; (try simp only [Act.put, List.setIfInBounds_toArray, List.set_cons_succ, List.set_cons_zero]))
              | ((with_reducible apply qq_callv (f := 43)); (intro _; go_simp; try exact rfl); (with_reducible exact fun u => HO.out _); exact rfl; (try simp only [Act.put, List.setIfInBounds_toArray, List.set_cons_succ, List.set_cons_zero]))
              | ((with_reducible apply qq_value); (intro _; go_simp; try exact rfl); exact rfl; (try simp only [Act.put, List.setIfInBounds_toArray, List.set_cons_succ, List.set_cons_zero]))
              | ((with_reducible apply qq_value); (intro _; go_simp; exact Eq.trans (if_neg (by first | omega | (simp only [ByteArray.size_append]; omega) | (simp [ByteArray.size_append]; omega))) rfl); exact rfl; (try simp only [Act.put, List.setIfInBounds_toArray, List.set_cons_succ, List.set_cons_zero])))
            refine qq_nil ?_
            rintro _ ⟨u7, rfl⟩
            go_wp2_with (fail)
            go_roundw
            case rel => exact ⟨k + 1, l, _, rfl, rfl, hO⟩
            case measure => simpa [intOf] using HM.out
        · obtain rfl : j = 0 := by omega
          have hO : Hid (OutF n F (k + 1) l) := Lib.hid (by
            obtain ⟨h1, h2, h3, h4, h5, h6⟩ := hJ.out
            exact ⟨h1, h2, by omega, by omega, h6⟩)
          clear hJ hj
          go_wp2_with (fail)
          refine region (by kernel_rfl) (by kernel_rfl) fun _ => ?_
          refine QQ.out ?_
          repeat (first
            | ((with_reducible apply qq_skip); (exact rfl); (try simp only [Act.put, List.setIfInBounds_toArray, List.set_cons_succ, List.set_cons_zero]))
            | ((with_reducible apply qq_load); exact rfl; infer_instance; infer_instance; exact rfl; (try simp only [Act.put, List.setIfInBounds_toArray, List.set_cons_succ, List.set_cons_zero]))
            | ((with_reducible apply qq_cell); exact rfl; infer_instance; infer_instance; exact rfl; (try simp only [Act.put, List.setIfInBounds_toArray, List.set_cons_succ, List.set_cons_zero]))
            | ((with_reducible apply qq_value); (intro _; go_simp; try exact rfl); exact rfl; (try simp only [Act.put, List.setIfInBounds_toArray, List.set_cons_succ, List.set_cons_zero]))
            | ((with_reducible apply qq_value); (intro _; go_simp; exact Eq.trans (if_neg (by first | omega | (simp only [ByteArray.size_append]; omega) | (simp [ByteArray.size_append]; omega))) rfl); exact rfl; (try simp only [Act.put, List.setIfInBounds_toArray, List.set_cons_succ, List.set_cons_zero])))
          refine qq_nil ?_
          rintro _ ⟨u7, rfl⟩
          go_wp2_with (fail)
          go_roundw
          case rel => exact ⟨k + 1, l, _, rfl, rfl, hO⟩
          case measure => simpa [intOf] using HM.out
    · have b0 : decide (k < n) = false := decide_eq_false hk
      obtain ⟨h1, h2, h3, h4, h5⟩ := hS.out
      rw [show n - k = 0 by omega, sinks] at h5
      subst h5
      clear h1 h2 h3 h4 hS hk
      go_wp2_with (fail)
      go_end0
      exact ⟨u, rfl, rfl⟩
end Go.Proofs.YtacicfmalhhceaaGreatDoor.SpW
