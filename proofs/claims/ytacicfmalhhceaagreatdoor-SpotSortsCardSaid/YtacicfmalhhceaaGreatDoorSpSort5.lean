/-
  Rows of spots: the document's own sort.
-/
import Derived.Test.YtacicfmalhhceaaGreatDoorSpSort4
import Derived.Test.YtacicfmalhhceaaGreatDoorRow2
namespace Go.Proofs.YtacicfmalhhceaaGreatDoor.SpW
open Go.RowKit
open DigM WideM WideV KM DigW WideW QuotW QuotM DecM FmtW SignM SignW RatW PtW SpM SortM
set_option maxRecDepth 100000 in
instance sliceRS (x : RS) : SliceB Tryz.prog 43 1 [(0, .agg x.enc)] 28 (rowS RS.enc [x] []) := ⟨by kernel_rfl⟩
theorem refcmp_row {a b : RS} (ha : a.may) (hb : b.may) (w : World) : Calls Tryz.prog 18 #[.agg a.enc, .agg b.enc] w (Ret (.int .i64 (ordS a.sp b.sp)) w) :=
  refCmp_any (Lib.hid ha.1.1) (Lib.hid ha.1.2.1) (Lib.hid ha.1.2.2) (Lib.hid hb.1.1) (Lib.hid hb.1.2.1) (Lib.hid hb.1.2.2) ha.2 hb.2 w
theorem ord_same {a b : RS} (ha : a.may) (hb : b.may) : decide (a = b) = (ordS a.sp b.sp == 0) := by
  rw [Bool.eq_iff_iff, decide_eq_true_eq, beq_iff_eq, ord_eq_iff (RS.low ha) (RS.low hb)]
  exact ⟨fun h => by rw [h], fun h => RS.ext_sp ha hb h⟩
/-- what is told of the rounds: k elements of l are in O -/
def RsF (l : List RS) (k : Nat) (O : List RS) (cap : Nat) (sp : List Value) : Prop :=
  k ≤ l.length ∧ O = (l.take k).foldl (insS RS.lt) [] ∧ O.length ≤ k ∧ (∀ r ∈ O, RS.may r) ∧ (rowS RS.enc O sp).size = cap * 26 ∧ cap ≤ maxLen
def RsRel (W : World) (l : List RS) (o i : Value) (wr : World) : Prop :=
  ∃ (k g cap : Nat) (O : List RS) (sp : List Value) (u : KW W [⟨g, rowS RS.enc O sp, 28⟩]), o = .slice (some ⟨g, 0, none⟩) O.length cap ∧ i = .int .i64 (k : Int) ∧ wr = u.w ∧ Hid (RsF l k O cap sp)
def AtRel (W : World) (g : Nat) (O : List RS) (sp : List Value) (x : RS) (a s i : Value) (wr : World) : Prop :=
  ∃ (j : Nat) (u : KW W [⟨g, rowS RS.enc O sp, 28⟩]), a = .int .i64 (atF RS.lt O x j : Int) ∧ s = .bool (smF O x j) ∧ i = .int .i64 (j : Int) ∧ wr = u.w ∧ Hid (j ≤ O.length)
theorem insS_len (O : List RS) (x : RS) : (insS RS.lt O x).length ≤ O.length + 1 := by
  unfold insS
  split
  · omega
  · rw [List.length_append, List.length_cons, List.length_take, List.length_drop]; omega
theorem rs_next {l : List RS} {k : Nat} {O : List RS} {cap cap' : Nat} {sp sp' : List Value} (h : RsF l k O cap sp) (hk : k < l.length) (hx : (l[k]!).may) (h1 : (rowS RS.enc (insS RS.lt O l[k]!) sp').size = cap' * 26) (h2 : cap' ≤ maxLen) : RsF l (k + 1) (insS RS.lt O l[k]!) cap' sp' := by
  obtain ⟨a1, a2, a3, a4, _, _⟩ := h
  refine ⟨hk, ?_, Nat.le_trans (insS_len O _) (by omega), fun r hr => ?_, h1, h2⟩
  · rw [take_snoc hk, List.foldl_append, ← a2]; rfl
  · rcases (insS_mem RS.lt O _ r).1 hr with rfl | hr
    · exact hx
    · exact a4 r hr
theorem rs_same {l : List RS} {k : Nat} {O : List RS} {cap : Nat} {sp : List Value} (h : RsF l k O cap sp) (hk : k < l.length) (hs : smF O l[k]! O.length = true) : RsF l (k + 1) O cap sp := by
  obtain ⟨a1, a2, a3, a4, a5, a6⟩ := h
  refine ⟨hk, ?_, by omega, a4, a5, a6⟩
  rw [take_snoc hk, List.foldl_append, ← a2]
  show O = insS RS.lt O l[k]!
  unfold insS
  rw [if_pos hs]
set_option maxRecDepth 100000 in
set_option maxHeartbeats 6400000 in
theorem refSort_some (l : List RS) (hm : ∀ r ∈ l, RS.may r) (hn : l.length ≤ 12) (p : Option Addr) (cp : Nat) (w : World) (hc : ∀ b, p = some b → ∀ j u, (flat RS.enc l)[j]? = some u → w.cell? (b.add j) = some u) (hp : l.length ≠ 0 → ∃ b, p = some b) :
    Calls Tryz.prog 22 #[.slice p l.length cp] w (fun e w' => ∃ v, e = .returned v ∧ RowOut w (l.foldl (insS RS.lt) []) v w') := by
  obtain ⟨n, hn'⟩ : ∃ n, n = l.length := ⟨_, rfl⟩
  rw [← hn'] at hn hp ⊢
  replace hc := Lib.hid hc
  replace hp := Lib.hid hp
  replace hn' := Lib.hid hn'
  replace hn := Lib.hid hn
  refine enter fun u => ?_
  go_enter Tryz.func22, Tryz.ntmps22
  go_wp2_with (refine ls_slice0 rowRS fun g2 u2 => ?_)
  go_loopw [3, 4] (RsRel w l) (fun _ i _ => n - (intOf i).toNat)
  case atStart => exact ⟨0, g2, 0, [], [], u2, rfl, rfl, rfl, Lib.hid ⟨Nat.zero_le _, rfl, Nat.le_refl _, (fun r hr => by cases hr), rfl, Nat.zero_le _⟩⟩
  case round =>
    clear u u2
    obtain ⟨k, g, cap, O, sp, u, rfl, rfl, rfl, hS⟩ := hrel
    by_cases hk : k < n
    · obtain ⟨b, rfl⟩ := hp.out (by omega)
      have hkl : k < l.length := by rw [← hn'.out]; exact hk
      have hx := mem_get hm hkl
      have HR := old_get rowRS (hc.out b rfl) hkl
      have hO : Hid (∀ r ∈ O, RS.may r) := Lib.hid hS.out.2.2.2.1
      have hO12 : Hid (O.length ≤ 12) := Lib.hid (by have := hS.out.2.2.1; have := hn.out; omega)
      obtain ⟨x, hxx⟩ : ∃ x, x = l[k]! := ⟨_, rfl⟩
      rw [← hxx] at hx HR
      have b0 : decide (k < n) = true := decide_eq_true hk
      have c0 : IntKind.i64.wrap ((k : Int) + 1) = ((k + 1 : Nat) : Int) := by rw [IntKind.wrap_i64]; have := hn.out; omega
      have HE : Hid (n - (k + 1) < n - k) := Lib.hid (by omega)
      replace hkl := Lib.hid hkl
      replace hxx := Lib.hid hxx
      go_wp2_with (fail)
      go_loopw [5, 6, 7] (AtRel w g O sp x) (fun _ _ i _ => O.length - (intOf i).toNat)
      case atStart => exact ⟨0, u, rfl, rfl, rfl, rfl, Lib.hid (Nat.zero_le _)⟩
      case round =>
        clear u
        obtain ⟨j, u, rfl, rfl, rfl, rfl, hj⟩ := hrel
        by_cases hjO : j < O.length
        · have d0 : decide (j < O.length) = true := decide_eq_true hjO
          have c1 : IntKind.i64.wrap ((j : Int) + 1) = ((j + 1 : Nat) : Int) := by rw [IntKind.wrap_i64]; have := hO12.out; omega
          have HJ : Hid (O.length - (j + 1) < O.length - j) := Lib.hid (by omega)
          have hj1 : Hid (j + 1 ≤ O.length) := Lib.hid hjO
          have P1 := rowRS.part (l := O) (sp := sp) (i := j) hjO
          have hoj := mem_get hO.out hjO
          have HC := fun w => refcmp_row hoj hx w
          have hA : atF RS.lt O x (j + 1) = if decide (ordS (O[j]!).sp x.sp < 0) = true then j + 1 else atF RS.lt O x j := rfl
          have hB : smF O x (j + 1) = (smF O x j || (ordS (O[j]!).sp x.sp == 0)) := by rw [smF, ord_same hoj hx]
          generalize ordS (O[j]!).sp x.sp = c at *
          generalize (O[j]!).enc = y at *
          generalize hA' : atF RS.lt O x (j + 1) = A' at *
          generalize hB' : smF O x (j + 1) = B' at *
          generalize atF RS.lt O x j = A at *
          generalize smF O x j = B at *
          replace HC := Lib.hid HC
          replace hA' := Lib.hid hA'
          replace hB' := Lib.hid hB'
          clear hoj hj
          have hsgn : c < 0 ∨ c = 0 ∨ 0 < c := by omega
          rcases hsgn with h | rfl | h
          · have e1 : decide (c < 0) = true := decide_eq_true h
            have e2 : (c == 0) = false := beq_false_of_ne (by omega)
            rw [e1, if_pos rfl] at hA
            rw [e2, Bool.or_false] at hB
            subst hA hB
            clear h hm
            cases B'
            all_goals (
              go_wp2_with (fail)
              refine region (by kernel_rfl) (by kernel_rfl) fun _ => ?_
              refine QQ.out ?_
              repeat (first
                | ((with_reducible apply qq_skip); (exact rfl); (try simp only [Act.put, List.setIfInBounds_toArray, List.set_cons_succ, List.set_cons_zero]))
                | ((with_reducible apply qq_load); exact rfl; infer_instance; infer_instance; exact rfl; (try simp only [Act.put, List.setIfInBounds_toArray, List.set_cons_succ, List.set_cons_zero]))
                | ((with_reducible apply qq_cell); exact rfl; infer_instance; infer_instance; exact rfl; (try simp only [Act.put, List.setIfInBounds_toArray, List.set_cons_succ, List.set_cons_zero]))
                | ((with_reducible apply qq_oldr); exact rfl; infer_instance; exact rfl; (try simp only [Act.put, List.setIfInBounds_toArray, List.set_cons_succ, List.set_cons_zero]))
                | ((with_reducible apply qq_callf (f := 18)); (intro _; go_simp; try exact rfl); (with_reducible exact fun u => HC.out _); exact rfl; (try simp only [Act.put, List.setIfInBounds_toArray, List.set_cons_succ, List.set_cons_zero]))
                | ((with_reducible apply qq_value); (intro _; go_simp; try exact rfl); exact rfl; (try simp only [Act.put, List.setIfInBounds_toArray, List.set_cons_succ, List.set_cons_zero]))
                | ((with_reducible apply qq_value); (intro _; go_simp; exact Eq.trans (if_neg (by first | omega | (simp only [ByteArray.size_append]; omega) | (simp [ByteArray.size_append]; omega))) rfl); exact rfl; (try simp only [Act.put, List.setIfInBounds_toArray, List.set_cons_succ, List.set_cons_zero])))
              refine qq_nil ?_
              rintro _ ⟨u7, rfl⟩
              go_wp2_with (fail)
              go_roundw
              case rel => exact ⟨j + 1, u7, (by first | (rw [hA'.out]; done) | (rw [hA'.out]; rfl) | (rw [hA'.out]; go_num)), (by rw [hB'.out]), rfl, rfl, hj1⟩
              case measure => simpa [intOf] using HJ.out)
          · rw [if_neg (by decide)] at hA
            rw [show ((0 : Int) == 0) = true from rfl, Bool.or_true] at hB
            subst hA hB
            clear hm
            cases B
            all_goals (
              go_wp2_with (fail)
              refine region (by kernel_rfl) (by kernel_rfl) fun _ => ?_
              refine QQ.out ?_
              repeat (first
                | ((with_reducible apply qq_skip); (exact rfl); (try simp only [Act.put, List.setIfInBounds_toArray, List.set_cons_succ, List.set_cons_zero]))
                | ((with_reducible apply qq_load); exact rfl; infer_instance; infer_instance; exact rfl; (try simp only [Act.put, List.setIfInBounds_toArray, List.set_cons_succ, List.set_cons_zero]))
                | ((with_reducible apply qq_cell); exact rfl; infer_instance; infer_instance; exact rfl; (try simp only [Act.put, List.setIfInBounds_toArray, List.set_cons_succ, List.set_cons_zero]))
                | ((with_reducible apply qq_oldr); exact rfl; infer_instance; exact rfl; (try simp only [Act.put, List.setIfInBounds_toArray, List.set_cons_succ, List.set_cons_zero]))
                | ((with_reducible apply qq_callf (f := 18)); (intro _; go_simp; try exact rfl); (with_reducible exact fun u => HC.out _); exact rfl; (try simp only [Act.put, List.setIfInBounds_toArray, List.set_cons_succ, List.set_cons_zero]))
                | ((with_reducible apply qq_value); (intro _; go_simp; try exact rfl); exact rfl; (try simp only [Act.put, List.setIfInBounds_toArray, List.set_cons_succ, List.set_cons_zero]))
                | ((with_reducible apply qq_value); (intro _; go_simp; exact Eq.trans (if_neg (by first | omega | (simp only [ByteArray.size_append]; omega) | (simp [ByteArray.size_append]; omega))) rfl); exact rfl; (try simp only [Act.put, List.setIfInBounds_toArray, List.set_cons_succ, List.set_cons_zero])))
              refine qq_nil ?_
              rintro _ ⟨u7, rfl⟩
              go_wp2_with (fail)
              go_roundw
              case rel => exact ⟨j + 1, u7, (by first | (rw [hA'.out]; done) | (rw [hA'.out]; rfl) | (rw [hA'.out]; go_num)), (by rw [hB'.out]), rfl, rfl, hj1⟩
              case measure => simpa [intOf] using HJ.out)
          · have e1 : decide (c < 0) = false := decide_eq_false (by omega)
            have e2 : (c == 0) = false := beq_false_of_ne (by omega)
            rw [e1, if_neg (by decide)] at hA
            rw [e2, Bool.or_false] at hB
            subst hA hB
            clear h hm
            cases B'
            all_goals (
              go_wp2_with (fail)
              refine region (by kernel_rfl) (by kernel_rfl) fun _ => ?_
              refine QQ.out ?_
              repeat (first
                | ((with_reducible apply qq_skip); (exact rfl); (try simp only [Act.put, List.setIfInBounds_toArray, List.set_cons_succ, List.set_cons_zero]))
                | ((with_reducible apply qq_load); exact rfl; infer_instance; infer_instance; exact rfl; (try simp only [Act.put, List.setIfInBounds_toArray, List.set_cons_succ, List.set_cons_zero]))
                | ((with_reducible apply qq_cell); exact rfl; infer_instance; infer_instance; exact rfl; (try simp only [Act.put, List.setIfInBounds_toArray, List.set_cons_succ, List.set_cons_zero]))
                | ((with_reducible apply qq_oldr); exact rfl; infer_instance; exact rfl; (try simp only [Act.put, List.setIfInBounds_toArray, List.set_cons_succ, List.set_cons_zero]))
                | ((with_reducible apply qq_callf (f := 18)); (intro _; go_simp; try exact rfl); (with_reducible exact fun u => HC.out _); exact rfl; (try simp only [Act.put, List.setIfInBounds_toArray, List.set_cons_succ, List.set_cons_zero]))
                | ((with_reducible apply qq_value); (intro _; go_simp; try exact rfl); exact rfl; (try simp only [Act.put, List.setIfInBounds_toArray, List.set_cons_succ, List.set_cons_zero]))
                | ((with_reducible apply qq_value); (intro _; go_simp; exact Eq.trans (if_neg (by first | omega | (simp only [ByteArray.size_append]; omega) | (simp [ByteArray.size_append]; omega))) rfl); exact rfl; (try simp only [Act.put, List.setIfInBounds_toArray, List.set_cons_succ, List.set_cons_zero])))
              refine qq_nil ?_
              rintro _ ⟨u7, rfl⟩
              go_wp2_with (fail)
              go_roundw
              case rel => exact ⟨j + 1, u7, (by first | (rw [hA'.out]; done) | (rw [hA'.out]; rfl) | (rw [hA'.out]; go_num)), (by rw [hB'.out]), rfl, rfl, hj1⟩
              case measure => simpa [intOf] using HJ.out)
        · obtain rfl : j = O.length := by have := hj.out; omega
          have d0 : decide (O.length < O.length) = false := decide_eq_false (Nat.lt_irrefl _)
          clear hj
          cases hSm : smF O x O.length with
          | true =>
            have hS' : Hid (RsF l (k + 1) O cap sp) := Lib.hid (rs_same hS.out hkl.out (by rw [← hxx.out]; exact hSm))
            generalize atF RS.lt O x O.length = A at *
            clear hSm hm
            go_wp2_with (fail)
            go_roundw
            case rel => exact ⟨k + 1, g, cap, O, sp, u, rfl, rfl, rfl, hS'⟩
            case measure => simpa [intOf] using HE.out
          | false =>
            obtain ⟨a1, a2, a3, a4, hsz, hcm⟩ := hS.out
            have hAle := atF_le RS.lt O x O.length
            have hOcap : O.length ≤ cap := by rw [row_size rowRS.size] at hsz; omega
            have hI : (O.take (atF RS.lt O x O.length) ++ [x]).take (atF RS.lt O x O.length + 1) ++ O.drop (atF RS.lt O x O.length) = insS RS.lt O x := by
              unfold insS
              rw [hSm, if_neg (by decide), List.take_of_length_le (by rw [List.length_append, List.length_take]; simp; omega), List.append_assoc]
              rfl
            have hIl : atF RS.lt O x O.length + 1 + (O.length - atF RS.lt O x O.length) = (insS RS.lt O x).length := by
              rw [← hI, List.length_append, List.length_drop, List.take_of_length_le (by rw [List.length_append, List.length_take]; simp; omega), List.length_append, List.length_take, Nat.min_eq_left hAle]
              rfl
            have hN : Hid (∀ (cap' : Nat) (sp' : List Value), (rowS RS.enc (insS RS.lt O x) sp').size = cap' * 26 → cap' ≤ maxLen → RsF l (k + 1) (insS RS.lt O x) cap' sp') := Lib.hid fun cap' sp' e1 e2 => by
              have := rs_next (cap' := cap') (sp' := sp') hS.out hkl.out (by rw [← hxx.out]; exact hx) (by rw [← hxx.out]; exact e1) e2
              rwa [← hxx.out] at this
            generalize atF RS.lt O x O.length = A at *
            generalize insS RS.lt O x = O' at *
            obtain ⟨b2, cp2, hsl, HF⟩ := slice_from (g := g) (sp := sp) rowRS hAle hOcap
            have hsh := run_slice_hi (a := ⟨g, 0, none⟩) (n := O.length) (cap := cap) (m := A) rowRS (by omega)
            have HF2 : Hid (∀ (W : World) (L : List Ent) (v : KW W L), Has L g (rowS RS.enc O sp) 28 → ∀ j y, (flat RS.enc (O.drop A))[j]? = some y → v.w.cell? (b2.add j) = some y) := Lib.hid (fun W L v h => HF v h)
            clear HF
            replace hI := Lib.hid hI
            replace hIl := Lib.hid hIl
            replace hsz := Lib.hid hsz
            have hdl : Hid (O.length - A = (O.drop A).length) := Lib.hid (List.length_drop).symm
            have h12 := hO12.out
            clear hS hSm hm a1 a2 a3 a4 hO12
            go_wp2_with (first
              | refine ls_slice0 rowRS fun g4 u4 => ?_
              | refine ls_append (O := []) (sp := []) rowRS (O.drop A) rfl rfl hdl.out rfl (Nat.zero_le _) (Nat.zero_le _) (fun j y hy => HF2.out _ _ _ inferInstance j y hy) (by rw [List.length_drop]; omega) fun g5 cap5 sp5 u5 h5 h6 => ?_)
            refine region_fork (by kernel_rfl) ?_
            (apply aa_take 0; (decide +kernel); exact rfl; exact rfl; (intro _; simp only [List.getElem_toArray, List.getElem_cons_zero]; go_simp; try exact rfl); (simp only [List.getElem_toArray, List.getElem_cons_zero]; try simp only [Act.put, List.setIfInBounds_toArray, List.set_cons_succ, List.set_cons_zero]))
            (apply aa_take 1; (decide +kernel); exact rfl; exact rfl; (intro _; simp only [List.getElem_toArray, List.getElem_cons_zero, List.getElem_cons_succ]; go_simp; try exact rfl); (simp only [List.getElem_toArray, List.getElem_cons_zero, List.getElem_cons_succ]; try simp only [Act.put, List.setIfInBounds_toArray, List.set_cons_succ, List.set_cons_zero]))
            (apply aa_take 2; (decide +kernel); exact rfl; exact rfl; (intro _; simp only [List.getElem_toArray, List.getElem_cons_zero, List.getElem_cons_succ]; go_simp; try exact rfl); (simp only [List.getElem_toArray, List.getElem_cons_zero, List.getElem_cons_succ]; try simp only [Act.put, List.setIfInBounds_toArray, List.set_cons_succ, List.set_cons_zero]))
            (apply aa_take 3; (decide +kernel); exact rfl; exact rfl; (intro _; simp only [List.getElem_toArray, List.getElem_cons_zero, List.getElem_cons_succ]; go_simp; try exact rfl); (simp only [List.getElem_toArray, List.getElem_cons_zero, List.getElem_cons_succ]; try simp only [Act.put, List.setIfInBounds_toArray, List.set_cons_succ, List.set_cons_zero]))
            (apply aa_take 4; (decide +kernel); exact rfl; exact rfl; (intro _; simp only [List.getElem_toArray, List.getElem_cons_zero, List.getElem_cons_succ]; go_simp; try exact rfl); (simp only [List.getElem_toArray, List.getElem_cons_zero, List.getElem_cons_succ]; try simp only [Act.put, List.setIfInBounds_toArray, List.set_cons_succ, List.set_cons_zero]))
            (apply aa_take 5; (decide +kernel); exact rfl; exact rfl; (intro _; simp only [List.getElem_toArray, List.getElem_cons_zero, List.getElem_cons_succ]; go_simp; try exact rfl); (simp only [List.getElem_toArray, List.getElem_cons_zero, List.getElem_cons_succ]; try simp only [Act.put, List.setIfInBounds_toArray, List.set_cons_succ, List.set_cons_zero]))
            (apply aa_take 9; (decide +kernel); exact rfl; exact rfl; (intro _; simp only [List.getElem_toArray, List.getElem_cons_zero, List.getElem_cons_succ]; go_simp; try exact rfl); (simp only [List.getElem_toArray, List.getElem_cons_zero, List.getElem_cons_succ]; try simp only [Act.put, List.setIfInBounds_toArray, List.set_cons_succ, List.set_cons_zero]))
            (refine aa_one 6 (by decide +kernel) rfl ?_ <;> simp only [List.getElem_toArray, List.getElem_cons_zero, List.getElem_cons_succ])
            ((with_reducible apply se_oldr); exact rfl; infer_instance)
            unfold Nxt
            try simp only [Act.put, List.setIfInBounds_toArray, List.set_cons_succ, List.set_cons_zero]
            (refine aa_one 7 (by decide +kernel) rfl ?_ <;> simp only [List.getElem_toArray, List.getElem_cons_zero, List.getElem_cons_succ])
            (refine se_slice1 rfl (sliceRS x) fun g7 => ?_)
            unfold Nxt
            try simp only [Act.put, List.setIfInBounds_toArray, List.set_cons_succ, List.set_cons_zero]
            (refine aa_one 8 (by decide +kernel) rfl ?_ <;> simp only [List.getElem_toArray, List.getElem_cons_zero, List.getElem_cons_succ])
            (refine se_append rowRS (show List.Perm _ (_ :: [_, _]) from List.perm_middle (l₁ := [_, _]) (l₂ := [])) [x] rfl rfl rfl hsz.out hcm hAle (fun v j y hy => cells_row rowRS (O := [x]) (sp := []) v inferInstance 0 j y hy) (by simp; omega) fun g8 cap8 sp8 h8 h9 => ?_)
            unfold Nxt
            try simp only [Act.put, List.setIfInBounds_toArray, List.set_cons_succ, List.set_cons_zero]
            (refine aa_one 10 (by decide +kernel) rfl ?_ <;> simp only [List.getElem_toArray, List.getElem_cons_zero, List.getElem_cons_succ])
            (refine se_append rowRS (List.Perm.refl _) (O.drop A) rfl rfl hdl.out h8 h9 (by rw [List.length_append, List.length_take]; simp; omega) (fun v j y hy => cells_row rowRS (O := O.drop A) (sp := sp5) v inferInstance 0 j y hy) (by rw [List.length_drop]; omega) fun g9 cap9 sp9 h10 h11 => ?_)
            unfold Nxt
            try simp only [Act.put, List.setIfInBounds_toArray, List.set_cons_succ, List.set_cons_zero]
            (refine aa_one 11 (by decide +kernel) rfl ?_ <;> simp only [List.getElem_toArray, List.getElem_cons_zero, List.getElem_cons_succ])
            ((with_reducible apply se_value); (intro _; go_simp; try exact rfl))
            unfold Nxt
            try simp only [Act.put, List.setIfInBounds_toArray, List.set_cons_succ, List.set_cons_zero]
            refine aa_nil (by decide +kernel) ?_
            rw [hI.out]
            rw [hI.out] at h10
            intro u9
            go_wp2_with (fail)
            go_roundw
            case rel =>
              obtain ⟨u10, hu10⟩ := KW.weak (Lc := [⟨g9, rowS RS.enc O' sp9, 28⟩]) u9
              exact ⟨k + 1, g9, cap9, O', sp9, u10, by rw [← hIl.out], rfl, hu10, Lib.hid (hN.out cap9 sp9 h10 h11)⟩
            case measure => simpa [intOf] using HE.out
    · have b0 : decide (k < n) = false := decide_eq_false hk
      obtain ⟨a1, a2, _⟩ := hS.out
      have hkl : k = l.length := by have := hn'.out; omega
      rw [hkl, List.take_length] at a2
      subst a2
      clear hS hm hk a1 hkl
      go_wp2_with (fail)
      go_ret
      exact ⟨_, rfl, .inr ⟨g, cap, sp, u, rfl, rfl⟩⟩
end Go.Proofs.YtacicfmalhhceaaGreatDoor.SpW
