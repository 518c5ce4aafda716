/- AuditWaits. -/
import Derived.Test.YtlenmhbhakeonaaAu6
namespace Go.Proofs.Ytlenmhbhakeonaa
set_option linter.unusedVariables false
set_option linter.unusedSimpArgs false
set_option maxRecDepth 100000
open Go.RowKit Fg Reg
attribute [local irreducible] Reg.wE QR

theorem w_at {W : Int → List Pk} {e : Ev} {c : Int} (h : e.cls = c) : wlearn W e c = if e.inn = true then W c ++ [e.pk] else (W c).tail := by
  unfold wlearn; rw [if_pos h.symm]
set_option maxHeartbeats 8000000 in
theorem rwait_c (l : List Ev) (n : Nat) (hln : l.length = n) (hn : n ≤ 500) (cl : Int) (ad : Option Addr) (cap : Nat) (w : World) (hE : EvsV w ad l) :
    Calls Try.prog 50 #[.slice ad n cap, .int .i64 cl] w fun e w' => (∃ ao c, e = .returned (.slice ao (wOf l cl).length c) ∧ RwV Pk.cells 6 w' ao (wOf l cl)) ∧ Below w.heap.size w w' := by
  obtain ⟨ii, ci0, cz0, cz1, cz2⟩ := pk_parts
  have CI0 := Lib.hid ci0
  have CZ0 := Lib.hid cz0
  have CZ1 := Lib.hid cz1
  have CZ2 := Lib.hid cz2
  have EI := Lib.hid ev_info
  have HE := Lib.hid hE
  have HLN := Lib.hid hln
  obtain ⟨R, hRR⟩ : ∃ R, wOf l cl = R := ⟨_, rfl⟩
  rw [hRR]
  have HRR := Lib.hid hRR
  clear hE hln ci0 cz0 cz1 cz2 hRR
  go_enter Try.func50, Try.ntmps50
  go_wp2
  go_loopg [10, 5] n (fun k9 s10 s5 wr => ∃ (i m : Nat) (L : List Pk) (ao : Option Addr) (cp : Nat) (bk : Option Nat), s10 = .int .i64 i ∧ s5 = .slice ao m cp ∧ L.length = m ∧ i ≤ n ∧ n - i ≤ k9 ∧ L = wOf (l.take i) cl ∧ m ≤ i ∧ QR wr w.heap.size 6 (.slice ao m cp) m (L.flatMap Pk.cells) bk ∧ Below w.heap.size w wr)
  case atStart => exact ⟨0, 0, [], none, 0, none, rfl, rfl, rfl, by omega, by omega, rfl, by omega, QR.nil _ _ _, by (repeat' (first | assumption | exact Below.refl _ _ | refine Below.setCell ?_ (by first | (simp; done) | omega | (simp; omega)) _ | refine Below.alloc ?_ (by first | (simp; done) | omega | (simp; omega)) _ | refine Below.drew ?_ | refine below_drewN ?_ _))⟩
  case round =>
    obtain ⟨i, m, L, ao, cp, bk, rfl, rfl, hLm, hi, hk, hL, hmi, hq, hbl⟩ := hrel
    have HQ := Lib.hid hq
    have HBL := Lib.hid hbl
    have hbs := hbl.size
    by_cases hin : i < n
    · have hil : i < l.length := by rw [HLN.out]; exact hin
      obtain ⟨eb, eo, had, heb, hr⟩ := (HE.out.below hbl) i hil
      subst had
      have W4 : IntKind.i64.wrap ((i : Int) + 1) = ((i + 1 : Nat) : Int) := by rw [IntKind.wrap_i64]; omega
      have e9 : l[i] = evn l i := by unfold evn; rw [List.getD_eq_getElem?_getD, List.getElem?_eq_getElem hil]; rfl
      rw [e9] at hr
      have hnw := w_next hil
      obtain ⟨e, he⟩ : ∃ e, evn l i = e := ⟨_, rfl⟩
      rw [he] at hr hnw
      by_cases hc : e.cls = cl
      · have hcb : (e.cls == cl) = true := by simpa using hc
        have hw := w_at (W := wOf (l.take i)) hc
        rw [← hnw, ← hL] at hw
        cases hinn : e.inn with
        | true =>
          rw [hinn, if_pos rfl] at hw
          have HNX : Hid (L ++ [e.pk] = wOf (l.take (i + 1)) cl) := Lib.hid hw.symm
          have HLM := Lib.hid hLm
          clear hc hL hLm hnw he e9 hw hq
          go_wp2_with (first | go_guarded | (refine wpList_load_mid rfl 96 _ rfl eb (eo + i * 12) rfl _ _ hr Try.underlying96 rfl EI.out ?_) | (refine wpList_store_new rfl 96 _ _ rfl _ #[.int .i64 (e).op, .bool (e).inn, .bool (e).real, .int .u64 (e).tm, .int .u64 (e).dn, .int .i64 (e).cls, .int .u64 (e).id, .int .i64 (e).ln, .int .u16 (e).a, .int .u16 (e).b, .int .u16 (e).c, .int .u16 (e).d] rfl rfl EI.out rfl (all_oneCell_toArray e.one) ?_) | ((at_builtin; refine wpList_append_qr rfl _ _ 86 rfl w.heap.size 6 94 ii _ 24 Try.underlying86 CI0.out CZ0.out CZ1.out CZ2.out rfl (by decide) (.slice ao m cp) m (L.flatMap Pk.cells) bk rfl ((HQ.out.below (Below.alloc (Below.refl _ _) (Nat.le_refl _) _)).below (Below.alloc (Below.refl _ _) (Nat.le_refl _) _)) ⟨_, 0, none⟩ 1 (Pk.cells e.pk) rfl rfl ?c1 (pkC.one _) ?c3 ?c4 ?c5 ?_; (case c1 => (intro j u hu; (rcases j with _ | _ | _ | _ | _ | _ | j <;> simp [Pk.cells, Ev.pk] at hu <;> (try subst hu) <;> simp [Addr.add, go_sem, *]))); (case c3 => (unfold maxLen; omega)); (case c4 => omega); (case c5 => (simp; omega)); intro v2 z2 b2 hq2 ho2 hb2; obtain ⟨a2, c2, rfl⟩ := hq2.form); have HQ2 := Lib.hid hq2; have HO2 := Lib.hid ho2; (have c1 := (ho2.cell (b := wr.heap.size) (o := 1) (by simp; omega) (fun g => by have := (HQ.out.lt _ g).2; omega)).trans (show ((wr.alloc (.cells #[.int .i64 e.op, .bool true, .bool e.real, .int .u64 e.tm, .int .u64 e.dn, .int .i64 e.cls, .int .u64 e.id, .int .i64 e.ln, .int .u16 e.a, .int .u16 e.b, .int .u16 e.c, .int .u16 e.d] 96)).alloc _).cell? ⟨wr.heap.size, 1, none⟩ = some (.bool true) by simp [go_sem])); (have c5 := (ho2.cell (b := wr.heap.size) (o := 5) (by simp; omega) (fun g => by have := (HQ.out.lt _ g).2; omega)).trans (show ((wr.alloc (.cells #[.int .i64 e.op, .bool true, .bool e.real, .int .u64 e.tm, .int .u64 e.dn, .int .i64 e.cls, .int .u64 e.id, .int .i64 e.ln, .int .u16 e.a, .int .u16 e.b, .int .u16 e.c, .int .u16 e.d] 96)).alloc _).cell? ⟨wr.heap.size, 5, none⟩ = some (.int .i64 e.cls) by simp [go_sem])); (have hz2 : wr.heap.size < z2.heap.size := (by have := ho2.size; simp at this; omega)); clear hq2 ho2 hb2))
          go_roundg (n - (i + 1))
          case rel =>
            refine ⟨i + 1, m + 1, L ++ [e.pk], a2, c2, some b2, by first | rfl | go_num | (congr 1; omega), rfl, by rw [List.length_append, List.length_singleton, HLM.out], by omega, Nat.le_refl _, HNX.out, by omega, ?_, ?_⟩
            · rw [List.flatMap_append, List.flatMap_singleton]; exact HQ2.out
            · have hb := HBL.out
              have hb1 : Below w.heap.size w (wr.alloc (.cells #[.int .i64 (e).op, .bool (e).inn, .bool (e).real, .int .u64 (e).tm, .int .u64 (e).dn, .int .i64 (e).cls, .int .u64 (e).id, .int .i64 (e).ln, .int .u16 (e).a, .int .u16 (e).b, .int .u16 (e).c, .int .u16 (e).d] 96)) := by (repeat' (first | assumption | exact Below.refl _ _ | refine Below.setCell ?_ (by first | (simp; done) | omega | (simp; omega)) _ | refine Below.alloc ?_ (by first | (simp; done) | omega | (simp; omega)) _ | refine Below.drew ?_ | refine below_drewN ?_ _))
              have h1 : Below w.heap.size wr ((wr.alloc (.cells #[.int .i64 e.op, .bool true, .bool e.real, .int .u64 e.tm, .int .u64 e.dn, .int .i64 e.cls, .int .u64 e.id, .int .i64 e.ln, .int .u16 e.a, .int .u16 e.b, .int .u16 e.c, .int .u16 e.d] 96)).alloc (.cells #[.int .u64 e.id, .int .i64 e.ln, .int .u16 e.a, .int .u16 e.b, .int .u16 e.c, .int .u16 e.d] 94)) := by (repeat' (first | assumption | exact Below.refl _ _ | refine Below.setCell ?_ (by first | (simp; done) | omega | (simp; omega)) _ | refine Below.alloc ?_ (by first | (simp; done) | omega | (simp; omega)) _ | refine Below.drew ?_ | refine below_drewN ?_ _))
              exact hb.trans (h1.trans (onlyB HO2.out (by simp; omega) fun k hk => (HQ.out.lt k hk).1))
          case measure => omega
        | false =>
          rw [hinn, if_neg (by simp)] at hw
          have HNX : Hid (L.tail = wOf (l.take (i + 1)) cl) := Lib.hid hw.symm
          by_cases hm0 : m = 0
          · subst hm0
            have hLn : L = [] := List.length_eq_zero_iff.1 hLm
            have HLN0 := Lib.hid hLn
            clear hc hL hLm hnw he e9 hw hq hLn
            go_wp2_with (first | go_guarded | (refine wpList_load_mid rfl 96 _ rfl eb (eo + i * 12) rfl _ _ hr Try.underlying96 rfl EI.out ?_) | (refine wpList_store_new rfl 96 _ _ rfl _ #[.int .i64 (e).op, .bool (e).inn, .bool (e).real, .int .u64 (e).tm, .int .u64 (e).dn, .int .i64 (e).cls, .int .u64 (e).id, .int .i64 (e).ln, .int .u16 (e).a, .int .u16 (e).b, .int .u16 (e).c, .int .u16 (e).d] rfl rfl EI.out rfl (all_oneCell_toArray e.one) ?_))
            go_roundg (n - (i + 1))
            case rel =>
              refine ⟨i + 1, 0, L.tail, ao, cp, bk, by first | rfl | go_num | (congr 1; omega), rfl, by rw [HLN0.out]; rfl, by omega, Nat.le_refl _, HNX.out, by omega, ?_, ?_⟩
              · have hq := HQ.out.below (show Below wr.heap.size wr (wr.alloc (.cells #[.int .i64 e.op, .bool false, .bool e.real, .int .u64 e.tm, .int .u64 e.dn, .int .i64 e.cls, .int .u64 e.id, .int .i64 e.ln, .int .u16 e.a, .int .u16 e.b, .int .u16 e.c, .int .u16 e.d] 96)) by (repeat' (first | assumption | exact Below.refl _ _ | refine Below.setCell ?_ (by first | (simp; done) | omega | (simp; omega)) _ | refine Below.alloc ?_ (by first | (simp; done) | omega | (simp; omega)) _ | refine Below.drew ?_ | refine below_drewN ?_ _)))
                rw [HLN0.out] at hq ⊢
                exact hq
              · have hb := HBL.out
                (repeat' (first | assumption | exact Below.refl _ _ | refine Below.setCell ?_ (by first | (simp; done) | omega | (simp; omega)) _ | refine Below.alloc ?_ (by first | (simp; done) | omega | (simp; omega)) _ | refine Below.drew ?_ | refine below_drewN ?_ _))
            case measure => omega
          · have hmp : 0 < m := by omega
            obtain ⟨b, o, cp2, hv, hmc, hcm⟩ := hq.some hmp
            injection hv with hv1 hv2 hv3
            subst hv1 hv3
            have hml : (0 : Int) < (m : Int) := by omega
            have hml1 : (1 : Int) ≤ (m : Int) := by omega
            have D0 : decide ((0 : Int) < (m : Int)) = true := decide_eq_true hml
            have D0b : decide (0 < m) = true := decide_eq_true hmp
            have hqt := HQ.out.tail hmp
            rw [← tail_flat] at hqt
            have HQT := Lib.hid hqt
            have HLM : Hid (L.tail.length = m - 1) := Lib.hid (by rw [List.length_tail, hLm])
            clear hc hL hLm hnw he e9 hw hq hqt hm0 hv2
            go_wp2_with (first | go_guarded | (refine wpList_load_mid rfl 96 _ rfl eb (eo + i * 12) rfl _ _ hr Try.underlying96 rfl EI.out ?_) | (refine wpList_store_new rfl 96 _ _ rfl _ #[.int .i64 (e).op, .bool (e).inn, .bool (e).real, .int .u64 (e).tm, .int .u64 (e).dn, .int .i64 (e).cls, .int .u64 (e).id, .int .i64 (e).ln, .int .u16 (e).a, .int .u16 (e).b, .int .u16 (e).c, .int .u16 (e).d] rfl rfl EI.out rfl (all_oneCell_toArray e.one) ?_))
            all_goals go_roundg (n - (i + 1))
            all_goals first
              | (show n - (i + 1) < gk; omega)
              | (refine ⟨i + 1, m - 1, L.tail, _, _, bk, by first | rfl | go_num | (congr 1; omega), rfl, HLM.out, by omega, Nat.le_refl _, HNX.out, by omega, ?_, ?_⟩
                 · have hq := HQT.out.below (show Below wr.heap.size wr (wr.alloc (.cells #[.int .i64 e.op, .bool false, .bool e.real, .int .u64 e.tm, .int .u64 e.dn, .int .i64 e.cls, .int .u64 e.id, .int .i64 e.ln, .int .u16 e.a, .int .u16 e.b, .int .u16 e.c, .int .u16 e.d] 96)) by (repeat' (first | assumption | exact Below.refl _ _ | refine Below.setCell ?_ (by first | (simp; done) | omega | (simp; omega)) _ | refine Below.alloc ?_ (by first | (simp; done) | omega | (simp; omega)) _ | refine Below.drew ?_ | refine below_drewN ?_ _)))
                   unfold tlq at hq
                   first | (rw [if_pos (by assumption)] at hq; exact hq) | (rw [if_neg (by assumption)] at hq; exact hq) | exact hq | (simp only [*, if_true, if_false] at hq; exact hq)
                 · have hb := HBL.out
                   (repeat' (first | assumption | exact Below.refl _ _ | refine Below.setCell ?_ (by first | (simp; done) | omega | (simp; omega)) _ | refine Below.alloc ?_ (by first | (simp; done) | omega | (simp; omega)) _ | refine Below.drew ?_ | refine below_drewN ?_ _)))
      · have hcb : (e.cls == cl) = false := by simpa using hc
        have HNX : Hid (L = wOf (l.take (i + 1)) cl) := Lib.hid (by rw [hnw, w_other hc]; exact hL)
        have HLM := Lib.hid hLm
        clear hc hL hLm hnw he e9 hq
        go_wp2_with (first | go_guarded | (refine wpList_load_mid rfl 96 _ rfl eb (eo + i * 12) rfl _ _ hr Try.underlying96 rfl EI.out ?_) | (refine wpList_store_new rfl 96 _ _ rfl _ #[.int .i64 (e).op, .bool (e).inn, .bool (e).real, .int .u64 (e).tm, .int .u64 (e).dn, .int .i64 (e).cls, .int .u64 (e).id, .int .i64 (e).ln, .int .u16 (e).a, .int .u16 (e).b, .int .u16 (e).c, .int .u16 (e).d] rfl rfl EI.out rfl (all_oneCell_toArray e.one) ?_))
        go_roundg (n - (i + 1))
        case rel =>
          refine ⟨i + 1, m, L, ao, cp, bk, by first | rfl | go_num | (congr 1; omega), rfl, HLM.out, by omega, Nat.le_refl _, HNX.out, by omega, HQ.out.below (by (repeat' (first | assumption | exact Below.refl _ _ | refine Below.setCell ?_ (by first | (simp; done) | omega | (simp; omega)) _ | refine Below.alloc ?_ (by first | (simp; done) | omega | (simp; omega)) _ | refine Below.drew ?_ | refine below_drewN ?_ _))), ?_⟩
          have hb := HBL.out
          (repeat' (first | assumption | exact Below.refl _ _ | refine Below.setCell ?_ (by first | (simp; done) | omega | (simp; omega)) _ | refine Below.alloc ?_ (by first | (simp; done) | omega | (simp; omega)) _ | refine Below.drew ?_ | refine below_drewN ?_ _))
        case measure => omega
    · have hie : i = n := by omega
      subst hie
      rw [List.take_of_length_le (by rw [HLN.out]; exact Nat.le_refl _)] at hL
      have hLR : L = R := by rw [hL, HRR.out]
      subst hLR
      subst hLm
      obtain ⟨ao2, c2, hv, hR⟩ := hq.rwv
      injection hv with hv1 hv2 hv3
      subst hv1 hv3
      have HR := Lib.hid hR
      clear hR hq hin hL HQ hv2
      go_wp2
      go_ret
      exact ⟨⟨ao, cp, rfl, HR.out⟩, hbl⟩
theorem CK.uniq {T lm : Int} {l : List Ev} {a b a' b' : Int} (h : CK T lm l a b) (g : CK T lm l a' b') : a = a' ∧ b = b' := by
  rcases h with ⟨i, h1, h2, h3, h4, h5⟩ | ⟨h1, h2, h3⟩ <;> rcases g with ⟨j, g1, g2, g3, g4, g5⟩ | ⟨g1, g2, g3⟩
  · have : i = j := by
      rcases Nat.lt_trichotomy i j with k | k | k
      · exact absurd (g5 i k) (by rw [h3]; exact h4)
      · exact k
      · exact absurd (h5 j k) (by rw [g3]; exact g4)
    subst this
    exact ⟨by omega, by rw [← h3, ← g3]⟩
  · exact absurd (g3 i h1) (by rw [h3]; exact h4)
  · exact absurd (h3 j g1) (by rw [g3]; exact g4)
  · exact ⟨by omega, by omega⟩
theorem chkL_c (L : List Ev) (at' err : Int) (h : CK 1 100 L at' err) (hn : L.length ≤ 500) (hwf : ∀ j, j < L.length → iok (evn L j).cls) (ad : Option Addr) (cap : Nat) (z : World) (hE : EvsV z ad L) :
    Calls Try.prog 45 #[.agg #[.int .i64 1, .int .i64 100], .slice ad L.length cap] z fun ee w' => ee = .returned (.agg #[.int .i64 at', .int .i64 err]) ∧ Below z.heap.size z w' := by
  refine (chk_c 1 100 L L.length rfl hn (by omega) (by omega) (by omega) (by omega) hwf ad cap z hE).mono ?_
  rintro e w' ⟨⟨a, b, rfl, hc⟩, hb⟩
  obtain ⟨rfl, rfl⟩ := hc.uniq h
  exact ⟨rfl, hb⟩
theorem iok3 : iok 3 := show (Lit.int .i64 3).wf = true by decide
theorem ck1 : CK 1 100 [(⟨0, true, false, 5, 0, 3, 7, 100, 0, 0, 0, 0⟩ : Ev), (⟨0, false, false, 5, 105, 3, 7, 100, 0, 0, 0, 0⟩ : Ev)] 0 0 := .inr ⟨rfl, rfl, by decide +kernel⟩
theorem ck2 : CK 1 100 [(⟨0, true, false, 5, 0, 3, 7, 100, 0, 0, 0, 0⟩ : Ev), (⟨0, false, false, 5, 104, 3, 7, 100, 0, 0, 0, 0⟩ : Ev)] 1 20 := .inl ⟨1, by decide, rfl, by decide +kernel, by decide, by decide +kernel⟩
theorem ck3 : CK 1 100 [(⟨0, false, false, 5, 105, 3, 7, 100, 0, 0, 0, 0⟩ : Ev)] 0 6 := .inl ⟨0, by decide, rfl, by decide +kernel, by decide, by decide +kernel⟩
theorem cls1 : ∀ j, j < 2 → (evn [(⟨0, true, false, 5, 0, 3, 7, 100, 0, 0, 0, 0⟩ : Ev), (⟨0, false, false, 5, 105, 3, 7, 100, 0, 0, 0, 0⟩ : Ev)] j).cls = 3 := by decide
theorem cls2 : ∀ j, j < 2 → (evn [(⟨0, true, false, 5, 0, 3, 7, 100, 0, 0, 0, 0⟩ : Ev), (⟨0, false, false, 5, 104, 3, 7, 100, 0, 0, 0, 0⟩ : Ev)] j).cls = 3 := by decide
theorem cls3 : ∀ j, j < 1 → (evn [(⟨0, false, false, 5, 105, 3, 7, 100, 0, 0, 0, 0⟩ : Ev)] j).cls = 3 := by decide
theorem k1_c (ad : Option Addr) (cap : Nat) (z : World) (hE : EvsV z ad [(⟨0, true, false, 5, 0, 3, 7, 100, 0, 0, 0, 0⟩ : Ev), (⟨0, false, false, 5, 105, 3, 7, 100, 0, 0, 0, 0⟩ : Ev)]) : Calls Try.prog 45 #[.agg #[.int .i64 1, .int .i64 100], .slice ad 2 cap] z fun ee w' => ee = .returned (.agg #[.int .i64 0, .int .i64 0]) ∧ Below z.heap.size z w' := chkL_c _ _ _ ck1 (by simp) (fun j hj => by rw [cls1 j hj]; exact iok3) ad cap z hE
theorem k2_c (ad : Option Addr) (cap : Nat) (z : World) (hE : EvsV z ad [(⟨0, true, false, 5, 0, 3, 7, 100, 0, 0, 0, 0⟩ : Ev), (⟨0, false, false, 5, 104, 3, 7, 100, 0, 0, 0, 0⟩ : Ev)]) : Calls Try.prog 45 #[.agg #[.int .i64 1, .int .i64 100], .slice ad 2 cap] z fun ee w' => ee = .returned (.agg #[.int .i64 1, .int .i64 20]) ∧ Below z.heap.size z w' := chkL_c _ _ _ ck2 (by simp) (fun j hj => by rw [cls2 j hj]; exact iok3) ad cap z hE
theorem k3_c (ad : Option Addr) (cap : Nat) (z : World) (hE : EvsV z ad [(⟨0, false, false, 5, 105, 3, 7, 100, 0, 0, 0, 0⟩ : Ev)]) : Calls Try.prog 45 #[.agg #[.int .i64 1, .int .i64 100], .slice ad 1 cap] z fun ee w' => ee = .returned (.agg #[.int .i64 0, .int .i64 6]) ∧ Below z.heap.size z w' := chkL_c _ _ _ ck3 (by simp) (fun j hj => by rw [cls3 j hj]; exact iok3) ad cap z hE
theorem k4_c (ad : Option Addr) (cap : Nat) (z : World) (hE : EvsV z ad [(⟨0, true, false, 5, 0, 3, 7, 100, 0, 0, 0, 0⟩ : Ev), (⟨0, true, false, 5, 0, 3, 7, 100, 0, 0, 0, 0⟩ : Ev), (⟨0, false, false, 5, 105, 3, 7, 100, 0, 0, 0, 0⟩ : Ev)]) : Calls Try.prog 49 #[.slice ad 3 cap, .int .i64 3] z fun e w' => (∃ ao c, e = .returned (.slice ao 1 c)) ∧ Below z.heap.size z w' := by
  refine (wait_c [(⟨0, true, false, 5, 0, 3, 7, 100, 0, 0, 0, 0⟩ : Ev), (⟨0, true, false, 5, 0, 3, 7, 100, 0, 0, 0, 0⟩ : Ev), (⟨0, false, false, 5, 105, 3, 7, 100, 0, 0, 0, 0⟩ : Ev)] 3 rfl (by omega) 3 iok3 ad cap z hE).mono ?_
  rintro e w' ⟨⟨ao, c, rfl, -⟩, hb⟩
  exact ⟨⟨ao, c, rfl⟩, hb⟩
theorem hal {w : World} {n : Nat} {o : Obj} (h : n = w.heap.size) : (w.alloc o).heap[n]? = some o := by subst h; exact heap_alloc_new w o
theorem eqF (a b : Int) (h : (a, b) = (0, 0) ∨ (a, b) = (1, 20) ∨ (a, b) = (0, 6)) (w : World) : (Op.equalIn 10000 80 (.agg #[.int .i64 a, .int .i64 b]) (.agg #[.int .i64 a, .int .i64 b])).run Try.prog w = .ok true w := by
  rcases h with h | h | h <;> (injection h with h1 h2; subst h1 h2; kernel_rfl)
def LT (w z : World) : Prop := ((z.cell? ⟨w.heap.size, 0, none⟩ = some (.int .i64 1) ∧ z.cell? ⟨w.heap.size, 1, none⟩ = some (.int .i64 100) ∧ w.heap.size < z.heap.size) ∧ EVP z (w.heap.size + 1 + 1) (⟨0, true, false, 5, 0, 3, 7, 100, 0, 0, 0, 0⟩ : Ev) ∧ EVP z (w.heap.size + 1 + 1 + 1) (⟨0, false, false, 5, 105, 3, 7, 100, 0, 0, 0, 0⟩ : Ev) ∧ EVP z (w.heap.size + 1 + 1 + 1 + 1) (⟨0, false, false, 5, 104, 3, 7, 100, 0, 0, 0, 0⟩ : Ev) ∧ Below w.heap.size w z)
theorem LT.below {w z z' : World} (h : LT w z) (hb : Below z.heap.size z z') : LT w z' := by
  obtain ⟨⟨t0, t1, tl⟩, ha, hB, hc, hw⟩ := h
  exact ⟨⟨(hb.cell tl).trans t0, (hb.cell tl).trans t1, Nat.lt_of_lt_of_le tl hb.size⟩, ha.below hb, hB.below hb, hc.below hb, hw.trans (hb.mono hw.size)⟩
set_option maxHeartbeats 16000000 in
theorem late_c (w : World) : Calls Try.prog 44 #[] w fun ee w' => ee = .returned (.bool true) ∧ Below w.heap.size w w' := by
  have E1 := eqF 0 0 (.inl rfl)
  have E2 := eqF 1 20 (.inr (.inl rfl))
  have E3 := eqF 0 6 (.inr (.inr rfl))
  go_enter Try.func44, Try.ntmps44
  go_wp2_with (first
    | (go_at_call 45; have hw9 : w2.heap.size = w2.heap.size := rfl; clear hw9; (with_reducible refine (k3_c _ _ _ (evs_block [(⟨0, false, false, 5, 105, 3, 7, 100, 0, 0, 0, 0⟩ : Ev)] (hal (by (simp; done))) (by (simp [Ev.cells]; done)))).mono ?_); rintro _ w3 ⟨rfl, hbel⟩; have hsz := hbel.size; (try simp at hsz); have HL := Lib.hid (LT.below HL.out (Below.trans (show Below w2.heap.size w2 _ by (repeat' (first | assumption | exact Below.refl _ _ | refine Below.setCell ?_ (by first | (simp; done) | omega | (simp; omega)) _ | refine Below.alloc ?_ (by first | (simp; done) | omega | (simp; omega)) _ | refine Below.drew ?_ | refine below_drewN ?_ _))) (hbel.mono (by simp)))); clear hbel; (clear t0 t1 tl a0 a1 a2 a3 a4 a5 a6 a7 a8 a9 a10 a11 al b0 b1 b2 b3 b4 b5 b6 b7 b8 b9 b10 b11 bl d0 d1 d2 d3 d4 d5 d6 d7 d8 d9 d10 d11 dl hbw); (obtain ⟨⟨t0, t1, tl⟩, ⟨a0, a1, a2, a3, a4, a5, a6, a7, a8, a9, a10, a11, al⟩, ⟨b0, b1, b2, b3, b4, b5, b6, b7, b8, b9, b10, b11, bl⟩, ⟨d0, d1, d2, d3, d4, d5, d6, d7, d8, d9, d10, d11, dl⟩, hbw⟩ := HL.out))
    | (go_at_call 45; have hw9 : w1.heap.size = w1.heap.size := rfl; clear hw9; (with_reducible refine (k2_c _ _ _ (evs_block [(⟨0, true, false, 5, 0, 3, 7, 100, 0, 0, 0, 0⟩ : Ev), (⟨0, false, false, 5, 104, 3, 7, 100, 0, 0, 0, 0⟩ : Ev)] (hal (by (simp; done))) (by (simp [Ev.cells]; done)))).mono ?_); rintro _ w2 ⟨rfl, hbel⟩; have hsz := hbel.size; (try simp at hsz); have HL := Lib.hid (LT.below HL.out (Below.trans (show Below w1.heap.size w1 _ by (repeat' (first | assumption | exact Below.refl _ _ | refine Below.setCell ?_ (by first | (simp; done) | omega | (simp; omega)) _ | refine Below.alloc ?_ (by first | (simp; done) | omega | (simp; omega)) _ | refine Below.drew ?_ | refine below_drewN ?_ _))) (hbel.mono (by simp)))); clear hbel; (clear t0 t1 tl a0 a1 a2 a3 a4 a5 a6 a7 a8 a9 a10 a11 al b0 b1 b2 b3 b4 b5 b6 b7 b8 b9 b10 b11 bl d0 d1 d2 d3 d4 d5 d6 d7 d8 d9 d10 d11 dl hbw); (obtain ⟨⟨t0, t1, tl⟩, ⟨a0, a1, a2, a3, a4, a5, a6, a7, a8, a9, a10, a11, al⟩, ⟨b0, b1, b2, b3, b4, b5, b6, b7, b8, b9, b10, b11, bl⟩, ⟨d0, d1, d2, d3, d4, d5, d6, d7, d8, d9, d10, d11, dl⟩, hbw⟩ := HL.out))
    | (go_at_call 45; (with_reducible refine (k1_c _ _ _ (evs_block [(⟨0, true, false, 5, 0, 3, 7, 100, 0, 0, 0, 0⟩ : Ev), (⟨0, false, false, 5, 105, 3, 7, 100, 0, 0, 0, 0⟩ : Ev)] (hal (by (simp; done))) (by (simp [Ev.cells]; done)))).mono ?_); rintro _ w1 ⟨rfl, hbel⟩; obtain ⟨hcc, hff⟩ := bcell hbel; have hsz := hbel.size; (try simp at hsz); have HL : Hid (LT w w1) := Lib.hid (by unfold LT EVP; ((repeat' apply And.intro) <;> first | (simp [go_sem, *]; done) | omega | (repeat' (first | with_reducible exact Below.refl _ _ | with_reducible assumption | ((with_reducible refine Below.drew ?_)) | ((with_reducible refine below_drewN ?_ _)) | ((with_reducible refine Below.alloc ?_ ?_ _); rotate_left; focus (first | omega | (simp; done) | (simp; omega))) | ((with_reducible refine Below.setCell ?_ ?_ _); rotate_left; focus (first | omega | (simp; done) | (simp; omega))) | ((with_reducible refine Below.trans ?_ (Below.mono (by with_reducible assumption) ?_)); rotate_left; focus (first | omega | (simp; done) | (simp; omega))))))); clear hcc hff hbel; (obtain ⟨⟨t0, t1, tl⟩, ⟨a0, a1, a2, a3, a4, a5, a6, a7, a8, a9, a10, a11, al⟩, ⟨b0, b1, b2, b3, b4, b5, b6, b7, b8, b9, b10, b11, bl⟩, ⟨d0, d1, d2, d3, d4, d5, d6, d7, d8, d9, d10, d11, dl⟩, hbw⟩ := HL.out))
    | (go_at_call 49; (with_reducible refine (k4_c _ _ _ (evs_block [(⟨0, true, false, 5, 0, 3, 7, 100, 0, 0, 0, 0⟩ : Ev), (⟨0, true, false, 5, 0, 3, 7, 100, 0, 0, 0, 0⟩ : Ev), (⟨0, false, false, 5, 105, 3, 7, 100, 0, 0, 0, 0⟩ : Ev)] (hal (by (simp; done))) (by (simp [Ev.cells]; done)))).mono ?_); rintro _ w4 ⟨⟨ao4, c4, rfl⟩, hbel⟩; have hB4 : Below w.heap.size w w4 := (HL.out.below (Below.trans (show Below w3.heap.size w3 _ by (repeat' (first | assumption | exact Below.refl _ _ | refine Below.setCell ?_ (by first | (simp; done) | omega | (simp; omega)) _ | refine Below.alloc ?_ (by first | (simp; done) | omega | (simp; omega)) _ | refine Below.drew ?_ | refine below_drewN ?_ _))) (hbel.mono (by simp)))).2.2.2.2; clear hbel))
  go_ret
  exact ⟨rfl, hB4⟩
set_option maxHeartbeats 4000000 in
theorem waits_c (l : List Ev) (n : Nat) (hln : l.length = n) (hn : n ≤ 500) (cl : Int) (hcl : iok cl) (ad : Option Addr) (cap : Nat) (w : World) (hE : EvsV w ad l) :
    Calls Try.prog 8 #[.slice ad n cap, .int .i64 cl] w fun ee w' => ee = .returned (.bool true) ∧ Below w.heap.size w w' := by
  have K1 := Lib.hid (fun z (h : EvsV z ad l) => wait_c l n hln hn cl hcl ad cap z h)
  have K2 := Lib.hid (fun z (h : EvsV z ad l) => rwait_c l n hln hn cl ad cap z h)
  have hwl := w_len l cl
  have K3 := Lib.hid (fun a1 a2 c1 c2 z h1 h2 => same_c (wOf l cl) (wOf l cl).length rfl (by omega) a1 a2 c1 c2 z h1 h2)
  have HE := Lib.hid hE
  have D1 : decide (500 < (n : Int)) = false := decide_eq_false (by omega)
  have D1b : decide (500 < n) = false := decide_eq_false (by omega)
  generalize wOf l cl = L at *
  clear hE hln hcl hwl
  go_enter Try.func8, Try.ntmps8
  go_wp2_with (first
    | (go_at_call 49; (with_reducible refine (K1.out _ HE.out).mono ?_); rintro _ w1 ⟨⟨a1, c1, rfl, hR1⟩, hb1⟩; have HR1 := Lib.hid hR1; clear hR1)
    | (go_at_call 50; (with_reducible refine (K2.out _ (HE.out.below hb1)).mono ?_); rintro _ w2 ⟨⟨a2, c2, rfl, hR2⟩, hb2⟩; have HR2 := Lib.hid hR2; have HR1 := Lib.hid (HR1.out.below hb2); have hB2 : Below w.heap.size w w2 := hb1.trans (hb2.mono hb1.size); clear hR2 hb2)
    | (go_at_call 48; (with_reducible refine (K3.out _ _ _ _ _ HR1.out HR2.out).mono ?_); rintro _ w3 ⟨rfl, hb3⟩; have hB3 : Below w.heap.size w w3 := hB2.trans (hb3.mono hB2.size); clear hb3)
    | (go_at_call 44; (with_reducible refine (late_c _).mono ?_); rintro _ w4 ⟨rfl, hb4⟩; have hB4 : Below w.heap.size w w4 := hB3.trans (hb4.mono hB3.size); clear hb4))
  go_ret
  exact ⟨rfl, hB4⟩
theorem evs_of4 {w : World} {v : Value} (h : Op.FlatSlice w 12 [.int .i64, .bool, .bool, .int .u64, .int .u64, .int .i64, .int .u64, .int .i64, .int .u16, .int .u16, .int .u16, .int .u16] v) :
    ∃ a es cap, v = .slice a es.length cap ∧ es.length ≤ cap ∧ cap ≤ maxLen ∧ EvsV w a es ∧ ∀ j, j < es.length → iok (evn es j).cls ∧ 0 ≤ (evn es j).tm ∧ 0 ≤ (evn es j).dn := by
  rcases h with h | ⟨a, cap, h, hc⟩ | ⟨b, o, n, cap, css, h0, rfl, h3, h4, hlt, hn, hi⟩
  · exact ⟨none, [], 0, h, by simp, by decide, fun k hk => by simp at hk, fun k hk => by simp at hk⟩
  · exact ⟨some a, [], cap, h, by simp, by omega, fun k hk => by simp at hk, fun k hk => by simp at hk⟩
  · have h1 : ∀ i, i < n → ∃ e : Ev, w.rangeAt b (o + i * 12) e.cells ∧ (iok e.cls ∧ 0 ≤ e.tm ∧ 0 ≤ e.dn) := fun i hin => by
      obtain ⟨hf, he⟩ := hi i (by omega)
      obtain ⟨_, _, e0, ⟨x0, rfl, w0⟩, _, _, rfl, ⟨x1, rfl⟩, _, _, rfl, ⟨x2, rfl⟩, _, _, rfl, ⟨x3, rfl, w3⟩, _, _, rfl, ⟨x4, rfl, w4⟩, _, _, rfl, ⟨x5, rfl, w5⟩, _, _, rfl, ⟨x6, rfl, w6⟩, _, _, rfl, ⟨x7, rfl, w7⟩, _, _, rfl, ⟨x8, rfl, w8⟩, _, _, rfl, ⟨x9, rfl, w9⟩, _, _, rfl, ⟨x10, rfl, w10⟩, _, _, rfl, ⟨x11, rfl, w11⟩, rfl⟩ := hf
      rw [e0] at he
      exact ⟨⟨x0, x1, x2, x3, x4, x5, x6, x7, x8, x9, x10, x11⟩, fun j x hx => he j x hx, w5, (bounds_u64 w3).1, (bounds_u64 w4).1⟩
    obtain ⟨qs, hqs⟩ := Go.Deep.choose_lt h1
    refine ⟨some ⟨b, o, none⟩, (List.range n).map qs, cap, by simp, by simpa using h3, by omega, fun k hk => ?_, fun j hj => ?_⟩
    · have := (hqs k (by simpa using hk)).1
      exact ⟨b, o, rfl, hlt, by simpa using this⟩
    · have hj' : j < n := by simpa using hj
      have := (hqs j hj').2
      have e : evn ((List.range n).map qs) j = qs j := by unfold evn; rw [List.getD_eq_getElem?_getD, List.getElem?_map, List.getElem?_range hj']; rfl
      rw [e]; exact this
theorem auditWaits_law (v : Value) (cl : Int) {w : World} (hs : Op.FlatSlice w 12 [.int .i64, .bool, .bool, .int .u64, .int .u64, .int .i64, .int .u64, .int .i64, .int .u16, .int .u16, .int .u16, .int .u16] v) (wt : (Lit.int .i64 cl).wf = true) :
    Calls Try.prog 8 #[v, .int .i64 cl] w fun ee w' => ee = .returned (.bool true) ∧ Below w.heap.size w w' := by
  obtain ⟨ad, l, cap, rfl, -, -, hE, -⟩ := evs_of4 hs
  by_cases hn : l.length ≤ 500
  · exact waits_c l l.length rfl hn cl wt ad cap w hE
  · obtain ⟨n, hln⟩ : ∃ n, l.length = n := ⟨_, rfl⟩
    rw [hln] at hn ⊢
    have D1 : decide (500 < (n : Int)) = true := decide_eq_true (by omega)
    have D1b : decide (500 < n) = true := decide_eq_true (by omega)
    have K := Lib.hid (late_c w)
    clear hs hE hln hn wt
    go_enter Try.func8, Try.ntmps8
    go_wp2_with (go_at_call 44; (with_reducible refine K.out.mono ?_); rintro _ w1 ⟨rfl, hbel⟩)
    go_ret
    exact ⟨rfl, by with_reducible assumption⟩
end Go.Proofs.Ytlenmhbhakeonaa
