/- Of; what is not wrong. -/
import Derived.Test.YtlenmhbhakeonaaAu7
namespace Go.Proofs.Ytlenmhbhakeonaa
set_option linter.unusedVariables false
set_option linter.unusedSimpArgs false
set_option maxRecDepth 100000
open Go.RowKit Fg Reg
attribute [local irreducible] Reg.wE QR

def ofL (l : List Ev) (c : Int) (b : Bool) : List Pk := (l.filter fun e => decide (e.cls = c ∧ e.inn = b)).map Ev.pk
theorem of_snoc (A : List Ev) (e : Ev) (c : Int) (b : Bool) : ofL (A ++ [e]) c b = if e.cls = c ∧ e.inn = b then ofL A c b ++ [e.pk] else ofL A c b := by
  unfold ofL
  rw [List.filter_append, List.map_append]
  by_cases h : e.cls = c ∧ e.inn = b
  · rw [if_pos h]; simp [h]
  · rw [if_neg h, show [e].filter (fun e => decide (e.cls = c ∧ e.inn = b)) = [] by simp [List.filter_cons]; intro h1 h2; exact absurd ⟨h1, h2⟩ h]; simp
theorem of_next {l : List Ev} {i : Nat} (c : Int) (b : Bool) (hi : i < l.length) : ofL (l.take (i + 1)) c b = if (evn l i).cls = c ∧ (evn l i).inn = b then ofL (l.take i) c b ++ [(evn l i).pk] else ofL (l.take i) c b := by
  rw [ev_next hi, of_snoc]
def OFR (w' : World) (L : List Pk) (v : Value) : Prop := ∃ ao c, v = .slice ao L.length c ∧ L.length ≤ c ∧ c ≤ maxLen ∧ ((ao = none ∧ L.length = 0 ∧ c = 0) ∨ ∃ b o, ao = some ⟨b, o, none⟩) ∧ RwV Pk.cells 6 w' ao L
set_option maxHeartbeats 8000000 in
theorem rofT_c (l : List Ev) (n : Nat) (hln : l.length = n) (hn : n ≤ 500) (cl : Int) (ad : Option Addr) (cap : Nat) (w : World) (hE : EvsV w ad l) :
    Calls Try.prog 51 #[.slice ad n cap, .int .i64 cl, .bool true] w fun e w' => (∃ v, e = .returned v ∧ OFR w' (ofL l cl true) v) ∧ Below w.heap.size w w' := by
  obtain ⟨ii, ci0, cz0, cz1, cz2⟩ := pk_parts
  have CI0 := Lib.hid ci0
  have CZ0 := Lib.hid cz0
  have CZ1 := Lib.hid cz1
  have CZ2 := Lib.hid cz2
  have EI := Lib.hid ev_info
  have HE := Lib.hid hE
  have HLN := Lib.hid hln
  obtain ⟨R, hRR⟩ : ∃ R, ofL l cl true = R := ⟨_, rfl⟩
  rw [hRR]
  have HRR := Lib.hid hRR
  clear hE hln ci0 cz0 cz1 cz2 hRR
  go_enter Try.func51, Try.ntmps51
  go_wp2
  go_loopg [12, 7] n (fun k9 s10 s5 wr => ∃ (i m : Nat) (L : List Pk) (ao : Option Addr) (cp : Nat) (bk : Option Nat), s10 = .int .i64 i ∧ s5 = .slice ao m cp ∧ L.length = m ∧ i ≤ n ∧ n - i ≤ k9 ∧ L = ofL (l.take i) cl true ∧ m ≤ i ∧ QR wr w.heap.size 6 (.slice ao m cp) m (L.flatMap Pk.cells) bk ∧ Below w.heap.size w wr)
  case atStart => exact ⟨0, 0, [], none, 0, none, rfl, rfl, rfl, by omega, by omega, rfl, by omega, QR.nil _ _ _, by (repeat' (first | assumption | exact Below.refl _ _ | refine Below.setCell ?_ (by first | (simp; done) | omega | (simp; omega)) _ | refine Below.alloc ?_ (by first | (simp; done) | omega | (simp; omega)) _ | refine Below.drew ?_ | refine below_drewN ?_ _))⟩
  case round =>
    obtain ⟨i, m, L, ao, cp, bk, rfl, rfl, hLm, hi, hk, hL, hmi, hq, hbl⟩ := hrel
    have HQ := Lib.hid hq
    have HBL := Lib.hid hbl
    have hbs := hbl.size
    by_cases hin : i < n
    · have hil : i < l.length := by rw [HLN.out]; exact hin
      obtain ⟨eb, eo, had, heb, hr⟩ := (HE.out.below hbl) i hil
      subst had
      have W4 : IntKind.i64.wrap ((i : Int) + 1) = ((i + 1 : Nat) : Int) := by rw [IntKind.wrap_i64]; omega
      have e9 : l[i] = evn l i := by unfold evn; rw [List.getD_eq_getElem?_getD, List.getElem?_eq_getElem hil]; rfl
      rw [e9] at hr
      have hnx := of_next cl true hil
      obtain ⟨e, he⟩ : ∃ e, evn l i = e := ⟨_, rfl⟩
      rw [he] at hr hnx
      by_cases hc : e.cls = cl
      · have hcb : (e.cls == cl) = true := by simpa using hc
        cases hinn : e.inn with
        | true =>
          have HNX : Hid (L ++ [e.pk] = ofL (l.take (i + 1)) cl true) := Lib.hid (by rw [hnx, if_pos ⟨hc, hinn⟩, ← hL])
          have HLM := Lib.hid hLm
          clear hc hL hLm hnx he e9 hq
          go_wp2_with (first | go_guarded | (refine wpList_load_mid rfl 96 _ rfl eb (eo + i * 12) rfl _ _ hr Try.underlying96 rfl EI.out ?_) | (refine wpList_store_new rfl 96 _ _ rfl _ #[.int .i64 (e).op, .bool (e).inn, .bool (e).real, .int .u64 (e).tm, .int .u64 (e).dn, .int .i64 (e).cls, .int .u64 (e).id, .int .i64 (e).ln, .int .u16 (e).a, .int .u16 (e).b, .int .u16 (e).c, .int .u16 (e).d] rfl rfl EI.out rfl (all_oneCell_toArray e.one) ?_) | ((at_builtin; refine wpList_append_qr rfl _ _ 86 rfl w.heap.size 6 94 ii _ 24 Try.underlying86 CI0.out CZ0.out CZ1.out CZ2.out rfl (by decide) (.slice ao m cp) m (L.flatMap Pk.cells) bk rfl ((HQ.out.below (Below.alloc (Below.refl _ _) (Nat.le_refl _) _)).below (Below.alloc (Below.refl _ _) (Nat.le_refl _) _)) ⟨_, 0, none⟩ 1 (Pk.cells e.pk) rfl rfl ?c1 (pkC.one _) ?c3 ?c4 ?c5 ?_; (case c1 => (intro j u hu; (rcases j with _ | _ | _ | _ | _ | _ | j <;> simp [Pk.cells, Ev.pk] at hu <;> (try subst hu) <;> simp [Addr.add, go_sem, *]))); (case c3 => (unfold maxLen; omega)); (case c4 => omega); (case c5 => (simp; omega)); intro v2 z2 b2 hq2 ho2 hb2; obtain ⟨a2, c2, rfl⟩ := hq2.form); have HQ2 := Lib.hid hq2; have HO2 := Lib.hid ho2; clear hq2 ho2 hb2))
          go_roundg (n - (i + 1))
          case rel =>
            refine ⟨i + 1, m + 1, L ++ [e.pk], a2, c2, some b2, by first | rfl | go_num | (congr 1; omega), rfl, by rw [List.length_append, List.length_singleton, HLM.out], by omega, Nat.le_refl _, HNX.out, by omega, ?_, ?_⟩
            · rw [List.flatMap_append, List.flatMap_singleton]; exact HQ2.out
            · have hb := HBL.out
              have h1 : Below w.heap.size wr ((wr.alloc (.cells #[.int .i64 e.op, .bool true, .bool e.real, .int .u64 e.tm, .int .u64 e.dn, .int .i64 e.cls, .int .u64 e.id, .int .i64 e.ln, .int .u16 e.a, .int .u16 e.b, .int .u16 e.c, .int .u16 e.d] 96)).alloc (.cells #[.int .u64 e.id, .int .i64 e.ln, .int .u16 e.a, .int .u16 e.b, .int .u16 e.c, .int .u16 e.d] 94)) := by (repeat' (first | assumption | exact Below.refl _ _ | refine Below.setCell ?_ (by first | (simp; done) | omega | (simp; omega)) _ | refine Below.alloc ?_ (by first | (simp; done) | omega | (simp; omega)) _ | refine Below.drew ?_ | refine below_drewN ?_ _))
              exact hb.trans (h1.trans (onlyB HO2.out (by simp; omega) fun k hk => (HQ.out.lt k hk).1))
          case measure => omega
        | false =>
          have HNX : Hid (L = ofL (l.take (i + 1)) cl true) := Lib.hid (by rw [hnx, if_neg (by rintro ⟨-, h⟩; rw [hinn] at h; cases h)]; exact hL)
          have HLM := Lib.hid hLm
          clear hc hL hLm hnx he e9 hq
          go_wp2_with (first | go_guarded | (refine wpList_load_mid rfl 96 _ rfl eb (eo + i * 12) rfl _ _ hr Try.underlying96 rfl EI.out ?_) | (refine wpList_store_new rfl 96 _ _ rfl _ #[.int .i64 (e).op, .bool (e).inn, .bool (e).real, .int .u64 (e).tm, .int .u64 (e).dn, .int .i64 (e).cls, .int .u64 (e).id, .int .i64 (e).ln, .int .u16 (e).a, .int .u16 (e).b, .int .u16 (e).c, .int .u16 (e).d] rfl rfl EI.out rfl (all_oneCell_toArray e.one) ?_))
          go_roundg (n - (i + 1))
          case rel =>
            refine ⟨i + 1, m, L, ao, cp, bk, by first | rfl | go_num | (congr 1; omega), rfl, HLM.out, by omega, Nat.le_refl _, HNX.out, by omega, HQ.out.below (by (repeat' (first | assumption | exact Below.refl _ _ | refine Below.setCell ?_ (by first | (simp; done) | omega | (simp; omega)) _ | refine Below.alloc ?_ (by first | (simp; done) | omega | (simp; omega)) _ | refine Below.drew ?_ | refine below_drewN ?_ _))), ?_⟩
            have hb := HBL.out
            (repeat' (first | assumption | exact Below.refl _ _ | refine Below.setCell ?_ (by first | (simp; done) | omega | (simp; omega)) _ | refine Below.alloc ?_ (by first | (simp; done) | omega | (simp; omega)) _ | refine Below.drew ?_ | refine below_drewN ?_ _))
          case measure => omega
      · have hcb : (e.cls == cl) = false := by simpa using hc
        have hcc9 := hc
        clear hc
        have HNX : Hid (L = ofL (l.take (i + 1)) cl true) := Lib.hid (by rw [hnx, if_neg (by exact fun h => hcc9 h.1)]; exact hL)
        have HLM := Lib.hid hLm
        clear hcc9 hL hLm hnx he e9 hq
        go_wp2_with (first | go_guarded | (refine wpList_load_mid rfl 96 _ rfl eb (eo + i * 12) rfl _ _ hr Try.underlying96 rfl EI.out ?_) | (refine wpList_store_new rfl 96 _ _ rfl _ #[.int .i64 (e).op, .bool (e).inn, .bool (e).real, .int .u64 (e).tm, .int .u64 (e).dn, .int .i64 (e).cls, .int .u64 (e).id, .int .i64 (e).ln, .int .u16 (e).a, .int .u16 (e).b, .int .u16 (e).c, .int .u16 (e).d] rfl rfl EI.out rfl (all_oneCell_toArray e.one) ?_))
        go_roundg (n - (i + 1))
        case rel =>
          refine ⟨i + 1, m, L, ao, cp, bk, by first | rfl | go_num | (congr 1; omega), rfl, HLM.out, by omega, Nat.le_refl _, HNX.out, by omega, HQ.out.below (by (repeat' (first | assumption | exact Below.refl _ _ | refine Below.setCell ?_ (by first | (simp; done) | omega | (simp; omega)) _ | refine Below.alloc ?_ (by first | (simp; done) | omega | (simp; omega)) _ | refine Below.drew ?_ | refine below_drewN ?_ _))), ?_⟩
          have hb := HBL.out
          (repeat' (first | assumption | exact Below.refl _ _ | refine Below.setCell ?_ (by first | (simp; done) | omega | (simp; omega)) _ | refine Below.alloc ?_ (by first | (simp; done) | omega | (simp; omega)) _ | refine Below.drew ?_ | refine below_drewN ?_ _))
        case measure => omega
    · have hie : i = n := by omega
      subst hie
      rw [List.take_of_length_le (by rw [HLN.out]; exact Nat.le_refl _)] at hL
      have hLR : L = R := by rw [hL, HRR.out]
      subst hLR
      subst hLm
      have hcp : L.length ≤ cp ∧ cp ≤ maxLen ∧ ((ao = none ∧ L.length = 0 ∧ cp = 0) ∨ ∃ b o, ao = some ⟨b, o, none⟩) := by
        have hq9 := hq
        unfold QR at hq9
        rcases hq9.2 with ⟨h1, h2, _⟩ | ⟨b, o, c9, _, h1, h2, h3, _⟩
        · injection h1 with h5 _ h4; subst h4 h5; rw [h2]; exact ⟨by decide, by decide, .inl ⟨rfl, rfl, rfl⟩⟩
        · injection h1 with h5 _ h4; subst h4 h5; exact ⟨h2, h3, .inr ⟨b, o, rfl⟩⟩
      obtain ⟨ao2, c2, hv, hR⟩ := hq.rwv
      injection hv with hv1 hv2 hv3
      subst hv1 hv3
      have HR := Lib.hid hR
      have HCP := Lib.hid hcp
      clear hR hq hin hL HQ hv2 hcp
      go_wp2
      go_ret
      exact ⟨⟨_, rfl, ao, cp, rfl, HCP.out.1, HCP.out.2.1, HCP.out.2.2, HR.out⟩, hbl⟩
set_option maxHeartbeats 8000000 in
theorem rofF_c (l : List Ev) (n : Nat) (hln : l.length = n) (hn : n ≤ 500) (cl : Int) (ad : Option Addr) (cap : Nat) (w : World) (hE : EvsV w ad l) :
    Calls Try.prog 51 #[.slice ad n cap, .int .i64 cl, .bool false] w fun e w' => (∃ v, e = .returned v ∧ OFR w' (ofL l cl false) v) ∧ Below w.heap.size w w' := by
  obtain ⟨ii, ci0, cz0, cz1, cz2⟩ := pk_parts
  have CI0 := Lib.hid ci0
  have CZ0 := Lib.hid cz0
  have CZ1 := Lib.hid cz1
  have CZ2 := Lib.hid cz2
  have EI := Lib.hid ev_info
  have HE := Lib.hid hE
  have HLN := Lib.hid hln
  obtain ⟨R, hRR⟩ : ∃ R, ofL l cl false = R := ⟨_, rfl⟩
  rw [hRR]
  have HRR := Lib.hid hRR
  clear hE hln ci0 cz0 cz1 cz2 hRR
  go_enter Try.func51, Try.ntmps51
  go_wp2
  go_loopg [12, 7] n (fun k9 s10 s5 wr => ∃ (i m : Nat) (L : List Pk) (ao : Option Addr) (cp : Nat) (bk : Option Nat), s10 = .int .i64 i ∧ s5 = .slice ao m cp ∧ L.length = m ∧ i ≤ n ∧ n - i ≤ k9 ∧ L = ofL (l.take i) cl false ∧ m ≤ i ∧ QR wr w.heap.size 6 (.slice ao m cp) m (L.flatMap Pk.cells) bk ∧ Below w.heap.size w wr)
  case atStart => exact ⟨0, 0, [], none, 0, none, rfl, rfl, rfl, by omega, by omega, rfl, by omega, QR.nil _ _ _, by (repeat' (first | assumption | exact Below.refl _ _ | refine Below.setCell ?_ (by first | (simp; done) | omega | (simp; omega)) _ | refine Below.alloc ?_ (by first | (simp; done) | omega | (simp; omega)) _ | refine Below.drew ?_ | refine below_drewN ?_ _))⟩
  case round =>
    obtain ⟨i, m, L, ao, cp, bk, rfl, rfl, hLm, hi, hk, hL, hmi, hq, hbl⟩ := hrel
    have HQ := Lib.hid hq
    have HBL := Lib.hid hbl
    have hbs := hbl.size
    by_cases hin : i < n
    · have hil : i < l.length := by rw [HLN.out]; exact hin
      obtain ⟨eb, eo, had, heb, hr⟩ := (HE.out.below hbl) i hil
      subst had
      have W4 : IntKind.i64.wrap ((i : Int) + 1) = ((i + 1 : Nat) : Int) := by rw [IntKind.wrap_i64]; omega
      have e9 : l[i] = evn l i := by unfold evn; rw [List.getD_eq_getElem?_getD, List.getElem?_eq_getElem hil]; rfl
      rw [e9] at hr
      have hnx := of_next cl false hil
      obtain ⟨e, he⟩ : ∃ e, evn l i = e := ⟨_, rfl⟩
      rw [he] at hr hnx
      by_cases hc : e.cls = cl
      · have hcb : (e.cls == cl) = true := by simpa using hc
        cases hinn : e.inn with
        | true =>
          have HNX : Hid (L = ofL (l.take (i + 1)) cl false) := Lib.hid (by rw [hnx, if_neg (by rintro ⟨-, h⟩; rw [hinn] at h; cases h)]; exact hL)
          have HLM := Lib.hid hLm
          clear hc hL hLm hnx he e9 hq
          go_wp2_with (first | go_guarded | (refine wpList_load_mid rfl 96 _ rfl eb (eo + i * 12) rfl _ _ hr Try.underlying96 rfl EI.out ?_) | (refine wpList_store_new rfl 96 _ _ rfl _ #[.int .i64 (e).op, .bool (e).inn, .bool (e).real, .int .u64 (e).tm, .int .u64 (e).dn, .int .i64 (e).cls, .int .u64 (e).id, .int .i64 (e).ln, .int .u16 (e).a, .int .u16 (e).b, .int .u16 (e).c, .int .u16 (e).d] rfl rfl EI.out rfl (all_oneCell_toArray e.one) ?_))
          go_roundg (n - (i + 1))
          case rel =>
            refine ⟨i + 1, m, L, ao, cp, bk, by first | rfl | go_num | (congr 1; omega), rfl, HLM.out, by omega, Nat.le_refl _, HNX.out, by omega, HQ.out.below (by (repeat' (first | assumption | exact Below.refl _ _ | refine Below.setCell ?_ (by first | (simp; done) | omega | (simp; omega)) _ | refine Below.alloc ?_ (by first | (simp; done) | omega | (simp; omega)) _ | refine Below.drew ?_ | refine below_drewN ?_ _))), ?_⟩
            have hb := HBL.out
            (repeat' (first | assumption | exact Below.refl _ _ | refine Below.setCell ?_ (by first | (simp; done) | omega | (simp; omega)) _ | refine Below.alloc ?_ (by first | (simp; done) | omega | (simp; omega)) _ | refine Below.drew ?_ | refine below_drewN ?_ _))
          case measure => omega
        | false =>
          have HNX : Hid (L ++ [e.pk] = ofL (l.take (i + 1)) cl false) := Lib.hid (by rw [hnx, if_pos ⟨hc, hinn⟩, ← hL])
          have HLM := Lib.hid hLm
          clear hc hL hLm hnx he e9 hq
          go_wp2_with (first | go_guarded | (refine wpList_load_mid rfl 96 _ rfl eb (eo + i * 12) rfl _ _ hr Try.underlying96 rfl EI.out ?_) | (refine wpList_store_new rfl 96 _ _ rfl _ #[.int .i64 (e).op, .bool (e).inn, .bool (e).real, .int .u64 (e).tm, .int .u64 (e).dn, .int .i64 (e).cls, .int .u64 (e).id, .int .i64 (e).ln, .int .u16 (e).a, .int .u16 (e).b, .int .u16 (e).c, .int .u16 (e).d] rfl rfl EI.out rfl (all_oneCell_toArray e.one) ?_) | ((at_builtin; refine wpList_append_qr rfl _ _ 86 rfl w.heap.size 6 94 ii _ 24 Try.underlying86 CI0.out CZ0.out CZ1.out CZ2.out rfl (by decide) (.slice ao m cp) m (L.flatMap Pk.cells) bk rfl ((HQ.out.below (Below.alloc (Below.refl _ _) (Nat.le_refl _) _)).below (Below.alloc (Below.refl _ _) (Nat.le_refl _) _)) ⟨_, 0, none⟩ 1 (Pk.cells e.pk) rfl rfl ?c1 (pkC.one _) ?c3 ?c4 ?c5 ?_; (case c1 => (intro j u hu; (rcases j with _ | _ | _ | _ | _ | _ | j <;> simp [Pk.cells, Ev.pk] at hu <;> (try subst hu) <;> simp [Addr.add, go_sem, *]))); (case c3 => (unfold maxLen; omega)); (case c4 => omega); (case c5 => (simp; omega)); intro v2 z2 b2 hq2 ho2 hb2; obtain ⟨a2, c2, rfl⟩ := hq2.form); have HQ2 := Lib.hid hq2; have HO2 := Lib.hid ho2; clear hq2 ho2 hb2))
          go_roundg (n - (i + 1))
          case rel =>
            refine ⟨i + 1, m + 1, L ++ [e.pk], a2, c2, some b2, by first | rfl | go_num | (congr 1; omega), rfl, by rw [List.length_append, List.length_singleton, HLM.out], by omega, Nat.le_refl _, HNX.out, by omega, ?_, ?_⟩
            · rw [List.flatMap_append, List.flatMap_singleton]; exact HQ2.out
            · have hb := HBL.out
              have h1 : Below w.heap.size wr ((wr.alloc (.cells #[.int .i64 e.op, .bool false, .bool e.real, .int .u64 e.tm, .int .u64 e.dn, .int .i64 e.cls, .int .u64 e.id, .int .i64 e.ln, .int .u16 e.a, .int .u16 e.b, .int .u16 e.c, .int .u16 e.d] 96)).alloc (.cells #[.int .u64 e.id, .int .i64 e.ln, .int .u16 e.a, .int .u16 e.b, .int .u16 e.c, .int .u16 e.d] 94)) := by (repeat' (first | assumption | exact Below.refl _ _ | refine Below.setCell ?_ (by first | (simp; done) | omega | (simp; omega)) _ | refine Below.alloc ?_ (by first | (simp; done) | omega | (simp; omega)) _ | refine Below.drew ?_ | refine below_drewN ?_ _))
              exact hb.trans (h1.trans (onlyB HO2.out (by simp; omega) fun k hk => (HQ.out.lt k hk).1))
          case measure => omega
      · have hcb : (e.cls == cl) = false := by simpa using hc
        have hcc9 := hc
        clear hc
        have HNX : Hid (L = ofL (l.take (i + 1)) cl false) := Lib.hid (by rw [hnx, if_neg (by exact fun h => hcc9 h.1)]; exact hL)
        have HLM := Lib.hid hLm
        clear hcc9 hL hLm hnx he e9 hq
        go_wp2_with (first | go_guarded | (refine wpList_load_mid rfl 96 _ rfl eb (eo + i * 12) rfl _ _ hr Try.underlying96 rfl EI.out ?_) | (refine wpList_store_new rfl 96 _ _ rfl _ #[.int .i64 (e).op, .bool (e).inn, .bool (e).real, .int .u64 (e).tm, .int .u64 (e).dn, .int .i64 (e).cls, .int .u64 (e).id, .int .i64 (e).ln, .int .u16 (e).a, .int .u16 (e).b, .int .u16 (e).c, .int .u16 (e).d] rfl rfl EI.out rfl (all_oneCell_toArray e.one) ?_))
        go_roundg (n - (i + 1))
        case rel =>
          refine ⟨i + 1, m, L, ao, cp, bk, by first | rfl | go_num | (congr 1; omega), rfl, HLM.out, by omega, Nat.le_refl _, HNX.out, by omega, HQ.out.below (by (repeat' (first | assumption | exact Below.refl _ _ | refine Below.setCell ?_ (by first | (simp; done) | omega | (simp; omega)) _ | refine Below.alloc ?_ (by first | (simp; done) | omega | (simp; omega)) _ | refine Below.drew ?_ | refine below_drewN ?_ _))), ?_⟩
          have hb := HBL.out
          (repeat' (first | assumption | exact Below.refl _ _ | refine Below.setCell ?_ (by first | (simp; done) | omega | (simp; omega)) _ | refine Below.alloc ?_ (by first | (simp; done) | omega | (simp; omega)) _ | refine Below.drew ?_ | refine below_drewN ?_ _))
        case measure => omega
    · have hie : i = n := by omega
      subst hie
      rw [List.take_of_length_le (by rw [HLN.out]; exact Nat.le_refl _)] at hL
      have hLR : L = R := by rw [hL, HRR.out]
      subst hLR
      subst hLm
      have hcp : L.length ≤ cp ∧ cp ≤ maxLen ∧ ((ao = none ∧ L.length = 0 ∧ cp = 0) ∨ ∃ b o, ao = some ⟨b, o, none⟩) := by
        have hq9 := hq
        unfold QR at hq9
        rcases hq9.2 with ⟨h1, h2, _⟩ | ⟨b, o, c9, _, h1, h2, h3, _⟩
        · injection h1 with h5 _ h4; subst h4 h5; rw [h2]; exact ⟨by decide, by decide, .inl ⟨rfl, rfl, rfl⟩⟩
        · injection h1 with h5 _ h4; subst h4 h5; exact ⟨h2, h3, .inr ⟨b, o, rfl⟩⟩
      obtain ⟨ao2, c2, hv, hR⟩ := hq.rwv
      injection hv with hv1 hv2 hv3
      subst hv1 hv3
      have HR := Lib.hid hR
      have HCP := Lib.hid hcp
      clear hR hq hin hL HQ hv2 hcp
      go_wp2
      go_ret
      exact ⟨⟨_, rfl, ao, cp, rfl, HCP.out.1, HCP.out.2.1, HCP.out.2.2, HR.out⟩, hbl⟩
set_option maxHeartbeats 4000000 in
theorem chk_bad (T lm : Int) (h : ¬ (1 ≤ T ∧ T ≤ 65536 ∧ 1 ≤ lm ∧ lm ≤ 16384)) (n : Nat) (ad : Option Addr) (cap : Nat) (w : World) :
    Calls Try.prog 45 #[.agg #[.int .i64 T, .int .i64 lm], .slice ad n cap] w fun ee w' => ee = .returned (.agg #[.int .i64 0, .int .i64 7]) ∧ Below w.heap.size w w' := by
  by_cases g1 : T < 1
  · have D1 : decide (T < 1) = true := decide_eq_true g1
    clear h g1
    go_enter Try.func45, Try.ntmps45
    go_wp2
    refine bodyPost_ret (v := (.agg #[.int .i64 0, .int .i64 7])) (by simp [results, Try.results45, go_sem, *]) rfl ⟨rfl, ?_⟩
    (repeat' (first | assumption | exact Below.refl _ _ | refine Below.setCell ?_ (by first | (simp; done) | omega | (simp; omega)) _ | refine Below.alloc ?_ (by first | (simp; done) | omega | (simp; omega)) _ | refine Below.drew ?_ | refine below_drewN ?_ _))
  · have D1 : decide (T < 1) = false := decide_eq_false g1
    by_cases g2 : 65536 < T
    · have D2 : decide (65536 < T) = true := decide_eq_true g2
      clear h g1 g2
      go_enter Try.func45, Try.ntmps45
      go_wp2
      refine bodyPost_ret (v := (.agg #[.int .i64 0, .int .i64 7])) (by simp [results, Try.results45, go_sem, *]) rfl ⟨rfl, ?_⟩
      (repeat' (first | assumption | exact Below.refl _ _ | refine Below.setCell ?_ (by first | (simp; done) | omega | (simp; omega)) _ | refine Below.alloc ?_ (by first | (simp; done) | omega | (simp; omega)) _ | refine Below.drew ?_ | refine below_drewN ?_ _))
    · have D2 : decide (65536 < T) = false := decide_eq_false g2
      by_cases g3 : lm < 1
      · have D3 : decide (lm < 1) = true := decide_eq_true g3
        clear h g1 g2 g3
        go_enter Try.func45, Try.ntmps45
        go_wp2
        refine bodyPost_ret (v := (.agg #[.int .i64 0, .int .i64 7])) (by simp [results, Try.results45, go_sem, *]) rfl ⟨rfl, ?_⟩
        (repeat' (first | assumption | exact Below.refl _ _ | refine Below.setCell ?_ (by first | (simp; done) | omega | (simp; omega)) _ | refine Below.alloc ?_ (by first | (simp; done) | omega | (simp; omega)) _ | refine Below.drew ?_ | refine below_drewN ?_ _))
      · have D3 : decide (lm < 1) = false := decide_eq_false g3
        have D4 : decide (16384 < lm) = true := decide_eq_true (by omega)
        clear h g1 g2 g3
        go_enter Try.func45, Try.ntmps45
        go_wp2
        refine bodyPost_ret (v := (.agg #[.int .i64 0, .int .i64 7])) (by simp [results, Try.results45, go_sem, *]) rfl ⟨rfl, ?_⟩
        (repeat' (first | assumption | exact Below.refl _ _ | refine Below.setCell ?_ (by first | (simp; done) | omega | (simp; omega)) _ | refine Below.alloc ?_ (by first | (simp; done) | omega | (simp; omega)) _ | refine Below.drew ?_ | refine below_drewN ?_ _))
theorem code0 {st : St} {W : Int → List Pk} {e : Ev} (h : code st W e = 0) : qb1 st e = false ∧ qb2 st e = false ∧ qb3 st e = false ∧ qb4 e = false ∧ qb5 W e = false ∧ qb6 W e = false ∧ qb7 st e = false ∧ qb8 st e = false := by
  unfold code at h
  cases h1 : qb1 st e <;> cases h2 : qb2 st e <;> cases h3 : qb3 st e <;> cases h4 : qb4 e <;> cases h5 : qb5 W e <;> cases h6 : qb6 W e <;> cases h7 : qb7 st e <;> cases h8 : qb8 st e <;> simp [h1, h2, h3, h4, h5, h6, h7, h8] at h ⊢
/-- What was picked, and what waits, is what came. -/
theorem enough {T lm : Int} {l : List Ev} (h : ∀ j, j < l.length → codeAt T lm l j = 0) (c : Int) : ∀ i, i ≤ l.length → ofL (l.take i) c false ++ wOf (l.take i) c = ofL (l.take i) c true := by
  intro i
  induction i with
  | zero => intro _; rfl
  | succ i ih =>
    intro hi
    have hil : i < l.length := hi
    have ih := ih (by omega)
    rw [of_next c false hil, of_next c true hil, w_next hil]
    have hc := code0 (h i hil)
    by_cases hcl : (evn l i).cls = c
    · rw [w_at hcl]
      cases hinn : (evn l i).inn with
      | true =>
        simp [hcl, ← ih]
      | false =>
        simp only [hcl, Bool.false_eq_true, and_false, and_self, if_true, if_false]
        rw [← ih]
        have h5 := hc.2.2.2.2.1
        have h6 := hc.2.2.2.2.2.1
        unfold qb5 at h5
        unfold qb6 at h6
        rw [hinn, hcl] at h5 h6
        simp only [Bool.not_false, Bool.true_and, decide_eq_false_iff_not, Bool.not_eq_false', decide_eq_true_eq] at h5 h6
        obtain ⟨P, R, hPR⟩ := List.exists_cons_of_ne_nil (l := wOf (l.take i) c) (fun e => h5 (by rw [e]; rfl))
        rw [hPR] at h6 ⊢
        have hP : P = (evn l i).pk := by simpa using h6
        rw [hP]; simp
    · rw [w_other hcl, if_neg (fun g => hcl g.1), if_neg (fun g => hcl g.1)]
      exact ih
theorem last_ok {T lm : Int} {l : List Ev} (hT : 1 ≤ T ∧ T ≤ 65536 ∧ 1 ≤ lm ∧ lm ≤ 16384) (h : ∀ j, j < l.length → codeAt T lm l j = 0) {i : Nat} (hi : i < l.length) (h0 : 0 ≤ (evn l i).tm) (hinn : (evn l i).inn = false) :
    (stOf T lm (l.take i)).dn ≤ (evn l i).tm ∧ (evn l i).tm < (evn l i).dn := by
  have hc := code0 (h i hi)
  have h2 := hc.2.1
  have h3 := hc.2.2.1
  have h7 := hc.2.2.2.2.2.2.1
  have h8 := hc.2.2.2.2.2.2.2
  unfold qb2 at h2
  unfold qb3 at h3
  unfold qb7 at h7
  unfold qb8 tkd at h8
  rw [hinn] at h7 h8
  rw [(st_fix T lm _).1] at h8
  rw [(st_fix T lm _).2] at h3
  simp only [Bool.or_eq_false_iff, decide_eq_false_iff_not, Bool.not_false, Bool.true_and, bne_eq_false_iff_eq] at h2 h3 h7 h8
  have hb1 : 1 ≤ (evn l i).ln * T := Int.mul_pos (by omega) (by omega)
  have hb2 : (evn l i).ln * T ≤ 16384 * 65536 := Int.mul_le_mul (by omega) (by omega) (by omega) (by omega)
  rw [IntKind.wrap_u64] at h8
  generalize (evn l i).ln * T = k at *
  omega
end Go.Proofs.Ytlenmhbhakeonaa
