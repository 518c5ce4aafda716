/- limit.Broken, the walk. -/
import Derived.Test.YtdahjhokcjfioaaLt3
namespace Go.Proofs.Ytdahjhokcjfioaa
set_option linter.unusedVariables false
set_option linter.unusedSimpArgs false
set_option maxRecDepth 100000
open Go.RowKit Fg Reg
attribute [local irreducible] Reg.wE Brk Nob Nof Ans

set_option maxHeartbeats 8000000 in
theorem brk_c (c1 cd c2 lm : Int) (h1 : In c1) (h2 : In cd) (h3 : In c2) (hl : -9223372036854775808 ≤ lm ∧ lm ≤ 9223372036854775807) (zs : List Int) (es : List Ev) (a a2 : Option Addr) (c c4 : Nat) (hn : es.length ≤ 100000) (hn2 : zs.length ≤ 100000) (hw : ∀ k (h : k < es.length), es[k].wf3) (w : World) (hE : EvsV w a es) (hZ : IntsV w a2 zs) :
    Calls Try.prog 64 #[.agg #[.int .u64 (c1), .int .u64 (cd), .int .u64 (c2)], .int .i64 lm, .slice a es.length c, .slice a2 zs.length c4] w fun ee w' => Brk c1 cd c2 lm zs es w ee w' := by
  have SI := Lib.hid sp5_info
  have HE := Lib.hid hE
  have HZ := Lib.hid hZ
  have HW := Lib.hid hw
  have HC := Lib.hid (And.intro h1 (And.intro h2 (And.intro h3 hl)))
  have hch := spsrun_chain zs es
  have hbd := chain_at es _ _ _ hch
  have HBD := Lib.hid hbd
  have hz' : zs.length ≤ 4611686018427387904 := by omega
  have KS := Lib.hid (fun z h g => spof_c zs es a a2 c c4 hn hn2 z h g)
  have KN := Lib.hid (fun x (z : World) (h : IntsV z a2 zs) => con_c zs a2 c4 x hz' z h)
  have KT := Lib.hid since34_c
  have hrl := rows_len zs es
  generalize hrs : (spsrun zs es es.length).rows = rs at *
  have HRS := Lib.hid hrs
  clear hE hZ hw h1 h2 h3 hch hbd hrs
  go_enter Try.func64, Try.ntmps64
  go_wp2_with fail
  go_step3
  go_wp2_with fail
  go_step3
  go_wp2_with (go_at_call 119; (with_reducible refine (KS.out _ (HE.out.below ((by repeat' (first | with_reducible exact Below.refl _ _ | with_reducible assumption | ((with_reducible refine Below.drew ?_)) | ((with_reducible refine below_drewN ?_ _)) | ((with_reducible refine Below.alloc ?_ ?_ _); rotate_left; focus (first | omega | (simp; done) | (simp; omega))) | ((with_reducible refine Below.setCell ?_ ?_ _); rotate_left; focus (first | omega | (simp; done) | (simp; omega))) | ((with_reducible refine Below.trans ?_ (Below.mono (by with_reducible assumption) ?_)); rotate_left; focus (first | omega | (simp; done) | (simp; omega))))))) (HZ.out.below ((by repeat' (first | with_reducible exact Below.refl _ _ | with_reducible assumption | ((with_reducible refine Below.drew ?_)) | ((with_reducible refine below_drewN ?_ _)) | ((with_reducible refine Below.alloc ?_ ?_ _); rotate_left; focus (first | omega | (simp; done) | (simp; omega))) | ((with_reducible refine Below.setCell ?_ ?_ _); rotate_left; focus (first | omega | (simp; done) | (simp; omega))) | ((with_reducible refine Below.trans ?_ (Below.mono (by with_reducible assumption) ?_)); rotate_left; focus (first | omega | (simp; done) | (simp; omega)))))))).mono ?_); rintro ee w1 ⟨⟨v, rfl, hown⟩, hbel⟩; obtain ⟨ar, cr, hveq, hRr, _⟩ := RwV.of_own spC hown; subst hveq; have HR := Lib.hid hRr; obtain ⟨hcc, hff⟩ := bcell hbel; have hsz := hbel.size; (try simp at hsz); have hF : ((w1.cell? ⟨w.heap.size, 0, none⟩ = some (.int .u64 c1) ∧ w1.cell? ⟨w.heap.size, 1, none⟩ = some (.int .u64 cd) ∧ w1.cell? ⟨w.heap.size, 2, none⟩ = some (.int .u64 c2) ∧ w.heap.size < w1.heap.size)) ∧ Below w.heap.size w w1 := (by ((repeat' apply And.intro) <;> first | (simp [go_sem, *]; done) | omega | (repeat' (first | with_reducible exact Below.refl _ _ | with_reducible assumption | ((with_reducible refine Below.drew ?_)) | ((with_reducible refine below_drewN ?_ _)) | ((with_reducible refine Below.alloc ?_ ?_ _); rotate_left; focus (first | omega | (simp; done) | (simp; omega))) | ((with_reducible refine Below.setCell ?_ ?_ _); rotate_left; focus (first | omega | (simp; done) | (simp; omega))) | ((with_reducible refine Below.trans ?_ (Below.mono (by with_reducible assumption) ?_)); rotate_left; focus (first | omega | (simp; done) | (simp; omega))))))); go_split_ands; clear hcc hff hbel hown hRr)
  go_loopw [10, 11, 21] (fun pl br ii wr => ∃ y : Nat, y ≤ rs.length ∧ ii = .int .i64 y ∧ pl = .int .i64 0 ∧ br = .bool false ∧ Nob c1 cd c2 lm zs es rs y ∧ Below w1.heap.size w1 wr) (fun _ _ ii _ => rs.length - (intOf ii).toNat)
  case atStart => exact ⟨0, Nat.zero_le _, rfl, rfl, rfl, nob_zero, Below.refl _ _⟩
  case round =>
    obtain ⟨y, hy, rfl, rfl, rfl, hno, hB⟩ := hrel
    rename World => wo
    have HNO := Lib.hid hno
    clear hno
    have hsy := hB.size
    have hcb : (wo.cell? ⟨w.heap.size, 0, none⟩ = some (.int .u64 c1) ∧ wo.cell? ⟨w.heap.size, 1, none⟩ = some (.int .u64 cd) ∧ wo.cell? ⟨w.heap.size, 2, none⟩ = some (.int .u64 c2) ∧ w.heap.size < wo.heap.size) := by
      obtain ⟨hcc, hff⟩ := bcell hB
      have x0 : w.heap.size < wo.heap.size := by omega
      ((repeat' apply And.intro) <;> first | (simp [go_sem, *]; done) | omega | (repeat' (first | with_reducible exact Below.refl _ _ | with_reducible assumption | ((with_reducible refine Below.drew ?_)) | ((with_reducible refine below_drewN ?_ _)) | ((with_reducible refine Below.alloc ?_ ?_ _); rotate_left; focus (first | omega | (simp; done) | (simp; omega))) | ((with_reducible refine Below.setCell ?_ ?_ _); rotate_left; focus (first | omega | (simp; done) | (simp; omega))) | ((with_reducible refine Below.trans ?_ (Below.mono (by with_reducible assumption) ?_)); rotate_left; focus (first | omega | (simp; done) | (simp; omega))))))
    have hBW : Below w.heap.size w wo := Below.trans ‹Below w.heap.size w w1› (hB.mono (by omega))
    go_split_ands
    by_cases hlt : y < rs.length
    · obtain ⟨g, og, rfl, hgl, hrs⟩ := (HR.out.below hB) y hlt
      have hb3 := HBD.out y hlt
      have HGO := Lib.hid (fun i (gi : Nof c1 cd c2 lm zs es rs[y] i) hi => nob_succ hlt HNO.out gi hi)
      have HFO := Lib.hid (fun i (gi : Nof c1 cd c2 lm zs es rs[y] i) (hi : hb c1 cd c2 lm zs es rs[y] i = true) => (by rw [HRS.out]; exact ans_some hlt HNO.out gi hi : Ans c1 cd c2 lm zs es (spsrun zs es es.length).rows (i : Int) true))
      obtain ⟨x, hx⟩ : ∃ x, rs[y] = x := ⟨_, rfl⟩
      rw [hx] at hrs hb3 HGO HFO
      clear hx
      have HLT := Lib.hid hlt
      have HSY := Lib.hid hsy
      obtain ⟨fr, tt, fi, la, op⟩ := x
      dsimp only at hb3
      obtain ⟨b1, b2, b3⟩ := hb3
      have hfr : 0 ≤ fr := by
        have := (HW.out fi b1).tm0
        rw [b2]; simpa [b1] using this
      change wo.rangeAt g (og + y * 5) [.int .u64 fr, .int .u64 tt, .int .i64 fi, .int .i64 la, .bool op] at hrs
      obtain ⟨LL, hLL⟩ : ∃ LL : Int, LL = (if op = true then (es.length : Int) - 1 else la) := ⟨_, rfl⟩
      have hL : fi + 1 ≤ LL + 1 ∧ LL < es.length := by
        rw [hLL]
        cases op
        · simp at b3 ⊢; omega
        · simp; omega
      have hLo : ∀ i : Nat, (i : Int) ≤ LL → op = true ∨ i ≤ la := fun i hi => by
        rw [hLL] at hi
        cases op
        · simp at hi; right; omega
        · left; rfl
      have hLe : ∀ i : Nat, ¬ (i : Int) ≤ LL → es.length ≤ i ∨ (op = false ∧ la < i) := fun i hi => by
        rw [hLL] at hi
        cases op
        · simp at hi; right; exact ⟨rfl, by omega⟩
        · simp at hi; left; omega
      have wn1 : IntKind.i64.wrap ((es.length : Int) - 1) = (es.length : Int) - 1 := by rw [IntKind.wrap_i64]; omega
      have wf1 : IntKind.i64.wrap ((fi : Int) + 1) = (fi : Int) + 1 := by rw [IntKind.wrap_i64]; omega
      have HLo := Lib.hid hLo
      have HLe := Lib.hid hLe
      have HP0 := pks_none zs es (fi + 1) es.length (fi + 1) (by omega)
      clear hLo hLe b2
      cases op
      · simp only [Bool.false_eq_true, if_false, if_true] at hLL
        go_wp2_with (first | (refine wpList_load_mid rfl 222 _ rfl g (og + y * 5) rfl _ _ hrs Try.underlying222 rfl SI.out ?_) | (refine wpList_store_new rfl 222 _ _ rfl _ #[.int .u64 fr, .int .u64 tt, .int .i64 fi, .int .i64 la, .bool op] rfl rfl SI.out rfl (by kernel_rfl) ?_))
        go_loopw [10, 11, 15, 16] (fun pl br by2 ii wq => ∃ i : Nat, ii = .int .i64 i ∧ fi < i ∧ (i : Int) ≤ LL + 1 ∧ by2 = .int .u64 (pks zs es (fi + 1) es.length i) ∧ pl = .int .i64 0 ∧ br = .bool false ∧ Nof c1 cd c2 lm zs es ⟨fr, tt, fi, la, false⟩ i ∧ wq.cell? ⟨wo.heap.size, 0, none⟩ = some (.int .u64 fr) ∧ ((wq.cell? ⟨w.heap.size, 0, none⟩ = some (.int .u64 c1) ∧ wq.cell? ⟨w.heap.size, 1, none⟩ = some (.int .u64 cd) ∧ wq.cell? ⟨w.heap.size, 2, none⟩ = some (.int .u64 c2) ∧ w.heap.size < wq.heap.size)) ∧ wo.heap.size < wq.heap.size ∧ Below wo.heap.size wo wq) (fun _ _ _ ii _ => (LL + 1 - intOf ii).toNat)
        case atStart => exact ⟨fi + 1, by go_num, by omega, by omega, by rw [HP0], rfl, rfl, nof_start, by simp [go_sem], by ((repeat' apply And.intro) <;> first | (simp [go_sem, *]; done) | omega | (repeat' (first | with_reducible exact Below.refl _ _ | with_reducible assumption | ((with_reducible refine Below.drew ?_)) | ((with_reducible refine below_drewN ?_ _)) | ((with_reducible refine Below.alloc ?_ ?_ _); rotate_left; focus (first | omega | (simp; done) | (simp; omega))) | ((with_reducible refine Below.setCell ?_ ?_ _); rotate_left; focus (first | omega | (simp; done) | (simp; omega))) | ((with_reducible refine Below.trans ?_ (Below.mono (by with_reducible assumption) ?_)); rotate_left; focus (first | omega | (simp; done) | (simp; omega)))))), by simp, by ((repeat' (first | with_reducible exact Below.refl _ _ | with_reducible assumption | ((with_reducible refine Below.drew ?_)) | ((with_reducible refine below_drewN ?_ _)) | ((with_reducible refine Below.alloc ?_ ?_ _); rotate_left; focus (first | omega | (simp; done) | (simp; omega))) | ((with_reducible refine Below.setCell ?_ ?_ _); rotate_left; focus (first | omega | (simp; done) | (simp; omega))) | ((with_reducible refine Below.trans ?_ (Below.mono (by with_reducible assumption) ?_)); rotate_left; focus (first | omega | (simp; done) | (simp; omega))))); done)⟩
        case round =>
          obtain ⟨i, rfl, hfi, hiL, rfl, rfl, rfl, hof, hq0, hqc, hql, hBq⟩ := hrel
          have HOF := Lib.hid hof
          clear hof
          have hsq := hBq.size
          have hBwq : Below w.heap.size w wr := hBW.trans (hBq.mono (by have := hBW.size; omega))
          go_split_ands
          by_cases hle : (i : Int) ≤ LL
          · have hin : i < es.length := by omega
            obtain ⟨b, o, hae, hbl, hr⟩ := (HE.out.below hBwq) i hin
            subst hae
            have hwf := HW.out i hin
            have hst := pks_step (zs := zs) hin hfi
            have hat := @hb_at c1 cd c2 lm zs es ⟨fr, tt, fi, la, false⟩ i hin hfi (by first | exact HLo.out i hle | (simp; done) | (have := HLo.out i hle; simpa using this))
            dsimp only at hat
            obtain ⟨e, he⟩ : ∃ e, es[i] = e := ⟨_, rfl⟩
            rw [he] at hr hwf hst hat
            have q1 : wr.cell? ⟨b, o + i * 12 + 1, none⟩ = some (.bool e.inn) := hr 1 _ rfl
            have q3 : wr.cell? ⟨b, o + i * 12 + 3, none⟩ = some (.int .u64 e.tm) := hr 3 _ rfl
            have q5 : wr.cell? ⟨b, o + i * 12 + 5, none⟩ = some (.int .i64 e.cls) := hr 5 _ rfl
            have q7 : wr.cell? ⟨b, o + i * 12 + 7, none⟩ = some (.int .i64 e.ln) := hr 7 _ rfl
            have ql : decide ((i : Int) ≤ LL) = true := by simpa using hle
            have wi : IntKind.i64.wrap ((i : Int) + 1) = (i : Int) + 1 := by rw [IntKind.wrap_i64]; omega
            rw [hLL] at ql
            have HZq := Lib.hid (HZ.out.below hBwq)
            have KC := Lib.hid (fun z h => KN.out e.cls z h)
            have hpi := pks_in zs es (fi + 1) es.length i
            generalize pks zs es (fi + 1) es.length i = B0 at *
            cases hinn : e.inn with
            | true =>
              rw [hinn] at hst hat q1
              simp only [Bool.not_true, Bool.false_and, Bool.true_eq_false, false_and, if_false] at hst hat
              have HST := Lib.hid hst
              have HAT := Lib.hid hat
              clear hst hat he hr
              go_wp2_with fail
              go_roundw
              case rel =>
                first
                  | exact ⟨i + 1, by go_num, by omega, by omega, by rw [HST.out], rfl, rfl, nof_succ HOF.out HAT.out, by assumption, by ((repeat' apply And.intro) <;> first | (simp [go_sem, *]; done) | omega | (repeat' (first | with_reducible exact Below.refl _ _ | with_reducible assumption | ((with_reducible refine Below.drew ?_)) | ((with_reducible refine below_drewN ?_ _)) | ((with_reducible refine Below.alloc ?_ ?_ _); rotate_left; focus (first | omega | (simp; done) | (simp; omega))) | ((with_reducible refine Below.setCell ?_ ?_ _); rotate_left; focus (first | omega | (simp; done) | (simp; omega))) | ((with_reducible refine Below.trans ?_ (Below.mono (by with_reducible assumption) ?_)); rotate_left; focus (first | omega | (simp; done) | (simp; omega)))))), by assumption, by assumption⟩
                  | ((repeat apply Exists.intro); exact ⟨⟨i + 1, by go_num, by omega, by omega, by rw [HST.out], rfl, rfl, nof_succ HOF.out HAT.out, by assumption, by ((repeat' apply And.intro) <;> first | (simp [go_sem, *]; done) | omega | (repeat' (first | with_reducible exact Below.refl _ _ | with_reducible assumption | ((with_reducible refine Below.drew ?_)) | ((with_reducible refine below_drewN ?_ _)) | ((with_reducible refine Below.alloc ?_ ?_ _); rotate_left; focus (first | omega | (simp; done) | (simp; omega))) | ((with_reducible refine Below.setCell ?_ ?_ _); rotate_left; focus (first | omega | (simp; done) | (simp; omega))) | ((with_reducible refine Below.trans ?_ (Below.mono (by with_reducible assumption) ?_)); rotate_left; focus (first | omega | (simp; done) | (simp; omega)))))), by assumption, by assumption⟩, rfl⟩)
              case measure => simp [intOf]; omega
            | false =>
              rw [hinn] at hst hat q1
              cases hhas : has zs e.cls with
              | false =>
                rw [hhas] at hst hat
                simp only [Bool.and_false, Bool.false_and, Bool.false_eq_true, and_false, if_false] at hst hat
                have HST := Lib.hid hst
                have HAT := Lib.hid hat
                clear hst hat he hr
                go_wp2_with (go_at_call 120; (with_reducible refine (KC.out _ HZq.out).mono ?_); rintro ee wz ⟨rfl, rfl⟩)
                go_roundw
                case rel =>
                  first
                    | exact ⟨i + 1, by go_num, by omega, by omega, by rw [HST.out], rfl, rfl, nof_succ HOF.out HAT.out, by assumption, by ((repeat' apply And.intro) <;> first | (simp [go_sem, *]; done) | omega | (repeat' (first | with_reducible exact Below.refl _ _ | with_reducible assumption | ((with_reducible refine Below.drew ?_)) | ((with_reducible refine below_drewN ?_ _)) | ((with_reducible refine Below.alloc ?_ ?_ _); rotate_left; focus (first | omega | (simp; done) | (simp; omega))) | ((with_reducible refine Below.setCell ?_ ?_ _); rotate_left; focus (first | omega | (simp; done) | (simp; omega))) | ((with_reducible refine Below.trans ?_ (Below.mono (by with_reducible assumption) ?_)); rotate_left; focus (first | omega | (simp; done) | (simp; omega)))))), by assumption, by assumption⟩
                    | ((repeat apply Exists.intro); exact ⟨⟨i + 1, by go_num, by omega, by omega, by rw [HST.out], rfl, rfl, nof_succ HOF.out HAT.out, by assumption, by ((repeat' apply And.intro) <;> first | (simp [go_sem, *]; done) | omega | (repeat' (first | with_reducible exact Below.refl _ _ | with_reducible assumption | ((with_reducible refine Below.drew ?_)) | ((with_reducible refine below_drewN ?_ _)) | ((with_reducible refine Below.alloc ?_ ?_ _); rotate_left; focus (first | omega | (simp; done) | (simp; omega))) | ((with_reducible refine Below.setCell ?_ ?_ _); rotate_left; focus (first | omega | (simp; done) | (simp; omega))) | ((with_reducible refine Below.trans ?_ (Below.mono (by with_reducible assumption) ?_)); rotate_left; focus (first | omega | (simp; done) | (simp; omega)))))), by assumption, by assumption⟩, rfl⟩)
                case measure => simp [intOf]; omega
              | true =>
                rw [hhas] at hst hat
                simp only [Bool.not_false, Bool.and_true, Bool.true_and, and_true, and_self, if_true] at hst hat
                rw [hst] at hat
                have hmx := mx34_c e.ln
                have hM : 0 ≤ (if e.ln < 0 then 0 else e.ln) ∧ (if e.ln < 0 then 0 else e.ln) ≤ 9223372036854775807 := by have := hwf.ln1; split <;> omega
                generalize (if e.ln < 0 then 0 else e.ln) = M at *
                obtain ⟨B1, hB1⟩ : ∃ B1, (B0 + M) % 18446744073709551616 = B1 := ⟨_, rfl⟩
                rw [hB1] at hst hat
                have w1 : IntKind.u64.wrap M = M := by rw [wrap_u64]; omega
                have w2 : IntKind.u64.wrap (B0 + M) = B1 := by rw [wrap_u64, hB1]
                obtain ⟨h1, h2, h3, hl⟩ := HC.out
                have ht1 := hwf.tm0
                have ht2 := hwf.tm1
                have kt := fun z => KT.out fr e.tm hfr ht1 ht2 z
                have hTK : In (tks fr e.tm) := by unfold tks In; split <;> omega
                generalize tks fr e.tm = TK at *
                have km := fun z => most_c c1 cd c2 TK lm h1 h2 h3 hTK hl z
                generalize mostv (srv c1 cd c2 TK) lm = MV at *
                have KTK := Lib.hid kt
                have KM := Lib.hid km
                have HST := Lib.hid hst
                by_cases hfo : MV < B1
                · have HAT := Lib.hid (show hb c1 cd c2 lm zs es ⟨fr, tt, fi, la, false⟩ i = true by rw [hat]; simpa using hfo)
                  have qm : decide (MV < B1) = true := by simpa using hfo
                  have HAN := Lib.hid (HFO.out i HOF.out HAT.out)
                  clear hst hat he hr kt km hTK hM hB1 hfo h1 h2 h3 ht1 ht2 hpi hwf
                  go_wp2_with (go_at_call 120; (with_reducible refine (KC.out _ HZq.out).mono ?_); rintro ee wz ⟨rfl, rfl⟩)
                  obtain ⟨Cl, hCl⟩ : ∃ Cl : List Value → World → Prop, Cl = ((fun ps wz => ((wz.cell? ⟨w.heap.size, 0, none⟩ = some (.int .u64 c1) ∧ wz.cell? ⟨w.heap.size, 1, none⟩ = some (.int .u64 cd) ∧ wz.cell? ⟨w.heap.size, 2, none⟩ = some (.int .u64 c2) ∧ w.heap.size < wz.heap.size)) ∧ wz.cell? ⟨wo.heap.size, 0, none⟩ = some (.int .u64 fr) ∧ wo.heap.size < wz.heap.size ∧ wz.cell? ⟨b, o + i * 12 + 3, none⟩ = some (.int .u64 e.tm) ∧ b < wz.heap.size ∧ wr.heap.size ≤ wz.heap.size ∧ Below wr.heap.size wr wz)) := ⟨_, rfl⟩; have HCl := Lib.hid hCl; clear hCl; refine wp_region_eff [] Cl (by kernel_rfl) (by kernel_rfl) (by rw [HCl.out]; (try simp only [List.nil_append, List.cons_append]); (try dsimp only); ((repeat' apply And.intro) <;> first | (simp [go_sem, *]; done) | omega | (repeat' (first | with_reducible exact Below.refl _ _ | with_reducible assumption | ((with_reducible refine Below.drew ?_)) | ((with_reducible refine below_drewN ?_ _)) | ((with_reducible refine Below.alloc ?_ ?_ _); rotate_left; focus (first | omega | (simp; done) | (simp; omega))) | ((with_reducible refine Below.setCell ?_ ?_ _); rotate_left; focus (first | omega | (simp; done) | (simp; omega))) | ((with_reducible refine Below.trans ?_ (Below.mono (by with_reducible assumption) ?_)); rotate_left; focus (first | omega | (simp; done) | (simp; omega))))))) ?_; (repeat (first | (refine wE_skip (by rfl) ?_; simp only [Act.put, Nat.reduceAdd, List.setIfInBounds_toArray, List.set_cons_zero, List.set_cons_succ, List.nil_append, List.cons_append]) | (refine wE_open (by rfl) (by rfl) ?_; apply Exists.intro; refine ⟨fun vs wq hw => ?_, ?_⟩; (focus (rw [HCl.out] at hw; (try simp only [List.nil_append, List.cons_append] at hw); (try dsimp only at hw); go_split_ands; go_simp <;> first | with_reducible exact (rfl : Value.bool false = _) | with_reducible exact (rfl : Value.bool true = _) | ((try go_bits) <;> exact rfl))); simp only [Act.put, Nat.reduceAdd, List.setIfInBounds_toArray, List.set_cons_zero, List.set_cons_succ, List.nil_append, List.cons_append]) | (refine wE_seal (by rfl) (by rfl) (by kernel_rfl) ?_; apply Exists.intro; refine ⟨fun wq hw => ?_, ?_⟩; (focus (rw [HCl.out] at hw; (try simp only [List.nil_append, List.cons_append] at hw); (try dsimp only at hw); go_split_ands; go_simp <;> (try go_bits) <;> exact rfl)); simp only [Act.put, Nat.reduceAdd, List.setIfInBounds_toArray, List.set_cons_zero, List.set_cons_succ, List.nil_append, List.cons_append]) | (refine wE_seal (by rfl) (by rfl) (by kernel_rfl) ?_; apply Exists.intro; refine ⟨fun wq hw => ?_, ?_⟩; (focus (rw [HCl.out] at hw; (try simp only [List.nil_append, List.cons_append] at hw); (try dsimp only at hw); go_split_ands; go_simp; (first | (go_at_call 121; ((with_reducible refine (KTK.out _).mono ?_); rintro e w' ⟨rfl, hbel⟩; obtain ⟨hcc, hff⟩ := bcell hbel; have hsz := hbel.size; (try simp at hsz); refine ⟨rfl, ?_⟩; rw [HCl.out]; (try simp only [List.nil_append, List.cons_append]); (try dsimp only); ((repeat' apply And.intro) <;> first | (simp [go_sem, *]; done) | omega | (repeat' (first | with_reducible exact Below.refl _ _ | with_reducible assumption | ((with_reducible refine Below.drew ?_)) | ((with_reducible refine below_drewN ?_ _)) | ((with_reducible refine Below.alloc ?_ ?_ _); rotate_left; focus (first | omega | (simp; done) | (simp; omega))) | ((with_reducible refine Below.setCell ?_ ?_ _); rotate_left; focus (first | omega | (simp; done) | (simp; omega))) | ((with_reducible refine Below.trans ?_ (Below.mono (by with_reducible assumption) ?_)); rotate_left; focus (first | omega | (simp; done) | (simp; omega)))))))) | (go_at_call 45; ((with_reducible refine (KM.out _).mono ?_); rintro e w' ⟨rfl, hbel⟩; obtain ⟨hcc, hff⟩ := bcell hbel; have hsz := hbel.size; (try simp at hsz); refine ⟨rfl, ?_⟩; rw [HCl.out]; (try simp only [List.nil_append, List.cons_append]); (try dsimp only); ((repeat' apply And.intro) <;> first | (simp [go_sem, *]; done) | omega | (repeat' (first | with_reducible exact Below.refl _ _ | with_reducible assumption | ((with_reducible refine Below.drew ?_)) | ((with_reducible refine below_drewN ?_ _)) | ((with_reducible refine Below.alloc ?_ ?_ _); rotate_left; focus (first | omega | (simp; done) | (simp; omega))) | ((with_reducible refine Below.setCell ?_ ?_ _); rotate_left; focus (first | omega | (simp; done) | (simp; omega))) | ((with_reducible refine Below.trans ?_ (Below.mono (by with_reducible assumption) ?_)); rotate_left; focus (first | omega | (simp; done) | (simp; omega))))))))))); simp only [Act.put, Nat.reduceAdd, List.setIfInBounds_toArray, List.set_cons_zero, List.set_cons_succ, List.nil_append, List.cons_append]) | (refine wE_eff (by rfl) (by rfl) (fun wq hw => ?_) (fun u hu => ?_); (focus (rw [HCl.out] at hw; (try simp only [List.nil_append, List.cons_append] at hw); (try dsimp only at hw); go_split_ands; go_simp; rw [HCl.out]; (try simp only [List.nil_append, List.cons_append]); (try dsimp only); skip; ((repeat' apply And.intro) <;> first | (simp [go_sem, *]; done) | omega | (repeat' (first | with_reducible exact Below.refl _ _ | with_reducible assumption | ((with_reducible refine Below.drew ?_)) | ((with_reducible refine below_drewN ?_ _)) | ((with_reducible refine Below.alloc ?_ ?_ _); rotate_left; focus (first | omega | (simp; done) | (simp; omega))) | ((with_reducible refine Below.setCell ?_ ?_ _); rotate_left; focus (first | omega | (simp; done) | (simp; omega))) | ((with_reducible refine Below.trans ?_ (Below.mono (by with_reducible assumption) ?_)); rotate_left; focus (first | omega | (simp; done) | (simp; omega)))))))); clear hu; simp only [Act.put, Nat.reduceAdd, List.setIfInBounds_toArray, List.set_cons_zero, List.set_cons_succ, List.nil_append, List.cons_append]))); refine wE_nil ?_; intro w' hw; rw [HCl.out] at hw; (try simp only [List.nil_append, List.cons_append] at hw); (try dsimp only at hw); clear HCl; go_split_ands
                  go_wp2_with fail
                  (try rw [Exit.noGoto_ret])
                  go_ret2
                  exact brk_mk rfl HAN.out (by first | (with_reducible exact hBwq.trans (Below.mono (by assumption) (by omega))) | ((repeat' (first | with_reducible exact Below.refl _ _ | with_reducible assumption | ((with_reducible refine Below.drew ?_)) | ((with_reducible refine below_drewN ?_ _)) | ((with_reducible refine Below.alloc ?_ ?_ _); rotate_left; focus (first | omega | (simp; done) | (simp; omega))) | ((with_reducible refine Below.setCell ?_ ?_ _); rotate_left; focus (first | omega | (simp; done) | (simp; omega))) | ((with_reducible refine Below.trans ?_ (Below.mono (by with_reducible assumption) ?_)); rotate_left; focus (first | omega | (simp; done) | (simp; omega))))); done))
                · have HAT := Lib.hid (show hb c1 cd c2 lm zs es ⟨fr, tt, fi, la, false⟩ i = false by rw [hat]; simpa using hfo)
                  have qm : decide (MV < B1) = false := by simpa using hfo
                  clear hst hat he hr kt km hTK hM hB1 hfo h1 h2 h3 ht1 ht2 hpi hwf
                  go_wp2_with (go_at_call 120; (with_reducible refine (KC.out _ HZq.out).mono ?_); rintro ee wz ⟨rfl, rfl⟩)
                  obtain ⟨Cl, hCl⟩ : ∃ Cl : List Value → World → Prop, Cl = ((fun ps wz => ((wz.cell? ⟨w.heap.size, 0, none⟩ = some (.int .u64 c1) ∧ wz.cell? ⟨w.heap.size, 1, none⟩ = some (.int .u64 cd) ∧ wz.cell? ⟨w.heap.size, 2, none⟩ = some (.int .u64 c2) ∧ w.heap.size < wz.heap.size)) ∧ wz.cell? ⟨wo.heap.size, 0, none⟩ = some (.int .u64 fr) ∧ wo.heap.size < wz.heap.size ∧ wz.cell? ⟨b, o + i * 12 + 3, none⟩ = some (.int .u64 e.tm) ∧ b < wz.heap.size ∧ wr.heap.size ≤ wz.heap.size ∧ Below wr.heap.size wr wz)) := ⟨_, rfl⟩; have HCl := Lib.hid hCl; clear hCl; refine wp_region_eff [] Cl (by kernel_rfl) (by kernel_rfl) (by rw [HCl.out]; (try simp only [List.nil_append, List.cons_append]); (try dsimp only); ((repeat' apply And.intro) <;> first | (simp [go_sem, *]; done) | omega | (repeat' (first | with_reducible exact Below.refl _ _ | with_reducible assumption | ((with_reducible refine Below.drew ?_)) | ((with_reducible refine below_drewN ?_ _)) | ((with_reducible refine Below.alloc ?_ ?_ _); rotate_left; focus (first | omega | (simp; done) | (simp; omega))) | ((with_reducible refine Below.setCell ?_ ?_ _); rotate_left; focus (first | omega | (simp; done) | (simp; omega))) | ((with_reducible refine Below.trans ?_ (Below.mono (by with_reducible assumption) ?_)); rotate_left; focus (first | omega | (simp; done) | (simp; omega))))))) ?_; (repeat (first | (refine wE_skip (by rfl) ?_; simp only [Act.put, Nat.reduceAdd, List.setIfInBounds_toArray, List.set_cons_zero, List.set_cons_succ, List.nil_append, List.cons_append]) | (refine wE_open (by rfl) (by rfl) ?_; apply Exists.intro; refine ⟨fun vs wq hw => ?_, ?_⟩; (focus (rw [HCl.out] at hw; (try simp only [List.nil_append, List.cons_append] at hw); (try dsimp only at hw); go_split_ands; go_simp <;> first | with_reducible exact (rfl : Value.bool false = _) | with_reducible exact (rfl : Value.bool true = _) | ((try go_bits) <;> exact rfl))); simp only [Act.put, Nat.reduceAdd, List.setIfInBounds_toArray, List.set_cons_zero, List.set_cons_succ, List.nil_append, List.cons_append]) | (refine wE_seal (by rfl) (by rfl) (by kernel_rfl) ?_; apply Exists.intro; refine ⟨fun wq hw => ?_, ?_⟩; (focus (rw [HCl.out] at hw; (try simp only [List.nil_append, List.cons_append] at hw); (try dsimp only at hw); go_split_ands; go_simp <;> (try go_bits) <;> exact rfl)); simp only [Act.put, Nat.reduceAdd, List.setIfInBounds_toArray, List.set_cons_zero, List.set_cons_succ, List.nil_append, List.cons_append]) | (refine wE_seal (by rfl) (by rfl) (by kernel_rfl) ?_; apply Exists.intro; refine ⟨fun wq hw => ?_, ?_⟩; (focus (rw [HCl.out] at hw; (try simp only [List.nil_append, List.cons_append] at hw); (try dsimp only at hw); go_split_ands; go_simp; (first | (go_at_call 121; ((with_reducible refine (KTK.out _).mono ?_); rintro e w' ⟨rfl, hbel⟩; obtain ⟨hcc, hff⟩ := bcell hbel; have hsz := hbel.size; (try simp at hsz); refine ⟨rfl, ?_⟩; rw [HCl.out]; (try simp only [List.nil_append, List.cons_append]); (try dsimp only); ((repeat' apply And.intro) <;> first | (simp [go_sem, *]; done) | omega | (repeat' (first | with_reducible exact Below.refl _ _ | with_reducible assumption | ((with_reducible refine Below.drew ?_)) | ((with_reducible refine below_drewN ?_ _)) | ((with_reducible refine Below.alloc ?_ ?_ _); rotate_left; focus (first | omega | (simp; done) | (simp; omega))) | ((with_reducible refine Below.setCell ?_ ?_ _); rotate_left; focus (first | omega | (simp; done) | (simp; omega))) | ((with_reducible refine Below.trans ?_ (Below.mono (by with_reducible assumption) ?_)); rotate_left; focus (first | omega | (simp; done) | (simp; omega)))))))) | (go_at_call 45; ((with_reducible refine (KM.out _).mono ?_); rintro e w' ⟨rfl, hbel⟩; obtain ⟨hcc, hff⟩ := bcell hbel; have hsz := hbel.size; (try simp at hsz); refine ⟨rfl, ?_⟩; rw [HCl.out]; (try simp only [List.nil_append, List.cons_append]); (try dsimp only); ((repeat' apply And.intro) <;> first | (simp [go_sem, *]; done) | omega | (repeat' (first | with_reducible exact Below.refl _ _ | with_reducible assumption | ((with_reducible refine Below.drew ?_)) | ((with_reducible refine below_drewN ?_ _)) | ((with_reducible refine Below.alloc ?_ ?_ _); rotate_left; focus (first | omega | (simp; done) | (simp; omega))) | ((with_reducible refine Below.setCell ?_ ?_ _); rotate_left; focus (first | omega | (simp; done) | (simp; omega))) | ((with_reducible refine Below.trans ?_ (Below.mono (by with_reducible assumption) ?_)); rotate_left; focus (first | omega | (simp; done) | (simp; omega))))))))))); simp only [Act.put, Nat.reduceAdd, List.setIfInBounds_toArray, List.set_cons_zero, List.set_cons_succ, List.nil_append, List.cons_append]) | (refine wE_eff (by rfl) (by rfl) (fun wq hw => ?_) (fun u hu => ?_); (focus (rw [HCl.out] at hw; (try simp only [List.nil_append, List.cons_append] at hw); (try dsimp only at hw); go_split_ands; go_simp; rw [HCl.out]; (try simp only [List.nil_append, List.cons_append]); (try dsimp only); skip; ((repeat' apply And.intro) <;> first | (simp [go_sem, *]; done) | omega | (repeat' (first | with_reducible exact Below.refl _ _ | with_reducible assumption | ((with_reducible refine Below.drew ?_)) | ((with_reducible refine below_drewN ?_ _)) | ((with_reducible refine Below.alloc ?_ ?_ _); rotate_left; focus (first | omega | (simp; done) | (simp; omega))) | ((with_reducible refine Below.setCell ?_ ?_ _); rotate_left; focus (first | omega | (simp; done) | (simp; omega))) | ((with_reducible refine Below.trans ?_ (Below.mono (by with_reducible assumption) ?_)); rotate_left; focus (first | omega | (simp; done) | (simp; omega)))))))); clear hu; simp only [Act.put, Nat.reduceAdd, List.setIfInBounds_toArray, List.set_cons_zero, List.set_cons_succ, List.nil_append, List.cons_append]))); refine wE_nil ?_; intro w' hw; rw [HCl.out] at hw; (try simp only [List.nil_append, List.cons_append] at hw); (try dsimp only at hw); clear HCl; go_split_ands
                  go_wp2_with fail
                  go_roundw
                  case rel =>
                    first
                      | exact ⟨i + 1, by go_num, by omega, by omega, by rw [HST.out], rfl, rfl, nof_succ HOF.out HAT.out, by assumption, by ((repeat' apply And.intro) <;> first | (simp [go_sem, *]; done) | omega | (repeat' (first | with_reducible exact Below.refl _ _ | with_reducible assumption | ((with_reducible refine Below.drew ?_)) | ((with_reducible refine below_drewN ?_ _)) | ((with_reducible refine Below.alloc ?_ ?_ _); rotate_left; focus (first | omega | (simp; done) | (simp; omega))) | ((with_reducible refine Below.setCell ?_ ?_ _); rotate_left; focus (first | omega | (simp; done) | (simp; omega))) | ((with_reducible refine Below.trans ?_ (Below.mono (by with_reducible assumption) ?_)); rotate_left; focus (first | omega | (simp; done) | (simp; omega)))))), by assumption, hBq.trans (Below.mono (by assumption) (by omega))⟩
                      | ((repeat apply Exists.intro); exact ⟨⟨i + 1, by go_num, by omega, by omega, by rw [HST.out], rfl, rfl, nof_succ HOF.out HAT.out, by assumption, by ((repeat' apply And.intro) <;> first | (simp [go_sem, *]; done) | omega | (repeat' (first | with_reducible exact Below.refl _ _ | with_reducible assumption | ((with_reducible refine Below.drew ?_)) | ((with_reducible refine below_drewN ?_ _)) | ((with_reducible refine Below.alloc ?_ ?_ _); rotate_left; focus (first | omega | (simp; done) | (simp; omega))) | ((with_reducible refine Below.setCell ?_ ?_ _); rotate_left; focus (first | omega | (simp; done) | (simp; omega))) | ((with_reducible refine Below.trans ?_ (Below.mono (by with_reducible assumption) ?_)); rotate_left; focus (first | omega | (simp; done) | (simp; omega)))))), by assumption, hBq.trans (Below.mono (by assumption) (by omega))⟩, rfl⟩)
                  case measure => simp [intOf]; omega
          · have ql : decide ((i : Int) ≤ LL) = false := by simpa using hle
            rw [hLL] at ql
            have HO := Lib.hid (HGO.out i HOF.out (by have := HLe.out i (by omega); first | exact this | simpa using this))
            go_wp2_with fail
            go_roundw
            case rel =>
              first
                | exact ⟨y + 1, by have := HLT.out; omega, by go_num, rfl, rfl, HO.out, hB.trans (hBq.mono HSY.out)⟩
                | ((repeat apply Exists.intro); exact ⟨⟨y + 1, by have := HLT.out; omega, by go_num, rfl, rfl, HO.out, hB.trans (hBq.mono HSY.out)⟩, rfl⟩)
            case measure =>
              have := HLT.out
              simp [intOf]
              omega
      · simp only [Bool.false_eq_true, if_false, if_true] at hLL
        go_wp2_with (first | (refine wpList_load_mid rfl 222 _ rfl g (og + y * 5) rfl _ _ hrs Try.underlying222 rfl SI.out ?_) | (refine wpList_store_new rfl 222 _ _ rfl _ #[.int .u64 fr, .int .u64 tt, .int .i64 fi, .int .i64 la, .bool op] rfl rfl SI.out rfl (by kernel_rfl) ?_))
        go_loopw [10, 11, 15, 16] (fun pl br by2 ii wq => ∃ i : Nat, ii = .int .i64 i ∧ fi < i ∧ (i : Int) ≤ LL + 1 ∧ by2 = .int .u64 (pks zs es (fi + 1) es.length i) ∧ pl = .int .i64 0 ∧ br = .bool false ∧ Nof c1 cd c2 lm zs es ⟨fr, tt, fi, la, true⟩ i ∧ wq.cell? ⟨wo.heap.size, 0, none⟩ = some (.int .u64 fr) ∧ ((wq.cell? ⟨w.heap.size, 0, none⟩ = some (.int .u64 c1) ∧ wq.cell? ⟨w.heap.size, 1, none⟩ = some (.int .u64 cd) ∧ wq.cell? ⟨w.heap.size, 2, none⟩ = some (.int .u64 c2) ∧ w.heap.size < wq.heap.size)) ∧ wo.heap.size < wq.heap.size ∧ Below wo.heap.size wo wq) (fun _ _ _ ii _ => (LL + 1 - intOf ii).toNat)
        case atStart => exact ⟨fi + 1, by go_num, by omega, by omega, by rw [HP0], rfl, rfl, nof_start, by simp [go_sem], by ((repeat' apply And.intro) <;> first | (simp [go_sem, *]; done) | omega | (repeat' (first | with_reducible exact Below.refl _ _ | with_reducible assumption | ((with_reducible refine Below.drew ?_)) | ((with_reducible refine below_drewN ?_ _)) | ((with_reducible refine Below.alloc ?_ ?_ _); rotate_left; focus (first | omega | (simp; done) | (simp; omega))) | ((with_reducible refine Below.setCell ?_ ?_ _); rotate_left; focus (first | omega | (simp; done) | (simp; omega))) | ((with_reducible refine Below.trans ?_ (Below.mono (by with_reducible assumption) ?_)); rotate_left; focus (first | omega | (simp; done) | (simp; omega)))))), by simp, by ((repeat' (first | with_reducible exact Below.refl _ _ | with_reducible assumption | ((with_reducible refine Below.drew ?_)) | ((with_reducible refine below_drewN ?_ _)) | ((with_reducible refine Below.alloc ?_ ?_ _); rotate_left; focus (first | omega | (simp; done) | (simp; omega))) | ((with_reducible refine Below.setCell ?_ ?_ _); rotate_left; focus (first | omega | (simp; done) | (simp; omega))) | ((with_reducible refine Below.trans ?_ (Below.mono (by with_reducible assumption) ?_)); rotate_left; focus (first | omega | (simp; done) | (simp; omega))))); done)⟩
        case round =>
          obtain ⟨i, rfl, hfi, hiL, rfl, rfl, rfl, hof, hq0, hqc, hql, hBq⟩ := hrel
          have HOF := Lib.hid hof
          clear hof
          have hsq := hBq.size
          have hBwq : Below w.heap.size w wr := hBW.trans (hBq.mono (by have := hBW.size; omega))
          go_split_ands
          by_cases hle : (i : Int) ≤ LL
          · have hin : i < es.length := by omega
            obtain ⟨b, o, hae, hbl, hr⟩ := (HE.out.below hBwq) i hin
            subst hae
            have hwf := HW.out i hin
            have hst := pks_step (zs := zs) hin hfi
            have hat := @hb_at c1 cd c2 lm zs es ⟨fr, tt, fi, la, true⟩ i hin hfi (by first | exact HLo.out i hle | (simp; done) | (have := HLo.out i hle; simpa using this))
            dsimp only at hat
            obtain ⟨e, he⟩ : ∃ e, es[i] = e := ⟨_, rfl⟩
            rw [he] at hr hwf hst hat
            have q1 : wr.cell? ⟨b, o + i * 12 + 1, none⟩ = some (.bool e.inn) := hr 1 _ rfl
            have q3 : wr.cell? ⟨b, o + i * 12 + 3, none⟩ = some (.int .u64 e.tm) := hr 3 _ rfl
            have q5 : wr.cell? ⟨b, o + i * 12 + 5, none⟩ = some (.int .i64 e.cls) := hr 5 _ rfl
            have q7 : wr.cell? ⟨b, o + i * 12 + 7, none⟩ = some (.int .i64 e.ln) := hr 7 _ rfl
            have ql : decide ((i : Int) ≤ LL) = true := by simpa using hle
            have wi : IntKind.i64.wrap ((i : Int) + 1) = (i : Int) + 1 := by rw [IntKind.wrap_i64]; omega
            rw [hLL] at ql
            have HZq := Lib.hid (HZ.out.below hBwq)
            have KC := Lib.hid (fun z h => KN.out e.cls z h)
            have hpi := pks_in zs es (fi + 1) es.length i
            generalize pks zs es (fi + 1) es.length i = B0 at *
            cases hinn : e.inn with
            | true =>
              rw [hinn] at hst hat q1
              simp only [Bool.not_true, Bool.false_and, Bool.true_eq_false, false_and, if_false] at hst hat
              have HST := Lib.hid hst
              have HAT := Lib.hid hat
              clear hst hat he hr
              go_wp2_with fail
              go_roundw
              case rel =>
                first
                  | exact ⟨i + 1, by go_num, by omega, by omega, by rw [HST.out], rfl, rfl, nof_succ HOF.out HAT.out, by assumption, by ((repeat' apply And.intro) <;> first | (simp [go_sem, *]; done) | omega | (repeat' (first | with_reducible exact Below.refl _ _ | with_reducible assumption | ((with_reducible refine Below.drew ?_)) | ((with_reducible refine below_drewN ?_ _)) | ((with_reducible refine Below.alloc ?_ ?_ _); rotate_left; focus (first | omega | (simp; done) | (simp; omega))) | ((with_reducible refine Below.setCell ?_ ?_ _); rotate_left; focus (first | omega | (simp; done) | (simp; omega))) | ((with_reducible refine Below.trans ?_ (Below.mono (by with_reducible assumption) ?_)); rotate_left; focus (first | omega | (simp; done) | (simp; omega)))))), by assumption, by assumption⟩
                  | ((repeat apply Exists.intro); exact ⟨⟨i + 1, by go_num, by omega, by omega, by rw [HST.out], rfl, rfl, nof_succ HOF.out HAT.out, by assumption, by ((repeat' apply And.intro) <;> first | (simp [go_sem, *]; done) | omega | (repeat' (first | with_reducible exact Below.refl _ _ | with_reducible assumption | ((with_reducible refine Below.drew ?_)) | ((with_reducible refine below_drewN ?_ _)) | ((with_reducible refine Below.alloc ?_ ?_ _); rotate_left; focus (first | omega | (simp; done) | (simp; omega))) | ((with_reducible refine Below.setCell ?_ ?_ _); rotate_left; focus (first | omega | (simp; done) | (simp; omega))) | ((with_reducible refine Below.trans ?_ (Below.mono (by with_reducible assumption) ?_)); rotate_left; focus (first | omega | (simp; done) | (simp; omega)))))), by assumption, by assumption⟩, rfl⟩)
              case measure => simp [intOf]; omega
            | false =>
              rw [hinn] at hst hat q1
              cases hhas : has zs e.cls with
              | false =>
                rw [hhas] at hst hat
                simp only [Bool.and_false, Bool.false_and, Bool.false_eq_true, and_false, if_false] at hst hat
                have HST := Lib.hid hst
                have HAT := Lib.hid hat
                clear hst hat he hr
                go_wp2_with (go_at_call 120; (with_reducible refine (KC.out _ HZq.out).mono ?_); rintro ee wz ⟨rfl, rfl⟩)
                go_roundw
                case rel =>
                  first
                    | exact ⟨i + 1, by go_num, by omega, by omega, by rw [HST.out], rfl, rfl, nof_succ HOF.out HAT.out, by assumption, by ((repeat' apply And.intro) <;> first | (simp [go_sem, *]; done) | omega | (repeat' (first | with_reducible exact Below.refl _ _ | with_reducible assumption | ((with_reducible refine Below.drew ?_)) | ((with_reducible refine below_drewN ?_ _)) | ((with_reducible refine Below.alloc ?_ ?_ _); rotate_left; focus (first | omega | (simp; done) | (simp; omega))) | ((with_reducible refine Below.setCell ?_ ?_ _); rotate_left; focus (first | omega | (simp; done) | (simp; omega))) | ((with_reducible refine Below.trans ?_ (Below.mono (by with_reducible assumption) ?_)); rotate_left; focus (first | omega | (simp; done) | (simp; omega)))))), by assumption, by assumption⟩
                    | ((repeat apply Exists.intro); exact ⟨⟨i + 1, by go_num, by omega, by omega, by rw [HST.out], rfl, rfl, nof_succ HOF.out HAT.out, by assumption, by ((repeat' apply And.intro) <;> first | (simp [go_sem, *]; done) | omega | (repeat' (first | with_reducible exact Below.refl _ _ | with_reducible assumption | ((with_reducible refine Below.drew ?_)) | ((with_reducible refine below_drewN ?_ _)) | ((with_reducible refine Below.alloc ?_ ?_ _); rotate_left; focus (first | omega | (simp; done) | (simp; omega))) | ((with_reducible refine Below.setCell ?_ ?_ _); rotate_left; focus (first | omega | (simp; done) | (simp; omega))) | ((with_reducible refine Below.trans ?_ (Below.mono (by with_reducible assumption) ?_)); rotate_left; focus (first | omega | (simp; done) | (simp; omega)))))), by assumption, by assumption⟩, rfl⟩)
                case measure => simp [intOf]; omega
              | true =>
                rw [hhas] at hst hat
                simp only [Bool.not_false, Bool.and_true, Bool.true_and, and_true, and_self, if_true] at hst hat
                rw [hst] at hat
                have hmx := mx34_c e.ln
                have hM : 0 ≤ (if e.ln < 0 then 0 else e.ln) ∧ (if e.ln < 0 then 0 else e.ln) ≤ 9223372036854775807 := by have := hwf.ln1; split <;> omega
                generalize (if e.ln < 0 then 0 else e.ln) = M at *
                obtain ⟨B1, hB1⟩ : ∃ B1, (B0 + M) % 18446744073709551616 = B1 := ⟨_, rfl⟩
                rw [hB1] at hst hat
                have w1 : IntKind.u64.wrap M = M := by rw [wrap_u64]; omega
                have w2 : IntKind.u64.wrap (B0 + M) = B1 := by rw [wrap_u64, hB1]
                obtain ⟨h1, h2, h3, hl⟩ := HC.out
                have ht1 := hwf.tm0
                have ht2 := hwf.tm1
                have kt := fun z => KT.out fr e.tm hfr ht1 ht2 z
                have hTK : In (tks fr e.tm) := by unfold tks In; split <;> omega
                generalize tks fr e.tm = TK at *
                have km := fun z => most_c c1 cd c2 TK lm h1 h2 h3 hTK hl z
                generalize mostv (srv c1 cd c2 TK) lm = MV at *
                have KTK := Lib.hid kt
                have KM := Lib.hid km
                have HST := Lib.hid hst
                by_cases hfo : MV < B1
                · have HAT := Lib.hid (show hb c1 cd c2 lm zs es ⟨fr, tt, fi, la, true⟩ i = true by rw [hat]; simpa using hfo)
                  have qm : decide (MV < B1) = true := by simpa using hfo
                  have HAN := Lib.hid (HFO.out i HOF.out HAT.out)
                  clear hst hat he hr kt km hTK hM hB1 hfo h1 h2 h3 ht1 ht2 hpi hwf
                  go_wp2_with (go_at_call 120; (with_reducible refine (KC.out _ HZq.out).mono ?_); rintro ee wz ⟨rfl, rfl⟩)
                  obtain ⟨Cl, hCl⟩ : ∃ Cl : List Value → World → Prop, Cl = ((fun ps wz => ((wz.cell? ⟨w.heap.size, 0, none⟩ = some (.int .u64 c1) ∧ wz.cell? ⟨w.heap.size, 1, none⟩ = some (.int .u64 cd) ∧ wz.cell? ⟨w.heap.size, 2, none⟩ = some (.int .u64 c2) ∧ w.heap.size < wz.heap.size)) ∧ wz.cell? ⟨wo.heap.size, 0, none⟩ = some (.int .u64 fr) ∧ wo.heap.size < wz.heap.size ∧ wz.cell? ⟨b, o + i * 12 + 3, none⟩ = some (.int .u64 e.tm) ∧ b < wz.heap.size ∧ wr.heap.size ≤ wz.heap.size ∧ Below wr.heap.size wr wz)) := ⟨_, rfl⟩; have HCl := Lib.hid hCl; clear hCl; refine wp_region_eff [] Cl (by kernel_rfl) (by kernel_rfl) (by rw [HCl.out]; (try simp only [List.nil_append, List.cons_append]); (try dsimp only); ((repeat' apply And.intro) <;> first | (simp [go_sem, *]; done) | omega | (repeat' (first | with_reducible exact Below.refl _ _ | with_reducible assumption | ((with_reducible refine Below.drew ?_)) | ((with_reducible refine below_drewN ?_ _)) | ((with_reducible refine Below.alloc ?_ ?_ _); rotate_left; focus (first | omega | (simp; done) | (simp; omega))) | ((with_reducible refine Below.setCell ?_ ?_ _); rotate_left; focus (first | omega | (simp; done) | (simp; omega))) | ((with_reducible refine Below.trans ?_ (Below.mono (by with_reducible assumption) ?_)); rotate_left; focus (first | omega | (simp; done) | (simp; omega))))))) ?_; (repeat (first | (refine wE_skip (by rfl) ?_; simp only [Act.put, Nat.reduceAdd, List.setIfInBounds_toArray, List.set_cons_zero, List.set_cons_succ, List.nil_append, List.cons_append]) | (refine wE_open (by rfl) (by rfl) ?_; apply Exists.intro; refine ⟨fun vs wq hw => ?_, ?_⟩; (focus (rw [HCl.out] at hw; (try simp only [List.nil_append, List.cons_append] at hw); (try dsimp only at hw); go_split_ands; go_simp <;> first | with_reducible exact (rfl : Value.bool false = _) | with_reducible exact (rfl : Value.bool true = _) | ((try go_bits) <;> exact rfl))); simp only [Act.put, Nat.reduceAdd, List.setIfInBounds_toArray, List.set_cons_zero, List.set_cons_succ, List.nil_append, List.cons_append]) | (refine wE_seal (by rfl) (by rfl) (by kernel_rfl) ?_; apply Exists.intro; refine ⟨fun wq hw => ?_, ?_⟩; (focus (rw [HCl.out] at hw; (try simp only [List.nil_append, List.cons_append] at hw); (try dsimp only at hw); go_split_ands; go_simp <;> (try go_bits) <;> exact rfl)); simp only [Act.put, Nat.reduceAdd, List.setIfInBounds_toArray, List.set_cons_zero, List.set_cons_succ, List.nil_append, List.cons_append]) | (refine wE_seal (by rfl) (by rfl) (by kernel_rfl) ?_; apply Exists.intro; refine ⟨fun wq hw => ?_, ?_⟩; (focus (rw [HCl.out] at hw; (try simp only [List.nil_append, List.cons_append] at hw); (try dsimp only at hw); go_split_ands; go_simp; (first | (go_at_call 121; ((with_reducible refine (KTK.out _).mono ?_); rintro e w' ⟨rfl, hbel⟩; obtain ⟨hcc, hff⟩ := bcell hbel; have hsz := hbel.size; (try simp at hsz); refine ⟨rfl, ?_⟩; rw [HCl.out]; (try simp only [List.nil_append, List.cons_append]); (try dsimp only); ((repeat' apply And.intro) <;> first | (simp [go_sem, *]; done) | omega | (repeat' (first | with_reducible exact Below.refl _ _ | with_reducible assumption | ((with_reducible refine Below.drew ?_)) | ((with_reducible refine below_drewN ?_ _)) | ((with_reducible refine Below.alloc ?_ ?_ _); rotate_left; focus (first | omega | (simp; done) | (simp; omega))) | ((with_reducible refine Below.setCell ?_ ?_ _); rotate_left; focus (first | omega | (simp; done) | (simp; omega))) | ((with_reducible refine Below.trans ?_ (Below.mono (by with_reducible assumption) ?_)); rotate_left; focus (first | omega | (simp; done) | (simp; omega)))))))) | (go_at_call 45; ((with_reducible refine (KM.out _).mono ?_); rintro e w' ⟨rfl, hbel⟩; obtain ⟨hcc, hff⟩ := bcell hbel; have hsz := hbel.size; (try simp at hsz); refine ⟨rfl, ?_⟩; rw [HCl.out]; (try simp only [List.nil_append, List.cons_append]); (try dsimp only); ((repeat' apply And.intro) <;> first | (simp [go_sem, *]; done) | omega | (repeat' (first | with_reducible exact Below.refl _ _ | with_reducible assumption | ((with_reducible refine Below.drew ?_)) | ((with_reducible refine below_drewN ?_ _)) | ((with_reducible refine Below.alloc ?_ ?_ _); rotate_left; focus (first | omega | (simp; done) | (simp; omega))) | ((with_reducible refine Below.setCell ?_ ?_ _); rotate_left; focus (first | omega | (simp; done) | (simp; omega))) | ((with_reducible refine Below.trans ?_ (Below.mono (by with_reducible assumption) ?_)); rotate_left; focus (first | omega | (simp; done) | (simp; omega))))))))))); simp only [Act.put, Nat.reduceAdd, List.setIfInBounds_toArray, List.set_cons_zero, List.set_cons_succ, List.nil_append, List.cons_append]) | (refine wE_eff (by rfl) (by rfl) (fun wq hw => ?_) (fun u hu => ?_); (focus (rw [HCl.out] at hw; (try simp only [List.nil_append, List.cons_append] at hw); (try dsimp only at hw); go_split_ands; go_simp; rw [HCl.out]; (try simp only [List.nil_append, List.cons_append]); (try dsimp only); skip; ((repeat' apply And.intro) <;> first | (simp [go_sem, *]; done) | omega | (repeat' (first | with_reducible exact Below.refl _ _ | with_reducible assumption | ((with_reducible refine Below.drew ?_)) | ((with_reducible refine below_drewN ?_ _)) | ((with_reducible refine Below.alloc ?_ ?_ _); rotate_left; focus (first | omega | (simp; done) | (simp; omega))) | ((with_reducible refine Below.setCell ?_ ?_ _); rotate_left; focus (first | omega | (simp; done) | (simp; omega))) | ((with_reducible refine Below.trans ?_ (Below.mono (by with_reducible assumption) ?_)); rotate_left; focus (first | omega | (simp; done) | (simp; omega)))))))); clear hu; simp only [Act.put, Nat.reduceAdd, List.setIfInBounds_toArray, List.set_cons_zero, List.set_cons_succ, List.nil_append, List.cons_append]))); refine wE_nil ?_; intro w' hw; rw [HCl.out] at hw; (try simp only [List.nil_append, List.cons_append] at hw); (try dsimp only at hw); clear HCl; go_split_ands
                  go_wp2_with fail
                  (try rw [Exit.noGoto_ret])
                  go_ret2
                  exact brk_mk rfl HAN.out (by first | (with_reducible exact hBwq.trans (Below.mono (by assumption) (by omega))) | ((repeat' (first | with_reducible exact Below.refl _ _ | with_reducible assumption | ((with_reducible refine Below.drew ?_)) | ((with_reducible refine below_drewN ?_ _)) | ((with_reducible refine Below.alloc ?_ ?_ _); rotate_left; focus (first | omega | (simp; done) | (simp; omega))) | ((with_reducible refine Below.setCell ?_ ?_ _); rotate_left; focus (first | omega | (simp; done) | (simp; omega))) | ((with_reducible refine Below.trans ?_ (Below.mono (by with_reducible assumption) ?_)); rotate_left; focus (first | omega | (simp; done) | (simp; omega))))); done))
                · have HAT := Lib.hid (show hb c1 cd c2 lm zs es ⟨fr, tt, fi, la, true⟩ i = false by rw [hat]; simpa using hfo)
                  have qm : decide (MV < B1) = false := by simpa using hfo
                  clear hst hat he hr kt km hTK hM hB1 hfo h1 h2 h3 ht1 ht2 hpi hwf
                  go_wp2_with (go_at_call 120; (with_reducible refine (KC.out _ HZq.out).mono ?_); rintro ee wz ⟨rfl, rfl⟩)
                  obtain ⟨Cl, hCl⟩ : ∃ Cl : List Value → World → Prop, Cl = ((fun ps wz => ((wz.cell? ⟨w.heap.size, 0, none⟩ = some (.int .u64 c1) ∧ wz.cell? ⟨w.heap.size, 1, none⟩ = some (.int .u64 cd) ∧ wz.cell? ⟨w.heap.size, 2, none⟩ = some (.int .u64 c2) ∧ w.heap.size < wz.heap.size)) ∧ wz.cell? ⟨wo.heap.size, 0, none⟩ = some (.int .u64 fr) ∧ wo.heap.size < wz.heap.size ∧ wz.cell? ⟨b, o + i * 12 + 3, none⟩ = some (.int .u64 e.tm) ∧ b < wz.heap.size ∧ wr.heap.size ≤ wz.heap.size ∧ Below wr.heap.size wr wz)) := ⟨_, rfl⟩; have HCl := Lib.hid hCl; clear hCl; refine wp_region_eff [] Cl (by kernel_rfl) (by kernel_rfl) (by rw [HCl.out]; (try simp only [List.nil_append, List.cons_append]); (try dsimp only); ((repeat' apply And.intro) <;> first | (simp [go_sem, *]; done) | omega | (repeat' (first | with_reducible exact Below.refl _ _ | with_reducible assumption | ((with_reducible refine Below.drew ?_)) | ((with_reducible refine below_drewN ?_ _)) | ((with_reducible refine Below.alloc ?_ ?_ _); rotate_left; focus (first | omega | (simp; done) | (simp; omega))) | ((with_reducible refine Below.setCell ?_ ?_ _); rotate_left; focus (first | omega | (simp; done) | (simp; omega))) | ((with_reducible refine Below.trans ?_ (Below.mono (by with_reducible assumption) ?_)); rotate_left; focus (first | omega | (simp; done) | (simp; omega))))))) ?_; (repeat (first | (refine wE_skip (by rfl) ?_; simp only [Act.put, Nat.reduceAdd, List.setIfInBounds_toArray, List.set_cons_zero, List.set_cons_succ, List.nil_append, List.cons_append]) | (refine wE_open (by rfl) (by rfl) ?_; apply Exists.intro; refine ⟨fun vs wq hw => ?_, ?_⟩; (focus (rw [HCl.out] at hw; (try simp only [List.nil_append, List.cons_append] at hw); (try dsimp only at hw); go_split_ands; go_simp <;> first | with_reducible exact (rfl : Value.bool false = _) | with_reducible exact (rfl : Value.bool true = _) | ((try go_bits) <;> exact rfl))); simp only [Act.put, Nat.reduceAdd, List.setIfInBounds_toArray, List.set_cons_zero, List.set_cons_succ, List.nil_append, List.cons_append]) | (refine wE_seal (by rfl) (by rfl) (by kernel_rfl) ?_; apply Exists.intro; refine ⟨fun wq hw => ?_, ?_⟩; (focus (rw [HCl.out] at hw; (try simp only [List.nil_append, List.cons_append] at hw); (try dsimp only at hw); go_split_ands; go_simp <;> (try go_bits) <;> exact rfl)); simp only [Act.put, Nat.reduceAdd, List.setIfInBounds_toArray, List.set_cons_zero, List.set_cons_succ, List.nil_append, List.cons_append]) | (refine wE_seal (by rfl) (by rfl) (by kernel_rfl) ?_; apply Exists.intro; refine ⟨fun wq hw => ?_, ?_⟩; (focus (rw [HCl.out] at hw; (try simp only [List.nil_append, List.cons_append] at hw); (try dsimp only at hw); go_split_ands; go_simp; (first | (go_at_call 121; ((with_reducible refine (KTK.out _).mono ?_); rintro e w' ⟨rfl, hbel⟩; obtain ⟨hcc, hff⟩ := bcell hbel; have hsz := hbel.size; (try simp at hsz); refine ⟨rfl, ?_⟩; rw [HCl.out]; (try simp only [List.nil_append, List.cons_append]); (try dsimp only); ((repeat' apply And.intro) <;> first | (simp [go_sem, *]; done) | omega | (repeat' (first | with_reducible exact Below.refl _ _ | with_reducible assumption | ((with_reducible refine Below.drew ?_)) | ((with_reducible refine below_drewN ?_ _)) | ((with_reducible refine Below.alloc ?_ ?_ _); rotate_left; focus (first | omega | (simp; done) | (simp; omega))) | ((with_reducible refine Below.setCell ?_ ?_ _); rotate_left; focus (first | omega | (simp; done) | (simp; omega))) | ((with_reducible refine Below.trans ?_ (Below.mono (by with_reducible assumption) ?_)); rotate_left; focus (first | omega | (simp; done) | (simp; omega)))))))) | (go_at_call 45; ((with_reducible refine (KM.out _).mono ?_); rintro e w' ⟨rfl, hbel⟩; obtain ⟨hcc, hff⟩ := bcell hbel; have hsz := hbel.size; (try simp at hsz); refine ⟨rfl, ?_⟩; rw [HCl.out]; (try simp only [List.nil_append, List.cons_append]); (try dsimp only); ((repeat' apply And.intro) <;> first | (simp [go_sem, *]; done) | omega | (repeat' (first | with_reducible exact Below.refl _ _ | with_reducible assumption | ((with_reducible refine Below.drew ?_)) | ((with_reducible refine below_drewN ?_ _)) | ((with_reducible refine Below.alloc ?_ ?_ _); rotate_left; focus (first | omega | (simp; done) | (simp; omega))) | ((with_reducible refine Below.setCell ?_ ?_ _); rotate_left; focus (first | omega | (simp; done) | (simp; omega))) | ((with_reducible refine Below.trans ?_ (Below.mono (by with_reducible assumption) ?_)); rotate_left; focus (first | omega | (simp; done) | (simp; omega))))))))))); simp only [Act.put, Nat.reduceAdd, List.setIfInBounds_toArray, List.set_cons_zero, List.set_cons_succ, List.nil_append, List.cons_append]) | (refine wE_eff (by rfl) (by rfl) (fun wq hw => ?_) (fun u hu => ?_); (focus (rw [HCl.out] at hw; (try simp only [List.nil_append, List.cons_append] at hw); (try dsimp only at hw); go_split_ands; go_simp; rw [HCl.out]; (try simp only [List.nil_append, List.cons_append]); (try dsimp only); skip; ((repeat' apply And.intro) <;> first | (simp [go_sem, *]; done) | omega | (repeat' (first | with_reducible exact Below.refl _ _ | with_reducible assumption | ((with_reducible refine Below.drew ?_)) | ((with_reducible refine below_drewN ?_ _)) | ((with_reducible refine Below.alloc ?_ ?_ _); rotate_left; focus (first | omega | (simp; done) | (simp; omega))) | ((with_reducible refine Below.setCell ?_ ?_ _); rotate_left; focus (first | omega | (simp; done) | (simp; omega))) | ((with_reducible refine Below.trans ?_ (Below.mono (by with_reducible assumption) ?_)); rotate_left; focus (first | omega | (simp; done) | (simp; omega)))))))); clear hu; simp only [Act.put, Nat.reduceAdd, List.setIfInBounds_toArray, List.set_cons_zero, List.set_cons_succ, List.nil_append, List.cons_append]))); refine wE_nil ?_; intro w' hw; rw [HCl.out] at hw; (try simp only [List.nil_append, List.cons_append] at hw); (try dsimp only at hw); clear HCl; go_split_ands
                  go_wp2_with fail
                  go_roundw
                  case rel =>
                    first
                      | exact ⟨i + 1, by go_num, by omega, by omega, by rw [HST.out], rfl, rfl, nof_succ HOF.out HAT.out, by assumption, by ((repeat' apply And.intro) <;> first | (simp [go_sem, *]; done) | omega | (repeat' (first | with_reducible exact Below.refl _ _ | with_reducible assumption | ((with_reducible refine Below.drew ?_)) | ((with_reducible refine below_drewN ?_ _)) | ((with_reducible refine Below.alloc ?_ ?_ _); rotate_left; focus (first | omega | (simp; done) | (simp; omega))) | ((with_reducible refine Below.setCell ?_ ?_ _); rotate_left; focus (first | omega | (simp; done) | (simp; omega))) | ((with_reducible refine Below.trans ?_ (Below.mono (by with_reducible assumption) ?_)); rotate_left; focus (first | omega | (simp; done) | (simp; omega)))))), by assumption, hBq.trans (Below.mono (by assumption) (by omega))⟩
                      | ((repeat apply Exists.intro); exact ⟨⟨i + 1, by go_num, by omega, by omega, by rw [HST.out], rfl, rfl, nof_succ HOF.out HAT.out, by assumption, by ((repeat' apply And.intro) <;> first | (simp [go_sem, *]; done) | omega | (repeat' (first | with_reducible exact Below.refl _ _ | with_reducible assumption | ((with_reducible refine Below.drew ?_)) | ((with_reducible refine below_drewN ?_ _)) | ((with_reducible refine Below.alloc ?_ ?_ _); rotate_left; focus (first | omega | (simp; done) | (simp; omega))) | ((with_reducible refine Below.setCell ?_ ?_ _); rotate_left; focus (first | omega | (simp; done) | (simp; omega))) | ((with_reducible refine Below.trans ?_ (Below.mono (by with_reducible assumption) ?_)); rotate_left; focus (first | omega | (simp; done) | (simp; omega)))))), by assumption, hBq.trans (Below.mono (by assumption) (by omega))⟩, rfl⟩)
                  case measure => simp [intOf]; omega
          · have ql : decide ((i : Int) ≤ LL) = false := by simpa using hle
            rw [hLL] at ql
            have HO := Lib.hid (HGO.out i HOF.out (by have := HLe.out i (by omega); first | exact this | simpa using this))
            go_wp2_with fail
            go_roundw
            case rel =>
              first
                | exact ⟨y + 1, by have := HLT.out; omega, by go_num, rfl, rfl, HO.out, hB.trans (hBq.mono HSY.out)⟩
                | ((repeat apply Exists.intro); exact ⟨⟨y + 1, by have := HLT.out; omega, by go_num, rfl, rfl, HO.out, hB.trans (hBq.mono HSY.out)⟩, rfl⟩)
            case measure =>
              have := HLT.out
              simp [intOf]
              omega
    · obtain rfl : y = rs.length := by omega
      have HA := Lib.hid (show Ans c1 cd c2 lm zs es (spsrun zs es es.length).rows 0 false by rw [HRS.out]; exact ans_none HNO.out)
      go_wp2_with fail
      (try rw [Exit.noGoto_ret])
      go_ret2
      exact brk_mk rfl HA.out (by ((repeat' (first | with_reducible exact Below.refl _ _ | with_reducible assumption | ((with_reducible refine Below.drew ?_)) | ((with_reducible refine below_drewN ?_ _)) | ((with_reducible refine Below.alloc ?_ ?_ _); rotate_left; focus (first | omega | (simp; done) | (simp; omega))) | ((with_reducible refine Below.setCell ?_ ?_ _); rotate_left; focus (first | omega | (simp; done) | (simp; omega))) | ((with_reducible refine Below.trans ?_ (Below.mono (by with_reducible assumption) ?_)); rotate_left; focus (first | omega | (simp; done) | (simp; omega))))); done))
end Go.Proofs.Ytdahjhokcjfioaa
