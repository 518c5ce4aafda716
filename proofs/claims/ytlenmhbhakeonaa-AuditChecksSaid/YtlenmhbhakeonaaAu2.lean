/- A pick is learned. -/
import Derived.Test.YtlenmhbhakeonaaAu1
namespace Go.Proofs.Ytlenmhbhakeonaa
set_option linter.unusedVariables false
set_option linter.unusedSimpArgs false
set_option maxRecDepth 100000
open Go.RowKit Fg Reg
attribute [local irreducible] Reg.wE QR

theorem QR.some {z : World} {B s m : Nat} {v : Value} {xs : List Value} {bk : Option Nat} (h : QR z B s v m xs bk) (hm : 0 < m) : ∃ b o cap, v = .slice (some ⟨b, o, none⟩) m cap ∧ m ≤ cap ∧ cap ≤ maxLen := by
  unfold QR at h
  rcases h.2 with ⟨_, h2, _⟩ | ⟨b, o, cap, _, h1, h2, h3, _⟩
  · omega
  · exact ⟨b, o, cap, h1, h2, h3⟩
theorem QR.none {z : World} {B s : Nat} {v : Value} {m : Nat} {xs : List Value} {bk : Option Nat} (h : QR z B s v m xs bk) (hm : m = 0) : ∃ ao cap, v = .slice ao 0 cap := by
  obtain ⟨ao, cp, h⟩ := h.form
  exact ⟨ao, cp, by rw [h, hm]⟩
theorem tail_flat (L : List Pk) : L.tail.flatMap Pk.cells = (L.flatMap Pk.cells).drop 6 := by
  cases L with
  | nil => rfl
  | cons p L =>
    rw [List.tail_cons, List.flatMap_cons, List.drop_append_of_le_length (by simp [Pk.cells]), List.drop_of_length_le (by simp [Pk.cells]), List.nil_append]
set_option maxHeartbeats 8000000 in
theorem wlearn_nil_c {z : World} {mw B : Nat} {f : Int → Option Value} {W : Int → List Pk} {bk : Int → Option Nat} (e : Ev) (h : MW z mw B f W bk) (hc : iok e.cls) (hin : e.inn = false) (hB : B ≤ z.heap.size) (hm : W e.cls = []) :
    Calls Try.prog 85 #[.map (some mw), .agg #[.int .i64 (e).op, .bool (e).inn, .bool (e).real, .int .u64 (e).tm, .int .u64 (e).dn, .int .i64 (e).cls, .int .u64 (e).id, .int .i64 (e).ln, .int .u16 (e).a, .int .u16 (e).b, .int .u16 (e).c, .int .u16 (e).d]] z fun r z' => r = .returned (.tuple #[]) ∧ ∃ f' bk', MW z' mw B f' (wlearn W e) bk' ∧ Only (fun k => k = mw ∨ bk e.cls = some k) z z' := by
  have hA : Below z.heap.size z (z.alloc (.cells #[.int .i64 (e).op, .bool (e).inn, .bool (e).real, .int .u64 (e).tm, .int .u64 (e).dn, .int .i64 (e).cls, .int .u64 (e).id, .int .i64 (e).ln, .int .u16 (e).a, .int .u16 (e).b, .int .u16 (e).c, .int .u16 (e).d] 96)) := Below.alloc (Below.refl _ _) (Nat.le_refl _) _
  have hl := (h.below hA).look hc
  obtain ⟨ao, cp, hv⟩ := (h.rows e.cls).none (by rw [hm]; rfl)
  rw [hv, hin] at hl
  have hw : wlearn W e = W := by
    rw [wlearn_out W e hin, hm]
    funext x; unfold updW; by_cases hx : x = e.cls
    · subst hx; simp [hm]
    · simp [hx]
  rw [hw]
  have H := Lib.hid h
  clear h hc hv hA hw hm
  go_enter Try.func85, Try.ntmps85
  go_wp2
  refine bodyPost_end (v := .tuple #[]) (by simp [results, Try.results85]) rfl ⟨rfl, f, bk, H.out.below ?_, Only.of_below ?_⟩
  · (repeat' (first | assumption | exact Below.refl _ _ | refine Below.setCell ?_ (by first | (simp; done) | omega | (simp; omega)) _ | refine Below.alloc ?_ (by first | (simp; done) | omega | (simp; omega)) _ | refine Below.drew ?_ | refine below_drewN ?_ _))
  · (repeat' (first | assumption | exact Below.refl _ _ | refine Below.setCell ?_ (by first | (simp; done) | omega | (simp; omega)) _ | refine Below.alloc ?_ (by first | (simp; done) | omega | (simp; omega)) _ | refine Below.drew ?_ | refine below_drewN ?_ _))
set_option maxHeartbeats 8000000 in
theorem wlearn_out_c {z : World} {mw B : Nat} {f : Int → Option Value} {W : Int → List Pk} {bk : Int → Option Nat} (e : Ev) (h : MW z mw B f W bk) (hc : iok e.cls) (hin : e.inn = false) (hB : B ≤ z.heap.size) (hm0 : 0 < (W e.cls).length) (hm : (W e.cls).length ≤ 1000) :
    Calls Try.prog 85 #[.map (some mw), .agg #[.int .i64 (e).op, .bool (e).inn, .bool (e).real, .int .u64 (e).tm, .int .u64 (e).dn, .int .i64 (e).cls, .int .u64 (e).id, .int .i64 (e).ln, .int .u16 (e).a, .int .u16 (e).b, .int .u16 (e).c, .int .u16 (e).d]] z fun r z' => r = .returned (.tuple #[]) ∧ ∃ f' bk', MW z' mw B f' (wlearn W e) bk' ∧ Only (fun k => k = mw ∨ bk e.cls = some k) z z' := by
  have hA : Below z.heap.size z (z.alloc (.cells #[.int .i64 (e).op, .bool (e).inn, .bool (e).real, .int .u64 (e).tm, .int .u64 (e).dn, .int .i64 (e).cls, .int .u64 (e).id, .int .i64 (e).ln, .int .u16 (e).a, .int .u16 (e).b, .int .u16 (e).c, .int .u16 (e).d] 96)) := Below.alloc (Below.refl _ _) (Nat.le_refl _) _
  have hl := (h.below hA).look hc
  obtain ⟨b, o, cap, hv, hmc, hcm⟩ := (h.rows e.cls).some hm0
  rw [hv, hin] at hl
  obtain ⟨m, hmm⟩ : ∃ m, (W e.cls).length = m := ⟨_, rfl⟩
  rw [hmm] at hl hm0 hm hmc
  have HM := Lib.hid hmm
  have HV := Lib.hid hv
  have H := Lib.hid h
  have HC := Lib.hid hc
  rw [wlearn_out W e hin]
  have mwl : mw < z.heap.size := Nat.lt_of_lt_of_le h.lt hB
  have HNI : Hid (¬ (z.heap.size = mw ∨ bk e.cls = some z.heap.size)) := Lib.hid fun g => by
    rcases g with g | g
    · omega
    · exact absurd ((h.rows e.cls).lt _ g).2 (Nat.lt_irrefl _)
  have hml : (0 : Int) < (m : Int) := by omega
  have hml1 : (1 : Int) ≤ (m : Int) := by omega
  have D0 : decide ((0 : Int) < (m : Int)) = true := decide_eq_true hml
  have D0b : decide (0 < m) = true := decide_eq_true hm0
  clear h hc hv hmm hA
  go_enter Try.func85, Try.ntmps85
  go_wp2
  have hb0 : Below z.heap.size z (z.alloc (.cells #[.int .i64 e.op, .bool false, .bool e.real, .int .u64 e.tm, .int .u64 e.dn, .int .i64 e.cls, .int .u64 e.id, .int .i64 e.ln, .int .u16 e.a, .int .u16 e.b, .int .u16 e.c, .int .u16 e.d] 96)).drew := by (repeat' (first | assumption | exact Below.refl _ _ | refine Below.setCell ?_ (by first | (simp; done) | omega | (simp; omega)) _ | refine Below.alloc ?_ (by first | (simp; done) | omega | (simp; omega)) _ | refine Below.drew ?_ | refine below_drewN ?_ _))
  have he0 : EVP (z.alloc (.cells #[.int .i64 e.op, .bool false, .bool e.real, .int .u64 e.tm, .int .u64 e.dn, .int .i64 e.cls, .int .u64 e.id, .int .i64 e.ln, .int .u16 e.a, .int .u16 e.b, .int .u16 e.c, .int .u16 e.d] 96)).drew z.heap.size e := by unfold EVP; rw [hin]; ((repeat' apply And.intro) <;> first | (simp [go_sem, *]; done) | omega | (repeat' (first | with_reducible exact Below.refl _ _ | with_reducible assumption | ((with_reducible refine Below.drew ?_)) | ((with_reducible refine below_drewN ?_ _)) | ((with_reducible refine Below.alloc ?_ ?_ _); rotate_left; focus (first | omega | (simp; done) | (simp; omega))) | ((with_reducible refine Below.setCell ?_ ?_ _); rotate_left; focus (first | omega | (simp; done) | (simp; omega))) | ((with_reducible refine Below.trans ?_ (Below.mono (by with_reducible assumption) ?_)); rotate_left; focus (first | omega | (simp; done) | (simp; omega))))))
  obtain ⟨Cl, hCl⟩ : ∃ Cl : List (Nat × Value) → World → Prop, Cl = ((fun ps wz => ((wz.cell? ⟨z.heap.size, 0, none⟩ = some (.int .i64 (e).op) ∧ wz.cell? ⟨z.heap.size, 1, none⟩ = some (.bool (e).inn) ∧ wz.cell? ⟨z.heap.size, 2, none⟩ = some (.bool (e).real) ∧ wz.cell? ⟨z.heap.size, 3, none⟩ = some (.int .u64 (e).tm) ∧ wz.cell? ⟨z.heap.size, 4, none⟩ = some (.int .u64 (e).dn) ∧ wz.cell? ⟨z.heap.size, 5, none⟩ = some (.int .i64 (e).cls) ∧ wz.cell? ⟨z.heap.size, 6, none⟩ = some (.int .u64 (e).id) ∧ wz.cell? ⟨z.heap.size, 7, none⟩ = some (.int .i64 (e).ln) ∧ wz.cell? ⟨z.heap.size, 8, none⟩ = some (.int .u16 (e).a) ∧ wz.cell? ⟨z.heap.size, 9, none⟩ = some (.int .u16 (e).b) ∧ wz.cell? ⟨z.heap.size, 10, none⟩ = some (.int .u16 (e).c) ∧ wz.cell? ⟨z.heap.size, 11, none⟩ = some (.int .u16 (e).d) ∧ z.heap.size < wz.heap.size) ∧ z.heap.size < wz.heap.size ∧ B ≤ wz.heap.size) ∧ (match ps with
    | [] => MW wz mw B f W bk ∧ Only (fun k => k = mw ∨ bk e.cls = some k) z wz
    | _ => (∃ f' bk', MW wz mw B f' (updW W e.cls (W e.cls).tail) bk') ∧ Only (fun k => k = mw ∨ bk e.cls = some k) z wz))) := ⟨_, rfl⟩; have HCl := Lib.hid hCl; clear hCl; refine Reg2.wp_region_lineS [(0, false), (1, false), (2, false), (3, false), (4, false), (5, false)] [5] Cl (by kernel_rfl) (by kernel_rfl) (by kernel_rfl) (by rw [HCl.out]; (try simp only [List.nil_append, List.cons_append]); (try dsimp only); exact ⟨⟨he0, by simp, by simp; omega⟩, H.out.below hb0, Only.of_below hb0⟩) ?_
  clear hb0 he0
  (repeat (first | (refine Reg2.wS_skip (by (simp only [List.getElem?_toArray, List.getElem?_cons_succ, List.getElem?_cons_zero]) <;> rfl) (by rfl) ?_; simp only [Act.put, Nat.reduceAdd, List.setIfInBounds_toArray, List.set_cons_zero, List.set_cons_succ, List.nil_append, List.cons_append]) | (refine Reg2.wS_open (by (simp only [List.getElem?_toArray, List.getElem?_cons_succ, List.getElem?_cons_zero]) <;> rfl) (by rfl) (by rfl) ?_; apply Exists.intro; refine ⟨fun vs wq hw => ?_, ?_⟩; (focus (rw [HCl.out] at hw; (try simp only [List.nil_append, List.cons_append] at hw); (try dsimp only at hw); go_split_ands; go_simp <;> first | with_reducible exact (rfl : Value.bool false = _) | with_reducible exact (rfl : Value.bool true = _) | ((try go_bits) <;> exact rfl))); simp only [Act.put, Nat.reduceAdd, List.setIfInBounds_toArray, List.set_cons_zero, List.set_cons_succ, List.nil_append, List.cons_append])))
  refine Reg2.wS_eff (by (simp only [List.getElem?_toArray, List.getElem?_cons_succ, List.getElem?_cons_zero]) <;> rfl) (by rfl) (by rfl) (fun wq hw => ?_) (fun u9 hu => ?_)
  focus
    rw [HCl.out] at hw; (try simp only [List.nil_append, List.cons_append] at hw); (try dsimp only at hw)
    obtain ⟨⟨hev, hzs, hbs⟩, hM, hO⟩ := hw
    obtain ⟨n, hn⟩ := hM.mp
    have hq := hM.rows e.cls
    rw [HV.out, HM.out] at hq
    have hqt := hq.tail hm0
    obtain ⟨w3, hr, h1, h2, h3⟩ := hn.update ikok Try.underlying132 HC.out (tlq 6 b o m cap)
    refine eff2_mapUpdate _ _ _ 132 rfl rfl rfl rfl hr ?_
    rw [HCl.out]; (try simp only [List.nil_append, List.cons_append]); (try dsimp only)
    have hS2 := h2.mono (T := (fun k => k = mw ∨ bk e.cls = some k)) (fun k hk => .inl hk)
    refine ⟨⟨EVP.only (show EVP wq z.heap.size e from hev) hS2 HNI.out, by rw [h3]; exact hzs, by rw [h3]; exact hbs⟩, ⟨_, _, hM.put (c := e.cls) (L := (W e.cls).tail) (bc := bk e.cls) (Only.refl _ _) ?_ (fun b hb => .inl hb) h1 h2⟩, hO.trans hS2⟩
    rw [List.length_tail, HM.out, tail_flat]
    exact hqt
  clear hu
  simp only [Act.put, Nat.reduceAdd, List.setIfInBounds_toArray, List.set_cons_zero, List.set_cons_succ, List.nil_append, List.cons_append]
  (repeat (first | (refine Reg2.wS_skip (by (simp only [List.getElem?_toArray, List.getElem?_cons_succ, List.getElem?_cons_zero]) <;> rfl) (by rfl) ?_; simp only [Act.put, Nat.reduceAdd, List.setIfInBounds_toArray, List.set_cons_zero, List.set_cons_succ, List.nil_append, List.cons_append]) | (refine Reg2.wS_open (by (simp only [List.getElem?_toArray, List.getElem?_cons_succ, List.getElem?_cons_zero]) <;> rfl) (by rfl) (by rfl) ?_; apply Exists.intro; refine ⟨fun vs wq hw => ?_, ?_⟩; (focus (rw [HCl.out] at hw; (try simp only [List.nil_append, List.cons_append] at hw); (try dsimp only at hw); go_split_ands; go_simp <;> first | with_reducible exact (rfl : Value.bool false = _) | with_reducible exact (rfl : Value.bool true = _) | ((try go_bits) <;> exact rfl))); simp only [Act.put, Nat.reduceAdd, List.setIfInBounds_toArray, List.set_cons_zero, List.set_cons_succ, List.nil_append, List.cons_append])))
  refine Reg2.wS_nil ?_; intro w' hw; rw [HCl.out] at hw; (try simp only [List.nil_append, List.cons_append] at hw); (try dsimp only at hw); clear HCl
  obtain ⟨-, ⟨f', bk', hM'⟩, hO'⟩ := hw
  go_wp2
  all_goals first
    | exact bodyPost_end (v := .tuple #[]) (by simp [results, Try.results85]) rfl ⟨rfl, f', bk', hM', hO'⟩
    | exact bodyPost_end (v := .tuple #[]) (by simp [results, Try.results85]) rfl ⟨rfl, ⟨f', bk', hM'⟩, hO'⟩
theorem wlearn_c {z : World} {mw B : Nat} {f : Int → Option Value} {W : Int → List Pk} {bk : Int → Option Nat} (e : Ev) (h : MW z mw B f W bk) (hc : iok e.cls) (hB : B ≤ z.heap.size) (hm : (W e.cls).length ≤ 1000) :
    Calls Try.prog 85 #[.map (some mw), .agg #[.int .i64 (e).op, .bool (e).inn, .bool (e).real, .int .u64 (e).tm, .int .u64 (e).dn, .int .i64 (e).cls, .int .u64 (e).id, .int .i64 (e).ln, .int .u16 (e).a, .int .u16 (e).b, .int .u16 (e).c, .int .u16 (e).d]] z fun r z' => r = .returned (.tuple #[]) ∧ ∃ f' bk', MW z' mw B f' (wlearn W e) bk' ∧ Only (fun k => k = mw ∨ bk e.cls = some k) z z' := by
  cases hin : e.inn with
  | true =>
    have := wlearn_in_c e h hc hin hB hm
    rwa [hin] at this
  | false =>
    rcases Nat.eq_zero_or_pos (W e.cls).length with h0 | h0
    · have := wlearn_nil_c e h hc hin hB (List.length_eq_zero_iff.1 h0)
      rwa [hin] at this
    · have := wlearn_out_c e h hc hin hB h0 hm
      rwa [hin] at this
end Go.Proofs.Ytlenmhbhakeonaa
