/- conform.through, with each of its closures. -/
import Derived.Test.YtdahjhokcjfioaaCf3
namespace Go.Proofs.Ytdahjhokcjfioaa
set_option linter.unusedVariables false
set_option linter.unusedSimpArgs false
set_option maxRecDepth 100000
open Go.RowKit Fg Reg
attribute [local irreducible] Reg.wE M3

def ckst (c : Int) (st : Int × Int × Int) (e : Ev) : Int × Int × Int := if cp c e = true then (e.tm, cerr st.1 st.2.1 e, cbyt st.2.2 e) else st
def ckr (c : Int) (es : List Ev) : Int × Int × Int := es.foldl (ckst c) (0, 0, 0)
def bust (s c : Int) (st : Int × Int × Int) (e : Ev) : Int × Int × Int := if cp c e = true then (blv s st.1 st.2.1 e, e.tm, bmx st.2.2 (blv s st.1 st.2.1 e)) else st
def bur (s c : Int) (es : List Ev) : Int × Int × Int := es.foldl (bust s c) (0, 0, 0)
theorem ckr_succ (c : Int) (es : List Ev) (k : Nat) (h : k < es.length) : ckr c (es.take (k + 1)) = ckst c (ckr c (es.take k)) es[k] := by
  unfold ckr
  rw [take_snoc'' es k h, List.foldl_append]; rfl
theorem bur_succ (s c : Int) (es : List Ev) (k : Nat) (h : k < es.length) : bur s c (es.take (k + 1)) = bust s c (bur s c (es.take k)) es[k] := by
  unfold bur
  rw [take_snoc'' es k h, List.foldl_append]; rfl
theorem cbyt_bd {b : Int} {e : Ev} (h : 0 ≤ b) (hw : e.wf3) : 0 ≤ cbyt b e := by
  have := (cb_bd e hw).1
  unfold cbyt; split <;> omega
set_option maxHeartbeats 4000000 in
theorem thrc_c (es : List Ev) (ae : Option Addr) (ce : Nat) (x1 x2 x3 cx dx : Nat) (c : Int) (dv : Value) (hn : es.length ≤ 1000) (hwf : ∀ k (h : k < es.length), es[k].wf3)  (w z : World)
    (hM : M3 w z x1 x2 x3 (.int .u64 0) (.int .i64 0) (.int .u64 0) cx c dx dv) (hE : EvsV w ae es) :
    Calls Try.prog 134 #[.slice ae es.length ce, .func (.func 132) #[] #[.pointer (some ⟨cx, 0, none⟩)], .func (.func 167) #[] #[.pointer (some ⟨x1, 0, none⟩), .pointer (some ⟨x2, 0, none⟩), .pointer (some ⟨x3, 0, none⟩)]] z fun r z' => r = .returned (.tuple #[]) ∧ M3 w z' x1 x2 x3 (.int .u64 (ckr c es).1) (.int .i64 (ckr c es).2.1) (.int .u64 (ckr c es).2.2) cx c dx dv := by
  have HE := Lib.hid hE
  have EI := Lib.hid ev_info
  have HW := Lib.hid hwf
  have hM0 := Lib.hid hM
  clear hE hwf hM
  go_enter Try.func134, Try.ntmps134
  go_wp2
  go_loopw [10] (fun i wr => ∃ (k : Nat), k ≤ es.length ∧ i = .int .i64 k ∧ M3 w wr x1 x2 x3 (.int .u64 (ckr c (es.take k)).1) (.int .i64 (ckr c (es.take k)).2.1) (.int .u64 (ckr c (es.take k)).2.2) cx c dx dv ∧ 0 ≤ (ckr c (es.take k)).2.2) (fun i _ => es.length - (intOf i).toNat)
  case atStart => exact ⟨0, Nat.zero_le _, rfl, hM0.out, Int.le_refl 0⟩
  case round =>
    obtain ⟨k, hk, rfl, hM, hb0⟩ := hrel
    have hB := hM.bel
    by_cases hlt : k < es.length
    · obtain ⟨b, o, rfl, hbl, hr⟩ := (HE.out.below hB) k hlt
      have hwf := HW.out k hlt
      have hsu := ckr_succ c es k hlt
      obtain ⟨e, he⟩ : ∃ e, es[k] = e := ⟨_, rfl⟩
      rw [he] at hr hwf hsu
      have hbs := hB.size
      have HA := Lib.hid (fun (o : Obj) => hM.below ((Below.refl wr.heap.size wr).alloc (Nat.le_refl _) o))
      have kl := fun z h1 h2 => lets_c e cx c z h1 h2
      unfold ckst at hsu
      obtain ⟨u1, u2, u3, hu⟩ : ∃ u1 u2 u3, ckr c (es.take k) = (u1, u2, u3) := ⟨_, _, _, rfl⟩
      rw [hu] at HA hsu hb0
      dsimp only at HA hsu hb0
      cases hc : cp c e with
      | false =>
        rw [hc] at kl
        rw [hc, if_neg Bool.false_ne_true] at hsu
        have KL := Lib.hid kl
        have HS := Lib.hid hsu
        clear kl hsu hc he hM hB
        go_wp2_with (first | (refine wpList_load_mid rfl 213 _ rfl b (o + k * 12) rfl _ _ hr Try.underlying213 rfl EI.out ?_) | (refine wpList_store_new rfl 213 _ _ rfl _ #[.int .i64 (e).op, .bool (e).inn, .bool (e).real, .int .u64 (e).tm, .int .u64 (e).dn, .int .i64 (e).cls, .int .u64 (e).id, .int .i64 (e).ln, .int .u16 (e).a, .int .u16 (e).b, .int .u16 (e).c, .int .u16 (e).d] rfl rfl EI.out rfl (all_oneCell_toArray e.one) ?_) | (go_at_call 132; (with_reducible refine (KL.out _ (HA.out _).cc (HA.out _).cl).mono ?_); rintro ee w3 ⟨rfl, hb3⟩; have HM3 := Lib.hid ((HA.out _).below hb3); obtain ⟨hcc, hff⟩ := bcell hb3; have hsz := hb3.size; (try simp at hsz); have hF : (w3.cell? ⟨wr.heap.size, 0, none⟩ = some (.int .i64 e.op) ∧ w3.cell? ⟨wr.heap.size, 1, none⟩ = some (.bool e.inn) ∧ w3.cell? ⟨wr.heap.size, 2, none⟩ = some (.bool e.real) ∧ w3.cell? ⟨wr.heap.size, 3, none⟩ = some (.int .u64 e.tm) ∧ w3.cell? ⟨wr.heap.size, 4, none⟩ = some (.int .u64 e.dn) ∧ w3.cell? ⟨wr.heap.size, 5, none⟩ = some (.int .i64 e.cls) ∧ w3.cell? ⟨wr.heap.size, 6, none⟩ = some (.int .u64 e.id) ∧ w3.cell? ⟨wr.heap.size, 7, none⟩ = some (.int .i64 e.ln) ∧ w3.cell? ⟨wr.heap.size, 8, none⟩ = some (.int .u16 e.a) ∧ w3.cell? ⟨wr.heap.size, 9, none⟩ = some (.int .u16 e.b) ∧ w3.cell? ⟨wr.heap.size, 10, none⟩ = some (.int .u16 e.c) ∧ w3.cell? ⟨wr.heap.size, 11, none⟩ = some (.int .u16 e.d) ∧ wr.heap.size < w3.heap.size) := (by ((repeat' apply And.intro) <;> first | (simp [go_sem, *]; done) | omega | (repeat' (first | with_reducible exact Below.refl _ _ | with_reducible assumption | ((with_reducible refine Below.drew ?_)) | ((with_reducible refine below_drewN ?_ _)) | ((with_reducible refine Below.alloc ?_ ?_ _); rotate_left; focus (first | omega | (simp; done) | (simp; omega))) | ((with_reducible refine Below.setCell ?_ ?_ _); rotate_left; focus (first | omega | (simp; done) | (simp; omega))) | ((with_reducible refine Below.trans ?_ (Below.mono (by with_reducible assumption) ?_)); rotate_left; focus (first | omega | (simp; done) | (simp; omega))))))); go_split_ands; clear hcc hff hb3))
        go_roundw
        case rel => exact ⟨k + 1, by omega, by go_num, by rw [HS.out]; exact HM3.out, by rw [HS.out]; exact hb0⟩
        case measure => simp [intOf]; omega
      | true =>
        rw [hc] at kl
        rw [hc, if_pos rfl] at hsu
        have kc := fun z h => chk1_c e hwf w z x1 x2 x3 cx dx c u1 u2 u3 dv hb0 h
        have hb1 := cbyt_bd (e := e) hb0 hwf
        have KC := Lib.hid kc
        have KL := Lib.hid kl
        have HS := Lib.hid hsu
        clear kl hsu he hM hB kc hc
        go_wp2_with (first | (refine wpList_load_mid rfl 213 _ rfl b (o + k * 12) rfl _ _ hr Try.underlying213 rfl EI.out ?_) | (refine wpList_store_new rfl 213 _ _ rfl _ #[.int .i64 (e).op, .bool (e).inn, .bool (e).real, .int .u64 (e).tm, .int .u64 (e).dn, .int .i64 (e).cls, .int .u64 (e).id, .int .i64 (e).ln, .int .u16 (e).a, .int .u16 (e).b, .int .u16 (e).c, .int .u16 (e).d] rfl rfl EI.out rfl (all_oneCell_toArray e.one) ?_) | (go_at_call 132; (with_reducible refine (KL.out _ (HA.out _).cc (HA.out _).cl).mono ?_); rintro ee w3 ⟨rfl, hb3⟩; have HM3 := Lib.hid ((HA.out _).below hb3); obtain ⟨hcc, hff⟩ := bcell hb3; have hsz := hb3.size; (try simp at hsz); have hF : (w3.cell? ⟨wr.heap.size, 0, none⟩ = some (.int .i64 e.op) ∧ w3.cell? ⟨wr.heap.size, 1, none⟩ = some (.bool e.inn) ∧ w3.cell? ⟨wr.heap.size, 2, none⟩ = some (.bool e.real) ∧ w3.cell? ⟨wr.heap.size, 3, none⟩ = some (.int .u64 e.tm) ∧ w3.cell? ⟨wr.heap.size, 4, none⟩ = some (.int .u64 e.dn) ∧ w3.cell? ⟨wr.heap.size, 5, none⟩ = some (.int .i64 e.cls) ∧ w3.cell? ⟨wr.heap.size, 6, none⟩ = some (.int .u64 e.id) ∧ w3.cell? ⟨wr.heap.size, 7, none⟩ = some (.int .i64 e.ln) ∧ w3.cell? ⟨wr.heap.size, 8, none⟩ = some (.int .u16 e.a) ∧ w3.cell? ⟨wr.heap.size, 9, none⟩ = some (.int .u16 e.b) ∧ w3.cell? ⟨wr.heap.size, 10, none⟩ = some (.int .u16 e.c) ∧ w3.cell? ⟨wr.heap.size, 11, none⟩ = some (.int .u16 e.d) ∧ wr.heap.size < w3.heap.size) := (by ((repeat' apply And.intro) <;> first | (simp [go_sem, *]; done) | omega | (repeat' (first | with_reducible exact Below.refl _ _ | with_reducible assumption | ((with_reducible refine Below.drew ?_)) | ((with_reducible refine below_drewN ?_ _)) | ((with_reducible refine Below.alloc ?_ ?_ _); rotate_left; focus (first | omega | (simp; done) | (simp; omega))) | ((with_reducible refine Below.setCell ?_ ?_ _); rotate_left; focus (first | omega | (simp; done) | (simp; omega))) | ((with_reducible refine Below.trans ?_ (Below.mono (by with_reducible assumption) ?_)); rotate_left; focus (first | omega | (simp; done) | (simp; omega))))))); go_split_ands; clear hcc hff hb3) | (go_at_call 167; (with_reducible refine (KC.out _ HM3.out).mono ?_); rintro ee w4 ⟨rfl, hM4⟩; have HM4 := Lib.hid hM4; clear hM4))
        go_roundw
        case rel => exact ⟨k + 1, by omega, by go_num, by rw [HS.out]; exact HM4.out, by rw [HS.out]; exact hb1⟩
        case measure => simp [intOf]; omega
    · obtain rfl : k = es.length := by omega
      have HM := Lib.hid hM
      clear hM
      go_wp2
      refine bodyPost_end (v := .tuple #[]) (by simp [results, Try.results134]) rfl ?_
      refine ⟨rfl, ?_⟩
      have := HM.out
      rw [List.take_length] at this
      exact this
set_option maxHeartbeats 4000000 in
theorem thrb_c (es : List Ev) (ae : Option Addr) (ce : Nat) (x1 x2 x3 cx dx : Nat) (c s : Int) (hn : es.length ≤ 1000) (hwf : ∀ k (h : k < es.length), es[k].wf3) (hs : 0 ≤ s ∧ s ≤ 4294967295) (hok : ∀ k (h : k < es.length), cp c es[k] = true → (0 ≤ (bur s c (es.take k)).1 ∧ (bur s c (es.take k)).1 + cb es[k] * 65536 ≤ 9223372036854775807) ∧ 0 ≤ (bur s c (es.take k)).2.1 ∧ (bur s c (es.take k)).2.1 ≤ es[k].tm) (w z : World)
    (hM : M3 w z x1 x2 x3 (.int .u64 0) (.int .u64 0) (.int .u64 0) cx c dx (.int .u64 s)) (hE : EvsV w ae es) :
    Calls Try.prog 134 #[.slice ae es.length ce, .func (.func 132) #[] #[.pointer (some ⟨cx, 0, none⟩)], .func (.func 135) #[] #[.pointer (some ⟨x1, 0, none⟩), .pointer (some ⟨dx, 0, none⟩), .pointer (some ⟨x2, 0, none⟩), .pointer (some ⟨x3, 0, none⟩)]] z fun r z' => r = .returned (.tuple #[]) ∧ M3 w z' x1 x2 x3 (.int .u64 (bur s c es).1) (.int .u64 (bur s c es).2.1) (.int .u64 (bur s c es).2.2) cx c dx (.int .u64 s) := by
  have HE := Lib.hid hE
  have EI := Lib.hid ev_info
  have HW := Lib.hid hwf
  have hM0 := Lib.hid hM
  have HOK := Lib.hid hok
  clear hok
  clear hE hwf hM
  go_enter Try.func134, Try.ntmps134
  go_wp2
  go_loopw [10] (fun i wr => ∃ (k : Nat), k ≤ es.length ∧ i = .int .i64 k ∧ M3 w wr x1 x2 x3 (.int .u64 (bur s c (es.take k)).1) (.int .u64 (bur s c (es.take k)).2.1) (.int .u64 (bur s c (es.take k)).2.2) cx c dx (.int .u64 s)) (fun i _ => es.length - (intOf i).toNat)
  case atStart => exact ⟨0, Nat.zero_le _, rfl, hM0.out⟩
  case round =>
    obtain ⟨k, hk, rfl, hM⟩ := hrel
    have hB := hM.bel
    by_cases hlt : k < es.length
    · obtain ⟨b, o, rfl, hbl, hr⟩ := (HE.out.below hB) k hlt
      have hwf := HW.out k hlt
      have hsu := bur_succ s c es k hlt
      have hok := HOK.out k hlt
      obtain ⟨e, he⟩ : ∃ e, es[k] = e := ⟨_, rfl⟩
      rw [he] at hr hwf hsu hok
      have hbs := hB.size
      have HA := Lib.hid (fun (o : Obj) => hM.below ((Below.refl wr.heap.size wr).alloc (Nat.le_refl _) o))
      have kl := fun z h1 h2 => lets_c e cx c z h1 h2
      unfold bust at hsu
      obtain ⟨u1, u2, u3, hu⟩ : ∃ u1 u2 u3, bur s c (es.take k) = (u1, u2, u3) := ⟨_, _, _, rfl⟩
      rw [hu] at HA hsu hok
      dsimp only at HA hsu hok
      cases hc : cp c e with
      | false =>
        rw [hc] at kl
        rw [hc, if_neg Bool.false_ne_true] at hsu
        have KL := Lib.hid kl
        have HS := Lib.hid hsu
        clear kl hsu hc he hM hB hok
        go_wp2_with (first | (refine wpList_load_mid rfl 213 _ rfl b (o + k * 12) rfl _ _ hr Try.underlying213 rfl EI.out ?_) | (refine wpList_store_new rfl 213 _ _ rfl _ #[.int .i64 (e).op, .bool (e).inn, .bool (e).real, .int .u64 (e).tm, .int .u64 (e).dn, .int .i64 (e).cls, .int .u64 (e).id, .int .i64 (e).ln, .int .u16 (e).a, .int .u16 (e).b, .int .u16 (e).c, .int .u16 (e).d] rfl rfl EI.out rfl (all_oneCell_toArray e.one) ?_) | (go_at_call 132; (with_reducible refine (KL.out _ (HA.out _).cc (HA.out _).cl).mono ?_); rintro ee w3 ⟨rfl, hb3⟩; have HM3 := Lib.hid ((HA.out _).below hb3); obtain ⟨hcc, hff⟩ := bcell hb3; have hsz := hb3.size; (try simp at hsz); have hF : (w3.cell? ⟨wr.heap.size, 0, none⟩ = some (.int .i64 e.op) ∧ w3.cell? ⟨wr.heap.size, 1, none⟩ = some (.bool e.inn) ∧ w3.cell? ⟨wr.heap.size, 2, none⟩ = some (.bool e.real) ∧ w3.cell? ⟨wr.heap.size, 3, none⟩ = some (.int .u64 e.tm) ∧ w3.cell? ⟨wr.heap.size, 4, none⟩ = some (.int .u64 e.dn) ∧ w3.cell? ⟨wr.heap.size, 5, none⟩ = some (.int .i64 e.cls) ∧ w3.cell? ⟨wr.heap.size, 6, none⟩ = some (.int .u64 e.id) ∧ w3.cell? ⟨wr.heap.size, 7, none⟩ = some (.int .i64 e.ln) ∧ w3.cell? ⟨wr.heap.size, 8, none⟩ = some (.int .u16 e.a) ∧ w3.cell? ⟨wr.heap.size, 9, none⟩ = some (.int .u16 e.b) ∧ w3.cell? ⟨wr.heap.size, 10, none⟩ = some (.int .u16 e.c) ∧ w3.cell? ⟨wr.heap.size, 11, none⟩ = some (.int .u16 e.d) ∧ wr.heap.size < w3.heap.size) := (by ((repeat' apply And.intro) <;> first | (simp [go_sem, *]; done) | omega | (repeat' (first | with_reducible exact Below.refl _ _ | with_reducible assumption | ((with_reducible refine Below.drew ?_)) | ((with_reducible refine below_drewN ?_ _)) | ((with_reducible refine Below.alloc ?_ ?_ _); rotate_left; focus (first | omega | (simp; done) | (simp; omega))) | ((with_reducible refine Below.setCell ?_ ?_ _); rotate_left; focus (first | omega | (simp; done) | (simp; omega))) | ((with_reducible refine Below.trans ?_ (Below.mono (by with_reducible assumption) ?_)); rotate_left; focus (first | omega | (simp; done) | (simp; omega))))))); go_split_ands; clear hcc hff hb3))
        go_roundw
        case rel => exact ⟨k + 1, by omega, by go_num, by rw [HS.out]; exact HM3.out⟩
        case measure => simp [intOf]; omega
      | true =>
        rw [hc] at kl
        rw [hc, if_pos rfl] at hsu
        have hk2 := hok hc
        have kc := fun z h => bur2_c e hwf w z x1 x2 x3 cx dx c s u1 u2 u3 hs hk2.1 hk2.2.1 hk2.2.2 h
        have KC := Lib.hid kc
        clear hk2
        have KL := Lib.hid kl
        have HS := Lib.hid hsu
        clear kl hsu he hM hB kc hc hok
        go_wp2_with (first | (refine wpList_load_mid rfl 213 _ rfl b (o + k * 12) rfl _ _ hr Try.underlying213 rfl EI.out ?_) | (refine wpList_store_new rfl 213 _ _ rfl _ #[.int .i64 (e).op, .bool (e).inn, .bool (e).real, .int .u64 (e).tm, .int .u64 (e).dn, .int .i64 (e).cls, .int .u64 (e).id, .int .i64 (e).ln, .int .u16 (e).a, .int .u16 (e).b, .int .u16 (e).c, .int .u16 (e).d] rfl rfl EI.out rfl (all_oneCell_toArray e.one) ?_) | (go_at_call 132; (with_reducible refine (KL.out _ (HA.out _).cc (HA.out _).cl).mono ?_); rintro ee w3 ⟨rfl, hb3⟩; have HM3 := Lib.hid ((HA.out _).below hb3); obtain ⟨hcc, hff⟩ := bcell hb3; have hsz := hb3.size; (try simp at hsz); have hF : (w3.cell? ⟨wr.heap.size, 0, none⟩ = some (.int .i64 e.op) ∧ w3.cell? ⟨wr.heap.size, 1, none⟩ = some (.bool e.inn) ∧ w3.cell? ⟨wr.heap.size, 2, none⟩ = some (.bool e.real) ∧ w3.cell? ⟨wr.heap.size, 3, none⟩ = some (.int .u64 e.tm) ∧ w3.cell? ⟨wr.heap.size, 4, none⟩ = some (.int .u64 e.dn) ∧ w3.cell? ⟨wr.heap.size, 5, none⟩ = some (.int .i64 e.cls) ∧ w3.cell? ⟨wr.heap.size, 6, none⟩ = some (.int .u64 e.id) ∧ w3.cell? ⟨wr.heap.size, 7, none⟩ = some (.int .i64 e.ln) ∧ w3.cell? ⟨wr.heap.size, 8, none⟩ = some (.int .u16 e.a) ∧ w3.cell? ⟨wr.heap.size, 9, none⟩ = some (.int .u16 e.b) ∧ w3.cell? ⟨wr.heap.size, 10, none⟩ = some (.int .u16 e.c) ∧ w3.cell? ⟨wr.heap.size, 11, none⟩ = some (.int .u16 e.d) ∧ wr.heap.size < w3.heap.size) := (by ((repeat' apply And.intro) <;> first | (simp [go_sem, *]; done) | omega | (repeat' (first | with_reducible exact Below.refl _ _ | with_reducible assumption | ((with_reducible refine Below.drew ?_)) | ((with_reducible refine below_drewN ?_ _)) | ((with_reducible refine Below.alloc ?_ ?_ _); rotate_left; focus (first | omega | (simp; done) | (simp; omega))) | ((with_reducible refine Below.setCell ?_ ?_ _); rotate_left; focus (first | omega | (simp; done) | (simp; omega))) | ((with_reducible refine Below.trans ?_ (Below.mono (by with_reducible assumption) ?_)); rotate_left; focus (first | omega | (simp; done) | (simp; omega))))))); go_split_ands; clear hcc hff hb3) | (go_at_call 135; (with_reducible refine (KC.out _ HM3.out).mono ?_); rintro ee w4 ⟨rfl, hM4⟩; have HM4 := Lib.hid hM4; clear hM4))
        go_roundw
        case rel => exact ⟨k + 1, by omega, by go_num, by rw [HS.out]; exact HM4.out⟩
        case measure => simp [intOf]; omega
    · obtain rfl : k = es.length := by omega
      have HM := Lib.hid hM
      clear hM
      go_wp2
      refine bodyPost_end (v := .tuple #[]) (by simp [results, Try.results134]) rfl ?_
      refine ⟨rfl, ?_⟩
      have := HM.out
      rw [List.take_length] at this
      exact this
end Go.Proofs.Ytdahjhokcjfioaa
