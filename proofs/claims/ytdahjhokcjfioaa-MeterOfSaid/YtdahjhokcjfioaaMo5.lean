/- The reference's meter.Of of any events. -/
import Derived.Test.YtdahjhokcjfioaaMo4
namespace Go.Proofs.Ytdahjhokcjfioaa
set_option linter.unusedVariables false
set_option linter.unusedSimpArgs false
set_option maxRecDepth 100000
open Go.RowKit Fg Reg
attribute [local irreducible] Reg.wE TM

theorem hasm_c (zs : List Int) (a : Option Addr) (c : Nat) (x : Int) (hn : zs.length ≤ 4611686018427387904) (w : World) (hc : IntsV w a zs) :
    Calls Try.prog 128 #[.slice a zs.length c, .int .i64 x] w fun ee w' => ee = .returned (.bool (has zs x)) ∧ w = w' := by
  go_enter Try.func128, Try.ntmps128
  go_wp2_with fail
  go_loop [9] (fun i => ∃ k : Nat, k ≤ zs.length ∧ i = .int .i64 k ∧ has (zs.take k) x = false) (fun i => zs.length - (intOf i).toNat)
  case atStart => exact ⟨0, Nat.zero_le _, rfl, rfl⟩
  case round =>
    obtain ⟨k, hk, rfl, hno⟩ := hrel
    by_cases hlt : k < zs.length
    · obtain ⟨b, o, rfl, hb, hcell⟩ := hc k hlt
      have hs := has_succ zs x k hlt
      rw [hno, Bool.false_or] at hs
      by_cases he : zs[k] = x
      · have hy := Lib.hid (has_of hlt he)
        have he' : (zs[k] == x) = true := by simp [he]
        clear hc hs hno he
        go_wp2
        go_ret
        exact ⟨by rw [hy.out]; rfl, rfl⟩
      · have he' : (zs[k] == x) = false := by simp [he]
        have Hs := Lib.hid (show has (zs.take (k + 1)) x = false by rw [hs]; simp [he])
        clear hc hs hno he
        go_wp2
        go_round
        case rel => exact ⟨k + 1, by omega, by go_num, Hs.out⟩
        case measure => simp [intOf]; omega
    · obtain rfl : k = zs.length := by omega
      rw [List.take_length] at hno
      have HN := Lib.hid hno
      clear hc hno
      go_wp2
      go_ret
      exact ⟨by rw [HN.out]; rfl, rfl⟩


set_option maxHeartbeats 4000000 in
theorem rmof_c (es : List Ev) (ae : Option Addr) (ce : Nat) (zs : List Int) (az : Option Addr) (cz : Nat) (W : Int) (s : Nat) (h1 : 1 ≤ W) (h2 : W ≤ 4294967296) (hs : s ≤ 8) (hn : es.length ≤ 1000) (hz : zs.length ≤ 4611686018427387904)
    (hwf : ∀ k (h : k < es.length), es[k].wf3) (w : World) (hE : EvsV w ae es) (hZ : IntsV w az zs) :
    Calls Try.prog 69 #[.slice ae es.length ce, .slice az zs.length cz, .int .u64 W, .int .i64 s] w fun ee w' => ee = .returned (.tuple #[.int .u64 ((ofR W (2 ^ s) zs es).1), .int .i64 ((ofR W (2 ^ s) zs es).2)]) ∧ Below w.heap.size w w' := by
  have HE := Lib.hid hE
  have EI := Lib.hid ev_info
  have HZ := Lib.hid hZ
  have HW := Lib.hid hwf
  have HL := Lib.hid (lst_bd es hwf)
  clear hE hZ hwf
  go_enter Try.func69, Try.ntmps69
  go_wp2
  go_loopw [11, 21] (fun l i wr => ∃ (k : Nat) (a n b : Int), k ≤ es.length ∧ i = .int .i64 k ∧ orun W (2 ^ s) zs (es.take k) = (0, a, n, b) ∧ l = .int .u64 (lst (es.take k)) ∧ Inv a n b ∧ (wr.cell? ⟨w.heap.size, 0, none⟩ = some (.int .u64 (W)) ∧ wr.cell? ⟨w.heap.size, 1, none⟩ = some (.int .i64 (s)) ∧ wr.cell? ⟨w.heap.size, 2, none⟩ = some (.int .u64 (a)) ∧ wr.cell? ⟨w.heap.size, 3, none⟩ = some (.int .u64 (n)) ∧ wr.cell? ⟨w.heap.size, 4, none⟩ = some (.int .u64 (b)) ∧ wr.frozen? ⟨w.heap.size, 0, none⟩ = false ∧ wr.frozen? ⟨w.heap.size, 1, none⟩ = false ∧ wr.frozen? ⟨w.heap.size, 2, none⟩ = false ∧ wr.frozen? ⟨w.heap.size, 3, none⟩ = false ∧ wr.frozen? ⟨w.heap.size, 4, none⟩ = false ∧ w.heap.size < wr.heap.size) ∧ Below w.heap.size w wr) (fun _ i _ => es.length - (intOf i).toNat)
  case atStart => exact ⟨0, 0, 0, 0, Nat.zero_le _, rfl, rfl, rfl, by constructor <;> omega, by ((repeat' apply And.intro) <;> first | (simp [go_sem, *]; done) | omega | (repeat' (first | with_reducible exact Below.refl _ _ | with_reducible assumption | ((with_reducible refine Below.drew ?_)) | ((with_reducible refine below_drewN ?_ _)) | ((with_reducible refine Below.alloc ?_ ?_ _); rotate_left; focus (first | omega | (simp; done) | (simp; omega))) | ((with_reducible refine Below.setCell ?_ ?_ _); rotate_left; focus (first | omega | (simp; done) | (simp; omega))) | ((with_reducible refine Below.trans ?_ (Below.mono (by with_reducible assumption) ?_)); rotate_left; focus (first | omega | (simp; done) | (simp; omega)))))), (by repeat' (first | with_reducible exact Below.refl _ _ | with_reducible assumption | ((with_reducible refine Below.drew ?_)) | ((with_reducible refine below_drewN ?_ _)) | ((with_reducible refine Below.alloc ?_ ?_ _); rotate_left; focus (first | omega | (simp; done) | (simp; omega))) | ((with_reducible refine Below.setCell ?_ ?_ _); rotate_left; focus (first | omega | (simp; done) | (simp; omega))) | ((with_reducible refine Below.trans ?_ (Below.mono (by with_reducible assumption) ?_)); rotate_left; focus (first | omega | (simp; done) | (simp; omega)))))⟩
  case round =>
    obtain ⟨k, a, n, b0, hk, rfl, hO, rfl, hI, hR, hB⟩ := hrel
    go_split_ands
    have hbs := hB.size
    by_cases hlt : k < es.length
    · obtain ⟨b, o, rfl, hbl, hr⟩ := (HE.out.below hB) k hlt
      have hwf := HW.out k hlt
      have hsu := orun_succ W (2 ^ s) zs es k hlt
      have hls := lst_succ es k hlt
      have hst := orun_stuck W (2 ^ s) zs es (k + 1)
      rw [hO] at hsu
      obtain ⟨e, he⟩ : ∃ e, es[k] = e := ⟨_, rfl⟩
      rw [he] at hr hwf hsu hls
      have hosf : osf W (2 ^ s) zs (0, a, n, b0) e = ofst W (2 ^ s) zs a n b0 e := by unfold osf; rw [if_pos rfl]
      rw [hosf] at hsu
      have HA := Lib.hid (fun o : Obj => HZ.out.below (hB.trans (((Below.refl wr.heap.size wr).alloc (Nat.le_refl _) o).mono hbs)))
      have KN := Lib.hid (fun (z : World) (h : IntsV z az zs) => hasm_c zs az cz e.cls hz z h)
      have hne : ¬ w.heap.size = wr.heap.size := by omega
      obtain ⟨L, hLk⟩ : ∃ L, lst (es.take k) = L := ⟨_, rfl⟩
      rw [hLk] at *
      cases hc : ocnt zs e with
      | false =>
        have hof : ofst W (2 ^ s) zs a n b0 e = (0, a, n, b0) := by unfold ofst; rw [hc]; rfl
        rw [hof] at hsu
        have HS := Lib.hid (And.intro hsu (And.intro hls hI))
        cases hin : e.inn with
        | true =>
          clear hsu hls hst hosf hof hI hO hwf he hc hLk
          go_wp2_with (first | (refine wpList_load_mid rfl 213 _ rfl b (o + k * 12) rfl _ _ hr Try.underlying213 rfl EI.out ?_) | (refine wpList_store_new rfl 213 _ _ rfl _ #[.int .i64 (e).op, .bool (e).inn, .bool (e).real, .int .u64 (e).tm, .int .u64 (e).dn, .int .i64 (e).cls, .int .u64 (e).id, .int .i64 (e).ln, .int .u16 (e).a, .int .u16 (e).b, .int .u16 (e).c, .int .u16 (e).d] rfl rfl EI.out rfl (all_oneCell_toArray e.one) ?_) | (go_at_call 128; (with_reducible refine (KN.out _ (HA.out _)).mono ?_); rintro ee wz ⟨rfl, rfl⟩))
          go_roundw
          case rel => exact ⟨k + 1, a, n, b0, by omega, by go_num, HS.out.1, by rw [HS.out.2.1], HS.out.2.2, by ((repeat' apply And.intro) <;> first | (simp [go_sem, *]; done) | omega | (repeat' (first | with_reducible exact Below.refl _ _ | with_reducible assumption | ((with_reducible refine Below.drew ?_)) | ((with_reducible refine below_drewN ?_ _)) | ((with_reducible refine Below.alloc ?_ ?_ _); rotate_left; focus (first | omega | (simp; done) | (simp; omega))) | ((with_reducible refine Below.setCell ?_ ?_ _); rotate_left; focus (first | omega | (simp; done) | (simp; omega))) | ((with_reducible refine Below.trans ?_ (Below.mono (by with_reducible assumption) ?_)); rotate_left; focus (first | omega | (simp; done) | (simp; omega)))))), (by repeat' (first | with_reducible exact Below.refl _ _ | with_reducible assumption | ((with_reducible refine Below.drew ?_)) | ((with_reducible refine below_drewN ?_ _)) | ((with_reducible refine Below.alloc ?_ ?_ _); rotate_left; focus (first | omega | (simp; done) | (simp; omega))) | ((with_reducible refine Below.setCell ?_ ?_ _); rotate_left; focus (first | omega | (simp; done) | (simp; omega))) | ((with_reducible refine Below.trans ?_ (Below.mono (by with_reducible assumption) ?_)); rotate_left; focus (first | omega | (simp; done) | (simp; omega)))))⟩
          case measure => simp [intOf]; omega
        | false =>
          have hh : has zs e.cls = false := by unfold ocnt at hc; rw [hin] at hc; simpa using hc
          rw [hh] at KN
          clear hsu hls hst hosf hof hI hO hwf he hc hLk hh
          go_wp2_with (first | (refine wpList_load_mid rfl 213 _ rfl b (o + k * 12) rfl _ _ hr Try.underlying213 rfl EI.out ?_) | (refine wpList_store_new rfl 213 _ _ rfl _ #[.int .i64 (e).op, .bool (e).inn, .bool (e).real, .int .u64 (e).tm, .int .u64 (e).dn, .int .i64 (e).cls, .int .u64 (e).id, .int .i64 (e).ln, .int .u16 (e).a, .int .u16 (e).b, .int .u16 (e).c, .int .u16 (e).d] rfl rfl EI.out rfl (all_oneCell_toArray e.one) ?_) | (go_at_call 128; (with_reducible refine (KN.out _ (HA.out _)).mono ?_); rintro ee wz ⟨rfl, rfl⟩))
          go_roundw
          case rel => exact ⟨k + 1, a, n, b0, by omega, by go_num, HS.out.1, by rw [HS.out.2.1], HS.out.2.2, by ((repeat' apply And.intro) <;> first | (simp [go_sem, *]; done) | omega | (repeat' (first | with_reducible exact Below.refl _ _ | with_reducible assumption | ((with_reducible refine Below.drew ?_)) | ((with_reducible refine below_drewN ?_ _)) | ((with_reducible refine Below.alloc ?_ ?_ _); rotate_left; focus (first | omega | (simp; done) | (simp; omega))) | ((with_reducible refine Below.setCell ?_ ?_ _); rotate_left; focus (first | omega | (simp; done) | (simp; omega))) | ((with_reducible refine Below.trans ?_ (Below.mono (by with_reducible assumption) ?_)); rotate_left; focus (first | omega | (simp; done) | (simp; omega)))))), (by repeat' (first | with_reducible exact Below.refl _ _ | with_reducible assumption | ((with_reducible refine Below.drew ?_)) | ((with_reducible refine below_drewN ?_ _)) | ((with_reducible refine Below.alloc ?_ ?_ _); rotate_left; focus (first | omega | (simp; done) | (simp; omega))) | ((with_reducible refine Below.setCell ?_ ?_ _); rotate_left; focus (first | omega | (simp; done) | (simp; omega))) | ((with_reducible refine Below.trans ?_ (Below.mono (by with_reducible assumption) ?_)); rotate_left; focus (first | omega | (simp; done) | (simp; omega)))))⟩
          case measure => simp [intOf]; omega
      | true =>
        have hof : ofst W (2 ^ s) zs a n b0 e = adds W (2 ^ s) a n b0 e.tm e.ln := by unfold ofst; rw [hc]; rfl
        have hI2 := inv_adds (W := W) (t := e.tm) (m := e.ln) (s := s) hI
        rw [hof] at hsu
        have hin : e.inn = false := by unfold ocnt at hc; cases h : e.inn; rfl; rw [h] at hc; cases hc
        have hh : has zs e.cls = true := by unfold ocnt at hc; rw [hin] at hc; simpa using hc
        rw [hh] at KN
        have kr := fun w => radd_c W a n b0 e.tm e.ln s (by omega) hs hI hwf.tm0 hwf.tm1 hwf.ln1 w
        obtain ⟨E', A', N', B', hof2⟩ : ∃ E' A' N' B', adds W (2 ^ s) a n b0 e.tm e.ln = (E', A', N', B') := ⟨_, _, _, _, rfl⟩
        rw [hof2] at hsu hI2 kr
        dsimp only at hI2 kr
        have KR := Lib.hid kr
        by_cases hE0 : E' = 0
        · subst hE0
          have HS := Lib.hid (And.intro hsu (And.intro hls hI2))
          clear hsu hls hst hosf hof hof2 hI hI2 hO hwf he hc hLk hh kr
          go_wp2_with (first | (refine wpList_load_mid rfl 213 _ rfl b (o + k * 12) rfl _ _ hr Try.underlying213 rfl EI.out ?_) | (refine wpList_store_new rfl 213 _ _ rfl _ #[.int .i64 (e).op, .bool (e).inn, .bool (e).real, .int .u64 (e).tm, .int .u64 (e).dn, .int .i64 (e).cls, .int .u64 (e).id, .int .i64 (e).ln, .int .u16 (e).a, .int .u16 (e).b, .int .u16 (e).c, .int .u16 (e).d] rfl rfl EI.out rfl (all_oneCell_toArray e.one) ?_) | (go_at_call 128; (with_reducible refine (KN.out _ (HA.out _)).mono ?_); rintro ee wz ⟨rfl, rfl⟩))
          go_wp2_with ((go_at_call 129; ((with_reducible refine (KR.out _).mono ?_); rintro e w4 ⟨rfl, hbel⟩; obtain ⟨hcc, hff⟩ := bcell hbel; have hsz := hbel.size; (try simp at hsz); have hF : (w4.cell? ⟨w.heap.size, 0, none⟩ = some (.int .u64 (W)) ∧ w4.cell? ⟨w.heap.size, 1, none⟩ = some (.int .i64 (s)) ∧ w4.cell? ⟨w.heap.size, 2, none⟩ = some (.int .u64 (a)) ∧ w4.cell? ⟨w.heap.size, 3, none⟩ = some (.int .u64 (n)) ∧ w4.cell? ⟨w.heap.size, 4, none⟩ = some (.int .u64 (b0)) ∧ w4.frozen? ⟨w.heap.size, 0, none⟩ = false ∧ w4.frozen? ⟨w.heap.size, 1, none⟩ = false ∧ w4.frozen? ⟨w.heap.size, 2, none⟩ = false ∧ w4.frozen? ⟨w.heap.size, 3, none⟩ = false ∧ w4.frozen? ⟨w.heap.size, 4, none⟩ = false ∧ w.heap.size < w4.heap.size) ∧ w.heap.size < w4.heap.size ∧ Below w.heap.size w w4 := (by ((repeat' apply And.intro) <;> first | (simp [go_sem, *]; done) | omega | (repeat' (first | with_reducible exact Below.refl _ _ | with_reducible assumption | ((with_reducible refine Below.drew ?_)) | ((with_reducible refine below_drewN ?_ _)) | ((with_reducible refine Below.alloc ?_ ?_ _); rotate_left; focus (first | omega | (simp; done) | (simp; omega))) | ((with_reducible refine Below.setCell ?_ ?_ _); rotate_left; focus (first | omega | (simp; done) | (simp; omega))) | ((with_reducible refine Below.trans ?_ (Below.mono (by with_reducible assumption) ?_)); rotate_left; focus (first | omega | (simp; done) | (simp; omega))))))); go_split_ands; clear hcc hff hbel)))
          go_roundw
          case rel => exact ⟨k + 1, A', N', B', by omega, by go_num, HS.out.1, by rw [HS.out.2.1], HS.out.2.2, by ((repeat' apply And.intro) <;> first | (simp [go_sem, *]; done) | omega | (repeat' (first | with_reducible exact Below.refl _ _ | with_reducible assumption | ((with_reducible refine Below.drew ?_)) | ((with_reducible refine below_drewN ?_ _)) | ((with_reducible refine Below.alloc ?_ ?_ _); rotate_left; focus (first | omega | (simp; done) | (simp; omega))) | ((with_reducible refine Below.setCell ?_ ?_ _); rotate_left; focus (first | omega | (simp; done) | (simp; omega))) | ((with_reducible refine Below.trans ?_ (Below.mono (by with_reducible assumption) ?_)); rotate_left; focus (first | omega | (simp; done) | (simp; omega)))))), (by repeat' (first | with_reducible exact Below.refl _ _ | with_reducible assumption | ((with_reducible refine Below.drew ?_)) | ((with_reducible refine below_drewN ?_ _)) | ((with_reducible refine Below.alloc ?_ ?_ _); rotate_left; focus (first | omega | (simp; done) | (simp; omega))) | ((with_reducible refine Below.setCell ?_ ?_ _); rotate_left; focus (first | omega | (simp; done) | (simp; omega))) | ((with_reducible refine Below.trans ?_ (Below.mono (by with_reducible assumption) ?_)); rotate_left; focus (first | omega | (simp; done) | (simp; omega)))))⟩
          case measure => simp [intOf]; omega
        · have hnz : (E' == 0) = false := by simpa using hE0
          have HS := Lib.hid (show ofR W (2 ^ s) zs es = (0, E') by
            have := hst (by rw [hsu]; exact hE0)
            unfold ofR
            rw [this, hsu, if_neg hE0])
          clear hsu hls hst hosf hof hof2 hI hI2 hO hwf he hc hLk hh kr
          go_wp2_with (first | (refine wpList_load_mid rfl 213 _ rfl b (o + k * 12) rfl _ _ hr Try.underlying213 rfl EI.out ?_) | (refine wpList_store_new rfl 213 _ _ rfl _ #[.int .i64 (e).op, .bool (e).inn, .bool (e).real, .int .u64 (e).tm, .int .u64 (e).dn, .int .i64 (e).cls, .int .u64 (e).id, .int .i64 (e).ln, .int .u16 (e).a, .int .u16 (e).b, .int .u16 (e).c, .int .u16 (e).d] rfl rfl EI.out rfl (all_oneCell_toArray e.one) ?_) | (go_at_call 128; (with_reducible refine (KN.out _ (HA.out _)).mono ?_); rintro ee wz ⟨rfl, rfl⟩))
          go_wp2_with ((go_at_call 129; ((with_reducible refine (KR.out _).mono ?_); rintro e w4 ⟨rfl, hbel⟩; obtain ⟨hcc, hff⟩ := bcell hbel; have hsz := hbel.size; (try simp at hsz); have hF : (w4.cell? ⟨w.heap.size, 0, none⟩ = some (.int .u64 (W)) ∧ w4.cell? ⟨w.heap.size, 1, none⟩ = some (.int .i64 (s)) ∧ w4.cell? ⟨w.heap.size, 2, none⟩ = some (.int .u64 (a)) ∧ w4.cell? ⟨w.heap.size, 3, none⟩ = some (.int .u64 (n)) ∧ w4.cell? ⟨w.heap.size, 4, none⟩ = some (.int .u64 (b0)) ∧ w4.frozen? ⟨w.heap.size, 0, none⟩ = false ∧ w4.frozen? ⟨w.heap.size, 1, none⟩ = false ∧ w4.frozen? ⟨w.heap.size, 2, none⟩ = false ∧ w4.frozen? ⟨w.heap.size, 3, none⟩ = false ∧ w4.frozen? ⟨w.heap.size, 4, none⟩ = false ∧ w.heap.size < w4.heap.size) ∧ w.heap.size < w4.heap.size ∧ Below w.heap.size w w4 := (by ((repeat' apply And.intro) <;> first | (simp [go_sem, *]; done) | omega | (repeat' (first | with_reducible exact Below.refl _ _ | with_reducible assumption | ((with_reducible refine Below.drew ?_)) | ((with_reducible refine below_drewN ?_ _)) | ((with_reducible refine Below.alloc ?_ ?_ _); rotate_left; focus (first | omega | (simp; done) | (simp; omega))) | ((with_reducible refine Below.setCell ?_ ?_ _); rotate_left; focus (first | omega | (simp; done) | (simp; omega))) | ((with_reducible refine Below.trans ?_ (Below.mono (by with_reducible assumption) ?_)); rotate_left; focus (first | omega | (simp; done) | (simp; omega))))))); go_split_ands; clear hcc hff hbel)))
          go_ret2
          exact ⟨by rw [HS.out]; rfl, (by repeat' (first | with_reducible exact Below.refl _ _ | with_reducible assumption | ((with_reducible refine Below.drew ?_)) | ((with_reducible refine below_drewN ?_ _)) | ((with_reducible refine Below.alloc ?_ ?_ _); rotate_left; focus (first | omega | (simp; done) | (simp; omega))) | ((with_reducible refine Below.setCell ?_ ?_ _); rotate_left; focus (first | omega | (simp; done) | (simp; omega))) | ((with_reducible refine Below.trans ?_ (Below.mono (by with_reducible assumption) ?_)); rotate_left; focus (first | omega | (simp; done) | (simp; omega)))))⟩
    · obtain rfl : k = es.length := by omega
      rw [List.take_length] at hO ⊢
      obtain ⟨L, hLk⟩ : ∃ L, lst es = L := ⟨_, rfl⟩
      have hL := HL.out
      rw [hLk] at hL ⊢
      have kb := fun w => bad_c W s a n b0 L (by omega) hL.1 hL.2 w
      have hofr : ofR W (2 ^ s) zs es = ((avgs W (2 ^ s) a n b0 L).1, (avgs W (2 ^ s) a n b0 L).2.1) := by unfold ofR; rw [hO, if_pos rfl, hLk]
      cases hm : mayb W n L with
      | false =>
        have HS := Lib.hid (show ofR W (2 ^ s) zs es = (0, 27) by rw [hofr]; unfold avgs; rw [if_pos hm])
        rw [hm] at kb
        have KB := Lib.hid kb
        clear kb hofr hm hO hI hLk
        go_wp2_with (go_at_call 130; ((with_reducible refine (KB.out _).mono ?_); rintro e w4 ⟨rfl, hbel⟩; obtain ⟨hcc, hff⟩ := bcell hbel; have hsz := hbel.size; (try simp at hsz); have hF : Below w.heap.size w w4 := (by ((repeat' apply And.intro) <;> first | (simp [go_sem, *]; done) | omega | (repeat' (first | with_reducible exact Below.refl _ _ | with_reducible assumption | ((with_reducible refine Below.drew ?_)) | ((with_reducible refine below_drewN ?_ _)) | ((with_reducible refine Below.alloc ?_ ?_ _); rotate_left; focus (first | omega | (simp; done) | (simp; omega))) | ((with_reducible refine Below.setCell ?_ ?_ _); rotate_left; focus (first | omega | (simp; done) | (simp; omega))) | ((with_reducible refine Below.trans ?_ (Below.mono (by with_reducible assumption) ?_)); rotate_left; focus (first | omega | (simp; done) | (simp; omega))))))); go_split_ands; clear hcc hff hbel))
        go_ret2
        exact ⟨by rw [HS.out]; rfl, (by repeat' (first | with_reducible exact Below.refl _ _ | with_reducible assumption | ((with_reducible refine Below.drew ?_)) | ((with_reducible refine below_drewN ?_ _)) | ((with_reducible refine Below.alloc ?_ ?_ _); rotate_left; focus (first | omega | (simp; done) | (simp; omega))) | ((with_reducible refine Below.setCell ?_ ?_ _); rotate_left; focus (first | omega | (simp; done) | (simp; omega))) | ((with_reducible refine Below.trans ?_ (Below.mono (by with_reducible assumption) ?_)); rotate_left; focus (first | omega | (simp; done) | (simp; omega)))))⟩
      | true =>
        have HS := Lib.hid (show ofR W (2 ^ s) zs es = (mrun (2 ^ s) (L / W - n).toNat a b0, 0) by rw [hofr]; unfold avgs; rw [if_neg (by simp [hm])])
        rw [hm] at kb
        have KB := Lib.hid kb
        have kt := fun w => turn_c W a n b0 L s (by omega) hs hI hL.1 hm w
        generalize mrun (2 ^ s) (L / W - n).toNat a b0 = A at *
        generalize mby (L / W - n).toNat b0 = B at *
        generalize L / W = N at *
        have hfld : ∀ z, (Instr.field 232 (.agg #[.int .u64 W, .int .i64 s, .int .u64 A, .int .u64 N, .int .u64 B]) 2).run Try.prog z = .ok (.int .u64 A) z := fun z => by kernel_rfl
        have KT := Lib.hid kt
        clear kb hofr hm hO hI hLk kt
        go_wp2_with (first | (go_at_call 130; ((with_reducible refine (KB.out _).mono ?_); rintro e w4 ⟨rfl, hbel⟩; obtain ⟨hcc, hff⟩ := bcell hbel; have hsz := hbel.size; (try simp at hsz); have hF : (w4.cell? ⟨w.heap.size, 0, none⟩ = some (.int .u64 (W)) ∧ w4.cell? ⟨w.heap.size, 1, none⟩ = some (.int .i64 (s)) ∧ w4.cell? ⟨w.heap.size, 2, none⟩ = some (.int .u64 (a)) ∧ w4.cell? ⟨w.heap.size, 3, none⟩ = some (.int .u64 (n)) ∧ w4.cell? ⟨w.heap.size, 4, none⟩ = some (.int .u64 (b0)) ∧ w4.frozen? ⟨w.heap.size, 0, none⟩ = false ∧ w4.frozen? ⟨w.heap.size, 1, none⟩ = false ∧ w4.frozen? ⟨w.heap.size, 2, none⟩ = false ∧ w4.frozen? ⟨w.heap.size, 3, none⟩ = false ∧ w4.frozen? ⟨w.heap.size, 4, none⟩ = false ∧ w.heap.size < w4.heap.size) ∧ Below w.heap.size w w4 := (by ((repeat' apply And.intro) <;> first | (simp [go_sem, *]; done) | omega | (repeat' (first | with_reducible exact Below.refl _ _ | with_reducible assumption | ((with_reducible refine Below.drew ?_)) | ((with_reducible refine below_drewN ?_ _)) | ((with_reducible refine Below.alloc ?_ ?_ _); rotate_left; focus (first | omega | (simp; done) | (simp; omega))) | ((with_reducible refine Below.setCell ?_ ?_ _); rotate_left; focus (first | omega | (simp; done) | (simp; omega))) | ((with_reducible refine Below.trans ?_ (Below.mono (by with_reducible assumption) ?_)); rotate_left; focus (first | omega | (simp; done) | (simp; omega))))))); go_split_ands; clear hcc hff hbel)) | (go_at_call 131; ((with_reducible refine (KT.out _).mono ?_); rintro e w5 ⟨rfl, hbel⟩; obtain ⟨hcc, hff⟩ := bcell hbel; have hsz := hbel.size; (try simp at hsz); have hF : Below w.heap.size w w5 := (by ((repeat' apply And.intro) <;> first | (simp [go_sem, *]; done) | omega | (repeat' (first | with_reducible exact Below.refl _ _ | with_reducible assumption | ((with_reducible refine Below.drew ?_)) | ((with_reducible refine below_drewN ?_ _)) | ((with_reducible refine Below.alloc ?_ ?_ _); rotate_left; focus (first | omega | (simp; done) | (simp; omega))) | ((with_reducible refine Below.setCell ?_ ?_ _); rotate_left; focus (first | omega | (simp; done) | (simp; omega))) | ((with_reducible refine Below.trans ?_ (Below.mono (by with_reducible assumption) ?_)); rotate_left; focus (first | omega | (simp; done) | (simp; omega))))))); go_split_ands; clear hcc hff hbel)))
        go_ret2
        exact ⟨by rw [HS.out]; rfl, (by repeat' (first | with_reducible exact Below.refl _ _ | with_reducible assumption | ((with_reducible refine Below.drew ?_)) | ((with_reducible refine below_drewN ?_ _)) | ((with_reducible refine Below.alloc ?_ ?_ _); rotate_left; focus (first | omega | (simp; done) | (simp; omega))) | ((with_reducible refine Below.setCell ?_ ?_ _); rotate_left; focus (first | omega | (simp; done) | (simp; omega))) | ((with_reducible refine Below.trans ?_ (Below.mono (by with_reducible assumption) ?_)); rotate_left; focus (first | omega | (simp; done) | (simp; omega)))))⟩
end Go.Proofs.Ytdahjhokcjfioaa
