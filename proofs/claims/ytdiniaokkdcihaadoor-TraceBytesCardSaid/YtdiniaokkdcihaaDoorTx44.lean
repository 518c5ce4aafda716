/- The reference's Bytes. -/
import Derived.Test.YtdiniaokkdcihaaDoorTx32
namespace Go.Proofs.YtdiniaokkdcihaaDoor
set_option linter.unusedVariables false
set_option linter.unusedSimpArgs false
set_option maxRecDepth 100000
open Go.RowKit Fg Reg
attribute [local irreducible] Reg.wE

theorem rhas_c (zs : List Int) (a : Option Addr) (c : Nat) (x : Int) (hn : zs.length ≤ 4611686018427387904) (w : World) (hc : IntsV w a zs) :
    Calls Tryd.prog 62 #[.slice a zs.length c, .int .i64 x] w fun ee w' => ee = .returned (.bool (has zs x)) ∧ w = w' := by
  go_enter Tryd.func62, Tryd.ntmps62
  go_wp2_with fail
  go_loop [9] (fun i => ∃ k : Nat, k ≤ zs.length ∧ i = .int .i64 k ∧ has (zs.take k) x = false) (fun i => zs.length - (intOf i).toNat)
  case atStart => exact ⟨0, Nat.zero_le _, rfl, rfl⟩
  case round =>
    obtain ⟨k, hk, rfl, hno⟩ := hrel
    by_cases hlt : k < zs.length
    · obtain ⟨b, o, rfl, hb, hcell⟩ := hc k hlt
      have hs := has_succ zs x k hlt
      rw [hno, Bool.false_or] at hs
      by_cases he : zs[k] = x
      · have hy := Lib.hid (has_of hlt he)
        have he' : (zs[k] == x) = true := by simp [he]
        obtain ⟨y, hyy⟩ : ∃ y, zs[k] = y := ⟨_, rfl⟩
        rw [hyy] at hcell he'
        clear hc hs hno he hyy
        go_wp2
        go_ret
        exact ⟨by rw [hy.out]; rfl, rfl⟩
      · have he' : (zs[k] == x) = false := by simp; exact he
        have Hs := Lib.hid (show has (zs.take (k + 1)) x = false by rw [hs]; simp [he])
        obtain ⟨y, hyy⟩ : ∃ y, zs[k] = y := ⟨_, rfl⟩
        rw [hyy] at hcell he'
        clear hc hs hno he hyy
        go_wp2
        go_round
        case rel => exact ⟨k + 1, by omega, by go_num, Hs.out⟩
        case measure => simp [intOf]; omega
    · obtain rfl : k = zs.length := by omega
      rw [List.take_length] at hno
      have HN := Lib.hid hno
      clear hc hno
      go_wp2
      go_ret
      exact ⟨by rw [HN.out]; rfl, rfl⟩
theorem tadd_rng (p : Ev → Bool) (zs : List Int) (s : Int) (e : Ev) (h : 0 ≤ s ∧ s < 18446744073709551616) : 0 ≤ tadd p zs s e ∧ tadd p zs s e < 18446744073709551616 := by
  unfold tadd
  split
  · rw [wrap_u64]; omega
  · exact h
theorem tot_rng (p : Ev → Bool) (zs : List Int) (es : List Ev) (k : Nat) (hk : k ≤ es.length) : 0 ≤ tot p zs (es.take k) ∧ tot p zs (es.take k) < 18446744073709551616 := by
  induction k with
  | zero =>
    rw [List.take_zero]
    exact ⟨Int.le_refl 0, by show (0 : Int) < _; decide⟩
  | succ k ih => rw [tot_succ p zs es k (by omega)]; exact tadd_rng _ _ _ _ (ih (by omega))
theorem tadd_neg (p : Ev → Bool) (zs : List Int) (s : Int) (e : Ev) (h : 0 ≤ s ∧ s < 18446744073709551616) (hl : e.ln < 0) : tadd p zs s e = s := by
  unfold tadd
  rw [if_pos (by omega : 0 > e.ln)]
  split
  · rw [wrap_u64, wrap_u64]; omega
  · rfl
set_option maxHeartbeats 4000000 in
theorem rbycam_c (es : List Ev) (ae : Option Addr) (ce : Nat) (zs : List Int) (az : Option Addr) (cz : Nat) (fr tt : Int) (hn : es.length ≤ 4611686018427387904) (hz : zs.length ≤ 4611686018427387904) (w : World) (hE : EvsV w ae es) (hZ : IntsV w az zs) :
    Calls Tryd.prog 19 #[.slice ae es.length ce, .int .i64 0, .slice az zs.length cz, .int .u64 fr, .int .u64 tt] w fun ee w' => ee = .returned (.int .u64 (tot (pcam fr tt) zs es)) ∧ Below w.heap.size w w' := by
  have HE := Lib.hid hE
  have HZ := Lib.hid hZ
  have EI := Lib.hid ev_info
  clear hE hZ
  go_enter Tryd.func19, Tryd.ntmps19
  go_wp2
  go_loopw [11, 16] (fun s i wr => ∃ k : Nat, k ≤ es.length ∧ i = .int .i64 k ∧ s = .int .u64 (tot (pcam fr tt) zs (es.take k)) ∧ Below w.heap.size w wr) (fun _ i _ => es.length - (intOf i).toNat)
  case atStart => exact ⟨0, Nat.zero_le _, rfl, rfl, Below.refl _ _⟩
  case round =>
    obtain ⟨k, hk, rfl, rfl, hB⟩ := hrel
    by_cases hlt : k < es.length
    · obtain ⟨b, o, rfl, hbl, hr⟩ := (HE.out.below hB) k hlt
      have hsucc := tot_succ (pcam fr tt) zs es k hlt
      have hrng := tot_rng (pcam fr tt) zs es k hk
      have HS := Lib.hid hsucc
      clear hsucc
      obtain ⟨e, he⟩ : ∃ e, es[k] = e := ⟨_, rfl⟩
      rw [he] at HS hr
      have hBs := hB.size
      have HA := Lib.hid (fun o : Obj => HZ.out.below (hB.trans ((below_alloc' wr o).mono hBs)))
      obtain ⟨S, hS⟩ : ∃ S, tot (pcam fr tt) zs (es.take k) = S := ⟨_, rfl⟩
      rw [hS] at HS hrng ⊢
      clear he hS
      have KN := Lib.hid (fun (z : World) (h : IntsV z az zs) => rhas_c zs az cz e.cls hz z h)
      by_cases hi : e.inn = false
      · have hadd : tadd (pcam fr tt) zs S e = S := by unfold tadd pcam; simp [hi]
        rw [hadd] at HS
        clear hadd hrng
        go_wp2_with (first | (refine wpList_load_mid rfl 38 _ rfl b (o + k * 12) rfl _ _ hr Tryd.underlying38 rfl EI.out ?_) | (refine wpList_store_new rfl 38 _ _ rfl _ #[.int .i64 (e).op, .bool (e).inn, .bool (e).real, .int .u64 (e).tm, .int .u64 (e).dn, .int .i64 (e).cls, .int .u64 (e).id, .int .i64 (e).ln, .int .u16 (e).a, .int .u16 (e).b, .int .u16 (e).c, .int .u16 (e).d] rfl rfl EI.out rfl (all_oneCell_toArray e.one) ?_) | (go_at_call 62; (with_reducible refine (KN.out _ (HA.out _)).mono ?_); rintro ee wz ⟨rfl, rfl⟩))
        go_roundw
        case rel => exact ⟨k + 1, by omega, by go_num, by rw [HS.out], (by repeat' (first | with_reducible exact Below.refl _ _ | with_reducible assumption | ((with_reducible refine Below.drew ?_)) | ((with_reducible refine below_drewN ?_ _)) | ((with_reducible refine Below.alloc ?_ ?_ _); rotate_left; focus (first | omega | (simp; done) | (simp; omega))) | ((with_reducible refine Below.setCell ?_ ?_ _); rotate_left; focus (first | omega | (simp; done) | (simp; omega))) | ((with_reducible refine Below.trans ?_ (Below.mono (by with_reducible assumption) ?_)); rotate_left; focus (first | omega | (simp; done) | (simp; omega)))))⟩
        case measure => simp [intOf]; omega
      have hi : e.inn = true := by cases h : e.inn <;> simp_all
      cases hh : has zs e.cls with
      | false =>
        have hadd : tadd (pcam fr tt) zs S e = S := by unfold tadd; simp [hh]
        rw [hadd] at HS
        rw [hh] at KN
        clear hadd hrng hh
        go_wp2_with (first | (refine wpList_load_mid rfl 38 _ rfl b (o + k * 12) rfl _ _ hr Tryd.underlying38 rfl EI.out ?_) | (refine wpList_store_new rfl 38 _ _ rfl _ #[.int .i64 (e).op, .bool (e).inn, .bool (e).real, .int .u64 (e).tm, .int .u64 (e).dn, .int .i64 (e).cls, .int .u64 (e).id, .int .i64 (e).ln, .int .u16 (e).a, .int .u16 (e).b, .int .u16 (e).c, .int .u16 (e).d] rfl rfl EI.out rfl (all_oneCell_toArray e.one) ?_) | (go_at_call 62; (with_reducible refine (KN.out _ (HA.out _)).mono ?_); rintro ee wz ⟨rfl, rfl⟩))
        go_roundw
        case rel => exact ⟨k + 1, by omega, by go_num, by rw [HS.out], (by repeat' (first | with_reducible exact Below.refl _ _ | with_reducible assumption | ((with_reducible refine Below.drew ?_)) | ((with_reducible refine below_drewN ?_ _)) | ((with_reducible refine Below.alloc ?_ ?_ _); rotate_left; focus (first | omega | (simp; done) | (simp; omega))) | ((with_reducible refine Below.setCell ?_ ?_ _); rotate_left; focus (first | omega | (simp; done) | (simp; omega))) | ((with_reducible refine Below.trans ?_ (Below.mono (by with_reducible assumption) ?_)); rotate_left; focus (first | omega | (simp; done) | (simp; omega)))))⟩
        case measure => simp [intOf]; omega
      | true =>
        by_cases hl : e.ln < 0
        · have hadd : tadd (pcam fr tt) zs S e = S := tadd_neg _ _ _ _ hrng hl
          have d1 : decide (e.ln < 0) = true := by simpa using hl
          rw [hadd] at HS
          rw [hh] at KN
          clear hadd hrng hl hh
          go_wp2_with (first | (refine wpList_load_mid rfl 38 _ rfl b (o + k * 12) rfl _ _ hr Tryd.underlying38 rfl EI.out ?_) | (refine wpList_store_new rfl 38 _ _ rfl _ #[.int .i64 (e).op, .bool (e).inn, .bool (e).real, .int .u64 (e).tm, .int .u64 (e).dn, .int .i64 (e).cls, .int .u64 (e).id, .int .i64 (e).ln, .int .u16 (e).a, .int .u16 (e).b, .int .u16 (e).c, .int .u16 (e).d] rfl rfl EI.out rfl (all_oneCell_toArray e.one) ?_) | (go_at_call 62; (with_reducible refine (KN.out _ (HA.out _)).mono ?_); rintro ee wz ⟨rfl, rfl⟩))
          go_roundw
          case rel => exact ⟨k + 1, by omega, by go_num, by rw [HS.out], (by repeat' (first | with_reducible exact Below.refl _ _ | with_reducible assumption | ((with_reducible refine Below.drew ?_)) | ((with_reducible refine below_drewN ?_ _)) | ((with_reducible refine Below.alloc ?_ ?_ _); rotate_left; focus (first | omega | (simp; done) | (simp; omega))) | ((with_reducible refine Below.setCell ?_ ?_ _); rotate_left; focus (first | omega | (simp; done) | (simp; omega))) | ((with_reducible refine Below.trans ?_ (Below.mono (by with_reducible assumption) ?_)); rotate_left; focus (first | omega | (simp; done) | (simp; omega)))))⟩
          case measure => simp [intOf]; omega
        have d1 : decide (e.ln < 0) = false := by simpa using hl
        by_cases hlo : fr ≤ e.tm
        · have d2 : decide (fr ≤ e.tm) = true := by simpa using hlo
          by_cases hup : e.tm ≤ tt
          · have d3 : decide (e.tm ≤ tt) = true := by simpa using hup
            have hadd : tadd (pcam fr tt) zs S e = IntKind.u64.wrap (S + IntKind.u64.wrap e.ln) := by
              unfold tadd
              rw [if_pos (by unfold pcam; simp [hi, hh, hlo, hup]), if_neg (by omega : ¬ 0 > e.ln)]
            rw [hadd] at HS
            rw [hh] at KN
            clear hadd hrng hlo hup hl hh
            go_wp2_with (first | (refine wpList_load_mid rfl 38 _ rfl b (o + k * 12) rfl _ _ hr Tryd.underlying38 rfl EI.out ?_) | (refine wpList_store_new rfl 38 _ _ rfl _ #[.int .i64 (e).op, .bool (e).inn, .bool (e).real, .int .u64 (e).tm, .int .u64 (e).dn, .int .i64 (e).cls, .int .u64 (e).id, .int .i64 (e).ln, .int .u16 (e).a, .int .u16 (e).b, .int .u16 (e).c, .int .u16 (e).d] rfl rfl EI.out rfl (all_oneCell_toArray e.one) ?_) | (go_at_call 62; (with_reducible refine (KN.out _ (HA.out _)).mono ?_); rintro ee wz ⟨rfl, rfl⟩))
            go_roundw
            case rel => exact ⟨k + 1, by omega, by go_num, by rw [HS.out], (by repeat' (first | with_reducible exact Below.refl _ _ | with_reducible assumption | ((with_reducible refine Below.drew ?_)) | ((with_reducible refine below_drewN ?_ _)) | ((with_reducible refine Below.alloc ?_ ?_ _); rotate_left; focus (first | omega | (simp; done) | (simp; omega))) | ((with_reducible refine Below.setCell ?_ ?_ _); rotate_left; focus (first | omega | (simp; done) | (simp; omega))) | ((with_reducible refine Below.trans ?_ (Below.mono (by with_reducible assumption) ?_)); rotate_left; focus (first | omega | (simp; done) | (simp; omega)))))⟩
            case measure => simp [intOf]; omega
          · have d3 : decide (e.tm ≤ tt) = false := by simpa using hup
            have hadd : tadd (pcam fr tt) zs S e = S := by unfold tadd pcam; simp [hup]
            rw [hadd] at HS
            rw [hh] at KN
            clear hadd hrng hlo hup hl hh
            go_wp2_with (first | (refine wpList_load_mid rfl 38 _ rfl b (o + k * 12) rfl _ _ hr Tryd.underlying38 rfl EI.out ?_) | (refine wpList_store_new rfl 38 _ _ rfl _ #[.int .i64 (e).op, .bool (e).inn, .bool (e).real, .int .u64 (e).tm, .int .u64 (e).dn, .int .i64 (e).cls, .int .u64 (e).id, .int .i64 (e).ln, .int .u16 (e).a, .int .u16 (e).b, .int .u16 (e).c, .int .u16 (e).d] rfl rfl EI.out rfl (all_oneCell_toArray e.one) ?_) | (go_at_call 62; (with_reducible refine (KN.out _ (HA.out _)).mono ?_); rintro ee wz ⟨rfl, rfl⟩))
            go_roundw
            case rel => exact ⟨k + 1, by omega, by go_num, by rw [HS.out], (by repeat' (first | with_reducible exact Below.refl _ _ | with_reducible assumption | ((with_reducible refine Below.drew ?_)) | ((with_reducible refine below_drewN ?_ _)) | ((with_reducible refine Below.alloc ?_ ?_ _); rotate_left; focus (first | omega | (simp; done) | (simp; omega))) | ((with_reducible refine Below.setCell ?_ ?_ _); rotate_left; focus (first | omega | (simp; done) | (simp; omega))) | ((with_reducible refine Below.trans ?_ (Below.mono (by with_reducible assumption) ?_)); rotate_left; focus (first | omega | (simp; done) | (simp; omega)))))⟩
            case measure => simp [intOf]; omega
        · have d2 : decide (fr ≤ e.tm) = false := by simpa using hlo
          have hadd : tadd (pcam fr tt) zs S e = S := by unfold tadd pcam; simp [hlo]
          rw [hadd] at HS
          rw [hh] at KN
          clear hadd hrng hlo hl hh
          go_wp2_with (first | (refine wpList_load_mid rfl 38 _ rfl b (o + k * 12) rfl _ _ hr Tryd.underlying38 rfl EI.out ?_) | (refine wpList_store_new rfl 38 _ _ rfl _ #[.int .i64 (e).op, .bool (e).inn, .bool (e).real, .int .u64 (e).tm, .int .u64 (e).dn, .int .i64 (e).cls, .int .u64 (e).id, .int .i64 (e).ln, .int .u16 (e).a, .int .u16 (e).b, .int .u16 (e).c, .int .u16 (e).d] rfl rfl EI.out rfl (all_oneCell_toArray e.one) ?_) | (go_at_call 62; (with_reducible refine (KN.out _ (HA.out _)).mono ?_); rintro ee wz ⟨rfl, rfl⟩))
          go_roundw
          case rel => exact ⟨k + 1, by omega, by go_num, by rw [HS.out], (by repeat' (first | with_reducible exact Below.refl _ _ | with_reducible assumption | ((with_reducible refine Below.drew ?_)) | ((with_reducible refine below_drewN ?_ _)) | ((with_reducible refine Below.alloc ?_ ?_ _); rotate_left; focus (first | omega | (simp; done) | (simp; omega))) | ((with_reducible refine Below.setCell ?_ ?_ _); rotate_left; focus (first | omega | (simp; done) | (simp; omega))) | ((with_reducible refine Below.trans ?_ (Below.mono (by with_reducible assumption) ?_)); rotate_left; focus (first | omega | (simp; done) | (simp; omega)))))⟩
          case measure => simp [intOf]; omega
    · obtain rfl : k = es.length := by omega
      rw [List.take_length]
      go_wp2
      (go_ret; refine ⟨?_, ?_⟩; (focus (exact rfl)); ((repeat' (first | with_reducible exact Below.refl _ _ | with_reducible assumption | ((with_reducible refine Below.drew ?_)) | ((with_reducible refine below_drewN ?_ _)) | ((with_reducible refine Below.alloc ?_ ?_ _); rotate_left; focus (first | omega | (simp; done) | (simp; omega))) | ((with_reducible refine Below.setCell ?_ ?_ _); rotate_left; focus (first | omega | (simp; done) | (simp; omega))) | ((with_reducible refine Below.trans ?_ (Below.mono (by with_reducible assumption) ?_)); rotate_left; focus (first | omega | (simp; done) | (simp; omega))))); done))
set_option maxHeartbeats 4000000 in
theorem rbybeg_c (es : List Ev) (ae : Option Addr) (ce : Nat) (zs : List Int) (az : Option Addr) (cz : Nat) (fr tt : Int) (hn : es.length ≤ 4611686018427387904) (hz : zs.length ≤ 4611686018427387904) (w : World) (hE : EvsV w ae es) (hZ : IntsV w az zs) :
    Calls Tryd.prog 19 #[.slice ae es.length ce, .int .i64 1, .slice az zs.length cz, .int .u64 fr, .int .u64 tt] w fun ee w' => ee = .returned (.int .u64 (tot (pbeg fr tt) zs es)) ∧ Below w.heap.size w w' := by
  have HE := Lib.hid hE
  have HZ := Lib.hid hZ
  have EI := Lib.hid ev_info
  clear hE hZ
  go_enter Tryd.func19, Tryd.ntmps19
  go_wp2
  go_loopw [11, 16] (fun s i wr => ∃ k : Nat, k ≤ es.length ∧ i = .int .i64 k ∧ s = .int .u64 (tot (pbeg fr tt) zs (es.take k)) ∧ Below w.heap.size w wr) (fun _ i _ => es.length - (intOf i).toNat)
  case atStart => exact ⟨0, Nat.zero_le _, rfl, rfl, Below.refl _ _⟩
  case round =>
    obtain ⟨k, hk, rfl, rfl, hB⟩ := hrel
    by_cases hlt : k < es.length
    · obtain ⟨b, o, rfl, hbl, hr⟩ := (HE.out.below hB) k hlt
      have hsucc := tot_succ (pbeg fr tt) zs es k hlt
      have hrng := tot_rng (pbeg fr tt) zs es k hk
      have HS := Lib.hid hsucc
      clear hsucc
      obtain ⟨e, he⟩ : ∃ e, es[k] = e := ⟨_, rfl⟩
      rw [he] at HS hr
      have hBs := hB.size
      have HA := Lib.hid (fun o : Obj => HZ.out.below (hB.trans ((below_alloc' wr o).mono hBs)))
      obtain ⟨S, hS⟩ : ∃ S, tot (pbeg fr tt) zs (es.take k) = S := ⟨_, rfl⟩
      rw [hS] at HS hrng ⊢
      clear he hS
      have KN := Lib.hid (fun (z : World) (h : IntsV z az zs) => rhas_c zs az cz e.cls hz z h)
      by_cases hi : e.inn = true
      · have hadd : tadd (pbeg fr tt) zs S e = S := by unfold tadd pbeg; simp [hi]
        rw [hadd] at HS
        clear hadd hrng
        go_wp2_with (first | (refine wpList_load_mid rfl 38 _ rfl b (o + k * 12) rfl _ _ hr Tryd.underlying38 rfl EI.out ?_) | (refine wpList_store_new rfl 38 _ _ rfl _ #[.int .i64 (e).op, .bool (e).inn, .bool (e).real, .int .u64 (e).tm, .int .u64 (e).dn, .int .i64 (e).cls, .int .u64 (e).id, .int .i64 (e).ln, .int .u16 (e).a, .int .u16 (e).b, .int .u16 (e).c, .int .u16 (e).d] rfl rfl EI.out rfl (all_oneCell_toArray e.one) ?_) | (go_at_call 62; (with_reducible refine (KN.out _ (HA.out _)).mono ?_); rintro ee wz ⟨rfl, rfl⟩))
        go_roundw
        case rel => exact ⟨k + 1, by omega, by go_num, by rw [HS.out], (by repeat' (first | with_reducible exact Below.refl _ _ | with_reducible assumption | ((with_reducible refine Below.drew ?_)) | ((with_reducible refine below_drewN ?_ _)) | ((with_reducible refine Below.alloc ?_ ?_ _); rotate_left; focus (first | omega | (simp; done) | (simp; omega))) | ((with_reducible refine Below.setCell ?_ ?_ _); rotate_left; focus (first | omega | (simp; done) | (simp; omega))) | ((with_reducible refine Below.trans ?_ (Below.mono (by with_reducible assumption) ?_)); rotate_left; focus (first | omega | (simp; done) | (simp; omega)))))⟩
        case measure => simp [intOf]; omega
      have hi : e.inn = false := by cases h : e.inn <;> simp_all
      cases hh : has zs e.cls with
      | false =>
        have hadd : tadd (pbeg fr tt) zs S e = S := by unfold tadd; simp [hh]
        rw [hadd] at HS
        rw [hh] at KN
        clear hadd hrng hh
        go_wp2_with (first | (refine wpList_load_mid rfl 38 _ rfl b (o + k * 12) rfl _ _ hr Tryd.underlying38 rfl EI.out ?_) | (refine wpList_store_new rfl 38 _ _ rfl _ #[.int .i64 (e).op, .bool (e).inn, .bool (e).real, .int .u64 (e).tm, .int .u64 (e).dn, .int .i64 (e).cls, .int .u64 (e).id, .int .i64 (e).ln, .int .u16 (e).a, .int .u16 (e).b, .int .u16 (e).c, .int .u16 (e).d] rfl rfl EI.out rfl (all_oneCell_toArray e.one) ?_) | (go_at_call 62; (with_reducible refine (KN.out _ (HA.out _)).mono ?_); rintro ee wz ⟨rfl, rfl⟩))
        go_roundw
        case rel => exact ⟨k + 1, by omega, by go_num, by rw [HS.out], (by repeat' (first | with_reducible exact Below.refl _ _ | with_reducible assumption | ((with_reducible refine Below.drew ?_)) | ((with_reducible refine below_drewN ?_ _)) | ((with_reducible refine Below.alloc ?_ ?_ _); rotate_left; focus (first | omega | (simp; done) | (simp; omega))) | ((with_reducible refine Below.setCell ?_ ?_ _); rotate_left; focus (first | omega | (simp; done) | (simp; omega))) | ((with_reducible refine Below.trans ?_ (Below.mono (by with_reducible assumption) ?_)); rotate_left; focus (first | omega | (simp; done) | (simp; omega)))))⟩
        case measure => simp [intOf]; omega
      | true =>
        by_cases hl : e.ln < 0
        · have hadd : tadd (pbeg fr tt) zs S e = S := tadd_neg _ _ _ _ hrng hl
          have d1 : decide (e.ln < 0) = true := by simpa using hl
          rw [hadd] at HS
          rw [hh] at KN
          clear hadd hrng hl hh
          go_wp2_with (first | (refine wpList_load_mid rfl 38 _ rfl b (o + k * 12) rfl _ _ hr Tryd.underlying38 rfl EI.out ?_) | (refine wpList_store_new rfl 38 _ _ rfl _ #[.int .i64 (e).op, .bool (e).inn, .bool (e).real, .int .u64 (e).tm, .int .u64 (e).dn, .int .i64 (e).cls, .int .u64 (e).id, .int .i64 (e).ln, .int .u16 (e).a, .int .u16 (e).b, .int .u16 (e).c, .int .u16 (e).d] rfl rfl EI.out rfl (all_oneCell_toArray e.one) ?_) | (go_at_call 62; (with_reducible refine (KN.out _ (HA.out _)).mono ?_); rintro ee wz ⟨rfl, rfl⟩))
          go_roundw
          case rel => exact ⟨k + 1, by omega, by go_num, by rw [HS.out], (by repeat' (first | with_reducible exact Below.refl _ _ | with_reducible assumption | ((with_reducible refine Below.drew ?_)) | ((with_reducible refine below_drewN ?_ _)) | ((with_reducible refine Below.alloc ?_ ?_ _); rotate_left; focus (first | omega | (simp; done) | (simp; omega))) | ((with_reducible refine Below.setCell ?_ ?_ _); rotate_left; focus (first | omega | (simp; done) | (simp; omega))) | ((with_reducible refine Below.trans ?_ (Below.mono (by with_reducible assumption) ?_)); rotate_left; focus (first | omega | (simp; done) | (simp; omega)))))⟩
          case measure => simp [intOf]; omega
        have d1 : decide (e.ln < 0) = false := by simpa using hl
        by_cases hlo : fr ≤ e.tm
        · have d2 : decide (fr ≤ e.tm) = true := by simpa using hlo
          by_cases hup : e.tm ≤ tt
          · have d3 : decide (e.tm ≤ tt) = true := by simpa using hup
            have hadd : tadd (pbeg fr tt) zs S e = IntKind.u64.wrap (S + IntKind.u64.wrap e.ln) := by
              unfold tadd
              rw [if_pos (by unfold pbeg; simp [hi, hh, hlo, hup]), if_neg (by omega : ¬ 0 > e.ln)]
            rw [hadd] at HS
            rw [hh] at KN
            clear hadd hrng hlo hup hl hh
            go_wp2_with (first | (refine wpList_load_mid rfl 38 _ rfl b (o + k * 12) rfl _ _ hr Tryd.underlying38 rfl EI.out ?_) | (refine wpList_store_new rfl 38 _ _ rfl _ #[.int .i64 (e).op, .bool (e).inn, .bool (e).real, .int .u64 (e).tm, .int .u64 (e).dn, .int .i64 (e).cls, .int .u64 (e).id, .int .i64 (e).ln, .int .u16 (e).a, .int .u16 (e).b, .int .u16 (e).c, .int .u16 (e).d] rfl rfl EI.out rfl (all_oneCell_toArray e.one) ?_) | (go_at_call 62; (with_reducible refine (KN.out _ (HA.out _)).mono ?_); rintro ee wz ⟨rfl, rfl⟩))
            go_roundw
            case rel => exact ⟨k + 1, by omega, by go_num, by rw [HS.out], (by repeat' (first | with_reducible exact Below.refl _ _ | with_reducible assumption | ((with_reducible refine Below.drew ?_)) | ((with_reducible refine below_drewN ?_ _)) | ((with_reducible refine Below.alloc ?_ ?_ _); rotate_left; focus (first | omega | (simp; done) | (simp; omega))) | ((with_reducible refine Below.setCell ?_ ?_ _); rotate_left; focus (first | omega | (simp; done) | (simp; omega))) | ((with_reducible refine Below.trans ?_ (Below.mono (by with_reducible assumption) ?_)); rotate_left; focus (first | omega | (simp; done) | (simp; omega)))))⟩
            case measure => simp [intOf]; omega
          · have d3 : decide (e.tm ≤ tt) = false := by simpa using hup
            have hadd : tadd (pbeg fr tt) zs S e = S := by unfold tadd pbeg; simp [hup]
            rw [hadd] at HS
            rw [hh] at KN
            clear hadd hrng hlo hup hl hh
            go_wp2_with (first | (refine wpList_load_mid rfl 38 _ rfl b (o + k * 12) rfl _ _ hr Tryd.underlying38 rfl EI.out ?_) | (refine wpList_store_new rfl 38 _ _ rfl _ #[.int .i64 (e).op, .bool (e).inn, .bool (e).real, .int .u64 (e).tm, .int .u64 (e).dn, .int .i64 (e).cls, .int .u64 (e).id, .int .i64 (e).ln, .int .u16 (e).a, .int .u16 (e).b, .int .u16 (e).c, .int .u16 (e).d] rfl rfl EI.out rfl (all_oneCell_toArray e.one) ?_) | (go_at_call 62; (with_reducible refine (KN.out _ (HA.out _)).mono ?_); rintro ee wz ⟨rfl, rfl⟩))
            go_roundw
            case rel => exact ⟨k + 1, by omega, by go_num, by rw [HS.out], (by repeat' (first | with_reducible exact Below.refl _ _ | with_reducible assumption | ((with_reducible refine Below.drew ?_)) | ((with_reducible refine below_drewN ?_ _)) | ((with_reducible refine Below.alloc ?_ ?_ _); rotate_left; focus (first | omega | (simp; done) | (simp; omega))) | ((with_reducible refine Below.setCell ?_ ?_ _); rotate_left; focus (first | omega | (simp; done) | (simp; omega))) | ((with_reducible refine Below.trans ?_ (Below.mono (by with_reducible assumption) ?_)); rotate_left; focus (first | omega | (simp; done) | (simp; omega)))))⟩
            case measure => simp [intOf]; omega
        · have d2 : decide (fr ≤ e.tm) = false := by simpa using hlo
          have hadd : tadd (pbeg fr tt) zs S e = S := by unfold tadd pbeg; simp [hlo]
          rw [hadd] at HS
          rw [hh] at KN
          clear hadd hrng hlo hl hh
          go_wp2_with (first | (refine wpList_load_mid rfl 38 _ rfl b (o + k * 12) rfl _ _ hr Tryd.underlying38 rfl EI.out ?_) | (refine wpList_store_new rfl 38 _ _ rfl _ #[.int .i64 (e).op, .bool (e).inn, .bool (e).real, .int .u64 (e).tm, .int .u64 (e).dn, .int .i64 (e).cls, .int .u64 (e).id, .int .i64 (e).ln, .int .u16 (e).a, .int .u16 (e).b, .int .u16 (e).c, .int .u16 (e).d] rfl rfl EI.out rfl (all_oneCell_toArray e.one) ?_) | (go_at_call 62; (with_reducible refine (KN.out _ (HA.out _)).mono ?_); rintro ee wz ⟨rfl, rfl⟩))
          go_roundw
          case rel => exact ⟨k + 1, by omega, by go_num, by rw [HS.out], (by repeat' (first | with_reducible exact Below.refl _ _ | with_reducible assumption | ((with_reducible refine Below.drew ?_)) | ((with_reducible refine below_drewN ?_ _)) | ((with_reducible refine Below.alloc ?_ ?_ _); rotate_left; focus (first | omega | (simp; done) | (simp; omega))) | ((with_reducible refine Below.setCell ?_ ?_ _); rotate_left; focus (first | omega | (simp; done) | (simp; omega))) | ((with_reducible refine Below.trans ?_ (Below.mono (by with_reducible assumption) ?_)); rotate_left; focus (first | omega | (simp; done) | (simp; omega)))))⟩
          case measure => simp [intOf]; omega
    · obtain rfl : k = es.length := by omega
      rw [List.take_length]
      go_wp2
      (go_ret; refine ⟨?_, ?_⟩; (focus (exact rfl)); ((repeat' (first | with_reducible exact Below.refl _ _ | with_reducible assumption | ((with_reducible refine Below.drew ?_)) | ((with_reducible refine below_drewN ?_ _)) | ((with_reducible refine Below.alloc ?_ ?_ _); rotate_left; focus (first | omega | (simp; done) | (simp; omega))) | ((with_reducible refine Below.setCell ?_ ?_ _); rotate_left; focus (first | omega | (simp; done) | (simp; omega))) | ((with_reducible refine Below.trans ?_ (Below.mono (by with_reducible assumption) ?_)); rotate_left; focus (first | omega | (simp; done) | (simp; omega))))); done))
set_option maxHeartbeats 4000000 in
theorem rbysen_c (es : List Ev) (ae : Option Addr) (ce : Nat) (zs : List Int) (az : Option Addr) (cz : Nat) (fr tt : Int) (hn : es.length ≤ 4611686018427387904) (hz : zs.length ≤ 4611686018427387904) (w : World) (hE : EvsV w ae es) (hZ : IntsV w az zs) :
    Calls Tryd.prog 19 #[.slice ae es.length ce, .int .i64 2, .slice az zs.length cz, .int .u64 fr, .int .u64 tt] w fun ee w' => ee = .returned (.int .u64 (tot (psen fr tt) zs es)) ∧ Below w.heap.size w w' := by
  have HE := Lib.hid hE
  have HZ := Lib.hid hZ
  have EI := Lib.hid ev_info
  clear hE hZ
  go_enter Tryd.func19, Tryd.ntmps19
  go_wp2
  go_loopw [11, 16] (fun s i wr => ∃ k : Nat, k ≤ es.length ∧ i = .int .i64 k ∧ s = .int .u64 (tot (psen fr tt) zs (es.take k)) ∧ Below w.heap.size w wr) (fun _ i _ => es.length - (intOf i).toNat)
  case atStart => exact ⟨0, Nat.zero_le _, rfl, rfl, Below.refl _ _⟩
  case round =>
    obtain ⟨k, hk, rfl, rfl, hB⟩ := hrel
    by_cases hlt : k < es.length
    · obtain ⟨b, o, rfl, hbl, hr⟩ := (HE.out.below hB) k hlt
      have hsucc := tot_succ (psen fr tt) zs es k hlt
      have hrng := tot_rng (psen fr tt) zs es k hk
      have HS := Lib.hid hsucc
      clear hsucc
      obtain ⟨e, he⟩ : ∃ e, es[k] = e := ⟨_, rfl⟩
      rw [he] at HS hr
      have hBs := hB.size
      have HA := Lib.hid (fun o : Obj => HZ.out.below (hB.trans ((below_alloc' wr o).mono hBs)))
      obtain ⟨S, hS⟩ : ∃ S, tot (psen fr tt) zs (es.take k) = S := ⟨_, rfl⟩
      rw [hS] at HS hrng ⊢
      clear he hS
      have KN := Lib.hid (fun (z : World) (h : IntsV z az zs) => rhas_c zs az cz e.cls hz z h)
      by_cases hi : e.inn = true
      · have hadd : tadd (psen fr tt) zs S e = S := by unfold tadd psen; simp [hi]
        rw [hadd] at HS
        clear hadd hrng
        go_wp2_with (first | (refine wpList_load_mid rfl 38 _ rfl b (o + k * 12) rfl _ _ hr Tryd.underlying38 rfl EI.out ?_) | (refine wpList_store_new rfl 38 _ _ rfl _ #[.int .i64 (e).op, .bool (e).inn, .bool (e).real, .int .u64 (e).tm, .int .u64 (e).dn, .int .i64 (e).cls, .int .u64 (e).id, .int .i64 (e).ln, .int .u16 (e).a, .int .u16 (e).b, .int .u16 (e).c, .int .u16 (e).d] rfl rfl EI.out rfl (all_oneCell_toArray e.one) ?_) | (go_at_call 62; (with_reducible refine (KN.out _ (HA.out _)).mono ?_); rintro ee wz ⟨rfl, rfl⟩))
        go_roundw
        case rel => exact ⟨k + 1, by omega, by go_num, by rw [HS.out], (by repeat' (first | with_reducible exact Below.refl _ _ | with_reducible assumption | ((with_reducible refine Below.drew ?_)) | ((with_reducible refine below_drewN ?_ _)) | ((with_reducible refine Below.alloc ?_ ?_ _); rotate_left; focus (first | omega | (simp; done) | (simp; omega))) | ((with_reducible refine Below.setCell ?_ ?_ _); rotate_left; focus (first | omega | (simp; done) | (simp; omega))) | ((with_reducible refine Below.trans ?_ (Below.mono (by with_reducible assumption) ?_)); rotate_left; focus (first | omega | (simp; done) | (simp; omega)))))⟩
        case measure => simp [intOf]; omega
      have hi : e.inn = false := by cases h : e.inn <;> simp_all
      cases hh : has zs e.cls with
      | false =>
        have hadd : tadd (psen fr tt) zs S e = S := by unfold tadd; simp [hh]
        rw [hadd] at HS
        rw [hh] at KN
        clear hadd hrng hh
        go_wp2_with (first | (refine wpList_load_mid rfl 38 _ rfl b (o + k * 12) rfl _ _ hr Tryd.underlying38 rfl EI.out ?_) | (refine wpList_store_new rfl 38 _ _ rfl _ #[.int .i64 (e).op, .bool (e).inn, .bool (e).real, .int .u64 (e).tm, .int .u64 (e).dn, .int .i64 (e).cls, .int .u64 (e).id, .int .i64 (e).ln, .int .u16 (e).a, .int .u16 (e).b, .int .u16 (e).c, .int .u16 (e).d] rfl rfl EI.out rfl (all_oneCell_toArray e.one) ?_) | (go_at_call 62; (with_reducible refine (KN.out _ (HA.out _)).mono ?_); rintro ee wz ⟨rfl, rfl⟩))
        go_roundw
        case rel => exact ⟨k + 1, by omega, by go_num, by rw [HS.out], (by repeat' (first | with_reducible exact Below.refl _ _ | with_reducible assumption | ((with_reducible refine Below.drew ?_)) | ((with_reducible refine below_drewN ?_ _)) | ((with_reducible refine Below.alloc ?_ ?_ _); rotate_left; focus (first | omega | (simp; done) | (simp; omega))) | ((with_reducible refine Below.setCell ?_ ?_ _); rotate_left; focus (first | omega | (simp; done) | (simp; omega))) | ((with_reducible refine Below.trans ?_ (Below.mono (by with_reducible assumption) ?_)); rotate_left; focus (first | omega | (simp; done) | (simp; omega)))))⟩
        case measure => simp [intOf]; omega
      | true =>
        by_cases hl : e.ln < 0
        · have hadd : tadd (psen fr tt) zs S e = S := tadd_neg _ _ _ _ hrng hl
          have d1 : decide (e.ln < 0) = true := by simpa using hl
          rw [hadd] at HS
          rw [hh] at KN
          clear hadd hrng hl hh
          go_wp2_with (first | (refine wpList_load_mid rfl 38 _ rfl b (o + k * 12) rfl _ _ hr Tryd.underlying38 rfl EI.out ?_) | (refine wpList_store_new rfl 38 _ _ rfl _ #[.int .i64 (e).op, .bool (e).inn, .bool (e).real, .int .u64 (e).tm, .int .u64 (e).dn, .int .i64 (e).cls, .int .u64 (e).id, .int .i64 (e).ln, .int .u16 (e).a, .int .u16 (e).b, .int .u16 (e).c, .int .u16 (e).d] rfl rfl EI.out rfl (all_oneCell_toArray e.one) ?_) | (go_at_call 62; (with_reducible refine (KN.out _ (HA.out _)).mono ?_); rintro ee wz ⟨rfl, rfl⟩))
          go_roundw
          case rel => exact ⟨k + 1, by omega, by go_num, by rw [HS.out], (by repeat' (first | with_reducible exact Below.refl _ _ | with_reducible assumption | ((with_reducible refine Below.drew ?_)) | ((with_reducible refine below_drewN ?_ _)) | ((with_reducible refine Below.alloc ?_ ?_ _); rotate_left; focus (first | omega | (simp; done) | (simp; omega))) | ((with_reducible refine Below.setCell ?_ ?_ _); rotate_left; focus (first | omega | (simp; done) | (simp; omega))) | ((with_reducible refine Below.trans ?_ (Below.mono (by with_reducible assumption) ?_)); rotate_left; focus (first | omega | (simp; done) | (simp; omega)))))⟩
          case measure => simp [intOf]; omega
        have d1 : decide (e.ln < 0) = false := by simpa using hl
        by_cases hlo : fr < e.dn
        · have d2 : decide (fr < e.dn) = true := by simpa using hlo
          by_cases hup : e.dn ≤ tt
          · have d3 : decide (e.dn ≤ tt) = true := by simpa using hup
            have hadd : tadd (psen fr tt) zs S e = IntKind.u64.wrap (S + IntKind.u64.wrap e.ln) := by
              unfold tadd
              rw [if_pos (by unfold psen; simp [hi, hh, hlo, hup]), if_neg (by omega : ¬ 0 > e.ln)]
            rw [hadd] at HS
            rw [hh] at KN
            clear hadd hrng hlo hup hl hh
            go_wp2_with (first | (refine wpList_load_mid rfl 38 _ rfl b (o + k * 12) rfl _ _ hr Tryd.underlying38 rfl EI.out ?_) | (refine wpList_store_new rfl 38 _ _ rfl _ #[.int .i64 (e).op, .bool (e).inn, .bool (e).real, .int .u64 (e).tm, .int .u64 (e).dn, .int .i64 (e).cls, .int .u64 (e).id, .int .i64 (e).ln, .int .u16 (e).a, .int .u16 (e).b, .int .u16 (e).c, .int .u16 (e).d] rfl rfl EI.out rfl (all_oneCell_toArray e.one) ?_) | (go_at_call 62; (with_reducible refine (KN.out _ (HA.out _)).mono ?_); rintro ee wz ⟨rfl, rfl⟩))
            go_roundw
            case rel => exact ⟨k + 1, by omega, by go_num, by rw [HS.out], (by repeat' (first | with_reducible exact Below.refl _ _ | with_reducible assumption | ((with_reducible refine Below.drew ?_)) | ((with_reducible refine below_drewN ?_ _)) | ((with_reducible refine Below.alloc ?_ ?_ _); rotate_left; focus (first | omega | (simp; done) | (simp; omega))) | ((with_reducible refine Below.setCell ?_ ?_ _); rotate_left; focus (first | omega | (simp; done) | (simp; omega))) | ((with_reducible refine Below.trans ?_ (Below.mono (by with_reducible assumption) ?_)); rotate_left; focus (first | omega | (simp; done) | (simp; omega)))))⟩
            case measure => simp [intOf]; omega
          · have d3 : decide (e.dn ≤ tt) = false := by simpa using hup
            have hadd : tadd (psen fr tt) zs S e = S := by unfold tadd psen; simp [hup]
            rw [hadd] at HS
            rw [hh] at KN
            clear hadd hrng hlo hup hl hh
            go_wp2_with (first | (refine wpList_load_mid rfl 38 _ rfl b (o + k * 12) rfl _ _ hr Tryd.underlying38 rfl EI.out ?_) | (refine wpList_store_new rfl 38 _ _ rfl _ #[.int .i64 (e).op, .bool (e).inn, .bool (e).real, .int .u64 (e).tm, .int .u64 (e).dn, .int .i64 (e).cls, .int .u64 (e).id, .int .i64 (e).ln, .int .u16 (e).a, .int .u16 (e).b, .int .u16 (e).c, .int .u16 (e).d] rfl rfl EI.out rfl (all_oneCell_toArray e.one) ?_) | (go_at_call 62; (with_reducible refine (KN.out _ (HA.out _)).mono ?_); rintro ee wz ⟨rfl, rfl⟩))
            go_roundw
            case rel => exact ⟨k + 1, by omega, by go_num, by rw [HS.out], (by repeat' (first | with_reducible exact Below.refl _ _ | with_reducible assumption | ((with_reducible refine Below.drew ?_)) | ((with_reducible refine below_drewN ?_ _)) | ((with_reducible refine Below.alloc ?_ ?_ _); rotate_left; focus (first | omega | (simp; done) | (simp; omega))) | ((with_reducible refine Below.setCell ?_ ?_ _); rotate_left; focus (first | omega | (simp; done) | (simp; omega))) | ((with_reducible refine Below.trans ?_ (Below.mono (by with_reducible assumption) ?_)); rotate_left; focus (first | omega | (simp; done) | (simp; omega)))))⟩
            case measure => simp [intOf]; omega
        · have d2 : decide (fr < e.dn) = false := by simpa using hlo
          have hadd : tadd (psen fr tt) zs S e = S := by unfold tadd psen; simp [hlo]
          rw [hadd] at HS
          rw [hh] at KN
          clear hadd hrng hlo hl hh
          go_wp2_with (first | (refine wpList_load_mid rfl 38 _ rfl b (o + k * 12) rfl _ _ hr Tryd.underlying38 rfl EI.out ?_) | (refine wpList_store_new rfl 38 _ _ rfl _ #[.int .i64 (e).op, .bool (e).inn, .bool (e).real, .int .u64 (e).tm, .int .u64 (e).dn, .int .i64 (e).cls, .int .u64 (e).id, .int .i64 (e).ln, .int .u16 (e).a, .int .u16 (e).b, .int .u16 (e).c, .int .u16 (e).d] rfl rfl EI.out rfl (all_oneCell_toArray e.one) ?_) | (go_at_call 62; (with_reducible refine (KN.out _ (HA.out _)).mono ?_); rintro ee wz ⟨rfl, rfl⟩))
          go_roundw
          case rel => exact ⟨k + 1, by omega, by go_num, by rw [HS.out], (by repeat' (first | with_reducible exact Below.refl _ _ | with_reducible assumption | ((with_reducible refine Below.drew ?_)) | ((with_reducible refine below_drewN ?_ _)) | ((with_reducible refine Below.alloc ?_ ?_ _); rotate_left; focus (first | omega | (simp; done) | (simp; omega))) | ((with_reducible refine Below.setCell ?_ ?_ _); rotate_left; focus (first | omega | (simp; done) | (simp; omega))) | ((with_reducible refine Below.trans ?_ (Below.mono (by with_reducible assumption) ?_)); rotate_left; focus (first | omega | (simp; done) | (simp; omega)))))⟩
          case measure => simp [intOf]; omega
    · obtain rfl : k = es.length := by omega
      rw [List.take_length]
      go_wp2
      (go_ret; refine ⟨?_, ?_⟩; (focus (exact rfl)); ((repeat' (first | with_reducible exact Below.refl _ _ | with_reducible assumption | ((with_reducible refine Below.drew ?_)) | ((with_reducible refine below_drewN ?_ _)) | ((with_reducible refine Below.alloc ?_ ?_ _); rotate_left; focus (first | omega | (simp; done) | (simp; omega))) | ((with_reducible refine Below.setCell ?_ ?_ _); rotate_left; focus (first | omega | (simp; done) | (simp; omega))) | ((with_reducible refine Below.trans ?_ (Below.mono (by with_reducible assumption) ?_)); rotate_left; focus (first | omega | (simp; done) | (simp; omega))))); done))
end Go.Proofs.YtdiniaokkdcihaaDoor
