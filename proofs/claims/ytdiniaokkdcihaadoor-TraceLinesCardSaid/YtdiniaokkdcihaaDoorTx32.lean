/- total, Came, Begun, Sent of any events. -/
import Derived.Test.YtdiniaokkdcihaaDoorTx31
namespace Go.Proofs.YtdiniaokkdcihaaDoor
set_option linter.unusedVariables false
set_option linter.unusedSimpArgs false
set_option maxRecDepth 100000
open Go.RowKit Fg Reg
attribute [local irreducible] Reg.wE

theorem below_alloc' (w : World) (o : Obj) : Below w.heap.size w (w.alloc o) := (Below.refl w.heap.size w).alloc (Nat.le_refl _) o
set_option maxHeartbeats 4000000 in
theorem totcam_c (es : List Ev) (ae : Option Addr) (ce : Nat) (zs : List Int) (az : Option Addr) (cz : Nat) (fr tt : Int) (x y : Nat) (hn : es.length ≤ 4611686018427387904) (hz : zs.length ≤ 4611686018427387904) (w : World) (hE : EvsV w ae es) (hZ : IntsV w az zs)
    (hx : w.cell? ⟨x, 0, none⟩ = some (.int .u64 fr)) (hxl : x < w.heap.size) (hy : w.cell? ⟨y, 0, none⟩ = some (.int .u64 tt)) (hyl : y < w.heap.size) :
    Calls Tryd.prog 60 #[.slice ae es.length ce, .slice az zs.length cz, .func (.func 61) #[] #[.pointer (some ⟨x, 0, none⟩), .pointer (some ⟨y, 0, none⟩)]] w fun ee w' => ee = .returned (.int .u64 (tot (pcam fr tt) zs es)) ∧ Below w.heap.size w w' := by
  have HE := Lib.hid hE
  have HZ := Lib.hid hZ
  have EI := Lib.hid ev_info
  have KC := fun e w h1 h2 h3 h4 => cam_c e x y fr tt w h1 h2 h3 h4
  obtain ⟨P, hP⟩ : ∃ P, pcam fr tt = P := ⟨_, rfl⟩
  rw [hP] at KC ⊢
  have KCH := Lib.hid KC
  clear hE hZ KC hP
  go_enter Tryd.func60, Tryd.ntmps60
  go_wp2
  go_loopw [7, 12] (fun s i wr => ∃ k : Nat, k ≤ es.length ∧ i = .int .i64 k ∧ s = .int .u64 (tot P zs (es.take k)) ∧ Below w.heap.size w wr) (fun _ i _ => es.length - (intOf i).toNat)
  case atStart => exact ⟨0, Nat.zero_le _, rfl, rfl, Below.refl _ _⟩
  case round =>
    obtain ⟨k, hk, rfl, rfl, hB⟩ := hrel
    by_cases hlt : k < es.length
    · obtain ⟨b, o, rfl, hbl, hr⟩ := (HE.out.below hB) k hlt
      have hsucc := tot_succ P zs es k hlt
      have HS := Lib.hid hsucc
      clear hsucc
      obtain ⟨e, he⟩ : ∃ e, es[k] = e := ⟨_, rfl⟩
      rw [he] at HS hr
      have hBs := hB.size
      have hxr : wr.cell? ⟨x, 0, none⟩ = some (.int .u64 fr) := (hB.cell (p := ⟨x, 0, none⟩) hxl).trans hx
      have hyr : wr.cell? ⟨y, 0, none⟩ = some (.int .u64 tt) := (hB.cell (p := ⟨y, 0, none⟩) hyl).trans hy
      have hxb : x < wr.heap.size := by omega
      have hyb : y < wr.heap.size := by omega
      have hxne : ¬ x = wr.heap.size := by omega
      have hyne : ¬ y = wr.heap.size := by omega
      have HA := Lib.hid (fun o : Obj => HZ.out.below (hB.trans ((below_alloc' wr o).mono hBs)))
      obtain ⟨S, hS⟩ : ∃ S, tot P zs (es.take k) = S := ⟨_, rfl⟩
      rw [hS] at HS ⊢
      clear he hS
      have KN := Lib.hid (fun (z : World) (h : IntsV z az zs) => con_c zs az cz e.cls hz z h)
      by_cases hh : has zs e.cls = true
      · rw [hh] at KN
        cases hp : P e with
        | true =>
          have hadd : tadd P zs S e = IntKind.u64.wrap (S + IntKind.u64.wrap (if 0 > e.ln then 0 else e.ln)) := by unfold tadd; rw [hh, hp]; rfl
          rw [hadd] at HS
          have hmx := mxi_c e.ln 0
          obtain ⟨M, hM⟩ : ∃ M, (if 0 > e.ln then 0 else e.ln) = M := ⟨_, rfl⟩
          rw [hM] at hmx HS
          have KP := Lib.hid (fun z h1 h2 h3 h4 => hp ▸ KCH.out e z h1 h2 h3 h4)
          clear hM hadd hp hh
          go_wp2_with (first | (refine wpList_load_mid rfl 38 _ rfl b (o + k * 12) rfl _ _ hr Tryd.underlying38 rfl EI.out ?_) | (refine wpList_store_new rfl 38 _ _ rfl _ #[.int .i64 (e).op, .bool (e).inn, .bool (e).real, .int .u64 (e).tm, .int .u64 (e).dn, .int .i64 (e).cls, .int .u64 (e).id, .int .i64 (e).ln, .int .u16 (e).a, .int .u16 (e).b, .int .u16 (e).c, .int .u16 (e).d] rfl rfl EI.out rfl (all_oneCell_toArray e.one) ?_) | (go_at_call 101; (with_reducible refine (KN.out _ (HA.out _)).mono ?_); rintro ee wz ⟨rfl, rfl⟩) | (go_at_call 61; ((with_reducible refine (KP.out _ (by go_simp) (by go_simp) (by go_simp) (by go_simp)).mono ?_); rintro e w1 ⟨rfl, hbel⟩; obtain ⟨hcc, hff⟩ := bcell hbel; have hsz := hbel.size; (try simp at hsz); have hF : w1.cell? ⟨wr.heap.size, 7, none⟩ = some (.int .i64 e.ln) ∧ wr.heap.size < w1.heap.size ∧ Below w.heap.size w w1 := (by ((repeat' apply And.intro) <;> first | (simp [go_sem, *]; done) | omega | (repeat' (first | with_reducible exact Below.refl _ _ | with_reducible assumption | ((with_reducible refine Below.drew ?_)) | ((with_reducible refine below_drewN ?_ _)) | ((with_reducible refine Below.alloc ?_ ?_ _); rotate_left; focus (first | omega | (simp; done) | (simp; omega))) | ((with_reducible refine Below.setCell ?_ ?_ _); rotate_left; focus (first | omega | (simp; done) | (simp; omega))) | ((with_reducible refine Below.trans ?_ (Below.mono (by with_reducible assumption) ?_)); rotate_left; focus (first | omega | (simp; done) | (simp; omega))))))); go_split_ands; clear hcc hff hbel)))
          go_roundw
          case rel => exact ⟨k + 1, by omega, by go_num, by rw [HS.out], (by repeat' (first | with_reducible exact Below.refl _ _ | with_reducible assumption | ((with_reducible refine Below.drew ?_)) | ((with_reducible refine below_drewN ?_ _)) | ((with_reducible refine Below.alloc ?_ ?_ _); rotate_left; focus (first | omega | (simp; done) | (simp; omega))) | ((with_reducible refine Below.setCell ?_ ?_ _); rotate_left; focus (first | omega | (simp; done) | (simp; omega))) | ((with_reducible refine Below.trans ?_ (Below.mono (by with_reducible assumption) ?_)); rotate_left; focus (first | omega | (simp; done) | (simp; omega)))))⟩
          case measure => simp [intOf]; omega
        | false =>
          have hadd : tadd P zs S e = S := by unfold tadd; rw [hh, hp]; rfl
          rw [hadd] at HS
          have KP := Lib.hid (fun z h1 h2 h3 h4 => hp ▸ KCH.out e z h1 h2 h3 h4)
          clear hadd hp hh
          go_wp2_with (first | (refine wpList_load_mid rfl 38 _ rfl b (o + k * 12) rfl _ _ hr Tryd.underlying38 rfl EI.out ?_) | (refine wpList_store_new rfl 38 _ _ rfl _ #[.int .i64 (e).op, .bool (e).inn, .bool (e).real, .int .u64 (e).tm, .int .u64 (e).dn, .int .i64 (e).cls, .int .u64 (e).id, .int .i64 (e).ln, .int .u16 (e).a, .int .u16 (e).b, .int .u16 (e).c, .int .u16 (e).d] rfl rfl EI.out rfl (all_oneCell_toArray e.one) ?_) | (go_at_call 101; (with_reducible refine (KN.out _ (HA.out _)).mono ?_); rintro ee wz ⟨rfl, rfl⟩) | (go_at_call 61; ((with_reducible refine (KP.out _ (by go_simp) (by go_simp) (by go_simp) (by go_simp)).mono ?_); rintro e w1 ⟨rfl, hbel⟩; obtain ⟨hcc, hff⟩ := bcell hbel; have hsz := hbel.size; (try simp at hsz); have hF : wr.heap.size < w1.heap.size ∧ Below w.heap.size w w1 := (by ((repeat' apply And.intro) <;> first | (simp [go_sem, *]; done) | omega | (repeat' (first | with_reducible exact Below.refl _ _ | with_reducible assumption | ((with_reducible refine Below.drew ?_)) | ((with_reducible refine below_drewN ?_ _)) | ((with_reducible refine Below.alloc ?_ ?_ _); rotate_left; focus (first | omega | (simp; done) | (simp; omega))) | ((with_reducible refine Below.setCell ?_ ?_ _); rotate_left; focus (first | omega | (simp; done) | (simp; omega))) | ((with_reducible refine Below.trans ?_ (Below.mono (by with_reducible assumption) ?_)); rotate_left; focus (first | omega | (simp; done) | (simp; omega))))))); go_split_ands; clear hcc hff hbel)))
          go_roundw
          case rel => exact ⟨k + 1, by omega, by go_num, by rw [HS.out], (by repeat' (first | with_reducible exact Below.refl _ _ | with_reducible assumption | ((with_reducible refine Below.drew ?_)) | ((with_reducible refine below_drewN ?_ _)) | ((with_reducible refine Below.alloc ?_ ?_ _); rotate_left; focus (first | omega | (simp; done) | (simp; omega))) | ((with_reducible refine Below.setCell ?_ ?_ _); rotate_left; focus (first | omega | (simp; done) | (simp; omega))) | ((with_reducible refine Below.trans ?_ (Below.mono (by with_reducible assumption) ?_)); rotate_left; focus (first | omega | (simp; done) | (simp; omega)))))⟩
          case measure => simp [intOf]; omega
      · have hh' : has zs e.cls = false := by simpa using hh
        rw [hh'] at KN
        have hadd : tadd P zs S e = S := by unfold tadd; rw [hh']; rfl
        rw [hadd] at HS
        clear hadd hh hh'
        go_wp2_with (first | (refine wpList_load_mid rfl 38 _ rfl b (o + k * 12) rfl _ _ hr Tryd.underlying38 rfl EI.out ?_) | (refine wpList_store_new rfl 38 _ _ rfl _ #[.int .i64 (e).op, .bool (e).inn, .bool (e).real, .int .u64 (e).tm, .int .u64 (e).dn, .int .i64 (e).cls, .int .u64 (e).id, .int .i64 (e).ln, .int .u16 (e).a, .int .u16 (e).b, .int .u16 (e).c, .int .u16 (e).d] rfl rfl EI.out rfl (all_oneCell_toArray e.one) ?_) | (go_at_call 101; (with_reducible refine (KN.out _ (HA.out _)).mono ?_); rintro ee wz ⟨rfl, rfl⟩))
        go_roundw
        case rel => exact ⟨k + 1, by omega, by go_num, by rw [HS.out], (by repeat' (first | with_reducible exact Below.refl _ _ | with_reducible assumption | ((with_reducible refine Below.drew ?_)) | ((with_reducible refine below_drewN ?_ _)) | ((with_reducible refine Below.alloc ?_ ?_ _); rotate_left; focus (first | omega | (simp; done) | (simp; omega))) | ((with_reducible refine Below.setCell ?_ ?_ _); rotate_left; focus (first | omega | (simp; done) | (simp; omega))) | ((with_reducible refine Below.trans ?_ (Below.mono (by with_reducible assumption) ?_)); rotate_left; focus (first | omega | (simp; done) | (simp; omega)))))⟩
        case measure => simp [intOf]; omega
    · obtain rfl : k = es.length := by omega
      rw [List.take_length]
      go_wp2
      (go_ret; refine ⟨?_, ?_⟩; (focus (exact rfl)); ((repeat' (first | with_reducible exact Below.refl _ _ | with_reducible assumption | ((with_reducible refine Below.drew ?_)) | ((with_reducible refine below_drewN ?_ _)) | ((with_reducible refine Below.alloc ?_ ?_ _); rotate_left; focus (first | omega | (simp; done) | (simp; omega))) | ((with_reducible refine Below.setCell ?_ ?_ _); rotate_left; focus (first | omega | (simp; done) | (simp; omega))) | ((with_reducible refine Below.trans ?_ (Below.mono (by with_reducible assumption) ?_)); rotate_left; focus (first | omega | (simp; done) | (simp; omega))))); done))
theorem came_c (es : List Ev) (ae : Option Addr) (ce : Nat) (zs : List Int) (az : Option Addr) (cz : Nat) (fr tt : Int) (hn : es.length ≤ 4611686018427387904) (hz : zs.length ≤ 4611686018427387904) (w : World) (hE : EvsV w ae es) (hZ : IntsV w az zs) :
    Calls Tryd.prog 18 #[.slice ae es.length ce, .slice az zs.length cz, .int .u64 fr, .int .u64 tt] w fun ee w' => ee = .returned (.int .u64 (tot (pcam fr tt) zs es)) ∧ Below w.heap.size w w' := by
  have KT := Lib.hid (fun x y z h1 h2 h3 h4 h5 h6 => totcam_c es ae ce zs az cz fr tt x y hn hz z h1 h2 h3 h4 h5 h6)
  have HE := Lib.hid hE
  have HZ := Lib.hid hZ
  clear hE hZ
  go_enter Tryd.func18, Tryd.ntmps18
  go_wp2_with (go_at_call 60; ((with_reducible refine (KT.out _ _ _ (HE.out.below (by repeat' (first | with_reducible exact Below.refl _ _ | with_reducible assumption | ((with_reducible refine Below.drew ?_)) | ((with_reducible refine below_drewN ?_ _)) | ((with_reducible refine Below.alloc ?_ ?_ _); rotate_left; focus (first | omega | (simp; done) | (simp; omega))) | ((with_reducible refine Below.setCell ?_ ?_ _); rotate_left; focus (first | omega | (simp; done) | (simp; omega))) | ((with_reducible refine Below.trans ?_ (Below.mono (by with_reducible assumption) ?_)); rotate_left; focus (first | omega | (simp; done) | (simp; omega)))))) (HZ.out.below (by repeat' (first | with_reducible exact Below.refl _ _ | with_reducible assumption | ((with_reducible refine Below.drew ?_)) | ((with_reducible refine below_drewN ?_ _)) | ((with_reducible refine Below.alloc ?_ ?_ _); rotate_left; focus (first | omega | (simp; done) | (simp; omega))) | ((with_reducible refine Below.setCell ?_ ?_ _); rotate_left; focus (first | omega | (simp; done) | (simp; omega))) | ((with_reducible refine Below.trans ?_ (Below.mono (by with_reducible assumption) ?_)); rotate_left; focus (first | omega | (simp; done) | (simp; omega)))))) (by go_simp) (by go_simp) (by go_simp) (by go_simp)).mono ?_); rintro e w1 ⟨rfl, hbel⟩; obtain ⟨hcc, hff⟩ := bcell hbel; have hsz := hbel.size; (try simp at hsz); have hF : Below w.heap.size w w1 := (by ((repeat' apply And.intro) <;> first | (simp [go_sem, *]; done) | omega | (repeat' (first | with_reducible exact Below.refl _ _ | with_reducible assumption | ((with_reducible refine Below.drew ?_)) | ((with_reducible refine below_drewN ?_ _)) | ((with_reducible refine Below.alloc ?_ ?_ _); rotate_left; focus (first | omega | (simp; done) | (simp; omega))) | ((with_reducible refine Below.setCell ?_ ?_ _); rotate_left; focus (first | omega | (simp; done) | (simp; omega))) | ((with_reducible refine Below.trans ?_ (Below.mono (by with_reducible assumption) ?_)); rotate_left; focus (first | omega | (simp; done) | (simp; omega))))))); go_split_ands; clear hcc hff hbel))
  (go_ret; refine ⟨?_, ?_⟩; (focus (exact rfl)); ((repeat' (first | with_reducible exact Below.refl _ _ | with_reducible assumption | ((with_reducible refine Below.drew ?_)) | ((with_reducible refine below_drewN ?_ _)) | ((with_reducible refine Below.alloc ?_ ?_ _); rotate_left; focus (first | omega | (simp; done) | (simp; omega))) | ((with_reducible refine Below.setCell ?_ ?_ _); rotate_left; focus (first | omega | (simp; done) | (simp; omega))) | ((with_reducible refine Below.trans ?_ (Below.mono (by with_reducible assumption) ?_)); rotate_left; focus (first | omega | (simp; done) | (simp; omega))))); done))
set_option maxHeartbeats 4000000 in
theorem totbeg_c (es : List Ev) (ae : Option Addr) (ce : Nat) (zs : List Int) (az : Option Addr) (cz : Nat) (fr tt : Int) (x y : Nat) (hn : es.length ≤ 4611686018427387904) (hz : zs.length ≤ 4611686018427387904) (w : World) (hE : EvsV w ae es) (hZ : IntsV w az zs)
    (hx : w.cell? ⟨x, 0, none⟩ = some (.int .u64 fr)) (hxl : x < w.heap.size) (hy : w.cell? ⟨y, 0, none⟩ = some (.int .u64 tt)) (hyl : y < w.heap.size) :
    Calls Tryd.prog 60 #[.slice ae es.length ce, .slice az zs.length cz, .func (.func 63) #[] #[.pointer (some ⟨x, 0, none⟩), .pointer (some ⟨y, 0, none⟩)]] w fun ee w' => ee = .returned (.int .u64 (tot (pbeg fr tt) zs es)) ∧ Below w.heap.size w w' := by
  have HE := Lib.hid hE
  have HZ := Lib.hid hZ
  have EI := Lib.hid ev_info
  have KC := fun e w h1 h2 h3 h4 => beg_c e x y fr tt w h1 h2 h3 h4
  obtain ⟨P, hP⟩ : ∃ P, pbeg fr tt = P := ⟨_, rfl⟩
  rw [hP] at KC ⊢
  have KCH := Lib.hid KC
  clear hE hZ KC hP
  go_enter Tryd.func60, Tryd.ntmps60
  go_wp2
  go_loopw [7, 12] (fun s i wr => ∃ k : Nat, k ≤ es.length ∧ i = .int .i64 k ∧ s = .int .u64 (tot P zs (es.take k)) ∧ Below w.heap.size w wr) (fun _ i _ => es.length - (intOf i).toNat)
  case atStart => exact ⟨0, Nat.zero_le _, rfl, rfl, Below.refl _ _⟩
  case round =>
    obtain ⟨k, hk, rfl, rfl, hB⟩ := hrel
    by_cases hlt : k < es.length
    · obtain ⟨b, o, rfl, hbl, hr⟩ := (HE.out.below hB) k hlt
      have hsucc := tot_succ P zs es k hlt
      have HS := Lib.hid hsucc
      clear hsucc
      obtain ⟨e, he⟩ : ∃ e, es[k] = e := ⟨_, rfl⟩
      rw [he] at HS hr
      have hBs := hB.size
      have hxr : wr.cell? ⟨x, 0, none⟩ = some (.int .u64 fr) := (hB.cell (p := ⟨x, 0, none⟩) hxl).trans hx
      have hyr : wr.cell? ⟨y, 0, none⟩ = some (.int .u64 tt) := (hB.cell (p := ⟨y, 0, none⟩) hyl).trans hy
      have hxb : x < wr.heap.size := by omega
      have hyb : y < wr.heap.size := by omega
      have hxne : ¬ x = wr.heap.size := by omega
      have hyne : ¬ y = wr.heap.size := by omega
      have HA := Lib.hid (fun o : Obj => HZ.out.below (hB.trans ((below_alloc' wr o).mono hBs)))
      obtain ⟨S, hS⟩ : ∃ S, tot P zs (es.take k) = S := ⟨_, rfl⟩
      rw [hS] at HS ⊢
      clear he hS
      have KN := Lib.hid (fun (z : World) (h : IntsV z az zs) => con_c zs az cz e.cls hz z h)
      by_cases hh : has zs e.cls = true
      · rw [hh] at KN
        cases hp : P e with
        | true =>
          have hadd : tadd P zs S e = IntKind.u64.wrap (S + IntKind.u64.wrap (if 0 > e.ln then 0 else e.ln)) := by unfold tadd; rw [hh, hp]; rfl
          rw [hadd] at HS
          have hmx := mxi_c e.ln 0
          obtain ⟨M, hM⟩ : ∃ M, (if 0 > e.ln then 0 else e.ln) = M := ⟨_, rfl⟩
          rw [hM] at hmx HS
          have KP := Lib.hid (fun z h1 h2 h3 h4 => hp ▸ KCH.out e z h1 h2 h3 h4)
          clear hM hadd hp hh
          go_wp2_with (first | (refine wpList_load_mid rfl 38 _ rfl b (o + k * 12) rfl _ _ hr Tryd.underlying38 rfl EI.out ?_) | (refine wpList_store_new rfl 38 _ _ rfl _ #[.int .i64 (e).op, .bool (e).inn, .bool (e).real, .int .u64 (e).tm, .int .u64 (e).dn, .int .i64 (e).cls, .int .u64 (e).id, .int .i64 (e).ln, .int .u16 (e).a, .int .u16 (e).b, .int .u16 (e).c, .int .u16 (e).d] rfl rfl EI.out rfl (all_oneCell_toArray e.one) ?_) | (go_at_call 101; (with_reducible refine (KN.out _ (HA.out _)).mono ?_); rintro ee wz ⟨rfl, rfl⟩) | (go_at_call 63; ((with_reducible refine (KP.out _ (by go_simp) (by go_simp) (by go_simp) (by go_simp)).mono ?_); rintro e w1 ⟨rfl, hbel⟩; obtain ⟨hcc, hff⟩ := bcell hbel; have hsz := hbel.size; (try simp at hsz); have hF : w1.cell? ⟨wr.heap.size, 7, none⟩ = some (.int .i64 e.ln) ∧ wr.heap.size < w1.heap.size ∧ Below w.heap.size w w1 := (by ((repeat' apply And.intro) <;> first | (simp [go_sem, *]; done) | omega | (repeat' (first | with_reducible exact Below.refl _ _ | with_reducible assumption | ((with_reducible refine Below.drew ?_)) | ((with_reducible refine below_drewN ?_ _)) | ((with_reducible refine Below.alloc ?_ ?_ _); rotate_left; focus (first | omega | (simp; done) | (simp; omega))) | ((with_reducible refine Below.setCell ?_ ?_ _); rotate_left; focus (first | omega | (simp; done) | (simp; omega))) | ((with_reducible refine Below.trans ?_ (Below.mono (by with_reducible assumption) ?_)); rotate_left; focus (first | omega | (simp; done) | (simp; omega))))))); go_split_ands; clear hcc hff hbel)))
          go_roundw
          case rel => exact ⟨k + 1, by omega, by go_num, by rw [HS.out], (by repeat' (first | with_reducible exact Below.refl _ _ | with_reducible assumption | ((with_reducible refine Below.drew ?_)) | ((with_reducible refine below_drewN ?_ _)) | ((with_reducible refine Below.alloc ?_ ?_ _); rotate_left; focus (first | omega | (simp; done) | (simp; omega))) | ((with_reducible refine Below.setCell ?_ ?_ _); rotate_left; focus (first | omega | (simp; done) | (simp; omega))) | ((with_reducible refine Below.trans ?_ (Below.mono (by with_reducible assumption) ?_)); rotate_left; focus (first | omega | (simp; done) | (simp; omega)))))⟩
          case measure => simp [intOf]; omega
        | false =>
          have hadd : tadd P zs S e = S := by unfold tadd; rw [hh, hp]; rfl
          rw [hadd] at HS
          have KP := Lib.hid (fun z h1 h2 h3 h4 => hp ▸ KCH.out e z h1 h2 h3 h4)
          clear hadd hp hh
          go_wp2_with (first | (refine wpList_load_mid rfl 38 _ rfl b (o + k * 12) rfl _ _ hr Tryd.underlying38 rfl EI.out ?_) | (refine wpList_store_new rfl 38 _ _ rfl _ #[.int .i64 (e).op, .bool (e).inn, .bool (e).real, .int .u64 (e).tm, .int .u64 (e).dn, .int .i64 (e).cls, .int .u64 (e).id, .int .i64 (e).ln, .int .u16 (e).a, .int .u16 (e).b, .int .u16 (e).c, .int .u16 (e).d] rfl rfl EI.out rfl (all_oneCell_toArray e.one) ?_) | (go_at_call 101; (with_reducible refine (KN.out _ (HA.out _)).mono ?_); rintro ee wz ⟨rfl, rfl⟩) | (go_at_call 63; ((with_reducible refine (KP.out _ (by go_simp) (by go_simp) (by go_simp) (by go_simp)).mono ?_); rintro e w1 ⟨rfl, hbel⟩; obtain ⟨hcc, hff⟩ := bcell hbel; have hsz := hbel.size; (try simp at hsz); have hF : wr.heap.size < w1.heap.size ∧ Below w.heap.size w w1 := (by ((repeat' apply And.intro) <;> first | (simp [go_sem, *]; done) | omega | (repeat' (first | with_reducible exact Below.refl _ _ | with_reducible assumption | ((with_reducible refine Below.drew ?_)) | ((with_reducible refine below_drewN ?_ _)) | ((with_reducible refine Below.alloc ?_ ?_ _); rotate_left; focus (first | omega | (simp; done) | (simp; omega))) | ((with_reducible refine Below.setCell ?_ ?_ _); rotate_left; focus (first | omega | (simp; done) | (simp; omega))) | ((with_reducible refine Below.trans ?_ (Below.mono (by with_reducible assumption) ?_)); rotate_left; focus (first | omega | (simp; done) | (simp; omega))))))); go_split_ands; clear hcc hff hbel)))
          go_roundw
          case rel => exact ⟨k + 1, by omega, by go_num, by rw [HS.out], (by repeat' (first | with_reducible exact Below.refl _ _ | with_reducible assumption | ((with_reducible refine Below.drew ?_)) | ((with_reducible refine below_drewN ?_ _)) | ((with_reducible refine Below.alloc ?_ ?_ _); rotate_left; focus (first | omega | (simp; done) | (simp; omega))) | ((with_reducible refine Below.setCell ?_ ?_ _); rotate_left; focus (first | omega | (simp; done) | (simp; omega))) | ((with_reducible refine Below.trans ?_ (Below.mono (by with_reducible assumption) ?_)); rotate_left; focus (first | omega | (simp; done) | (simp; omega)))))⟩
          case measure => simp [intOf]; omega
      · have hh' : has zs e.cls = false := by simpa using hh
        rw [hh'] at KN
        have hadd : tadd P zs S e = S := by unfold tadd; rw [hh']; rfl
        rw [hadd] at HS
        clear hadd hh hh'
        go_wp2_with (first | (refine wpList_load_mid rfl 38 _ rfl b (o + k * 12) rfl _ _ hr Tryd.underlying38 rfl EI.out ?_) | (refine wpList_store_new rfl 38 _ _ rfl _ #[.int .i64 (e).op, .bool (e).inn, .bool (e).real, .int .u64 (e).tm, .int .u64 (e).dn, .int .i64 (e).cls, .int .u64 (e).id, .int .i64 (e).ln, .int .u16 (e).a, .int .u16 (e).b, .int .u16 (e).c, .int .u16 (e).d] rfl rfl EI.out rfl (all_oneCell_toArray e.one) ?_) | (go_at_call 101; (with_reducible refine (KN.out _ (HA.out _)).mono ?_); rintro ee wz ⟨rfl, rfl⟩))
        go_roundw
        case rel => exact ⟨k + 1, by omega, by go_num, by rw [HS.out], (by repeat' (first | with_reducible exact Below.refl _ _ | with_reducible assumption | ((with_reducible refine Below.drew ?_)) | ((with_reducible refine below_drewN ?_ _)) | ((with_reducible refine Below.alloc ?_ ?_ _); rotate_left; focus (first | omega | (simp; done) | (simp; omega))) | ((with_reducible refine Below.setCell ?_ ?_ _); rotate_left; focus (first | omega | (simp; done) | (simp; omega))) | ((with_reducible refine Below.trans ?_ (Below.mono (by with_reducible assumption) ?_)); rotate_left; focus (first | omega | (simp; done) | (simp; omega)))))⟩
        case measure => simp [intOf]; omega
    · obtain rfl : k = es.length := by omega
      rw [List.take_length]
      go_wp2
      (go_ret; refine ⟨?_, ?_⟩; (focus (exact rfl)); ((repeat' (first | with_reducible exact Below.refl _ _ | with_reducible assumption | ((with_reducible refine Below.drew ?_)) | ((with_reducible refine below_drewN ?_ _)) | ((with_reducible refine Below.alloc ?_ ?_ _); rotate_left; focus (first | omega | (simp; done) | (simp; omega))) | ((with_reducible refine Below.setCell ?_ ?_ _); rotate_left; focus (first | omega | (simp; done) | (simp; omega))) | ((with_reducible refine Below.trans ?_ (Below.mono (by with_reducible assumption) ?_)); rotate_left; focus (first | omega | (simp; done) | (simp; omega))))); done))
theorem begun_c (es : List Ev) (ae : Option Addr) (ce : Nat) (zs : List Int) (az : Option Addr) (cz : Nat) (fr tt : Int) (hn : es.length ≤ 4611686018427387904) (hz : zs.length ≤ 4611686018427387904) (w : World) (hE : EvsV w ae es) (hZ : IntsV w az zs) :
    Calls Tryd.prog 20 #[.slice ae es.length ce, .slice az zs.length cz, .int .u64 fr, .int .u64 tt] w fun ee w' => ee = .returned (.int .u64 (tot (pbeg fr tt) zs es)) ∧ Below w.heap.size w w' := by
  have KT := Lib.hid (fun x y z h1 h2 h3 h4 h5 h6 => totbeg_c es ae ce zs az cz fr tt x y hn hz z h1 h2 h3 h4 h5 h6)
  have HE := Lib.hid hE
  have HZ := Lib.hid hZ
  clear hE hZ
  go_enter Tryd.func20, Tryd.ntmps20
  go_wp2_with (go_at_call 60; ((with_reducible refine (KT.out _ _ _ (HE.out.below (by repeat' (first | with_reducible exact Below.refl _ _ | with_reducible assumption | ((with_reducible refine Below.drew ?_)) | ((with_reducible refine below_drewN ?_ _)) | ((with_reducible refine Below.alloc ?_ ?_ _); rotate_left; focus (first | omega | (simp; done) | (simp; omega))) | ((with_reducible refine Below.setCell ?_ ?_ _); rotate_left; focus (first | omega | (simp; done) | (simp; omega))) | ((with_reducible refine Below.trans ?_ (Below.mono (by with_reducible assumption) ?_)); rotate_left; focus (first | omega | (simp; done) | (simp; omega)))))) (HZ.out.below (by repeat' (first | with_reducible exact Below.refl _ _ | with_reducible assumption | ((with_reducible refine Below.drew ?_)) | ((with_reducible refine below_drewN ?_ _)) | ((with_reducible refine Below.alloc ?_ ?_ _); rotate_left; focus (first | omega | (simp; done) | (simp; omega))) | ((with_reducible refine Below.setCell ?_ ?_ _); rotate_left; focus (first | omega | (simp; done) | (simp; omega))) | ((with_reducible refine Below.trans ?_ (Below.mono (by with_reducible assumption) ?_)); rotate_left; focus (first | omega | (simp; done) | (simp; omega)))))) (by go_simp) (by go_simp) (by go_simp) (by go_simp)).mono ?_); rintro e w1 ⟨rfl, hbel⟩; obtain ⟨hcc, hff⟩ := bcell hbel; have hsz := hbel.size; (try simp at hsz); have hF : Below w.heap.size w w1 := (by ((repeat' apply And.intro) <;> first | (simp [go_sem, *]; done) | omega | (repeat' (first | with_reducible exact Below.refl _ _ | with_reducible assumption | ((with_reducible refine Below.drew ?_)) | ((with_reducible refine below_drewN ?_ _)) | ((with_reducible refine Below.alloc ?_ ?_ _); rotate_left; focus (first | omega | (simp; done) | (simp; omega))) | ((with_reducible refine Below.setCell ?_ ?_ _); rotate_left; focus (first | omega | (simp; done) | (simp; omega))) | ((with_reducible refine Below.trans ?_ (Below.mono (by with_reducible assumption) ?_)); rotate_left; focus (first | omega | (simp; done) | (simp; omega))))))); go_split_ands; clear hcc hff hbel))
  (go_ret; refine ⟨?_, ?_⟩; (focus (exact rfl)); ((repeat' (first | with_reducible exact Below.refl _ _ | with_reducible assumption | ((with_reducible refine Below.drew ?_)) | ((with_reducible refine below_drewN ?_ _)) | ((with_reducible refine Below.alloc ?_ ?_ _); rotate_left; focus (first | omega | (simp; done) | (simp; omega))) | ((with_reducible refine Below.setCell ?_ ?_ _); rotate_left; focus (first | omega | (simp; done) | (simp; omega))) | ((with_reducible refine Below.trans ?_ (Below.mono (by with_reducible assumption) ?_)); rotate_left; focus (first | omega | (simp; done) | (simp; omega))))); done))
set_option maxHeartbeats 4000000 in
theorem totsen_c (es : List Ev) (ae : Option Addr) (ce : Nat) (zs : List Int) (az : Option Addr) (cz : Nat) (fr tt : Int) (x y : Nat) (hn : es.length ≤ 4611686018427387904) (hz : zs.length ≤ 4611686018427387904) (w : World) (hE : EvsV w ae es) (hZ : IntsV w az zs)
    (hx : w.cell? ⟨x, 0, none⟩ = some (.int .u64 fr)) (hxl : x < w.heap.size) (hy : w.cell? ⟨y, 0, none⟩ = some (.int .u64 tt)) (hyl : y < w.heap.size) :
    Calls Tryd.prog 60 #[.slice ae es.length ce, .slice az zs.length cz, .func (.func 64) #[] #[.pointer (some ⟨x, 0, none⟩), .pointer (some ⟨y, 0, none⟩)]] w fun ee w' => ee = .returned (.int .u64 (tot (psen fr tt) zs es)) ∧ Below w.heap.size w w' := by
  have HE := Lib.hid hE
  have HZ := Lib.hid hZ
  have EI := Lib.hid ev_info
  have KC := fun e w h1 h2 h3 h4 => sen_c e x y fr tt w h1 h2 h3 h4
  obtain ⟨P, hP⟩ : ∃ P, psen fr tt = P := ⟨_, rfl⟩
  rw [hP] at KC ⊢
  have KCH := Lib.hid KC
  clear hE hZ KC hP
  go_enter Tryd.func60, Tryd.ntmps60
  go_wp2
  go_loopw [7, 12] (fun s i wr => ∃ k : Nat, k ≤ es.length ∧ i = .int .i64 k ∧ s = .int .u64 (tot P zs (es.take k)) ∧ Below w.heap.size w wr) (fun _ i _ => es.length - (intOf i).toNat)
  case atStart => exact ⟨0, Nat.zero_le _, rfl, rfl, Below.refl _ _⟩
  case round =>
    obtain ⟨k, hk, rfl, rfl, hB⟩ := hrel
    by_cases hlt : k < es.length
    · obtain ⟨b, o, rfl, hbl, hr⟩ := (HE.out.below hB) k hlt
      have hsucc := tot_succ P zs es k hlt
      have HS := Lib.hid hsucc
      clear hsucc
      obtain ⟨e, he⟩ : ∃ e, es[k] = e := ⟨_, rfl⟩
      rw [he] at HS hr
      have hBs := hB.size
      have hxr : wr.cell? ⟨x, 0, none⟩ = some (.int .u64 fr) := (hB.cell (p := ⟨x, 0, none⟩) hxl).trans hx
      have hyr : wr.cell? ⟨y, 0, none⟩ = some (.int .u64 tt) := (hB.cell (p := ⟨y, 0, none⟩) hyl).trans hy
      have hxb : x < wr.heap.size := by omega
      have hyb : y < wr.heap.size := by omega
      have hxne : ¬ x = wr.heap.size := by omega
      have hyne : ¬ y = wr.heap.size := by omega
      have HA := Lib.hid (fun o : Obj => HZ.out.below (hB.trans ((below_alloc' wr o).mono hBs)))
      obtain ⟨S, hS⟩ : ∃ S, tot P zs (es.take k) = S := ⟨_, rfl⟩
      rw [hS] at HS ⊢
      clear he hS
      have KN := Lib.hid (fun (z : World) (h : IntsV z az zs) => con_c zs az cz e.cls hz z h)
      by_cases hh : has zs e.cls = true
      · rw [hh] at KN
        cases hp : P e with
        | true =>
          have hadd : tadd P zs S e = IntKind.u64.wrap (S + IntKind.u64.wrap (if 0 > e.ln then 0 else e.ln)) := by unfold tadd; rw [hh, hp]; rfl
          rw [hadd] at HS
          have hmx := mxi_c e.ln 0
          obtain ⟨M, hM⟩ : ∃ M, (if 0 > e.ln then 0 else e.ln) = M := ⟨_, rfl⟩
          rw [hM] at hmx HS
          have KP := Lib.hid (fun z h1 h2 h3 h4 => hp ▸ KCH.out e z h1 h2 h3 h4)
          clear hM hadd hp hh
          go_wp2_with (first | (refine wpList_load_mid rfl 38 _ rfl b (o + k * 12) rfl _ _ hr Tryd.underlying38 rfl EI.out ?_) | (refine wpList_store_new rfl 38 _ _ rfl _ #[.int .i64 (e).op, .bool (e).inn, .bool (e).real, .int .u64 (e).tm, .int .u64 (e).dn, .int .i64 (e).cls, .int .u64 (e).id, .int .i64 (e).ln, .int .u16 (e).a, .int .u16 (e).b, .int .u16 (e).c, .int .u16 (e).d] rfl rfl EI.out rfl (all_oneCell_toArray e.one) ?_) | (go_at_call 101; (with_reducible refine (KN.out _ (HA.out _)).mono ?_); rintro ee wz ⟨rfl, rfl⟩) | (go_at_call 64; ((with_reducible refine (KP.out _ (by go_simp) (by go_simp) (by go_simp) (by go_simp)).mono ?_); rintro e w1 ⟨rfl, hbel⟩; obtain ⟨hcc, hff⟩ := bcell hbel; have hsz := hbel.size; (try simp at hsz); have hF : w1.cell? ⟨wr.heap.size, 7, none⟩ = some (.int .i64 e.ln) ∧ wr.heap.size < w1.heap.size ∧ Below w.heap.size w w1 := (by ((repeat' apply And.intro) <;> first | (simp [go_sem, *]; done) | omega | (repeat' (first | with_reducible exact Below.refl _ _ | with_reducible assumption | ((with_reducible refine Below.drew ?_)) | ((with_reducible refine below_drewN ?_ _)) | ((with_reducible refine Below.alloc ?_ ?_ _); rotate_left; focus (first | omega | (simp; done) | (simp; omega))) | ((with_reducible refine Below.setCell ?_ ?_ _); rotate_left; focus (first | omega | (simp; done) | (simp; omega))) | ((with_reducible refine Below.trans ?_ (Below.mono (by with_reducible assumption) ?_)); rotate_left; focus (first | omega | (simp; done) | (simp; omega))))))); go_split_ands; clear hcc hff hbel)))
          go_roundw
          case rel => exact ⟨k + 1, by omega, by go_num, by rw [HS.out], (by repeat' (first | with_reducible exact Below.refl _ _ | with_reducible assumption | ((with_reducible refine Below.drew ?_)) | ((with_reducible refine below_drewN ?_ _)) | ((with_reducible refine Below.alloc ?_ ?_ _); rotate_left; focus (first | omega | (simp; done) | (simp; omega))) | ((with_reducible refine Below.setCell ?_ ?_ _); rotate_left; focus (first | omega | (simp; done) | (simp; omega))) | ((with_reducible refine Below.trans ?_ (Below.mono (by with_reducible assumption) ?_)); rotate_left; focus (first | omega | (simp; done) | (simp; omega)))))⟩
          case measure => simp [intOf]; omega
        | false =>
          have hadd : tadd P zs S e = S := by unfold tadd; rw [hh, hp]; rfl
          rw [hadd] at HS
          have KP := Lib.hid (fun z h1 h2 h3 h4 => hp ▸ KCH.out e z h1 h2 h3 h4)
          clear hadd hp hh
          go_wp2_with (first | (refine wpList_load_mid rfl 38 _ rfl b (o + k * 12) rfl _ _ hr Tryd.underlying38 rfl EI.out ?_) | (refine wpList_store_new rfl 38 _ _ rfl _ #[.int .i64 (e).op, .bool (e).inn, .bool (e).real, .int .u64 (e).tm, .int .u64 (e).dn, .int .i64 (e).cls, .int .u64 (e).id, .int .i64 (e).ln, .int .u16 (e).a, .int .u16 (e).b, .int .u16 (e).c, .int .u16 (e).d] rfl rfl EI.out rfl (all_oneCell_toArray e.one) ?_) | (go_at_call 101; (with_reducible refine (KN.out _ (HA.out _)).mono ?_); rintro ee wz ⟨rfl, rfl⟩) | (go_at_call 64; ((with_reducible refine (KP.out _ (by go_simp) (by go_simp) (by go_simp) (by go_simp)).mono ?_); rintro e w1 ⟨rfl, hbel⟩; obtain ⟨hcc, hff⟩ := bcell hbel; have hsz := hbel.size; (try simp at hsz); have hF : wr.heap.size < w1.heap.size ∧ Below w.heap.size w w1 := (by ((repeat' apply And.intro) <;> first | (simp [go_sem, *]; done) | omega | (repeat' (first | with_reducible exact Below.refl _ _ | with_reducible assumption | ((with_reducible refine Below.drew ?_)) | ((with_reducible refine below_drewN ?_ _)) | ((with_reducible refine Below.alloc ?_ ?_ _); rotate_left; focus (first | omega | (simp; done) | (simp; omega))) | ((with_reducible refine Below.setCell ?_ ?_ _); rotate_left; focus (first | omega | (simp; done) | (simp; omega))) | ((with_reducible refine Below.trans ?_ (Below.mono (by with_reducible assumption) ?_)); rotate_left; focus (first | omega | (simp; done) | (simp; omega))))))); go_split_ands; clear hcc hff hbel)))
          go_roundw
          case rel => exact ⟨k + 1, by omega, by go_num, by rw [HS.out], (by repeat' (first | with_reducible exact Below.refl _ _ | with_reducible assumption | ((with_reducible refine Below.drew ?_)) | ((with_reducible refine below_drewN ?_ _)) | ((with_reducible refine Below.alloc ?_ ?_ _); rotate_left; focus (first | omega | (simp; done) | (simp; omega))) | ((with_reducible refine Below.setCell ?_ ?_ _); rotate_left; focus (first | omega | (simp; done) | (simp; omega))) | ((with_reducible refine Below.trans ?_ (Below.mono (by with_reducible assumption) ?_)); rotate_left; focus (first | omega | (simp; done) | (simp; omega)))))⟩
          case measure => simp [intOf]; omega
      · have hh' : has zs e.cls = false := by simpa using hh
        rw [hh'] at KN
        have hadd : tadd P zs S e = S := by unfold tadd; rw [hh']; rfl
        rw [hadd] at HS
        clear hadd hh hh'
        go_wp2_with (first | (refine wpList_load_mid rfl 38 _ rfl b (o + k * 12) rfl _ _ hr Tryd.underlying38 rfl EI.out ?_) | (refine wpList_store_new rfl 38 _ _ rfl _ #[.int .i64 (e).op, .bool (e).inn, .bool (e).real, .int .u64 (e).tm, .int .u64 (e).dn, .int .i64 (e).cls, .int .u64 (e).id, .int .i64 (e).ln, .int .u16 (e).a, .int .u16 (e).b, .int .u16 (e).c, .int .u16 (e).d] rfl rfl EI.out rfl (all_oneCell_toArray e.one) ?_) | (go_at_call 101; (with_reducible refine (KN.out _ (HA.out _)).mono ?_); rintro ee wz ⟨rfl, rfl⟩))
        go_roundw
        case rel => exact ⟨k + 1, by omega, by go_num, by rw [HS.out], (by repeat' (first | with_reducible exact Below.refl _ _ | with_reducible assumption | ((with_reducible refine Below.drew ?_)) | ((with_reducible refine below_drewN ?_ _)) | ((with_reducible refine Below.alloc ?_ ?_ _); rotate_left; focus (first | omega | (simp; done) | (simp; omega))) | ((with_reducible refine Below.setCell ?_ ?_ _); rotate_left; focus (first | omega | (simp; done) | (simp; omega))) | ((with_reducible refine Below.trans ?_ (Below.mono (by with_reducible assumption) ?_)); rotate_left; focus (first | omega | (simp; done) | (simp; omega)))))⟩
        case measure => simp [intOf]; omega
    · obtain rfl : k = es.length := by omega
      rw [List.take_length]
      go_wp2
      (go_ret; refine ⟨?_, ?_⟩; (focus (exact rfl)); ((repeat' (first | with_reducible exact Below.refl _ _ | with_reducible assumption | ((with_reducible refine Below.drew ?_)) | ((with_reducible refine below_drewN ?_ _)) | ((with_reducible refine Below.alloc ?_ ?_ _); rotate_left; focus (first | omega | (simp; done) | (simp; omega))) | ((with_reducible refine Below.setCell ?_ ?_ _); rotate_left; focus (first | omega | (simp; done) | (simp; omega))) | ((with_reducible refine Below.trans ?_ (Below.mono (by with_reducible assumption) ?_)); rotate_left; focus (first | omega | (simp; done) | (simp; omega))))); done))
theorem sent_c (es : List Ev) (ae : Option Addr) (ce : Nat) (zs : List Int) (az : Option Addr) (cz : Nat) (fr tt : Int) (hn : es.length ≤ 4611686018427387904) (hz : zs.length ≤ 4611686018427387904) (w : World) (hE : EvsV w ae es) (hZ : IntsV w az zs) :
    Calls Tryd.prog 21 #[.slice ae es.length ce, .slice az zs.length cz, .int .u64 fr, .int .u64 tt] w fun ee w' => ee = .returned (.int .u64 (tot (psen fr tt) zs es)) ∧ Below w.heap.size w w' := by
  have KT := Lib.hid (fun x y z h1 h2 h3 h4 h5 h6 => totsen_c es ae ce zs az cz fr tt x y hn hz z h1 h2 h3 h4 h5 h6)
  have HE := Lib.hid hE
  have HZ := Lib.hid hZ
  clear hE hZ
  go_enter Tryd.func21, Tryd.ntmps21
  go_wp2_with (go_at_call 60; ((with_reducible refine (KT.out _ _ _ (HE.out.below (by repeat' (first | with_reducible exact Below.refl _ _ | with_reducible assumption | ((with_reducible refine Below.drew ?_)) | ((with_reducible refine below_drewN ?_ _)) | ((with_reducible refine Below.alloc ?_ ?_ _); rotate_left; focus (first | omega | (simp; done) | (simp; omega))) | ((with_reducible refine Below.setCell ?_ ?_ _); rotate_left; focus (first | omega | (simp; done) | (simp; omega))) | ((with_reducible refine Below.trans ?_ (Below.mono (by with_reducible assumption) ?_)); rotate_left; focus (first | omega | (simp; done) | (simp; omega)))))) (HZ.out.below (by repeat' (first | with_reducible exact Below.refl _ _ | with_reducible assumption | ((with_reducible refine Below.drew ?_)) | ((with_reducible refine below_drewN ?_ _)) | ((with_reducible refine Below.alloc ?_ ?_ _); rotate_left; focus (first | omega | (simp; done) | (simp; omega))) | ((with_reducible refine Below.setCell ?_ ?_ _); rotate_left; focus (first | omega | (simp; done) | (simp; omega))) | ((with_reducible refine Below.trans ?_ (Below.mono (by with_reducible assumption) ?_)); rotate_left; focus (first | omega | (simp; done) | (simp; omega)))))) (by go_simp) (by go_simp) (by go_simp) (by go_simp)).mono ?_); rintro e w1 ⟨rfl, hbel⟩; obtain ⟨hcc, hff⟩ := bcell hbel; have hsz := hbel.size; (try simp at hsz); have hF : Below w.heap.size w w1 := (by ((repeat' apply And.intro) <;> first | (simp [go_sem, *]; done) | omega | (repeat' (first | with_reducible exact Below.refl _ _ | with_reducible assumption | ((with_reducible refine Below.drew ?_)) | ((with_reducible refine below_drewN ?_ _)) | ((with_reducible refine Below.alloc ?_ ?_ _); rotate_left; focus (first | omega | (simp; done) | (simp; omega))) | ((with_reducible refine Below.setCell ?_ ?_ _); rotate_left; focus (first | omega | (simp; done) | (simp; omega))) | ((with_reducible refine Below.trans ?_ (Below.mono (by with_reducible assumption) ?_)); rotate_left; focus (first | omega | (simp; done) | (simp; omega))))))); go_split_ands; clear hcc hff hbel))
  (go_ret; refine ⟨?_, ?_⟩; (focus (exact rfl)); ((repeat' (first | with_reducible exact Below.refl _ _ | with_reducible assumption | ((with_reducible refine Below.drew ?_)) | ((with_reducible refine below_drewN ?_ _)) | ((with_reducible refine Below.alloc ?_ ?_ _); rotate_left; focus (first | omega | (simp; done) | (simp; omega))) | ((with_reducible refine Below.setCell ?_ ?_ _); rotate_left; focus (first | omega | (simp; done) | (simp; omega))) | ((with_reducible refine Below.trans ?_ (Below.mono (by with_reducible assumption) ?_)); rotate_left; focus (first | omega | (simp; done) | (simp; omega))))); done))
end Go.Proofs.YtdiniaokkdcihaaDoor
