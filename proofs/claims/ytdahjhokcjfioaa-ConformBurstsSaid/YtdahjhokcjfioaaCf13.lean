/- The reference's More and Wrong. -/
import Derived.Test.YtdahjhokcjfioaaCf12
namespace Go.Proofs.Ytdahjhokcjfioaa
set_option linter.unusedVariables false
set_option linter.unusedSimpArgs false
set_option maxRecDepth 100000
open Go.RowKit Fg Reg
attribute [local irreducible] Reg.wE

set_option maxHeartbeats 2000000 in
theorem rmore_c (L : List Cm) (a : Option Addr) (cap : Nat) (hn : L.length ≤ 1000) (hw : ∀ x ∈ L, x.wf) (w : World) (hR : RwV Cm.cells 2 w a L) :
    Calls Try.prog 140 #[.slice a L.length cap] w fun ee w' => ee = .returned (.bool (decide (1099511627776 < smc L))) ∧ Below w.heap.size w w' := by
  have HR := Lib.hid hR
  have HW := Lib.hid hw
  have CI := Lib.hid cmt_size
  clear hR hw
  go_enter Try.func140, Try.ntmps140
  go_wp2
  go_loopw [3, 8] (fun s i wr => ∃ (k : Nat), k ≤ L.length ∧ i = .int .i64 k ∧ s = .int .u64 (smc (L.take k)) ∧ smc (L.take k) ≤ 1099511627776 ∧ Below w.heap.size w wr) (fun _ i _ => L.length - (intOf i).toNat)
  case atStart => exact ⟨0, Nat.zero_le _, rfl, rfl, by rw [List.take_zero]; decide, Below.refl _ _⟩
  case round =>
    obtain ⟨k, hk, rfl, rfl, hle, hB⟩ := hrel
    have hbs := hB.size
    by_cases hlt : k < L.length
    · obtain ⟨b, o, rfl, hbl, hr⟩ := (HR.out.below hB) k hlt
      have hx := HW.out L[k] (List.getElem_mem hlt)
      have hss := smc_succ L k hlt
      have htk := smc_take L (fun x hx => (HW.out x hx).b0) (k + 1)
      have hnn := smc_nn (L.take k) (fun x hx => (HW.out x (List.mem_of_mem_take hx)).b0)
      obtain ⟨e, he⟩ : ∃ e, L[k] = e := ⟨_, rfl⟩
      rw [he] at hr hx hss
      obtain ⟨S, hS⟩ : ∃ S, smc (L.take k) = S := ⟨_, rfl⟩
      rw [hS] at hss hnn hle ⊢
      have b0 := hx.b0
      have b1 := hx.b1
      have W1 : IntKind.u64.wrap (1099511627776 - S) = 1099511627776 - S := by rw [wrap_u64]; omega
      by_cases hg : 1099511627776 - S < e.by'
      · have d0 : decide (1099511627776 - S < e.by') = true := by simpa using hg
        have HS := Lib.hid (show decide (1099511627776 < smc L) = true by simp; omega)
        clear hss htk hx he hS hg
        go_wp2_with (first | (refine wpList_load_mid rfl 161 _ rfl b (o + k * 2) rfl _ _ hr Try.underlying161 rfl CI.out ?_) | (refine wpList_store_new rfl 161 _ _ rfl _ #[.int .u64 e.tm, .int .u64 e.by'] rfl rfl CI.out rfl (all_oneCell_toArray (Cm.C.one e)) ?_))
        go_ret
        exact ⟨by rw [HS.out]; rfl, (by repeat' (first | with_reducible exact Below.refl _ _ | with_reducible assumption | ((with_reducible refine Below.drew ?_)) | ((with_reducible refine below_drewN ?_ _)) | ((with_reducible refine Below.alloc ?_ ?_ _); rotate_left; focus (first | omega | (simp; done) | (simp; omega))) | ((with_reducible refine Below.setCell ?_ ?_ _); rotate_left; focus (first | omega | (simp; done) | (simp; omega))) | ((with_reducible refine Below.trans ?_ (Below.mono (by with_reducible assumption) ?_)); rotate_left; focus (first | omega | (simp; done) | (simp; omega)))))⟩
      · have d0 : decide (1099511627776 - S < e.by') = false := by simpa using hg
        have W2 : IntKind.u64.wrap (S + e.by') = S + e.by' := by rw [wrap_u64]; omega
        have HS := Lib.hid (And.intro hss (show S + e.by' ≤ 1099511627776 by omega))
        clear hss htk hx he hS hg
        go_wp2_with (first | (refine wpList_load_mid rfl 161 _ rfl b (o + k * 2) rfl _ _ hr Try.underlying161 rfl CI.out ?_) | (refine wpList_store_new rfl 161 _ _ rfl _ #[.int .u64 e.tm, .int .u64 e.by'] rfl rfl CI.out rfl (all_oneCell_toArray (Cm.C.one e)) ?_))
        go_roundw
        case rel => exact ⟨k + 1, by omega, by go_num, by rw [HS.out.1], by rw [HS.out.1]; exact HS.out.2, (by repeat' (first | with_reducible exact Below.refl _ _ | with_reducible assumption | ((with_reducible refine Below.drew ?_)) | ((with_reducible refine below_drewN ?_ _)) | ((with_reducible refine Below.alloc ?_ ?_ _); rotate_left; focus (first | omega | (simp; done) | (simp; omega))) | ((with_reducible refine Below.setCell ?_ ?_ _); rotate_left; focus (first | omega | (simp; done) | (simp; omega))) | ((with_reducible refine Below.trans ?_ (Below.mono (by with_reducible assumption) ?_)); rotate_left; focus (first | omega | (simp; done) | (simp; omega)))))⟩
        case measure => simp [intOf]; omega
    · obtain rfl : k = L.length := by omega
      rw [List.take_length] at hle
      have HS := Lib.hid (show decide (1099511627776 < smc L) = false by simp; omega)
      clear hle
      go_wp2
      go_ret
      exact ⟨by rw [HS.out]; rfl, hB⟩
theorem cfold_byt (L : List Cm) (hw : ∀ x ∈ L, x.wf) : ∀ k, k ≤ L.length → ((cfold (L.take k)).2.2 = smc (L.take k) ∧ smc (L.take k) ≤ 1099511627776) ∨ (1099511627776 < (cfold (L.take k)).2.2 ∧ 1099511627776 < smc (L.take k))
  | 0, _ => by rw [List.take_zero]; exact .inl ⟨rfl, by decide⟩
  | k + 1, hk => by
    have ih := cfold_byt L hw k (by omega)
    have hb := (hw L[k] (List.getElem_mem (by omega))).b0
    rw [cfold_succ L k (by omega), smc_succ L k (by omega)]
    unfold cstep
    dsimp only
    rcases ih with ⟨h1, h2⟩ | ⟨h1, h2⟩
    · rw [if_pos (by omega), h1]; omega
    · rw [if_neg (by omega)]; omega
def wrE (s : Int) (L : List Cm) : Int := if s < 1 ∨ 4294967295 < s then 1 else eL L
theorem rwrong_arg (s : Int) (a : Option Addr) (n cap : Nat) (h : s < 1 ∨ (1 ≤ s ∧ 4294967295 < s)) (w : World) : Calls Try.prog 74 #[.int .u64 s, .slice a n cap] w fun ee w' => ee = .returned (.int .i64 1) ∧ Below w.heap.size w w' := by
  rcases h with h | ⟨h0, h⟩
  · have d0 : decide (s < 1) = true := by simpa using h
    clear h
    go_enter Try.func74, Try.ntmps74
    go_wp2
    (go_ret; refine ⟨?_, ?_⟩; (focus (exact rfl)); ((repeat' (first | with_reducible exact Below.refl _ _ | with_reducible assumption | ((with_reducible refine Below.drew ?_)) | ((with_reducible refine below_drewN ?_ _)) | ((with_reducible refine Below.alloc ?_ ?_ _); rotate_left; focus (first | omega | (simp; done) | (simp; omega))) | ((with_reducible refine Below.setCell ?_ ?_ _); rotate_left; focus (first | omega | (simp; done) | (simp; omega))) | ((with_reducible refine Below.trans ?_ (Below.mono (by with_reducible assumption) ?_)); rotate_left; focus (first | omega | (simp; done) | (simp; omega))))); done))
  · have d0 : decide (s < 1) = false := by simp; omega
    have d1 : decide (4294967295 < s) = true := by simpa using h
    clear h h0
    go_enter Try.func74, Try.ntmps74
    go_wp2
    (go_ret; refine ⟨?_, ?_⟩; (focus (exact rfl)); ((repeat' (first | with_reducible exact Below.refl _ _ | with_reducible assumption | ((with_reducible refine Below.drew ?_)) | ((with_reducible refine below_drewN ?_ _)) | ((with_reducible refine Below.alloc ?_ ?_ _); rotate_left; focus (first | omega | (simp; done) | (simp; omega))) | ((with_reducible refine Below.setCell ?_ ?_ _); rotate_left; focus (first | omega | (simp; done) | (simp; omega))) | ((with_reducible refine Below.trans ?_ (Below.mono (by with_reducible assumption) ?_)); rotate_left; focus (first | omega | (simp; done) | (simp; omega))))); done))
set_option maxHeartbeats 2000000 in
theorem rwrong_in (s : Int) (L : List Cm) (a : Option Addr) (cap : Nat) (h0 : 1 ≤ s) (h1 : s ≤ 4294967295) (hn : L.length ≤ 1000) (hw : ∀ x ∈ L, x.wf) (w : World) (hR : RwV Cm.cells 2 w a L) :
    Calls Try.prog 74 #[.int .u64 s, .slice a L.length cap] w fun ee w' => ee = .returned (.int .i64 (eL L)) ∧ Below w.heap.size w w' := by
  have HR := Lib.hid hR
  have HW := Lib.hid hw
  have CI := Lib.hid cmt_size
  have KM := Lib.hid (fun z (hb : Below w.heap.size w z) => rmore_c L a cap hn hw z (hR.below hb))
  have d0 : decide (s < 1) = false := by simp; omega
  have d1 : decide (4294967295 < s) = false := by simp; omega
  clear hR hw h0 h1
  go_enter Try.func74, Try.ntmps74
  go_wp2
  go_loopw [15] (fun i wr => ∃ (k : Nat), k ≤ L.length ∧ i = .int .i64 k ∧ (cfold (L.take k)).2.1 = 0 ∧ Below w.heap.size w wr) (fun i _ => L.length - (intOf i).toNat)
  case atStart => exact ⟨0, Nat.zero_le _, rfl, by rw [List.take_zero]; rfl, Below.refl _ _⟩
  case round =>
    obtain ⟨k, hk, rfl, hz, hB⟩ := hrel
    have hbs := hB.size
    by_cases hlt : k < L.length
    · obtain ⟨b, o, rfl, hbl, hr⟩ := (HR.out.below hB) k hlt
      have hx := HW.out L[k] (List.getElem_mem hlt)
      have hsu := cfold_succ L k hlt
      rcases Nat.eq_zero_or_pos k with rfl | hpos
      · have hz1 : (cfold (L.take 1)).2.1 = 0 := by
          rw [show (1 : Nat) = 0 + 1 from rfl, hsu]
          unfold cstep
          dsimp only
          rw [List.take_zero]
          have := hx.t0
          rw [if_neg (by show ¬ L[0].tm < 0; omega)]; rfl
        have HS := Lib.hid hz1
        obtain ⟨e, he⟩ : ∃ e, L[0] = e := ⟨_, rfl⟩
        rw [he] at hr
        simp only [Nat.zero_mul, Nat.add_zero] at hr
        clear hsu hx he hz hz1
        obtain ⟨et, eb⟩ := e
        change wr.rangeAt b o [.int .u64 et, .int .u64 eb] at hr
        go_wp2_with (refine wpList_load_mid rfl 161 _ rfl b o rfl _ _ hr Try.underlying161 rfl CI.out ?_)
        go_quiet (fail)
        go_wp2
        go_roundw
        case rel => exact ⟨1, by omega, by go_num, HS.out, (by repeat' (first | with_reducible exact Below.refl _ _ | with_reducible assumption | ((with_reducible refine Below.drew ?_)) | ((with_reducible refine below_drewN ?_ _)) | ((with_reducible refine Below.alloc ?_ ?_ _); rotate_left; focus (first | omega | (simp; done) | (simp; omega))) | ((with_reducible refine Below.setCell ?_ ?_ _); rotate_left; focus (first | omega | (simp; done) | (simp; omega))) | ((with_reducible refine Below.trans ?_ (Below.mono (by with_reducible assumption) ?_)); rotate_left; focus (first | omega | (simp; done) | (simp; omega)))))⟩
        case measure => simp [intOf]; omega
      · obtain ⟨j, rfl⟩ : ∃ j, k = j + 1 := ⟨k - 1, by omega⟩
        obtain ⟨b', o', hbo, hbl', hr0⟩ := (HR.out.below hB) j (by omega)
        cases hbo
        have hla := cfold_last L j (by omega)
        have hst := cfold_stuck L (L.length - (j + 2)) (j + 2) (by omega)
        have her := cfold_err L L.length (Nat.le_refl _)
        rw [show j + 2 + (L.length - (j + 2)) = L.length by omega] at hst
        rw [List.take_length] at hst her
        obtain ⟨P, hP⟩ : ∃ P, L[j] = P := ⟨_, rfl⟩
        rw [hP] at hr0 hla
        have hc0 : wr.cell? ⟨b, o + j * 2, none⟩ = some (.int .u64 P.tm) := hr0 0 _ rfl
        obtain ⟨e, he⟩ : ∃ e, L[j + 1] = e := ⟨_, rfl⟩
        rw [he] at hr hx hsu
        have hj1 : (j : Int) < L.length := by omega
        have hj2 : (j : Int) + 1 < L.length := by omega
        have hj3 : (0 : Int) < (j : Int) + 1 := by omega
        have d5 : decide ((0 : Int) < (j : Int) + 1) = true := decide_eq_true hj3
        have hwr : IntKind.i64.wrap ((j : Int) + 1 - 1) = j := by rw [IntKind.wrap_i64]; omega
        by_cases hg : e.tm < P.tm
        · have d6 : decide (e.tm < P.tm) = true := by simpa using hg
          have HS := Lib.hid (show eL L = 27 by
            have h2 : (cfold (L.take (j + 2))).2.1 ≠ 0 := by
              rw [show j + 2 = j + 1 + 1 from rfl, hsu]
              unfold cstep
              dsimp only
              rw [hla, if_pos hg]; decide
            have h3 := hst h2
            unfold eL
            rw [if_neg h3]
            rcases her with h | h
            · exact absurd h h3
            · exact h)
          clear hsu hst her hla hx he hP hz hg hr0
          obtain ⟨et, eb⟩ := e
          dsimp only at d6
          change wr.rangeAt b (o + (j + 1) * 2) [.int .u64 et, .int .u64 eb] at hr
          go_wp2_with (refine wpList_load_mid rfl 161 _ rfl b (o + (j + 1) * 2) rfl _ _ hr Try.underlying161 rfl CI.out ?_)
          go_quiet (fail)
          go_wp2
          go_ret
          exact ⟨by rw [HS.out]; rfl, (by repeat' (first | with_reducible exact Below.refl _ _ | with_reducible assumption | ((with_reducible refine Below.drew ?_)) | ((with_reducible refine below_drewN ?_ _)) | ((with_reducible refine Below.alloc ?_ ?_ _); rotate_left; focus (first | omega | (simp; done) | (simp; omega))) | ((with_reducible refine Below.setCell ?_ ?_ _); rotate_left; focus (first | omega | (simp; done) | (simp; omega))) | ((with_reducible refine Below.trans ?_ (Below.mono (by with_reducible assumption) ?_)); rotate_left; focus (first | omega | (simp; done) | (simp; omega)))))⟩
        · have d6 : decide (e.tm < P.tm) = false := by simpa using hg
          have HS := Lib.hid (show (cfold (L.take (j + 1 + 1))).2.1 = 0 by
            rw [hsu]
            unfold cstep
            dsimp only
            rw [hla, if_neg hg]; exact hz)
          clear hsu hst her hla hx he hP hz hg hr0
          obtain ⟨et, eb⟩ := e
          dsimp only at d6
          change wr.rangeAt b (o + (j + 1) * 2) [.int .u64 et, .int .u64 eb] at hr
          go_wp2_with (refine wpList_load_mid rfl 161 _ rfl b (o + (j + 1) * 2) rfl _ _ hr Try.underlying161 rfl CI.out ?_)
          go_quiet (fail)
          go_wp2
          go_roundw
          case rel => exact ⟨j + 1 + 1, by omega, by go_num, HS.out, (by repeat' (first | with_reducible exact Below.refl _ _ | with_reducible assumption | ((with_reducible refine Below.drew ?_)) | ((with_reducible refine below_drewN ?_ _)) | ((with_reducible refine Below.alloc ?_ ?_ _); rotate_left; focus (first | omega | (simp; done) | (simp; omega))) | ((with_reducible refine Below.setCell ?_ ?_ _); rotate_left; focus (first | omega | (simp; done) | (simp; omega))) | ((with_reducible refine Below.trans ?_ (Below.mono (by with_reducible assumption) ?_)); rotate_left; focus (first | omega | (simp; done) | (simp; omega)))))⟩
          case measure => simp [intOf]; omega
    · obtain rfl : k = L.length := by omega
      rw [List.take_length] at hz
      have hby := cfold_byt L HW.out L.length (Nat.le_refl _)
      rw [List.take_length] at hby
      by_cases hm : 1099511627776 < smc L
      · have KM2 := Lib.hid (fun z hb => by have := KM.out z hb; rw [show decide (1099511627776 < smc L) = true by simpa using hm] at this; exact this)
        have HS := Lib.hid (show eL L = 28 by unfold eL; rw [if_pos hz, if_pos (by omega)])
        clear hz hby hm
        go_wp2_with (go_at_call 140; ((with_reducible refine (KM2.out _ (by repeat' (first | with_reducible exact Below.refl _ _ | with_reducible assumption | ((with_reducible refine Below.drew ?_)) | ((with_reducible refine below_drewN ?_ _)) | ((with_reducible refine Below.alloc ?_ ?_ _); rotate_left; focus (first | omega | (simp; done) | (simp; omega))) | ((with_reducible refine Below.setCell ?_ ?_ _); rotate_left; focus (first | omega | (simp; done) | (simp; omega))) | ((with_reducible refine Below.trans ?_ (Below.mono (by with_reducible assumption) ?_)); rotate_left; focus (first | omega | (simp; done) | (simp; omega)))))).mono ?_); rintro e w2 ⟨rfl, hbel⟩; obtain ⟨hcc, hff⟩ := bcell hbel; have hsz := hbel.size; (try simp at hsz); have hF : Below w.heap.size w w2 := (by ((repeat' apply And.intro) <;> first | (simp [go_sem, *]; done) | omega | (repeat' (first | with_reducible exact Below.refl _ _ | with_reducible assumption | ((with_reducible refine Below.drew ?_)) | ((with_reducible refine below_drewN ?_ _)) | ((with_reducible refine Below.alloc ?_ ?_ _); rotate_left; focus (first | omega | (simp; done) | (simp; omega))) | ((with_reducible refine Below.setCell ?_ ?_ _); rotate_left; focus (first | omega | (simp; done) | (simp; omega))) | ((with_reducible refine Below.trans ?_ (Below.mono (by with_reducible assumption) ?_)); rotate_left; focus (first | omega | (simp; done) | (simp; omega))))))); go_split_ands; clear hcc hff hbel))
        go_ret
        exact ⟨by rw [HS.out]; rfl, (by repeat' (first | with_reducible exact Below.refl _ _ | with_reducible assumption | ((with_reducible refine Below.drew ?_)) | ((with_reducible refine below_drewN ?_ _)) | ((with_reducible refine Below.alloc ?_ ?_ _); rotate_left; focus (first | omega | (simp; done) | (simp; omega))) | ((with_reducible refine Below.setCell ?_ ?_ _); rotate_left; focus (first | omega | (simp; done) | (simp; omega))) | ((with_reducible refine Below.trans ?_ (Below.mono (by with_reducible assumption) ?_)); rotate_left; focus (first | omega | (simp; done) | (simp; omega)))))⟩
      · have KM2 := Lib.hid (fun z hb => by have := KM.out z hb; rw [show decide (1099511627776 < smc L) = false by simpa using hm] at this; exact this)
        have HS := Lib.hid (show eL L = 0 by unfold eL; rw [if_pos hz, if_neg (by omega)])
        clear hz hby hm
        go_wp2_with (go_at_call 140; ((with_reducible refine (KM2.out _ (by repeat' (first | with_reducible exact Below.refl _ _ | with_reducible assumption | ((with_reducible refine Below.drew ?_)) | ((with_reducible refine below_drewN ?_ _)) | ((with_reducible refine Below.alloc ?_ ?_ _); rotate_left; focus (first | omega | (simp; done) | (simp; omega))) | ((with_reducible refine Below.setCell ?_ ?_ _); rotate_left; focus (first | omega | (simp; done) | (simp; omega))) | ((with_reducible refine Below.trans ?_ (Below.mono (by with_reducible assumption) ?_)); rotate_left; focus (first | omega | (simp; done) | (simp; omega)))))).mono ?_); rintro e w2 ⟨rfl, hbel⟩; obtain ⟨hcc, hff⟩ := bcell hbel; have hsz := hbel.size; (try simp at hsz); have hF : Below w.heap.size w w2 := (by ((repeat' apply And.intro) <;> first | (simp [go_sem, *]; done) | omega | (repeat' (first | with_reducible exact Below.refl _ _ | with_reducible assumption | ((with_reducible refine Below.drew ?_)) | ((with_reducible refine below_drewN ?_ _)) | ((with_reducible refine Below.alloc ?_ ?_ _); rotate_left; focus (first | omega | (simp; done) | (simp; omega))) | ((with_reducible refine Below.setCell ?_ ?_ _); rotate_left; focus (first | omega | (simp; done) | (simp; omega))) | ((with_reducible refine Below.trans ?_ (Below.mono (by with_reducible assumption) ?_)); rotate_left; focus (first | omega | (simp; done) | (simp; omega))))))); go_split_ands; clear hcc hff hbel))
        go_ret
        exact ⟨by rw [HS.out]; rfl, (by repeat' (first | with_reducible exact Below.refl _ _ | with_reducible assumption | ((with_reducible refine Below.drew ?_)) | ((with_reducible refine below_drewN ?_ _)) | ((with_reducible refine Below.alloc ?_ ?_ _); rotate_left; focus (first | omega | (simp; done) | (simp; omega))) | ((with_reducible refine Below.setCell ?_ ?_ _); rotate_left; focus (first | omega | (simp; done) | (simp; omega))) | ((with_reducible refine Below.trans ?_ (Below.mono (by with_reducible assumption) ?_)); rotate_left; focus (first | omega | (simp; done) | (simp; omega)))))⟩
theorem rwrong_c (s : Int) (L : List Cm) (a : Option Addr) (cap : Nat) (hn : L.length ≤ 1000) (hw : ∀ x ∈ L, x.wf) (w : World) (hR : RwV Cm.cells 2 w a L) :
    Calls Try.prog 74 #[.int .u64 s, .slice a L.length cap] w fun ee w' => ee = .returned (.int .i64 (wrE s L)) ∧ Below w.heap.size w w' := by
  unfold wrE
  by_cases h : s < 1 ∨ 4294967295 < s
  · rw [if_pos h]; exact rwrong_arg s a _ cap (by omega) w
  · rw [if_neg h]; exact rwrong_in s L a cap (by omega) (by omega) hn hw w hR
end Go.Proofs.Ytdahjhokcjfioaa
