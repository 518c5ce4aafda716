/- meter.each of any events. -/
import Derived.Test.YtdahjhokcjfioaaMo2
namespace Go.Proofs.Ytdahjhokcjfioaa
set_option linter.unusedVariables false
set_option linter.unusedSimpArgs false
set_option maxRecDepth 100000
open Go.RowKit Fg Reg
attribute [local irreducible] Reg.wE TM

set_option maxHeartbeats 4000000 in
theorem each_c (es : List Ev) (ae : Option Addr) (ce : Nat) (lx cx mx bx x : Nat) (zs : List Int) (az : Option Addr) (cz : Nat) (W : Int) (s : Nat) (h1 : 0 < W) (hs : s ≤ 8) (hn : es.length ≤ 1000) (hz : zs.length ≤ 4611686018427387904)
    (hwf : ∀ k (h : k < es.length), es[k].wf3) (w z : World) (hM : MF w z lx cx mx bx x az zs.length cz W s 0 0 0 0) (hE : EvsV w ae es) (hZ : IntsV w az zs) :
    Calls Try.prog 126 #[.slice ae es.length ce, .func (.func 127) #[] #[.pointer (some ⟨lx, 0, none⟩), .pointer (some ⟨cx, 0, none⟩), .pointer (some ⟨mx, 0, none⟩)]] z fun r z' => r = .returned (.int .i64 (orun W (2 ^ s) zs es).1) ∧ Below w.heap.size w z' ∧ ((orun W (2 ^ s) zs es).1 = 0 → Inv (orun W (2 ^ s) zs es).2.1 (orun W (2 ^ s) zs es).2.2.1 (orun W (2 ^ s) zs es).2.2.2 ∧ MF w z' lx cx mx bx x az zs.length cz W s (orun W (2 ^ s) zs es).2.1 (orun W (2 ^ s) zs es).2.2.1 (orun W (2 ^ s) zs es).2.2.2 (lst es)) := by
  have HE := Lib.hid hE
  have EI := Lib.hid ev_info
  have HZ := Lib.hid hZ
  have HW := Lib.hid hwf
  have hM0 := Lib.hid hM
  clear hE hZ hwf hM
  go_enter Try.func126, Try.ntmps126
  go_wp2
  go_loopw [10] (fun i wr => ∃ (k : Nat) (a n b last : Int), k ≤ es.length ∧ i = .int .i64 k ∧ orun W (2 ^ s) zs (es.take k) = (0, a, n, b) ∧ lst (es.take k) = last ∧ Inv a n b ∧ MF w wr lx cx mx bx x az zs.length cz W s a n b last) (fun i _ => es.length - (intOf i).toNat)
  case atStart => exact ⟨0, 0, 0, 0, 0, Nat.zero_le _, rfl, rfl, rfl, by constructor <;> omega, hM0.out⟩
  case round =>
    obtain ⟨k, a, n, b0, last, hk, rfl, hO, hL, hI, hM⟩ := hrel
    have hB := hM.tm.bl
    by_cases hlt : k < es.length
    · obtain ⟨b, o, rfl, hbl, hr⟩ := (HE.out.below hB) k hlt
      have hwf := HW.out k hlt
      have hsu := orun_succ W (2 ^ s) zs es k hlt
      have hls := lst_succ es k hlt
      have hst := orun_stuck W (2 ^ s) zs es (k + 1)
      rw [hO] at hsu
      obtain ⟨e, he⟩ : ∃ e, es[k] = e := ⟨_, rfl⟩
      rw [he] at hr hwf hsu hls
      have hbs := hB.size
      have hosf : osf W (2 ^ s) zs (0, a, n, b0) e = ofst W (2 ^ s) zs a n b0 e := by unfold osf; rw [if_pos rfl]
      rw [hosf] at hsu
      have hI2 := inv_ofst (W := W) (s := s) (zs := zs) (e := e) hI
      have hA := fun (o : Obj) => hM.below ((Below.refl wr.heap.size wr).alloc (Nat.le_refl _) o)
      have k1 := fun y (h : MF w y lx cx mx bx x az zs.length cz W s a n b0 last) => of2_c e lx cx mx bx x zs az cz W a n b0 last s h1 hs hI hwf.tm0 hwf.ln1 hz w y h HZ.out
      obtain ⟨E', A', N', B', hof⟩ : ∃ E' A' N' B', ofst W (2 ^ s) zs a n b0 e = (E', A', N', B') := ⟨_, _, _, _, rfl⟩
      rw [hof] at hsu hI2 k1
      dsimp only at hI2 k1
      by_cases hE0 : E' = 0
      · subst hE0
        have HS := Lib.hid (And.intro hsu (And.intro hls hI2))
        have K1 := Lib.hid k1
        have HA := Lib.hid hA
        clear hsu hls hst hI2 k1 hA hosf hof hI hO hL hM hB hwf he
        go_wp2_with (first | (refine wpList_load_mid rfl 213 _ rfl b (o + k * 12) rfl _ _ hr Try.underlying213 rfl EI.out ?_) | (refine wpList_store_new rfl 213 _ _ rfl _ #[.int .i64 (e).op, .bool (e).inn, .bool (e).real, .int .u64 (e).tm, .int .u64 (e).dn, .int .i64 (e).cls, .int .u64 (e).id, .int .i64 (e).ln, .int .u16 (e).a, .int .u16 (e).b, .int .u16 (e).c, .int .u16 (e).d] rfl rfl EI.out rfl (all_oneCell_toArray e.one) ?_) | (go_at_call 127; (with_reducible refine (K1.out _ (HA.out _)).mono ?_); rintro ee w3 ⟨rfl, hM3⟩; have HM3 := Lib.hid hM3; clear hM3))
        go_roundw
        case rel => exact ⟨k + 1, A', N', B', _, by omega, by go_num, HS.out.1, HS.out.2.1, HS.out.2.2, HM3.out⟩
        case measure => simp [intOf]; omega
      · have hne : (E' == 0) = false := by simpa using hE0
        have HS := Lib.hid (show (orun W (2 ^ s) zs es).1 = E' by
          have := hst (by rw [hsu]; exact hE0)
          rw [this, hsu])
        have K1 := Lib.hid k1
        have HA := Lib.hid hA
        have HN := Lib.hid hE0
        clear hsu hls hst hI2 k1 hA hosf hof hI hO hL hM hB hwf he hE0
        go_wp2_with (first | (refine wpList_load_mid rfl 213 _ rfl b (o + k * 12) rfl _ _ hr Try.underlying213 rfl EI.out ?_) | (refine wpList_store_new rfl 213 _ _ rfl _ #[.int .i64 (e).op, .bool (e).inn, .bool (e).real, .int .u64 (e).tm, .int .u64 (e).dn, .int .i64 (e).cls, .int .u64 (e).id, .int .i64 (e).ln, .int .u16 (e).a, .int .u16 (e).b, .int .u16 (e).c, .int .u16 (e).d] rfl rfl EI.out rfl (all_oneCell_toArray e.one) ?_) | (go_at_call 127; (with_reducible refine (K1.out _ (HA.out _)).mono ?_); rintro ee w3 ⟨rfl, hM3⟩; have HM3 := Lib.hid hM3; clear hM3))
        go_ret
        exact ⟨by rw [HS.out]; rfl, HM3.out.tm.bl, fun h => absurd (HS.out.symm.trans h) HN.out⟩
    · obtain rfl : k = es.length := by omega
      rw [List.take_length] at hO hL
      have HO := Lib.hid hO
      have HH := Lib.hid (And.intro hI (And.intro hM hL))
      clear hI hM hO hL
      go_wp2
      go_ret
      rw [HO.out]
      exact ⟨rfl, hB, fun _ => ⟨HH.out.1, by rw [HH.out.2.2]; exact HH.out.2.1⟩⟩
end Go.Proofs.Ytdahjhokcjfioaa
