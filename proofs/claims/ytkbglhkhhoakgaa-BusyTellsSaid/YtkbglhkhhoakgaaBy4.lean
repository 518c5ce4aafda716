/- busy: the run over events; the reference's Until and Work. -/
import Derived.Test.YtkbglhkhhoakgaaBy2
namespace Go.Proofs.Ytkbglhkhhoakgaa
set_option linter.unusedVariables false
set_option linter.unusedSimpArgs false
set_option maxRecDepth 100000
open Go.RowKit Fg Reg
attribute [local irreducible] Reg.wE Reg.wN

def brun (es : List Ev) : Nat → Bz
  | 0 => ⟨[], 0, 0, 0⟩
  | k + 1 => match es[k]? with
    | none => brun es k
    | some e => blearn (brun es k) e
theorem brun_succ (es : List Ev) (k : Nat) (h : k < es.length) : brun es (k + 1) = blearn (brun es k) es[k] := by
  rw [brun, List.getElem?_eq_getElem h]
theorem bgo_len (st : List Str) (dn : Int) : (bgo st dn).length = st.length := by
  unfold bgo
  rcases List.eq_nil_or_concat st with rfl | ⟨l, x, rfl⟩
  · rfl
  · simp
theorem brun_le (es : List Ev) : ∀ k, (brun es k).wk ≤ k ∧ (brun es k).st.length ≤ k
  | 0 => ⟨Nat.le_refl _, Nat.le_refl _⟩
  | k + 1 => by
    have ih := brun_le es k
    rw [brun]
    split
    · omega
    · unfold blearn bst
      (repeat' split) <;> (try simp [bgo_len]) <;> omega
theorem below_grown {B : Nat} {w z z' : World} {row : Option Nat} (h : Below B w z) (hg : z.grownBy z' row) (hB : B ≤ z.heap.size) (hr : ∀ k, row = some k → B ≤ k) : Below B w z' :=
  (Only.of_grown hg hr).below h hB (fun k hk => hk)
theorem own_blk {z : World} {B m size : Nat} {e : TypeId} {v : Value} {xs : List Value} (h : z.ownsRow B e size v m xs) : ∀ k, v.ownBlock = some k → B ≤ k := by
  intro k hk
  rcases h.2 with ⟨rfl, _⟩ | ⟨b, cap, cur, rfl, hb, _⟩
  · simp [Value.ownBlock] at hk
  · simp [Value.ownBlock] at hk; omega
set_option maxHeartbeats 4000000 in
theorem runt_c (es : List Ev) (a : Option Addr) (c n : Nat) (hn : es.length ≤ 100000) (hnl : n ≤ es.length) (w : World) (hE : EvsV w a es) :
    Calls Try.prog 42 #[.slice a es.length c, .int .i64 n] w fun ee w' => ee = .returned (.int .u64 (brun es n).un) ∧ Below w.heap.size w w' := by
  have HE := Lib.hid hE
  have HS := Lib.hid (brun_succ es)
  have EI := Lib.hid ev_info
  clear hE
  go_enter Try.func42, Try.ntmps42
  go_wp2_with fail
  go_loopw [5, 10] (fun o i wr => ∃ k : Nat, k ≤ es.length ∧ i = .int .i64 k ∧ o = .int .u64 (brun es (min k n)).un ∧ Below w.heap.size w wr) (fun _ i _ => es.length - (intOf i).toNat)
  case atStart => exact ⟨0, Nat.zero_le _, rfl, by rw [Nat.zero_min]; rfl, Below.refl _ _⟩
  case round =>
    obtain ⟨k, hk, rfl, rfl, hB⟩ := hrel
    have hsz := hB.size
    by_cases hlt : k < es.length
    · obtain ⟨b, o, rfl, hb, hr⟩ := (HE.out.below hB) k hlt
      by_cases hkn : k < n
      · have d1 : decide (k < n) = true := by simpa using hkn
        have hs := HS.out k hlt
        have m1 : min k n = k := by omega
        have m2 : min (k + 1) n = k + 1 := by omega
        have M2 := Lib.hid m2
        rw [m1]
        generalize es[k] = e at hs hr
        obtain ⟨un, hun⟩ : ∃ un, (brun es k).un = un := ⟨_, rfl⟩
        have hs2 : (brun es (k + 1)).un = if e.inn = true then un else mx un e.dn := by
          rw [hs, ← hun]; unfold blearn; split <;> rfl
        rw [hun]
        clear hs m1 m2
        cases hi : e.inn with
        | true =>
          rw [hi, if_pos rfl] at hs2
          have HN := Lib.hid hs2
          clear hs2 hun
          go_wp2_with (first | (refine wpList_load_mid rfl 73 _ rfl b (o + k * 12) rfl _ _ hr Try.underlying73 rfl EI.out ?_) | (refine wpList_store_new rfl 73 _ _ rfl _ #[.int .i64 (e).op, .bool (e).inn, .bool (e).real, .int .u64 (e).tm, .int .u64 (e).dn, .int .i64 (e).cls, .int .u64 (e).id, .int .i64 (e).ln, .int .u16 (e).a, .int .u16 (e).b, .int .u16 (e).c, .int .u16 (e).d] rfl rfl EI.out rfl (all_oneCell_toArray e.one) ?_))
          go_roundw
          case rel => exact ⟨k + 1, by omega, by go_num, by rw [M2.out, HN.out], (by repeat' (first | with_reducible exact Below.refl _ _ | with_reducible assumption | ((with_reducible refine Below.drew ?_)) | ((with_reducible refine below_drewN ?_ _)) | ((with_reducible refine Below.alloc ?_ ?_ _); rotate_left; focus (first | omega | (simp; done) | (simp; omega))) | ((with_reducible refine Below.setCell ?_ ?_ _); rotate_left; focus (first | omega | (simp; done) | (simp; omega))) | ((with_reducible refine Below.trans ?_ (Below.mono (by with_reducible assumption) ?_)); rotate_left; focus (first | omega | (simp; done) | (simp; omega)))))⟩
          case measure => simp [intOf]; omega
        | false =>
          rw [hi, if_neg (by simp)] at hs2
          unfold mx at hs2
          by_cases hg : un < e.dn
          · rw [if_pos hg] at hs2
            have HN := Lib.hid hs2
            have d2 : decide (un < e.dn) = true := by simpa using hg
            clear hs2 hun hg
            go_wp2_with (first | (refine wpList_load_mid rfl 73 _ rfl b (o + k * 12) rfl _ _ hr Try.underlying73 rfl EI.out ?_) | (refine wpList_store_new rfl 73 _ _ rfl _ #[.int .i64 (e).op, .bool (e).inn, .bool (e).real, .int .u64 (e).tm, .int .u64 (e).dn, .int .i64 (e).cls, .int .u64 (e).id, .int .i64 (e).ln, .int .u16 (e).a, .int .u16 (e).b, .int .u16 (e).c, .int .u16 (e).d] rfl rfl EI.out rfl (all_oneCell_toArray e.one) ?_))
            go_roundw
            case rel => exact ⟨k + 1, by omega, by go_num, by rw [M2.out, HN.out], (by repeat' (first | with_reducible exact Below.refl _ _ | with_reducible assumption | ((with_reducible refine Below.drew ?_)) | ((with_reducible refine below_drewN ?_ _)) | ((with_reducible refine Below.alloc ?_ ?_ _); rotate_left; focus (first | omega | (simp; done) | (simp; omega))) | ((with_reducible refine Below.setCell ?_ ?_ _); rotate_left; focus (first | omega | (simp; done) | (simp; omega))) | ((with_reducible refine Below.trans ?_ (Below.mono (by with_reducible assumption) ?_)); rotate_left; focus (first | omega | (simp; done) | (simp; omega)))))⟩
            case measure => simp [intOf]; omega
          · rw [if_neg hg] at hs2
            have HN := Lib.hid hs2
            have d2 : decide (un < e.dn) = false := by simpa using hg
            clear hs2 hun hg
            go_wp2_with (first | (refine wpList_load_mid rfl 73 _ rfl b (o + k * 12) rfl _ _ hr Try.underlying73 rfl EI.out ?_) | (refine wpList_store_new rfl 73 _ _ rfl _ #[.int .i64 (e).op, .bool (e).inn, .bool (e).real, .int .u64 (e).tm, .int .u64 (e).dn, .int .i64 (e).cls, .int .u64 (e).id, .int .i64 (e).ln, .int .u16 (e).a, .int .u16 (e).b, .int .u16 (e).c, .int .u16 (e).d] rfl rfl EI.out rfl (all_oneCell_toArray e.one) ?_))
            go_roundw
            case rel => exact ⟨k + 1, by omega, by go_num, by rw [M2.out, HN.out], (by repeat' (first | with_reducible exact Below.refl _ _ | with_reducible assumption | ((with_reducible refine Below.drew ?_)) | ((with_reducible refine below_drewN ?_ _)) | ((with_reducible refine Below.alloc ?_ ?_ _); rotate_left; focus (first | omega | (simp; done) | (simp; omega))) | ((with_reducible refine Below.setCell ?_ ?_ _); rotate_left; focus (first | omega | (simp; done) | (simp; omega))) | ((with_reducible refine Below.trans ?_ (Below.mono (by with_reducible assumption) ?_)); rotate_left; focus (first | omega | (simp; done) | (simp; omega)))))⟩
            case measure => simp [intOf]; omega
      · have d1 : decide (k < n) = false := by simp; omega
        have m1 : min k n = n := by omega
        have M2 := Lib.hid (show min (k + 1) n = n by omega)
        rw [m1]
        generalize es[k] = e at hr
        clear m1
        go_wp2_with (first | (refine wpList_load_mid rfl 73 _ rfl b (o + k * 12) rfl _ _ hr Try.underlying73 rfl EI.out ?_) | (refine wpList_store_new rfl 73 _ _ rfl _ #[.int .i64 (e).op, .bool (e).inn, .bool (e).real, .int .u64 (e).tm, .int .u64 (e).dn, .int .i64 (e).cls, .int .u64 (e).id, .int .i64 (e).ln, .int .u16 (e).a, .int .u16 (e).b, .int .u16 (e).c, .int .u16 (e).d] rfl rfl EI.out rfl (all_oneCell_toArray e.one) ?_))
        go_roundw
        case rel => exact ⟨k + 1, by omega, by go_num, by rw [M2.out], (by repeat' (first | with_reducible exact Below.refl _ _ | with_reducible assumption | ((with_reducible refine Below.drew ?_)) | ((with_reducible refine below_drewN ?_ _)) | ((with_reducible refine Below.alloc ?_ ?_ _); rotate_left; focus (first | omega | (simp; done) | (simp; omega))) | ((with_reducible refine Below.setCell ?_ ?_ _); rotate_left; focus (first | omega | (simp; done) | (simp; omega))) | ((with_reducible refine Below.trans ?_ (Below.mono (by with_reducible assumption) ?_)); rotate_left; focus (first | omega | (simp; done) | (simp; omega)))))⟩
        case measure => simp [intOf]; omega
    · obtain rfl : k = es.length := by omega
      rw [show min es.length n = n by omega]
      clear hlt HE HS
      go_wp2
      (go_ret; refine ⟨?_, ?_⟩; (focus (exact rfl)); ((repeat' (first | with_reducible exact Below.refl _ _ | with_reducible assumption | ((with_reducible refine Below.drew ?_)) | ((with_reducible refine below_drewN ?_ _)) | ((with_reducible refine Below.alloc ?_ ?_ _); rotate_left; focus (first | omega | (simp; done) | (simp; omega))) | ((with_reducible refine Below.setCell ?_ ?_ _); rotate_left; focus (first | omega | (simp; done) | (simp; omega))) | ((with_reducible refine Below.trans ?_ (Below.mono (by with_reducible assumption) ?_)); rotate_left; focus (first | omega | (simp; done) | (simp; omega))))); done))
end Go.Proofs.Ytkbglhkhhoakgaa
