/- Layer 34: what of some leaves was picked. -/
import Derived.Test.YtdahjhokcjfioaaLp9
import Derived.Test.YtdahjhokcjfioaaEv3
namespace Go.Proofs.Ytdahjhokcjfioaa
set_option linter.unusedVariables false
set_option linter.unusedSimpArgs false
set_option maxRecDepth 100000
open Go.RowKit Fg Reg
attribute [local irreducible] Reg.wE

theorem has34_c (zs : List Int) (a : Option Addr) (c : Nat) (x : Int) (hn : zs.length ≤ 4611686018427387904) (w : World) (hc : IntsV w a zs) :
    Calls Try.prog 116 #[.slice a zs.length c, .int .i64 x] w fun ee w' => ee = .returned (.bool (has zs x)) ∧ w = w' := by
  go_enter Try.func116, Try.ntmps116
  go_wp2_with fail
  go_loop [9] (fun i => ∃ k : Nat, k ≤ zs.length ∧ i = .int .i64 k ∧ has (zs.take k) x = false) (fun i => zs.length - (intOf i).toNat)
  case atStart => exact ⟨0, Nat.zero_le _, rfl, rfl⟩
  case round =>
    obtain ⟨k, hk, rfl, hno⟩ := hrel
    by_cases hlt : k < zs.length
    · obtain ⟨b, o, rfl, hb, hcell⟩ := hc k hlt
      have hs := has_succ zs x k hlt
      rw [hno, Bool.false_or] at hs
      by_cases he : zs[k] = x
      · have hy := Lib.hid (has_of hlt he)
        have he' : (zs[k] == x) = true := by simp [he]
        clear hc hs hno he
        go_wp2
        go_ret
        exact ⟨by rw [hy.out]; rfl, rfl⟩
      · have he' : (zs[k] == x) = false := by simp [he]
        have Hs := Lib.hid (show has (zs.take (k + 1)) x = false by rw [hs]; simp [he])
        clear hc hs hno he
        go_wp2
        go_round
        case rel => exact ⟨k + 1, by omega, by go_num, Hs.out⟩
        case measure => simp [intOf]; omega
    · obtain rfl : k = zs.length := by omega
      rw [List.take_length] at hno
      have HN := Lib.hid hno
      clear hc hno
      go_wp2
      go_ret
      exact ⟨by rw [HN.out]; rfl, rfl⟩


/-- How many ticks there are from one to another. -/
def tks (fr tm : Int) : Int := if tm < fr then 0 else tm - fr
theorem since34_c (fr tm : Int) (h1 : 0 ≤ fr) (h2 : 0 ≤ tm) (h3 : tm ≤ 18446744073709551615) (w : World) : Calls Try.prog 121 #[.int .u64 fr, .int .u64 tm] w fun ee w' => ee = .returned (.int .u64 (tks fr tm)) ∧ Below w.heap.size w w' := by
  unfold tks
  by_cases h : tm < fr
  · rw [if_pos h]
    have q : decide (tm < fr) = true := by simpa using h
    clear h
    go_enter Try.func121, Try.ntmps121
    go_wp2
    (go_ret; refine ⟨?_, ?_⟩; (focus (exact rfl)); ((repeat' (first | with_reducible exact Below.refl _ _ | with_reducible assumption | ((with_reducible refine Below.drew ?_)) | ((with_reducible refine below_drewN ?_ _)) | ((with_reducible refine Below.alloc ?_ ?_ _); rotate_left; focus (first | omega | (simp; done) | (simp; omega))) | ((with_reducible refine Below.setCell ?_ ?_ _); rotate_left; focus (first | omega | (simp; done) | (simp; omega))) | ((with_reducible refine Below.trans ?_ (Below.mono (by with_reducible assumption) ?_)); rotate_left; focus (first | omega | (simp; done) | (simp; omega))))); done))
  · rw [if_neg h]
    have q : decide (tm < fr) = false := by simpa using h
    have wq : IntKind.u64.wrap (tm - fr) = tm - fr := by rw [wrap_u64]; omega
    clear h
    go_enter Try.func121, Try.ntmps121
    go_wp2
    (go_ret; refine ⟨?_, ?_⟩; (focus (exact rfl)); ((repeat' (first | with_reducible exact Below.refl _ _ | with_reducible assumption | ((with_reducible refine Below.drew ?_)) | ((with_reducible refine below_drewN ?_ _)) | ((with_reducible refine Below.alloc ?_ ?_ _); rotate_left; focus (first | omega | (simp; done) | (simp; omega))) | ((with_reducible refine Below.setCell ?_ ?_ _); rotate_left; focus (first | omega | (simp; done) | (simp; omega))) | ((with_reducible refine Below.trans ?_ (Below.mono (by with_reducible assumption) ?_)); rotate_left; focus (first | omega | (simp; done) | (simp; omega))))); done))
/-- Does the reference count the k-th event? -/
def pkc (zs : List Int) (f t : Int) (k : Nat) (e : Ev) : Bool := decide (f ≤ k) && decide ((k : Int) ≤ t) && !e.inn && has zs e.cls && decide (0 < e.ln)
/-- What it has counted of the first k events. -/
def pks (zs : List Int) (es : List Ev) (f t : Int) : Nat → Int
  | 0 => 0
  | k + 1 => match es[k]? with
    | none => pks zs es f t k
    | some e => if pkc zs f t k e = true then (pks zs es f t k + e.ln) % 18446744073709551616 else pks zs es f t k
theorem pks_succ (zs : List Int) (es : List Ev) (f t : Int) (k : Nat) (h : k < es.length) : pks zs es f t (k + 1) = if pkc zs f t k es[k] = true then (pks zs es f t k + es[k].ln) % 18446744073709551616 else pks zs es f t k := by
  rw [pks, List.getElem?_eq_getElem h]
set_option maxHeartbeats 4000000 in
theorem picked_c (zs : List Int) (es : List Ev) (a a2 : Option Addr) (c c2 : Nat) (f t : Int) (hn : es.length ≤ 100000) (hz : zs.length ≤ 100000) (hw : ∀ k (h : k < es.length), es[k].ln ≤ 9223372036854775807) (w : World) (hE : EvsV w a es) (hZ : IntsV w a2 zs) :
    Calls Try.prog 117 #[.slice a es.length c, .slice a2 zs.length c2, .int .i64 f, .int .i64 t] w fun ee w' => ee = .returned (.int .u64 (pks zs es f t es.length)) ∧ Below w.heap.size w w' := by
  have EI := Lib.hid ev_info
  have HE := Lib.hid hE
  have HZ := Lib.hid hZ
  have HW := Lib.hid hw
  have hz' : zs.length ≤ 4611686018427387904 := by omega
  have HN := Lib.hid (fun x (z : World) (h : IntsV z a2 zs) => has34_c zs a2 c2 x hz' z h)
  clear hE hZ hw hz'
  go_enter Try.func117, Try.ntmps117
  go_wp2_with fail
  go_loopw [9, 14] (fun v i wr => ∃ (k : Nat), k ≤ es.length ∧ i = .int .i64 k ∧ v = .int .u64 (pks zs es f t k) ∧ Below w.heap.size w wr) (fun _ i _ => es.length - (intOf i).toNat)
  case atStart => exact ⟨0, Nat.zero_le _, rfl, rfl, Below.refl _ _⟩
  case round =>
    obtain ⟨k, hk, rfl, rfl, hB⟩ := hrel
    have hbs := hB.size
    by_cases hlt : k < es.length
    · obtain ⟨b, o, rfl, hbl, hr⟩ := (HE.out.below hB) k hlt
      have hln := HW.out k hlt
      have hs := pks_succ zs es f t k hlt
      obtain ⟨e, he⟩ : ∃ e, es[k] = e := ⟨_, rfl⟩
      rw [he] at hr hln hs
      have HA := Lib.hid (fun o : Obj => HZ.out.below (hB.trans (((Below.refl wr.heap.size wr).alloc (Nat.le_refl _) o).mono hbs)))
      have KN := Lib.hid (fun (z : World) (h : IntsV z a2 zs) => HN.out e.cls z h)
      obtain ⟨S, hS⟩ : ∃ S, pks zs es f t k = S := ⟨_, rfl⟩
      rw [hS] at hs ⊢
      by_cases hc : pkc zs f t k e = true
      · rw [if_pos hc] at hs
        have HS := Lib.hid hs
        unfold pkc at hc
        simp only [Bool.and_eq_true, decide_eq_true_eq, Bool.not_eq_true'] at hc
        obtain ⟨⟨⟨⟨c1, c3⟩, c4⟩, c5⟩, c6⟩ := hc
        have q1 : decide (f ≤ (k : Int)) = true := by simpa using c1
        have q2 : decide ((k : Int) ≤ t) = true := by simpa using c3
        have q5 : decide (0 < e.ln) = true := by simpa using c6
        have w1 : IntKind.u64.wrap e.ln = e.ln := by rw [wrap_u64]; omega
        have w2 : IntKind.u64.wrap (S + e.ln) = (S + e.ln) % 18446744073709551616 := by rw [wrap_u64]
        clear hs hS he c1 c3 c6 hln
        go_wp2_with (first | (refine wpList_load_mid rfl 213 _ rfl b (o + k * 12) rfl _ _ hr Try.underlying213 rfl EI.out ?_) | (refine wpList_store_new rfl 213 _ _ rfl _ #[.int .i64 (e).op, .bool (e).inn, .bool (e).real, .int .u64 (e).tm, .int .u64 (e).dn, .int .i64 (e).cls, .int .u64 (e).id, .int .i64 (e).ln, .int .u16 (e).a, .int .u16 (e).b, .int .u16 (e).c, .int .u16 (e).d] rfl rfl EI.out rfl (all_oneCell_toArray e.one) ?_) | (go_at_call 116; (with_reducible refine (KN.out _ (HA.out _)).mono ?_); rintro ee wz ⟨rfl, rfl⟩))
        go_roundw
        case rel =>
          first
            | exact ⟨k + 1, by omega, by go_num, by rw [HS.out], (by repeat' (first | with_reducible exact Below.refl _ _ | with_reducible assumption | ((with_reducible refine Below.drew ?_)) | ((with_reducible refine below_drewN ?_ _)) | ((with_reducible refine Below.alloc ?_ ?_ _); rotate_left; focus (first | omega | (simp; done) | (simp; omega))) | ((with_reducible refine Below.setCell ?_ ?_ _); rotate_left; focus (first | omega | (simp; done) | (simp; omega))) | ((with_reducible refine Below.trans ?_ (Below.mono (by with_reducible assumption) ?_)); rotate_left; focus (first | omega | (simp; done) | (simp; omega)))))⟩
            | ((repeat apply Exists.intro); exact ⟨⟨k + 1, by omega, by go_num, by rw [HS.out], (by repeat' (first | with_reducible exact Below.refl _ _ | with_reducible assumption | ((with_reducible refine Below.drew ?_)) | ((with_reducible refine below_drewN ?_ _)) | ((with_reducible refine Below.alloc ?_ ?_ _); rotate_left; focus (first | omega | (simp; done) | (simp; omega))) | ((with_reducible refine Below.setCell ?_ ?_ _); rotate_left; focus (first | omega | (simp; done) | (simp; omega))) | ((with_reducible refine Below.trans ?_ (Below.mono (by with_reducible assumption) ?_)); rotate_left; focus (first | omega | (simp; done) | (simp; omega)))))⟩, rfl⟩)
        case measure => simp [intOf]; omega
      · rw [if_neg hc] at hs
        have HS := Lib.hid hs
        have hcc : ¬ f ≤ k ∨ (f ≤ k ∧ ¬ (k : Int) ≤ t) ∨ (f ≤ k ∧ (k : Int) ≤ t ∧ e.inn = true) ∨ (f ≤ k ∧ (k : Int) ≤ t ∧ e.inn = false ∧ has zs e.cls = false) ∨ (f ≤ k ∧ (k : Int) ≤ t ∧ e.inn = false ∧ has zs e.cls = true ∧ ¬ 0 < e.ln) := by
          unfold pkc at hc
          simp only [Bool.and_eq_true, decide_eq_true_eq, Bool.not_eq_true', not_and] at hc
          by_cases x1 : f ≤ k
          · by_cases x2 : (k : Int) ≤ t
            · cases x3 : e.inn with
              | true => exact .inr (.inr (.inl ⟨x1, x2, rfl⟩))
              | false =>
                cases x4 : has zs e.cls with
                | false => exact .inr (.inr (.inr (.inl ⟨x1, x2, rfl, rfl⟩)))
                | true => exact .inr (.inr (.inr (.inr ⟨x1, x2, rfl, rfl, hc ⟨⟨⟨x1, x2⟩, x3⟩, x4⟩⟩)))
            · exact .inr (.inl ⟨x1, x2⟩)
          · exact .inl x1
        clear hs hS he hc hln
        rcases hcc with c1 | ⟨c1, c2⟩ | ⟨c1, c2, c3⟩ | ⟨c1, c2, c3, c4⟩ | ⟨c1, c2, c3, c4, c5⟩
        · have q1 : decide (f ≤ (k : Int)) = false := by simpa using c1
          clear c1
          go_wp2_with (first | (refine wpList_load_mid rfl 213 _ rfl b (o + k * 12) rfl _ _ hr Try.underlying213 rfl EI.out ?_) | (refine wpList_store_new rfl 213 _ _ rfl _ #[.int .i64 (e).op, .bool (e).inn, .bool (e).real, .int .u64 (e).tm, .int .u64 (e).dn, .int .i64 (e).cls, .int .u64 (e).id, .int .i64 (e).ln, .int .u16 (e).a, .int .u16 (e).b, .int .u16 (e).c, .int .u16 (e).d] rfl rfl EI.out rfl (all_oneCell_toArray e.one) ?_) | (go_at_call 116; (with_reducible refine (KN.out _ (HA.out _)).mono ?_); rintro ee wz ⟨rfl, rfl⟩))
          go_roundw
          case rel =>
            first
              | exact ⟨k + 1, by omega, by go_num, by rw [HS.out], (by repeat' (first | with_reducible exact Below.refl _ _ | with_reducible assumption | ((with_reducible refine Below.drew ?_)) | ((with_reducible refine below_drewN ?_ _)) | ((with_reducible refine Below.alloc ?_ ?_ _); rotate_left; focus (first | omega | (simp; done) | (simp; omega))) | ((with_reducible refine Below.setCell ?_ ?_ _); rotate_left; focus (first | omega | (simp; done) | (simp; omega))) | ((with_reducible refine Below.trans ?_ (Below.mono (by with_reducible assumption) ?_)); rotate_left; focus (first | omega | (simp; done) | (simp; omega)))))⟩
              | ((repeat apply Exists.intro); exact ⟨⟨k + 1, by omega, by go_num, by rw [HS.out], (by repeat' (first | with_reducible exact Below.refl _ _ | with_reducible assumption | ((with_reducible refine Below.drew ?_)) | ((with_reducible refine below_drewN ?_ _)) | ((with_reducible refine Below.alloc ?_ ?_ _); rotate_left; focus (first | omega | (simp; done) | (simp; omega))) | ((with_reducible refine Below.setCell ?_ ?_ _); rotate_left; focus (first | omega | (simp; done) | (simp; omega))) | ((with_reducible refine Below.trans ?_ (Below.mono (by with_reducible assumption) ?_)); rotate_left; focus (first | omega | (simp; done) | (simp; omega)))))⟩, rfl⟩)
          case measure => simp [intOf]; omega
        · have q1 : decide (f ≤ (k : Int)) = true := by simpa using c1
          have q2 : decide ((k : Int) ≤ t) = false := by simpa using c2
          clear c1 c2
          go_wp2_with (first | (refine wpList_load_mid rfl 213 _ rfl b (o + k * 12) rfl _ _ hr Try.underlying213 rfl EI.out ?_) | (refine wpList_store_new rfl 213 _ _ rfl _ #[.int .i64 (e).op, .bool (e).inn, .bool (e).real, .int .u64 (e).tm, .int .u64 (e).dn, .int .i64 (e).cls, .int .u64 (e).id, .int .i64 (e).ln, .int .u16 (e).a, .int .u16 (e).b, .int .u16 (e).c, .int .u16 (e).d] rfl rfl EI.out rfl (all_oneCell_toArray e.one) ?_) | (go_at_call 116; (with_reducible refine (KN.out _ (HA.out _)).mono ?_); rintro ee wz ⟨rfl, rfl⟩))
          go_roundw
          case rel =>
            first
              | exact ⟨k + 1, by omega, by go_num, by rw [HS.out], (by repeat' (first | with_reducible exact Below.refl _ _ | with_reducible assumption | ((with_reducible refine Below.drew ?_)) | ((with_reducible refine below_drewN ?_ _)) | ((with_reducible refine Below.alloc ?_ ?_ _); rotate_left; focus (first | omega | (simp; done) | (simp; omega))) | ((with_reducible refine Below.setCell ?_ ?_ _); rotate_left; focus (first | omega | (simp; done) | (simp; omega))) | ((with_reducible refine Below.trans ?_ (Below.mono (by with_reducible assumption) ?_)); rotate_left; focus (first | omega | (simp; done) | (simp; omega)))))⟩
              | ((repeat apply Exists.intro); exact ⟨⟨k + 1, by omega, by go_num, by rw [HS.out], (by repeat' (first | with_reducible exact Below.refl _ _ | with_reducible assumption | ((with_reducible refine Below.drew ?_)) | ((with_reducible refine below_drewN ?_ _)) | ((with_reducible refine Below.alloc ?_ ?_ _); rotate_left; focus (first | omega | (simp; done) | (simp; omega))) | ((with_reducible refine Below.setCell ?_ ?_ _); rotate_left; focus (first | omega | (simp; done) | (simp; omega))) | ((with_reducible refine Below.trans ?_ (Below.mono (by with_reducible assumption) ?_)); rotate_left; focus (first | omega | (simp; done) | (simp; omega)))))⟩, rfl⟩)
          case measure => simp [intOf]; omega
        · have q1 : decide (f ≤ (k : Int)) = true := by simpa using c1
          have q2 : decide ((k : Int) ≤ t) = true := by simpa using c2
          clear c1 c2
          go_wp2_with (first | (refine wpList_load_mid rfl 213 _ rfl b (o + k * 12) rfl _ _ hr Try.underlying213 rfl EI.out ?_) | (refine wpList_store_new rfl 213 _ _ rfl _ #[.int .i64 (e).op, .bool (e).inn, .bool (e).real, .int .u64 (e).tm, .int .u64 (e).dn, .int .i64 (e).cls, .int .u64 (e).id, .int .i64 (e).ln, .int .u16 (e).a, .int .u16 (e).b, .int .u16 (e).c, .int .u16 (e).d] rfl rfl EI.out rfl (all_oneCell_toArray e.one) ?_) | (go_at_call 116; (with_reducible refine (KN.out _ (HA.out _)).mono ?_); rintro ee wz ⟨rfl, rfl⟩))
          go_roundw
          case rel =>
            first
              | exact ⟨k + 1, by omega, by go_num, by rw [HS.out], (by repeat' (first | with_reducible exact Below.refl _ _ | with_reducible assumption | ((with_reducible refine Below.drew ?_)) | ((with_reducible refine below_drewN ?_ _)) | ((with_reducible refine Below.alloc ?_ ?_ _); rotate_left; focus (first | omega | (simp; done) | (simp; omega))) | ((with_reducible refine Below.setCell ?_ ?_ _); rotate_left; focus (first | omega | (simp; done) | (simp; omega))) | ((with_reducible refine Below.trans ?_ (Below.mono (by with_reducible assumption) ?_)); rotate_left; focus (first | omega | (simp; done) | (simp; omega)))))⟩
              | ((repeat apply Exists.intro); exact ⟨⟨k + 1, by omega, by go_num, by rw [HS.out], (by repeat' (first | with_reducible exact Below.refl _ _ | with_reducible assumption | ((with_reducible refine Below.drew ?_)) | ((with_reducible refine below_drewN ?_ _)) | ((with_reducible refine Below.alloc ?_ ?_ _); rotate_left; focus (first | omega | (simp; done) | (simp; omega))) | ((with_reducible refine Below.setCell ?_ ?_ _); rotate_left; focus (first | omega | (simp; done) | (simp; omega))) | ((with_reducible refine Below.trans ?_ (Below.mono (by with_reducible assumption) ?_)); rotate_left; focus (first | omega | (simp; done) | (simp; omega)))))⟩, rfl⟩)
          case measure => simp [intOf]; omega
        · have q1 : decide (f ≤ (k : Int)) = true := by simpa using c1
          have q2 : decide ((k : Int) ≤ t) = true := by simpa using c2
          clear c1 c2
          go_wp2_with (first | (refine wpList_load_mid rfl 213 _ rfl b (o + k * 12) rfl _ _ hr Try.underlying213 rfl EI.out ?_) | (refine wpList_store_new rfl 213 _ _ rfl _ #[.int .i64 (e).op, .bool (e).inn, .bool (e).real, .int .u64 (e).tm, .int .u64 (e).dn, .int .i64 (e).cls, .int .u64 (e).id, .int .i64 (e).ln, .int .u16 (e).a, .int .u16 (e).b, .int .u16 (e).c, .int .u16 (e).d] rfl rfl EI.out rfl (all_oneCell_toArray e.one) ?_) | (go_at_call 116; (with_reducible refine (KN.out _ (HA.out _)).mono ?_); rintro ee wz ⟨rfl, rfl⟩))
          go_roundw
          case rel =>
            first
              | exact ⟨k + 1, by omega, by go_num, by rw [HS.out], (by repeat' (first | with_reducible exact Below.refl _ _ | with_reducible assumption | ((with_reducible refine Below.drew ?_)) | ((with_reducible refine below_drewN ?_ _)) | ((with_reducible refine Below.alloc ?_ ?_ _); rotate_left; focus (first | omega | (simp; done) | (simp; omega))) | ((with_reducible refine Below.setCell ?_ ?_ _); rotate_left; focus (first | omega | (simp; done) | (simp; omega))) | ((with_reducible refine Below.trans ?_ (Below.mono (by with_reducible assumption) ?_)); rotate_left; focus (first | omega | (simp; done) | (simp; omega)))))⟩
              | ((repeat apply Exists.intro); exact ⟨⟨k + 1, by omega, by go_num, by rw [HS.out], (by repeat' (first | with_reducible exact Below.refl _ _ | with_reducible assumption | ((with_reducible refine Below.drew ?_)) | ((with_reducible refine below_drewN ?_ _)) | ((with_reducible refine Below.alloc ?_ ?_ _); rotate_left; focus (first | omega | (simp; done) | (simp; omega))) | ((with_reducible refine Below.setCell ?_ ?_ _); rotate_left; focus (first | omega | (simp; done) | (simp; omega))) | ((with_reducible refine Below.trans ?_ (Below.mono (by with_reducible assumption) ?_)); rotate_left; focus (first | omega | (simp; done) | (simp; omega)))))⟩, rfl⟩)
          case measure => simp [intOf]; omega
        · have q1 : decide (f ≤ (k : Int)) = true := by simpa using c1
          have q2 : decide ((k : Int) ≤ t) = true := by simpa using c2
          have q5 : decide (0 < e.ln) = false := by simpa using c5
          clear c1 c2 c5
          go_wp2_with (first | (refine wpList_load_mid rfl 213 _ rfl b (o + k * 12) rfl _ _ hr Try.underlying213 rfl EI.out ?_) | (refine wpList_store_new rfl 213 _ _ rfl _ #[.int .i64 (e).op, .bool (e).inn, .bool (e).real, .int .u64 (e).tm, .int .u64 (e).dn, .int .i64 (e).cls, .int .u64 (e).id, .int .i64 (e).ln, .int .u16 (e).a, .int .u16 (e).b, .int .u16 (e).c, .int .u16 (e).d] rfl rfl EI.out rfl (all_oneCell_toArray e.one) ?_) | (go_at_call 116; (with_reducible refine (KN.out _ (HA.out _)).mono ?_); rintro ee wz ⟨rfl, rfl⟩))
          go_roundw
          case rel =>
            first
              | exact ⟨k + 1, by omega, by go_num, by rw [HS.out], (by repeat' (first | with_reducible exact Below.refl _ _ | with_reducible assumption | ((with_reducible refine Below.drew ?_)) | ((with_reducible refine below_drewN ?_ _)) | ((with_reducible refine Below.alloc ?_ ?_ _); rotate_left; focus (first | omega | (simp; done) | (simp; omega))) | ((with_reducible refine Below.setCell ?_ ?_ _); rotate_left; focus (first | omega | (simp; done) | (simp; omega))) | ((with_reducible refine Below.trans ?_ (Below.mono (by with_reducible assumption) ?_)); rotate_left; focus (first | omega | (simp; done) | (simp; omega)))))⟩
              | ((repeat apply Exists.intro); exact ⟨⟨k + 1, by omega, by go_num, by rw [HS.out], (by repeat' (first | with_reducible exact Below.refl _ _ | with_reducible assumption | ((with_reducible refine Below.drew ?_)) | ((with_reducible refine below_drewN ?_ _)) | ((with_reducible refine Below.alloc ?_ ?_ _); rotate_left; focus (first | omega | (simp; done) | (simp; omega))) | ((with_reducible refine Below.setCell ?_ ?_ _); rotate_left; focus (first | omega | (simp; done) | (simp; omega))) | ((with_reducible refine Below.trans ?_ (Below.mono (by with_reducible assumption) ?_)); rotate_left; focus (first | omega | (simp; done) | (simp; omega)))))⟩, rfl⟩)
          case measure => simp [intOf]; omega
    · obtain rfl : k = es.length := by omega
      go_wp2
      (go_ret; refine ⟨?_, ?_⟩; (focus (exact rfl)); ((repeat' (first | with_reducible exact Below.refl _ _ | with_reducible assumption | ((with_reducible refine Below.drew ?_)) | ((with_reducible refine below_drewN ?_ _)) | ((with_reducible refine Below.alloc ?_ ?_ _); rotate_left; focus (first | omega | (simp; done) | (simp; omega))) | ((with_reducible refine Below.setCell ?_ ?_ _); rotate_left; focus (first | omega | (simp; done) | (simp; omega))) | ((with_reducible refine Below.trans ?_ (Below.mono (by with_reducible assumption) ?_)); rotate_left; focus (first | omega | (simp; done) | (simp; omega))))); done))
end Go.Proofs.Ytdahjhokcjfioaa
