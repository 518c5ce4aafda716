/- The reference's Sum and Send. -/
import Derived.Test.YtohdcpkacdaanaaLs1
namespace Go.Proofs.Ytohdcpkacdaanaa
set_option linter.unusedVariables false
set_option linter.unusedSimpArgs false
set_option maxRecDepth 100000
open Go.RowKit Fg Reg
attribute [local irreducible] Reg.wE

theorem wpList_store_new {P : Program} {ops : Array Oper} {rest : List Oper} {op : Oper} {a : Act} {w : World} {Q : Exit → Act → World → Prop} (hgd : op.guard = none) (ty : TypeId) (x y : Operand) (ho : op.op = .store ty x y)
    (c cells : Array Value) (hx : a.eval x = .pointer (some ⟨w.heap.size, 0, none⟩)) (hy : a.eval y = .agg cells)
    (hi : (P.info? ty).map (·.size) = some cells.size) (hs : c.size = cells.size) (h1 : cells.all (·.oneCell') = true)
    (h : wpList P ops Q rest (a.put op.dst undef) (w.alloc (.cells cells ty))) : wpList P ops Q (op :: rest) a (w.alloc (.cells c ty)) :=
  wpList_plain hgd fun _ hK => by
    unfold Oper.wp execOp
    simp only [ho, hx, hy, Sem.run_bind, Sem.run_pure, Result.andThen_ok, run_storeAt_new (P := P) w ty c cells hi hs h1]
    exact hK _ _ h
theorem sumT_c (t : Int) (h1 : 1 ≤ t) (h2 : t ≤ 65536) (l : List Snt) (hk : soks t l) (a : Option Addr) (cap : Nat) (hn : l.length ≤ 1000) (z : World) (hS : SnV z a l) : Calls Try.prog 41 #[.slice a l.length cap, .bool true] z fun ee w' => ee = .returned (.int .u64 (sumT l)) ∧ Below z.heap.size z w' := by
  have HS := Lib.hid hS
  have HB := Lib.hid (sum_bd hk h1 h2)
  have HK := Lib.hid hk
  have SI := Lib.hid snt_info3
  clear hS hk
  go_enter Try.func41, Try.ntmps41
  go_wp2_with fail
  go_loopw [5, 10] (fun s i wr => ∃ k : Nat, k ≤ l.length ∧ i = .int .i64 k ∧ s = .int .u64 (sumT (l.take k)) ∧ Below z.heap.size z wr) (fun _ i _ => l.length - (intOf i).toNat)
  case atStart => exact ⟨0, Nat.zero_le _, rfl, rfl, Below.refl _ _⟩
  case round =>
    obtain ⟨k, hkk, rfl, rfl, hB⟩ := hrel
    have hsz := hB.size
    by_cases hlt : k < l.length
    · obtain ⟨g, rfl, hg, hr⟩ := (HS.out.below hB) k hlt
      have hs := sok_le (HK.out k hlt) h1 h2
      have hq := HK.out k hlt
      have hn2 : sumT (l.take (k + 1)) = sumT (l.take k) + (l[k].dn - l[k].bg) := by rw [tk_snoc l k hlt, sumT_snoc]
      have hb := HB.out k (by omega)
      generalize l[k] = x at hr hs hq hn2
      obtain ⟨bg, dn, ln⟩ := x
      obtain ⟨q1, q2, q3, q4, q5⟩ := hq
      simp only at hs q1 q2 q3 q4 q5 hn2
      clear q5
      have W1 : IntKind.u64.wrap (sumT (l.take k) + dn) = sumT (l.take k) + dn := by rw [wrap_u64]; omega
      have W2 : IntKind.u64.wrap (sumT (l.take k) + dn - bg) = sumT (l.take k) + dn - bg := by rw [wrap_u64]; omega
      have HN := Lib.hid hn2
      clear hn2 hb
      go_wp2_with (first | (refine wpList_load_mid rfl 73 _ rfl g (k * 3) rfl _ _ hr Try.underlying73 rfl SI.out ?_) | (refine wpList_store_new rfl 73 _ _ rfl _ #[.int .u64 bg, .int .u64 dn, .int .i64 ln] rfl rfl SI.out rfl (all_oneCell_toArray (Snt.one ⟨bg, dn, ln⟩)) ?_))
      go_roundw
      case rel => exact ⟨k + 1, by omega, by go_num, by rw [HN.out]; congr 1; omega, (by repeat' (first | with_reducible exact Below.refl _ _ | with_reducible assumption | ((with_reducible refine Below.drew ?_)) | ((with_reducible refine below_drewN ?_ _)) | ((with_reducible refine Below.alloc ?_ ?_ _); rotate_left; focus (first | omega | (simp; done) | (simp; omega))) | ((with_reducible refine Below.setCell ?_ ?_ _); rotate_left; focus (first | omega | (simp; done) | (simp; omega))) | ((with_reducible refine Below.trans ?_ (Below.mono (by with_reducible assumption) ?_)); rotate_left; focus (first | omega | (simp; done) | (simp; omega)))))⟩
      case measure => simp [intOf]; omega
    · obtain rfl : k = l.length := by omega
      rw [List.take_length]
      clear hlt HS HB HK
      go_wp2
      (go_ret; refine ⟨?_, ?_⟩; (focus (exact rfl)); ((repeat' (first | with_reducible exact Below.refl _ _ | with_reducible assumption | ((with_reducible refine Below.drew ?_)) | ((with_reducible refine below_drewN ?_ _)) | ((with_reducible refine Below.alloc ?_ ?_ _); rotate_left; focus (first | omega | (simp; done) | (simp; omega))) | ((with_reducible refine Below.setCell ?_ ?_ _); rotate_left; focus (first | omega | (simp; done) | (simp; omega))) | ((with_reducible refine Below.trans ?_ (Below.mono (by with_reducible assumption) ?_)); rotate_left; focus (first | omega | (simp; done) | (simp; omega))))); done))
theorem sumL_c (t : Int) (h1 : 1 ≤ t) (h2 : t ≤ 65536) (l : List Snt) (hk : soks t l) (a : Option Addr) (cap : Nat) (hn : l.length ≤ 1000) (z : World) (hS : SnV z a l) : Calls Try.prog 41 #[.slice a l.length cap, .bool false] z fun ee w' => ee = .returned (.int .u64 (sumL l)) ∧ Below z.heap.size z w' := by
  have HS := Lib.hid hS
  have HB := Lib.hid (sum_bd hk h1 h2)
  have HK := Lib.hid hk
  have SI := Lib.hid snt_info3
  clear hS hk
  go_enter Try.func41, Try.ntmps41
  go_wp2_with fail
  go_loopw [5, 10] (fun s i wr => ∃ k : Nat, k ≤ l.length ∧ i = .int .i64 k ∧ s = .int .u64 (sumL (l.take k)) ∧ Below z.heap.size z wr) (fun _ i _ => l.length - (intOf i).toNat)
  case atStart => exact ⟨0, Nat.zero_le _, rfl, rfl, Below.refl _ _⟩
  case round =>
    obtain ⟨k, hkk, rfl, rfl, hB⟩ := hrel
    have hsz := hB.size
    by_cases hlt : k < l.length
    · obtain ⟨g, rfl, hg, hr⟩ := (HS.out.below hB) k hlt
      have hq := HK.out k hlt
      have hn2 : sumL (l.take (k + 1)) = sumL (l.take k) + l[k].ln := by rw [tk_snoc l k hlt, sumL_snoc]
      have hb := HB.out k (by omega)
      generalize l[k] = x at hr hq hn2
      obtain ⟨bg, dn, ln⟩ := x
      obtain ⟨q1, q2, q3, q4, q5⟩ := hq
      simp only at q1 q2 q3 q4 q5 hn2
      clear q5
      have W1 : IntKind.u64.wrap ln = ln := by rw [wrap_u64]; omega
      have W2 : IntKind.u64.wrap (sumL (l.take k) + ln) = sumL (l.take k) + ln := by rw [wrap_u64]; omega
      have HN := Lib.hid hn2
      clear hn2 hb
      go_wp2_with (first | (refine wpList_load_mid rfl 73 _ rfl g (k * 3) rfl _ _ hr Try.underlying73 rfl SI.out ?_) | (refine wpList_store_new rfl 73 _ _ rfl _ #[.int .u64 bg, .int .u64 dn, .int .i64 ln] rfl rfl SI.out rfl (all_oneCell_toArray (Snt.one ⟨bg, dn, ln⟩)) ?_))
      go_roundw
      case rel => exact ⟨k + 1, by omega, by go_num, by rw [HN.out], (by repeat' (first | with_reducible exact Below.refl _ _ | with_reducible assumption | ((with_reducible refine Below.drew ?_)) | ((with_reducible refine below_drewN ?_ _)) | ((with_reducible refine Below.alloc ?_ ?_ _); rotate_left; focus (first | omega | (simp; done) | (simp; omega))) | ((with_reducible refine Below.setCell ?_ ?_ _); rotate_left; focus (first | omega | (simp; done) | (simp; omega))) | ((with_reducible refine Below.trans ?_ (Below.mono (by with_reducible assumption) ?_)); rotate_left; focus (first | omega | (simp; done) | (simp; omega)))))⟩
      case measure => simp [intOf]; omega
    · obtain rfl : k = l.length := by omega
      rw [List.take_length]
      clear hlt HS HB HK
      go_wp2
      (go_ret; refine ⟨?_, ?_⟩; (focus (exact rfl)); ((repeat' (first | with_reducible exact Below.refl _ _ | with_reducible assumption | ((with_reducible refine Below.drew ?_)) | ((with_reducible refine below_drewN ?_ _)) | ((with_reducible refine Below.alloc ?_ ?_ _); rotate_left; focus (first | omega | (simp; done) | (simp; omega))) | ((with_reducible refine Below.setCell ?_ ?_ _); rotate_left; focus (first | omega | (simp; done) | (simp; omega))) | ((with_reducible refine Below.trans ?_ (Below.mono (by with_reducible assumption) ?_)); rotate_left; focus (first | omega | (simp; done) | (simp; omega))))); done))
/-- The reference's Send. -/
def wrongs (now n un : Int) : Int := if 4611686018427387904 < now then 27 else if n < 1 ∨ 16384 < n then 26 else if now < un then 24 else 0
theorem rse_c (l : List Snt) (ao : Option Addr) (cap : Nat) (hn : l.length ≤ 1000) (now i n a b c d : Int) (z : World) (hS : SnV z ao l) : Calls Try.prog 36 #[.slice ao l.length cap, .int .u64 now, .agg #[.int .u64 i, .int .i64 n, .int .u16 a, .int .u16 b, .int .u16 c, .int .u16 d]] z fun ee w' => ee = .returned (.int .i64 (wrongs now n (untl l))) ∧ Below z.heap.size z w' := by
  unfold wrongs
  by_cases c1 : 4611686018427387904 < now
  · rw [if_pos c1]
    clear hS
    go_enter Try.func36, Try.ntmps36
    go_wp2
    (go_ret; refine ⟨?_, ?_⟩; (focus (exact rfl)); ((repeat' (first | with_reducible exact Below.refl _ _ | with_reducible assumption | ((with_reducible refine Below.drew ?_)) | ((with_reducible refine below_drewN ?_ _)) | ((with_reducible refine Below.alloc ?_ ?_ _); rotate_left; focus (first | omega | (simp; done) | (simp; omega))) | ((with_reducible refine Below.setCell ?_ ?_ _); rotate_left; focus (first | omega | (simp; done) | (simp; omega))) | ((with_reducible refine Below.trans ?_ (Below.mono (by with_reducible assumption) ?_)); rotate_left; focus (first | omega | (simp; done) | (simp; omega))))); done))
  · rw [if_neg c1]
    by_cases c2 : n < 1 ∨ 16384 < n
    · rw [if_pos c2]
      clear hS
      by_cases c3 : n < 1
      · have d3 : decide (n < 1) = true := by simpa using c3
        clear c2
        go_enter Try.func36, Try.ntmps36
        go_wp2
        (go_ret; refine ⟨?_, ?_⟩; (focus (exact rfl)); ((repeat' (first | with_reducible exact Below.refl _ _ | with_reducible assumption | ((with_reducible refine Below.drew ?_)) | ((with_reducible refine below_drewN ?_ _)) | ((with_reducible refine Below.alloc ?_ ?_ _); rotate_left; focus (first | omega | (simp; done) | (simp; omega))) | ((with_reducible refine Below.setCell ?_ ?_ _); rotate_left; focus (first | omega | (simp; done) | (simp; omega))) | ((with_reducible refine Below.trans ?_ (Below.mono (by with_reducible assumption) ?_)); rotate_left; focus (first | omega | (simp; done) | (simp; omega))))); done))
      · have d3 : decide (n < 1) = false := by simp; omega
        have d4 : decide (16384 < n) = true := by simp; omega
        clear c2
        go_enter Try.func36, Try.ntmps36
        go_wp2
        (go_ret; refine ⟨?_, ?_⟩; (focus (exact rfl)); ((repeat' (first | with_reducible exact Below.refl _ _ | with_reducible assumption | ((with_reducible refine Below.drew ?_)) | ((with_reducible refine below_drewN ?_ _)) | ((with_reducible refine Below.alloc ?_ ?_ _); rotate_left; focus (first | omega | (simp; done) | (simp; omega))) | ((with_reducible refine Below.setCell ?_ ?_ _); rotate_left; focus (first | omega | (simp; done) | (simp; omega))) | ((with_reducible refine Below.trans ?_ (Below.mono (by with_reducible assumption) ?_)); rotate_left; focus (first | omega | (simp; done) | (simp; omega))))); done))
    · rw [if_neg c2]
      have d3 : decide (n < 1) = false := by simp; omega
      have d4 : decide (16384 < n) = false := by simp; omega
      have KU := Lib.hid (fun z hz => rut_c l ao cap hn z hz)
      have HS := Lib.hid hS
      clear hS c2
      generalize untl l = un at KU
      by_cases c5 : now < un
      · rw [if_pos c5]
        go_enter Try.func36, Try.ntmps36
        go_wp2_with (go_at_call 39; (with_reducible refine (KU.out _ (HS.out.below (by repeat' (first | with_reducible exact Below.refl _ _ | with_reducible assumption | ((with_reducible refine Below.drew ?_)) | ((with_reducible refine below_drewN ?_ _)) | ((with_reducible refine Below.alloc ?_ ?_ _); rotate_left; focus (first | omega | (simp; done) | (simp; omega))) | ((with_reducible refine Below.setCell ?_ ?_ _); rotate_left; focus (first | omega | (simp; done) | (simp; omega))) | ((with_reducible refine Below.trans ?_ (Below.mono (by with_reducible assumption) ?_)); rotate_left; focus (first | omega | (simp; done) | (simp; omega))))))).mono ?_); rintro e w1 ⟨rfl, hbel⟩; (have hF : Below z.heap.size z w1 := Below.trans ((by repeat' (first | with_reducible exact Below.refl _ _ | with_reducible assumption | ((with_reducible refine Below.drew ?_)) | ((with_reducible refine below_drewN ?_ _)) | ((with_reducible refine Below.alloc ?_ ?_ _); rotate_left; focus (first | omega | (simp; done) | (simp; omega))) | ((with_reducible refine Below.setCell ?_ ?_ _); rotate_left; focus (first | omega | (simp; done) | (simp; omega))) | ((with_reducible refine Below.trans ?_ (Below.mono (by with_reducible assumption) ?_)); rotate_left; focus (first | omega | (simp; done) | (simp; omega)))))) (hbel.mono (by simp))); clear hbel)
        (go_ret; refine ⟨?_, ?_⟩; (focus (exact rfl)); ((repeat' (first | with_reducible exact Below.refl _ _ | with_reducible assumption | ((with_reducible refine Below.drew ?_)) | ((with_reducible refine below_drewN ?_ _)) | ((with_reducible refine Below.alloc ?_ ?_ _); rotate_left; focus (first | omega | (simp; done) | (simp; omega))) | ((with_reducible refine Below.setCell ?_ ?_ _); rotate_left; focus (first | omega | (simp; done) | (simp; omega))) | ((with_reducible refine Below.trans ?_ (Below.mono (by with_reducible assumption) ?_)); rotate_left; focus (first | omega | (simp; done) | (simp; omega))))); done))
      · rw [if_neg c5]
        go_enter Try.func36, Try.ntmps36
        go_wp2_with (go_at_call 39; (with_reducible refine (KU.out _ (HS.out.below (by repeat' (first | with_reducible exact Below.refl _ _ | with_reducible assumption | ((with_reducible refine Below.drew ?_)) | ((with_reducible refine below_drewN ?_ _)) | ((with_reducible refine Below.alloc ?_ ?_ _); rotate_left; focus (first | omega | (simp; done) | (simp; omega))) | ((with_reducible refine Below.setCell ?_ ?_ _); rotate_left; focus (first | omega | (simp; done) | (simp; omega))) | ((with_reducible refine Below.trans ?_ (Below.mono (by with_reducible assumption) ?_)); rotate_left; focus (first | omega | (simp; done) | (simp; omega))))))).mono ?_); rintro e w1 ⟨rfl, hbel⟩; (have hF : Below z.heap.size z w1 := Below.trans ((by repeat' (first | with_reducible exact Below.refl _ _ | with_reducible assumption | ((with_reducible refine Below.drew ?_)) | ((with_reducible refine below_drewN ?_ _)) | ((with_reducible refine Below.alloc ?_ ?_ _); rotate_left; focus (first | omega | (simp; done) | (simp; omega))) | ((with_reducible refine Below.setCell ?_ ?_ _); rotate_left; focus (first | omega | (simp; done) | (simp; omega))) | ((with_reducible refine Below.trans ?_ (Below.mono (by with_reducible assumption) ?_)); rotate_left; focus (first | omega | (simp; done) | (simp; omega)))))) (hbel.mono (by simp))); clear hbel)
        (go_ret; refine ⟨?_, ?_⟩; (focus (exact rfl)); ((repeat' (first | with_reducible exact Below.refl _ _ | with_reducible assumption | ((with_reducible refine Below.drew ?_)) | ((with_reducible refine below_drewN ?_ _)) | ((with_reducible refine Below.alloc ?_ ?_ _); rotate_left; focus (first | omega | (simp; done) | (simp; omega))) | ((with_reducible refine Below.setCell ?_ ?_ _); rotate_left; focus (first | omega | (simp; done) | (simp; omega))) | ((with_reducible refine Below.trans ?_ (Below.mono (by with_reducible assumption) ?_)); rotate_left; focus (first | omega | (simp; done) | (simp; omega))))); done))
end Go.Proofs.Ytohdcpkacdaanaa
