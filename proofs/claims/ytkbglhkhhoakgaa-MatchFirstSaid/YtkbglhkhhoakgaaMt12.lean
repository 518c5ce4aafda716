/- (*match.Table).Rules and Uses of a table that was made. -/
import Derived.Test.YtkbglhkhhoakgaaMt11
namespace Go.Proofs.Ytkbglhkhhoakgaa
set_option linter.unusedVariables false
set_option linter.unusedSimpArgs false
set_option maxRecDepth 100000
open Go.RowKit Fg Reg
attribute [local irreducible] Reg.wE

theorem rules_c (rs : List Rl) (p : Nat) (hn : rs.length ≤ 100000) (w : World) (hB : TB w p rs) :
    Calls Try.prog 17 #[.pointer (some ⟨p, 0, none⟩)] w fun e w' => (∃ a c, e = .returned (.slice a rs.length c) ∧ RlsV w' a rs) ∧ Below w.heap.size w w' := by
  obtain ⟨hp, mb, a0, c0, F, n, a1, c1, ms, x0, x1, x2, hR, hM, hS, hT, hml⟩ := hB
  have KC := Lib.hid (clone_c rs a0 c0 hn w hR)
  clear hR hM hS hT x1 x2
  go_enter Try.func17, Try.ntmps17
  go_wp2_with (go_at_call 51; ((with_reducible refine KC.out.mono ?_); rintro e w1 ⟨⟨v0, rfl, ho⟩, hb⟩; obtain ⟨a0, c0, rfl, hRl, -, -, hal⟩ := RwV.of_own rl_of ho; clear ho))
  go_ret
  exact ⟨⟨a0, c0, rfl, hRl⟩, hb⟩
theorem us1_c (r : Rl) (x : Nat) (cl : Int) (w : World) (hx : w.cell? ⟨x, 0, none⟩ = some (.int .i64 cl)) (hl : x < w.heap.size) :
    Calls Try.prog 55 #[.agg r.cells.toArray, .pointer (some ⟨x, 0, none⟩)] w fun ee w' => ee = .returned (.bool (r.cls == cl)) ∧ Below w.heap.size w w' := by
  show Calls Try.prog 55 #[.agg #[.int .u16 ((r).m 0 : Nat), .int .u16 ((r).m 1 : Nat), .int .u16 ((r).m 2 : Nat), .int .u16 ((r).m 3 : Nat), .int .u16 ((r).s 0 : Nat), .int .u16 ((r).s 1 : Nat), .int .u16 ((r).s 2 : Nat), .int .u16 ((r).s 3 : Nat), .int .i64 (r).cls], .pointer (some ⟨x, 0, none⟩)] w fun ee w' => ee = .returned (.bool (r.cls == cl)) ∧ Below w.heap.size w w'
  generalize hb : (r.cls == cl) = b
  go_enter Try.func55, Try.ntmps55
  go_wp2
  (go_ret; refine ⟨?_, ?_⟩; (focus (exact rfl)); ((repeat' (first | with_reducible exact Below.refl _ _ | with_reducible assumption | ((with_reducible refine Below.drew ?_)) | ((with_reducible refine below_drewN ?_ _)) | ((with_reducible refine Below.alloc ?_ ?_ _); rotate_left; focus (first | omega | (simp; done) | (simp; omega))) | ((with_reducible refine Below.setCell ?_ ?_ _); rotate_left; focus (first | omega | (simp; done) | (simp; omega))) | ((with_reducible refine Below.trans ?_ (Below.mono (by with_reducible assumption) ?_)); rotate_left; focus (first | omega | (simp; done) | (simp; omega))))); done))
def ruses (rs : List Rl) (cl : Int) : Bool := rs.any (fun r => r.cls == cl)
theorem ruses_yes {rs : List Rl} {cl : Int} {k : Nat} (h : k < rs.length) (he : (rs[k].cls == cl) = true) : ruses rs cl = true := List.any_eq_true.2 ⟨rs[k], List.getElem_mem h, he⟩
theorem ruses_succ (rs : List Rl) (cl : Int) (k : Nat) (h : k < rs.length) : ruses (rs.take (k + 1)) cl = (ruses (rs.take k) cl || (rs[k].cls == cl)) := by
  unfold ruses; rw [take_snoc'' rs k h, List.any_append]; simp
set_option maxHeartbeats 4000000 in
theorem ixr_c (rs : List Rl) (a : Option Addr) (c : Nat) (hn : rs.length ≤ 100000) (x : Nat) (cl : Int) (w : World) (hR : RlsV w a rs) (hx : w.cell? ⟨x, 0, none⟩ = some (.int .i64 cl)) (hl : x < w.heap.size) :
    Calls Try.prog 70 #[.slice a rs.length c, .func (.func 55) #[] #[.pointer (some ⟨x, 0, none⟩)]] w fun ee w' => (∃ i, ee = .returned (.int .i64 i) ∧ decide (0 ≤ i) = ruses rs cl) ∧ Below w.heap.size w w' := by
  have HR := Lib.hid hR
  have LI := Lib.hid rl_info
  have HX := Lib.hid hx
  clear hR hx
  go_enter Try.func70, Try.ntmps70
  go_wp2_with fail
  go_loopw [8] (fun ii wr => ∃ k : Nat, k ≤ rs.length ∧ ii = .int .i64 k ∧ ruses (rs.take k) cl = false ∧ Below w.heap.size w wr) (fun ii _ => rs.length - (intOf ii).toNat)
  case atStart => exact ⟨0, Nat.zero_le _, rfl, by simp [ruses], Below.refl _ _⟩
  case round =>
    obtain ⟨k, hk, rfl, hno, hB⟩ := hrel
    have hsz := hB.size
    by_cases hlt : k < rs.length
    · obtain ⟨b, o, rfl, hb, hr⟩ := (HR.out.below hB) k hlt
      have hs := ruses_succ rs cl k hlt
      have hy := fun he => ruses_yes (cl := cl) hlt he
      rw [hno, Bool.false_or] at hs
      generalize rs[k] = r at hr hs hy
      have KM := Lib.hid (us1_c r x cl wr ((hB.cell (p := ⟨x, 0, none⟩) hl).trans HX.out) (by omega))
      cases he : (r.cls == cl) with
      | true =>
        rw [he] at KM
        have HY := Lib.hid (hy he)
        clear hs hy he hno
        go_wp2_with (first | (refine wpList_load_mid rfl 37 _ rfl b (o + k * 9) rfl _ _ hr Try.underlying37 rfl LI.out ?_) | (go_at_call 55; ((with_reducible refine (KM.out).mono ?_); rintro e w1 ⟨rfl, hbel⟩; obtain ⟨hcc, hff⟩ := bcell hbel; have hsz := hbel.size; (try simp at hsz); have hF : Below w.heap.size w w1 := (by ((repeat' apply And.intro) <;> first | (simp [go_sem, *]; done) | omega | (repeat' (first | with_reducible exact Below.refl _ _ | with_reducible assumption | ((with_reducible refine Below.drew ?_)) | ((with_reducible refine below_drewN ?_ _)) | ((with_reducible refine Below.alloc ?_ ?_ _); rotate_left; focus (first | omega | (simp; done) | (simp; omega))) | ((with_reducible refine Below.setCell ?_ ?_ _); rotate_left; focus (first | omega | (simp; done) | (simp; omega))) | ((with_reducible refine Below.trans ?_ (Below.mono (by with_reducible assumption) ?_)); rotate_left; focus (first | omega | (simp; done) | (simp; omega))))))); go_split_ands; clear hcc hff hbel)))
        go_ret
        exact ⟨⟨_, rfl, by rw [HY.out]; simp⟩, by assumption⟩
      | false =>
        rw [he] at KM hs
        have HY := Lib.hid hs
        clear hs hy he hno
        go_wp2_with (first | (refine wpList_load_mid rfl 37 _ rfl b (o + k * 9) rfl _ _ hr Try.underlying37 rfl LI.out ?_) | (go_at_call 55; ((with_reducible refine (KM.out).mono ?_); rintro e w1 ⟨rfl, hbel⟩; obtain ⟨hcc, hff⟩ := bcell hbel; have hsz := hbel.size; (try simp at hsz); have hF : Below w.heap.size w w1 := (by ((repeat' apply And.intro) <;> first | (simp [go_sem, *]; done) | omega | (repeat' (first | with_reducible exact Below.refl _ _ | with_reducible assumption | ((with_reducible refine Below.drew ?_)) | ((with_reducible refine below_drewN ?_ _)) | ((with_reducible refine Below.alloc ?_ ?_ _); rotate_left; focus (first | omega | (simp; done) | (simp; omega))) | ((with_reducible refine Below.setCell ?_ ?_ _); rotate_left; focus (first | omega | (simp; done) | (simp; omega))) | ((with_reducible refine Below.trans ?_ (Below.mono (by with_reducible assumption) ?_)); rotate_left; focus (first | omega | (simp; done) | (simp; omega))))))); go_split_ands; clear hcc hff hbel)))
        go_roundw
        case rel => exact ⟨k + 1, by omega, by go_num, HY.out, by assumption⟩
        case measure => simp [intOf]; omega
    · obtain rfl : k = rs.length := by omega
      rw [List.take_length] at hno
      have HN := Lib.hid hno
      clear hno
      go_wp2
      go_ret
      exact ⟨⟨_, rfl, by rw [HN.out]; rfl⟩, hB⟩
theorem cor_c (rs : List Rl) (a : Option Addr) (c : Nat) (hn : rs.length ≤ 100000) (x : Nat) (cl : Int) (w : World) (hR : RlsV w a rs) (hx : w.cell? ⟨x, 0, none⟩ = some (.int .i64 cl)) (hl : x < w.heap.size) :
    Calls Try.prog 54 #[.slice a rs.length c, .func (.func 55) #[] #[.pointer (some ⟨x, 0, none⟩)]] w fun ee w' => ee = .returned (.bool (ruses rs cl)) ∧ Below w.heap.size w w' := by
  have K1 := Lib.hid (ixr_c rs a c hn x cl w hR hx hl)
  clear hx hR
  go_enter Try.func54, Try.ntmps54
  go_wp2_with (go_at_call 70; (with_reducible refine (K1.out).mono ?_); rintro e w' ⟨⟨iv, rfl, hiv⟩, hb⟩)
  go_ret
  refine ⟨?_, hb⟩
  rw [← hiv]
  rfl
set_option maxHeartbeats 4000000 in
theorem uses_c (rs : List Rl) (p : Nat) (hn : rs.length ≤ 100000) (cl : Int) (w : World) (hB : TB w p rs) :
    Calls Try.prog 20 #[.pointer (some ⟨p, 0, none⟩), .int .i64 cl] w fun ee w' => ee = .returned (.bool (ruses rs cl)) ∧ Below w.heap.size w w' := by
  obtain ⟨hp, mb, a0, c0, F, n, a1, c1, ms, x0, x1, x2, hR, hM, hS, hT, hml⟩ := hB
  have KC := Lib.hid (fun (z : World) (hz : Below w.heap.size w z) (hx : z.cell? ⟨w.heap.size, 0, none⟩ = some (.int .i64 cl)) (hl : w.heap.size < z.heap.size) => cor_c rs a0 c0 hn w.heap.size cl z (hR.below hz) hx hl)
  clear hR hM hS hT x1 x2
  go_enter Try.func20, Try.ntmps20
  go_wp2_with (go_at_call 54; ((with_reducible refine (KC.out _ ?_ ?_ ?_).mono ?_); (focus ((repeat' (first | with_reducible exact Below.refl _ _ | with_reducible assumption | ((with_reducible refine Below.drew ?_)) | ((with_reducible refine below_drewN ?_ _)) | ((with_reducible refine Below.alloc ?_ ?_ _); rotate_left; focus (first | omega | (simp; done) | (simp; omega))) | ((with_reducible refine Below.setCell ?_ ?_ _); rotate_left; focus (first | omega | (simp; done) | (simp; omega))) | ((with_reducible refine Below.trans ?_ (Below.mono (by with_reducible assumption) ?_)); rotate_left; focus (first | omega | (simp; done) | (simp; omega))))); done)); (focus (simp [go_sem])); (focus (simp)); rintro e w1 ⟨rfl, hb⟩))
  go_ret
  refine ⟨rfl, ?_⟩
  ((repeat' (first | with_reducible exact Below.refl _ _ | with_reducible assumption | ((with_reducible refine Below.drew ?_)) | ((with_reducible refine below_drewN ?_ _)) | ((with_reducible refine Below.alloc ?_ ?_ _); rotate_left; focus (first | omega | (simp; done) | (simp; omega))) | ((with_reducible refine Below.setCell ?_ ?_ _); rotate_left; focus (first | omega | (simp; done) | (simp; omega))) | ((with_reducible refine Below.trans ?_ (Below.mono (by with_reducible assumption) ?_)); rotate_left; focus (first | omega | (simp; done) | (simp; omega))))); done)
end Go.Proofs.Ytkbglhkhhoakgaa
