/- Joined texts. -/
import Derived.Test.YtffaahipgabkhaaGreatJn0
import Derived.Test.YtffaahipgabkhaaGreatJn33
import Derived.Test.YtffaahipgabkhaaGreatJn35
set_option linter.unusedVariables false
set_option linter.unusedSimpArgs false
set_option maxRecDepth 100000
set_option maxHeartbeats 16000000
section
namespace Go.Proofs.YtffaahipgabkhaaGreat
open Go.RowKit Fg Reg Go.Sort
attribute [local irreducible] Reg.wE Holds QS
def QV (z : World) (B : Nat) (v : Value) (L : List Int) : Prop := QS z B v L.length (fun j => .int .u64 (L.getD j 0))
def KV (z : World) (p : Option Addr) (L : List Int) : Prop := L = [] ∨ ∃ b o, p = some ⟨b, o, none⟩ ∧ b < z.heap.size ∧ ∀ j, j < L.length → z.cell? ⟨b, o + j, none⟩ = some (.int .u64 (L.getD j 0))
theorem KV.below {z z' : World} {p : Option Addr} {L : List Int} (h : KV z p L) (hb : Below z.heap.size z z') : KV z' p L := by
 rcases h with h | ⟨b, o, e, h1, h2⟩
 ·exact .inl h
 ·exact .inr ⟨b, o, e, Nat.lt_of_lt_of_le h1 hb.size, fun j hj => (hb.cell (p := ⟨b, o + j, none⟩) h1).trans (h2 j hj)⟩
theorem QV.nil (z : World) (B : Nat) : QV z B (.slice none 0 0) [] := QS.nil _ _ _
theorem QV.below {z z' : World} {B : Nat} {v : Value} {L : List Int} (h : QV z B v L) (hb : Below z.heap.size z z') : QV z' B v L := QS.below h hb
theorem QV.snoc {z : World} {B : Nat} {v : Value} {L : List Int} {x : Int} (h : QS z B v (L.length + 1) (fun j => if j = L.length then .int .u64 x else .int .u64 (L.getD j 0))) : QV z B v (L ++ [x]) := by
 unfold QV
 rw [List.length_append, List.length_singleton]
 refine h.congr fun j hj => ?_
 by_cases e : j = L.length
 ·subst e; simp [List.getD]
 ·have : j < L.length := by omega
  rw [if_neg e]; simp [List.getD, this, List.getElem?_append]
section
attribute [local semireducible] QS Holds
theorem QV.parts {z : World} {B : Nat} {v : Value} {L : List Int} (h : QV z B v L) :
  (v = .slice none 0 0 ∧ L = []) ∨ ∃ blk off cap, v = .slice (some ⟨blk, off, none⟩) L.length cap ∧ L.length ≤ cap ∧ B ≤ blk ∧ blk < z.heap.size ∧ Holds (Value.int .u64) (z) blk off (L.toArray) := by
 rcases h with ⟨h1, h2⟩ | ⟨b, o, cap, h1, h2, h3, h4, h5, h6, h7⟩
 ·exact .inl ⟨h1, List.length_eq_zero_iff.1 h2⟩
 ·refine .inr ⟨b, o, cap, h1, h2, h4, h5, fun j hj => ?_⟩
  have hj' : j < L.length := by simpa using hj
  refine ⟨?_, (h6 j (by omega)).2⟩
  rw [h7 j hj']
  simp [List.getD, hj']
theorem KV.of_hu {z : World} {blk off : Nat} {L : List Int} (h : Holds (Value.int .u64) (z) blk off (L.toArray)) (hl : blk < z.heap.size) : KV z (some ⟨blk, off, none⟩) L := .inr ⟨blk, off, rfl, hl, fun j hj => by
 rw [(h j (by simpa using hj)).1]
 simp [List.getD, hj]⟩
end
theorem bend_no {m1 d m2 : Int} (h : bend ⟨m1, d, m2⟩ = false) : (kind m1 d m2 == 3) = false ∧ (kind m1 d m2 == 4) = false := by
 unfold bend at h
 simp at h
 constructor <;> simp <;> omega
theorem bend_yes {m1 d m2 : Int} (h : bend ⟨m1, d, m2⟩ = true) : kind m1 d m2 = 3 ∨ kind m1 d m2 = 4 := by
 unfold bend at h
 simp at h
 have := (kind_rng m1 d m2).2
 omega
theorem kneesA_c (l : List Cv) (a : Option Addr) (c : Nat) (hn : l.length ≤ 100) (hok : ∀ k (h : k < l.length), l[k].ok) (w : World) (hR : RwV Cv.cells 3 w a l) :
  Calls Tryz.prog 83 #[.slice a l.length c] w fun e w' => (∃ p cp, e = .returned (.slice p (kns l).length cp) ∧ KV w' p (kns l)) ∧ Below w.heap.size w w' := by
 have HR := Lib.hid hR
 have HO := Lib.hid hok
 obtain ⟨iu, hi0, hz0, hz1, hz2⟩ := u64_parts
 have HI := Lib.hid hi0
 have HZ0 := Lib.hid hz0
 have HZ1 := Lib.hid hz1
 have HZ2 := Lib.hid hz2
 clear hR hok hi0 hz0 hz1 hz2
 go_enter Tryz.func83, Tryz.ntmps83
 go_wp2
 go_loopw [3, 9] (fun sv ii wr => ∃ k : Nat, k ≤ l.length ∧ ii = .int .i64 k ∧ QV wr w.heap.size sv (rawk (l.take k)) ∧ Below w.heap.size w wr) (fun _ ii _ => l.length - (intOf ii).toNat)
 case atStart => exact ⟨0, Nat.zero_le _, rfl, QV.nil _ _, by exact kpb⟩
 case round =>
  obtain ⟨k, hk, rfl, hq, hB⟩ := hrel
  by_cases hlt : k < l.length
  ·obtain ⟨b, o, rfl, hbl, hrr⟩ := (HR.out.below hB) k hlt
   have hc := HO.out k hlt
   have hsucc := rawk_succ l k hlt
   have hrl := rawk_len (l.take k)
   have hln : (rawk (l.take k)).length ≤ 100 := by rw [List.length_take] at hrl; omega
   have HS := Lib.hid hsucc
   clear hsucc hrl
   generalize l[k] = cv at *
   generalize rawk (l.take k) = L at *
   obtain ⟨m1, d, m2⟩ := cv
   have e0 : wr.cell? ⟨b, o + k * 3, none⟩ = some (.int .u64 m1) := hrr 0 _ rfl
   have e1 : wr.cell? ⟨b, o + k * 3 + 1, none⟩ = some (.int .u64 d) := hrr 1 _ rfl
   have e2 : wr.cell? ⟨b, o + k * 3 + 2, none⟩ = some (.int .u64 m2) := hrr 2 _ rfl
   clear hrr
   have hBs := hB.size
   have kc := kof_c m1 d m2 hc.h1 hc.h2 hc.h3
   clear hc
   cases hb : bend ⟨m1, d, m2⟩ with
   | false =>
    have HSX := HS.out
    rw [hb] at HSX
    obtain ⟨n3, n4⟩ := bend_no hb
    generalize kind m1 d m2 = kd at *
    have KC := Lib.hid kc
    have HS2 := Lib.hid (show rawk (l.take (k + 1)) = L from HSX)
    clear kc HSX HS hb
    go_wp2_with (go_at_call 108; (with_reducible refine (KC.out _).mono ?_); rintro e w1 ⟨rfl, hbel⟩; (have hq1 := (hq.below (Below.alloc (Below.refl _ _) (Nat.le_refl _) _)).below hbel); (have hB1 : Below w.heap.size w w1 := (Below.alloc hB (by omega) _).trans (Below.mono hbel (by simp; omega))); clear hbel)
    go_roundw
    case rel =>
     exact ⟨k + 1, by omega, by go_num, by rw [HS2.out]; exact hq1, hB1⟩
    case measure => simp [intOf]; omega
   | true =>
    have HSX := HS.out
    rw [hb] at HSX
    have HS2 := Lib.hid (show rawk (l.take (k + 1)) = L ++ [d] from HSX)
    rcases bend_yes hb with h34 | h34
    all_goals
     rw [h34] at kc
     have KC := Lib.hid kc
     clear kc HSX HS hb h34
     go_wp2_with (first
      | (go_at_call 108; ((with_reducible refine (KC.out _).mono ?_); rintro e w1 ⟨rfl, hbel⟩; (have hq1 := (hq.below (Below.alloc (Below.refl _ _) (Nat.le_refl _) _)).below hbel); obtain ⟨hcc, hff⟩ := bcell hbel; have hsz := hbel.size; (try simp at hsz); have hF : (w1.cell? ⟨wr.heap.size, 1, none⟩ = some (.int .u64 d)) ∧ wr.heap.size < w1.heap.size ∧ Below w.heap.size w w1 := (by exact kpb); go_split_ands; clear hcc hff hbel))
      | (at_builtin; refine wpList_append_q rfl _ _ 104 rfl w.heap.size 44 iu (.int .u64 0) 8 Tryz.underlying104 HI.out HZ0.out HZ1.out HZ2.out rfl _ _ _ rfl (hq1.below (Below.alloc (Below.refl _ _) (Nat.le_refl _) _)) _ _ (.int .u64 d) rfl (by simp [go_sem]) rfl (by unfold maxLen; omega) (by omega) (by (try simp); omega) ?_; intro v4 w4 hq4 ho4))
     have hb4 : Below w.heap.size w w4 := ho4.below (B := w.heap.size) blb (by (try simp); omega) (fun k hk => hk)
     clear ho4
     go_wp2
     go_roundw
     case rel =>
      exact ⟨k + 1, by omega, by go_num, by rw [HS2.out]; exact QV.snoc hq4, hb4⟩
     case measure => simp [intOf]; omega
  ·obtain rfl : k = l.length := by omega
   rw [List.take_length] at hq
   have hrl := rawk_len l
   have hBs := hB.size
   rcases hq.parts with ⟨rfl, hnil⟩ | ⟨blk, off, cap, rfl, hcap, hBb, hbl, hHU⟩
   ·have hk0 : kns l = [] := by unfold kns; rw [hnil]; simp [srt, Go.Lib.compactUpTo]
    have K1 := Lib.hid sortn_n
    have K2 := Lib.hid compn_n
    have HK0 := Lib.hid hk0
    clear hq hnil hk0
    go_wp2_with (first
     | (go_at_call 111; ((with_reducible refine (K1.out _).mono ?_); rintro e w5 ⟨rfl, hbel⟩; obtain ⟨hcc, hff⟩ := bcell hbel; have hsz := hbel.size; (try simp at hsz); have hF : Below w.heap.size w w5 := (by exact kpb); go_split_ands; clear hcc hff hbel))
     | (go_at_call 112; ((with_reducible refine (K2.out _).mono ?_); rintro e w6 ⟨rfl, hbel⟩; obtain ⟨hcc, hff⟩ := bcell hbel; have hsz := hbel.size; (try simp at hsz); have hF : Below w.heap.size w w6 := (by exact kpb); go_split_ands; clear hcc hff hbel)))
    go_ret
    exact ⟨⟨none, 0, by rw [HK0.out]; rfl, .inl HK0.out⟩, by assumption⟩
   ·have K1 := Lib.hid (sort64_c blk off cap (rawk l) wr hHU hbl (by omega))
    have K2 := Lib.hid (fun z h1 h2 => (show Calls Tryz.prog 112 #[.slice (some ⟨blk, off, none⟩) (rawk l).length cap] z _ from by
     have := comp64_c blk off cap (srt (rawk l)).toArray z h1 h2 (by simp [srt_len]; omega) (by simp [srt_len]; omega)
     rw [show (srt (rawk l)).toArray.size = (rawk l).length by simp [srt_len]] at this
     exact this))
    have hkn : kns l = Go.Lib.compactUpTo (srt (rawk l)).toArray (rawk l).length := by unfold kns; rw [show (srt (rawk l)).toArray.size = (rawk l).length by simp [srt_len]]
    rw [← hkn] at K2
    clear hq hHU hkn
    go_wp2_with fail
    with_reducible refine K1.out.mono ?_
    rintro e w5 ⟨rfl, hh5, ho5⟩
    have HH5 := Lib.hid hh5
    clear hh5
    have hl5 : blk < w5.heap.size := Nat.lt_of_lt_of_le hbl ho5.size
    go_wp2_with fail
    with_reducible refine (K2.out _ HH5.out hl5).mono ?_
    rintro e w6 ⟨rfl, hh6, ho6⟩
    have HH6 := Lib.hid (KV.of_hu hh6 (Nat.lt_of_lt_of_le hl5 ho6.size))
    have hB6 : Below w.heap.size w w6 := (ho5.trans ho6).below hB hBs (fun k hk => by omega)
    clear hh6 ho5 ho6
    go_wp2
    go_ret
    exact ⟨⟨_, _, rfl, HH6.out⟩, hB6⟩
end Go.Proofs.YtffaahipgabkhaaGreat
end
section
namespace Go.Proofs.YtffaahipgabkhaaGreat
open Go.RowKit Fg Reg Go.Sort
attribute [local irreducible] Reg.wE Holds QS
section
attribute [local semireducible] QS Holds
theorem QV.lower {z : World} {B B' : Nat} {v : Value} {L : List Int} (h : QV z B' v L) (hB : B ≤ B') : QV z B v L := by
 rcases h with h | ⟨b, o, cap, h1, h2, h3, h4, h5⟩
 ·exact .inl h
 ·exact .inr ⟨b, o, cap, h1, h2, h3, by omega, h5⟩
theorem QV.only {S : Nat → Prop} {z z' : World} {B : Nat} {v : Value} {L : List Int} (h : QV z B v L) (ho : Only S z z') (hS : ∀ k, S k → k < B) : QV z' B v L := QS.only h ho hS
end
theorem only_alloc {B : Nat} (z : World) (hB : B ≤ z.heap.size) (o : Obj) : Only (fun k => B ≤ k) z (z.alloc o) := (Only.refl _ z).alloc o
theorem stp_a {x y : Int} {M : List Int} (h : y < x) : stp x (M, false) y = (M ++ [y], false) := by
 unfold stp; simp [show ¬ x ≤ y by omega, show y ≠ x by omega]
theorem stp_b {x : Int} {M : List Int} : stp x (M, false) x = (M ++ [x], true) := by
 unfold stp; simp
theorem stp_c {x y : Int} {M : List Int} (h : x < y) : stp x (M, false) y = (M ++ [x] ++ [y], true) := by
 unfold stp; simp [show x ≤ y by omega, show y ≠ x by omega]
theorem stp_d {x : Int} {M : List Int} : stp x (M, true) x = (M, true) := by
 unfold stp; simp
theorem stp_e {x y : Int} {M : List Int} (h : y ≠ x) : stp x (M, true) y = (M ++ [y], true) := by
 unfold stp; simp [h]
theorem stp_len (x : Int) (R : List Int) : ∀ k, k ≤ R.length → ((R.take k).foldl (stp x) ([], false)).1.length ≤ 2 * k
 | 0, _ => by simp
 | k + 1, hk => by
  have ih := stp_len x R k (by omega)
  rw [stp_succ x R k (by omega)]
  generalize (R.take k).foldl (stp x) ([], false) = s at *
  generalize R[k] = y
  unfold stp
  dsimp only
  split <;> split <;> simp <;> omega
theorem rkn_len (l : List Cv) (k : Nat) (hk : k ≤ l.length) : (rkn (l.take k)).length ≤ k := by
 rw [rkn_eq]
 have := kns_len (l.take k)
 rw [List.length_take] at this
 omega
theorem insl_end (x : Int) (R : List Int) {M : List Int} {p : Bool} (h : (R.take R.length).foldl (stp x) ([], false) = (M, p)) : insl x R = if p = true then M else M ++ [x] := by
 rw [List.take_length] at h
 unfold insl
 rw [h]
theorem rknees_c (l : List Cv) (a : Option Addr) (c : Nat) (hn : l.length ≤ 100) (hok : ∀ k (h : k < l.length), l[k].ok) (w : World) (hR : RwV Cv.cells 3 w a l) :
  Calls Tryz.prog 93 #[.slice a l.length c] w fun e w' => (∃ p cp, e = .returned (.slice p (kns l).length cp) ∧ KV w' p (kns l)) ∧ Below w.heap.size w w' := by
 have HR := Lib.hid hR
 have HO := Lib.hid hok
 obtain ⟨iu, hi0, hz0, hz1, hz2⟩ := u64_parts
 have HI := Lib.hid hi0
 have HZ0 := Lib.hid hz0
 have HZ1 := Lib.hid hz1
 have HZ2 := Lib.hid hz2
 clear hR hok hi0 hz0 hz1 hz2
 go_enter Tryz.func93, Tryz.ntmps93
 go_wp2
 go_loopw [3, 12] (fun sv ii wr => ∃ k : Nat, k ≤ l.length ∧ ii = .int .i64 k ∧ QV wr w.heap.size sv (rkn (l.take k)) ∧ Below w.heap.size w wr) (fun _ ii _ => l.length - (intOf ii).toNat)
 case atStart => exact ⟨0, Nat.zero_le _, rfl, QV.nil _ _, by exact kpb⟩
 case round =>
  obtain ⟨k, hk, rfl, hq, hB⟩ := hrel
  by_cases hlt : k < l.length
  ·obtain ⟨b, o, rfl, hbl, hrr⟩ := (HR.out.below hB) k hlt
   have hc := HO.out k hlt
   have hln := rkn_len l k hk
   have HS := Lib.hid (rkn_succ l k hlt)
   generalize l[k] = cv at *
   generalize rkn (l.take k) = R at *
   obtain ⟨m1, x, m2⟩ := cv
   have e0 : wr.cell? ⟨b, o + k * 3, none⟩ = some (.int .u64 m1) := hrr 0 _ rfl
   have e1 : wr.cell? ⟨b, o + k * 3 + 1, none⟩ = some (.int .u64 x) := hrr 1 _ rfl
   have e2 : wr.cell? ⟨b, o + k * 3 + 2, none⟩ = some (.int .u64 m2) := hrr 2 _ rfl
   clear hrr
   have hBs := hB.size
   have kc := rkof_c m1 x m2 hc.h1 hc.h2 hc.h3
   clear hc
   cases hb : bend ⟨m1, x, m2⟩ with
   | false =>
    have HSX := HS.out
    rw [hb] at HSX
    have n3 : decide (kind m1 x m2 < 3) = true := by unfold bend at hb; simp at hb ⊢; omega
    generalize kind m1 x m2 = kd at *
    have KC := Lib.hid kc
    have HS2 := Lib.hid (show rkn (l.take (k + 1)) = R from HSX)
    clear kc HSX HS hb
    go_wp2_with (go_at_call 63; (with_reducible refine (KC.out _).mono ?_); rintro e w1 ⟨rfl, hbel⟩; (have hq1 := (hq.below (Below.alloc (Below.refl _ _) (Nat.le_refl _) _)).below hbel); (have hB1 : Below w.heap.size w w1 := (Below.alloc hB (by omega) _).trans (Below.mono hbel (by simp; omega))); clear hbel)
    go_roundw
    case rel =>
     exact ⟨k + 1, by omega, by go_num, by rw [HS2.out]; exact hq1, hB1⟩
    case measure => simp [intOf]; omega
   | true =>
    have HSX := HS.out
    rw [hb] at HSX
    have HS2 := Lib.hid (show rkn (l.take (k + 1)) = insl x R from HSX)
    have n3 : decide (kind m1 x m2 < 3) = false := by unfold bend at hb; simp at hb ⊢; omega
    generalize kind m1 x m2 = kd at *
    have KC := Lib.hid kc
    obtain ⟨w0, hw0⟩ : ∃ w0, w0 = wr := ⟨_, rfl⟩
    subst hw0
    clear kc HSX HS hb
    obtain ⟨p, cp, hsv, hp⟩ : ∃ p cp, u3 = .slice p R.length cp ∧ (R = [] ∨ ∃ b o, p = some ⟨b, o, none⟩ ∧ b < w0.heap.size ∧ Holds (Value.int .u64) w0 b o R.toArray) := by
     rcases hq.parts with ⟨h1, h2⟩ | ⟨blk, off, cap, h1, h2, h3, h4, h5⟩
     ·exact ⟨none, 0, by rw [h1, h2]; rfl, .inl h2⟩
     ·exact ⟨_, cap, h1, .inr ⟨blk, off, rfl, h4, h5⟩⟩
    subst hsv
    have HP := Lib.hid hp
    clear hp hq
    go_wp2_with (go_at_call 63; (with_reducible refine (KC.out _).mono ?_); rintro e w1 ⟨rfl, hbel⟩; obtain ⟨hcc, hff⟩ := bcell hbel; have hsz := hbel.size; (try simp at hsz); (have ec : w1.cell? ⟨w0.heap.size, 1, none⟩ = some (.int .u64 x) := by simp [go_sem, *]); (have hB1 : Below w.heap.size w w1 := (Below.alloc hB (by omega) _).trans (Below.mono hbel (by simp; omega))); (have hBr : Below w0.heap.size w0 w1 := (Below.alloc (Below.refl _ _) (Nat.le_refl _) _).trans (Below.mono hbel (by simp))); (have hcb : w0.heap.size < w1.heap.size := by omega); clear hcc hff hbel)
    rename World => wi
    have HP2 := Lib.hid (show R = [] ∨ ∃ b o, p = some ⟨b, o, none⟩ ∧ b < wi.heap.size ∧ Holds (Value.int .u64) wi b o R.toArray from by
     rcases HP.out with h | ⟨b, o, h1, h2, h3⟩
     ·exact .inl h
     ·exact .inr ⟨b, o, h1, Nat.lt_of_lt_of_le h2 hBr.size, hu_below h3 h2 hBr⟩)
    have hBi := hB1.size
    clear HP hBr
    go_loopw [6, 7, 21] (fun mv pv jv wz => ∃ j : Nat, j ≤ R.length ∧ jv = .int .i64 j ∧ pv = .bool ((R.take j).foldl (stp x) ([], false)).2 ∧ QV wz wi.heap.size mv ((R.take j).foldl (stp x) ([], false)).1 ∧ Only (fun k => wi.heap.size ≤ k) wi wz) (fun _ _ jv _ => R.length - (intOf jv).toNat)
    case atStart => exact ⟨0, Nat.zero_le _, rfl, rfl, QV.nil _ _, Only.refl _ _⟩
    case round =>
     obtain ⟨j, hj, rfl, hpv, hqz, hoz⟩ := hrel
     have hlen := stp_len x R j hj
     have hzs := hoz.size
     have ecz : wr.cell? ⟨w0.heap.size, 1, none⟩ = some (.int .u64 x) := (hoz.cell hcb (by omega)).trans ec
     have ali := fun o => only_alloc (B := wi.heap.size) wr hzs o
     by_cases hlt2 : j < R.length
     ·obtain ⟨rb, ro, rfl, hrb, hru⟩ := HP2.out.resolve_left (fun h => by rw [h] at hlt2; exact absurd hlt2 (by simp))
      obtain ⟨ey, -⟩ := hu_at (hu_only hru hrb hoz (by omega)) j (by simpa using hlt2)
      have hyr : R.toArray[j]! = R[j] := by simp [hlt2]
      rw [hyr] at ey
      have HT := Lib.hid (stp_succ x R j hlt2)
      clear hyr hru
      generalize R[j] = y at *
      obtain ⟨⟨M, pt⟩, hs⟩ : ∃ s, (R.take j).foldl (stp x) ([], false) = s := ⟨_, rfl⟩
      rw [hs] at hpv hqz hlen HT
      dsimp only at hpv hqz hlen
      subst hpv
      clear hs
      cases pt
      ·rcases Int.lt_trichotomy y x with hyx | rfl | hyx
       ·have d1 : decide (x ≤ y) = false := decide_eq_false (by omega)
        have d2 : (y == x) = false := by simp; omega
        have d3 : (y != x) = true := by simp; omega
        have HT2 := Lib.hid (HT.out.trans (stp_a hyx))
        clear HT
        go_wp2_with (((at_builtin; refine wpList_append_q rfl _ _ 104 rfl wi.heap.size 44 iu (.int .u64 0) 8 Tryz.underlying104 HI.out HZ0.out HZ1.out HZ2.out rfl _ _ _ rfl (hqz.below (Below.alloc (Below.refl _ _) (Nat.le_refl _) _)) _ _ (.int .u64 y) rfl (by simp [go_sem]) rfl (by unfold maxLen; omega) (by omega) (by (try simp); omega) ?_; intro v4 w4 hq4 ho4); (have hq4 := QV.snoc hq4); (have ho4 := hoz.trans ((ali _).trans ho4)); (have ec4 : w4.cell? ⟨w0.heap.size, 1, none⟩ = some (.int .u64 x) := (ho4.cell hcb (by omega)).trans ec); (have hs4 := ho4.size); (have hl4 : (M ++ [y]).length ≤ 300 := by (rw [List.length_append, List.length_singleton]; omega))))
        go_roundw
        case rel => first | exact ⟨j + 1, by omega, by go_num, by rw [HT2.out], by rw [HT2.out]; exact hq4, ho4⟩ | ((repeat apply Exists.intro); exact ⟨⟨j + 1, by omega, by go_num, by rw [HT2.out], by rw [HT2.out]; exact hq4, ho4⟩, rfl⟩)
        case measure => simp [intOf]; omega
       ·have d1 : decide (y ≤ y) = true := decide_eq_true (by omega)
        have d2 : (y == y) = true := by simp
        have d3 : (y != y) = false := by simp
        have HT2 := Lib.hid (HT.out.trans stp_b)
        clear HT
        go_wp2_with (((at_builtin; refine wpList_append_q rfl _ _ 104 rfl wi.heap.size 44 iu (.int .u64 0) 8 Tryz.underlying104 HI.out HZ0.out HZ1.out HZ2.out rfl _ _ _ rfl (hqz.below (Below.alloc (Below.refl _ _) (Nat.le_refl _) _)) _ _ (.int .u64 y) rfl (by simp [go_sem]) rfl (by unfold maxLen; omega) (by omega) (by (try simp); omega) ?_; intro v4 w4 hq4 ho4); (have hq4 := QV.snoc hq4); (have ho4 := hoz.trans ((ali _).trans ho4)); (have ec4 : w4.cell? ⟨w0.heap.size, 1, none⟩ = some (.int .u64 y) := (ho4.cell hcb (by omega)).trans ec); (have hs4 := ho4.size); (have hl4 : (M ++ [y]).length ≤ 300 := by (rw [List.length_append, List.length_singleton]; omega))))
        go_roundw
        case rel => first | exact ⟨j + 1, by omega, by go_num, by rw [HT2.out], by rw [HT2.out]; exact hq4, ho4⟩ | ((repeat apply Exists.intro); exact ⟨⟨j + 1, by omega, by go_num, by rw [HT2.out], by rw [HT2.out]; exact hq4, ho4⟩, rfl⟩)
        case measure => simp [intOf]; omega
       ·have d1 : decide (x ≤ y) = true := decide_eq_true (by omega)
        have d2 : (y == x) = false := by simp; omega
        have d3 : (y != x) = true := by simp; omega
        have HT2 := Lib.hid (HT.out.trans (stp_c hyx))
        clear HT
        go_wp2_with (first | ((at_builtin; refine wpList_append_q rfl _ _ 104 rfl wi.heap.size 44 iu (.int .u64 0) 8 Tryz.underlying104 HI.out HZ0.out HZ1.out HZ2.out rfl _ _ _ rfl (hq4.below (Below.alloc (Below.refl _ _) (Nat.le_refl _) _)) _ _ (.int .u64 y) rfl (by simp [go_sem]) rfl (by unfold maxLen; omega) (by omega) (by (try simp); omega) ?_; intro v5 w5 hq5 ho5); (have hq5 := QV.snoc hq5); (have ho5 := ho4.trans ((only_alloc w4 hs4 _).trans ho5))) | ((at_builtin; refine wpList_append_q rfl _ _ 104 rfl wi.heap.size 44 iu (.int .u64 0) 8 Tryz.underlying104 HI.out HZ0.out HZ1.out HZ2.out rfl _ _ _ rfl (hqz.below (Below.alloc (Below.refl _ _) (Nat.le_refl _) _)) _ _ (.int .u64 x) rfl (by simp [go_sem]) rfl (by unfold maxLen; omega) (by omega) (by (try simp); omega) ?_; intro v4 w4 hq4 ho4); (have hq4 := QV.snoc hq4); (have ho4 := hoz.trans ((ali _).trans ho4)); (have ec4 : w4.cell? ⟨w0.heap.size, 1, none⟩ = some (.int .u64 x) := (ho4.cell hcb (by omega)).trans ec); (have hs4 := ho4.size); (have hl4 : (M ++ [x]).length ≤ 300 := by (rw [List.length_append, List.length_singleton]; omega))))
        go_roundw
        case rel => first | exact ⟨j + 1, by omega, by go_num, by rw [HT2.out], by rw [HT2.out]; exact hq5, ho5⟩ | ((repeat apply Exists.intro); exact ⟨⟨j + 1, by omega, by go_num, by rw [HT2.out], by rw [HT2.out]; exact hq5, ho5⟩, rfl⟩)
        case measure => simp [intOf]; omega
      ·by_cases hyx : y = x
       ·subst hyx
        have d2 : (y == y) = true := by simp
        have d3 : (y != y) = false := by simp
        have HT2 := Lib.hid (HT.out.trans stp_d)
        clear HT
        go_wp2
        go_roundw
        case rel => first | exact ⟨j + 1, by omega, by go_num, by rw [HT2.out], by rw [HT2.out]; exact hqz, hoz⟩ | ((repeat apply Exists.intro); exact ⟨⟨j + 1, by omega, by go_num, by rw [HT2.out], by rw [HT2.out]; exact hqz, hoz⟩, rfl⟩)
        case measure => simp [intOf]; omega
       ·have d2 : (y == x) = false := by simp; omega
        have d3 : (y != x) = true := by simp; omega
        have HT2 := Lib.hid (HT.out.trans (stp_e hyx))
        clear HT
        go_wp2_with (((at_builtin; refine wpList_append_q rfl _ _ 104 rfl wi.heap.size 44 iu (.int .u64 0) 8 Tryz.underlying104 HI.out HZ0.out HZ1.out HZ2.out rfl _ _ _ rfl (hqz.below (Below.alloc (Below.refl _ _) (Nat.le_refl _) _)) _ _ (.int .u64 y) rfl (by simp [go_sem]) rfl (by unfold maxLen; omega) (by omega) (by (try simp); omega) ?_; intro v4 w4 hq4 ho4); (have hq4 := QV.snoc hq4); (have ho4 := hoz.trans ((ali _).trans ho4)); (have ec4 : w4.cell? ⟨w0.heap.size, 1, none⟩ = some (.int .u64 x) := (ho4.cell hcb (by omega)).trans ec); (have hs4 := ho4.size); (have hl4 : (M ++ [y]).length ≤ 300 := by (rw [List.length_append, List.length_singleton]; omega))))
        go_roundw
        case rel => first | exact ⟨j + 1, by omega, by go_num, by rw [HT2.out], by rw [HT2.out]; exact hq4, ho4⟩ | ((repeat apply Exists.intro); exact ⟨⟨j + 1, by omega, by go_num, by rw [HT2.out], by rw [HT2.out]; exact hq4, ho4⟩, rfl⟩)
        case measure => simp [intOf]; omega
     ·obtain rfl : j = R.length := by omega
      obtain ⟨⟨M, pt⟩, hs⟩ : ∃ s, (R.take R.length).foldl (stp x) ([], false) = s := ⟨_, rfl⟩
      have HE := Lib.hid (insl_end x R hs)
      rw [hs] at hpv hqz hlen
      dsimp only at hpv hqz hlen
      subst hpv
      clear hs
      cases pt
      ·have HE2 := Lib.hid (HS2.out.trans (HE.out.trans (if_neg (by simp))))
       go_wp2_with (((at_builtin; refine wpList_append_q rfl _ _ 104 rfl wi.heap.size 44 iu (.int .u64 0) 8 Tryz.underlying104 HI.out HZ0.out HZ1.out HZ2.out rfl _ _ _ rfl (hqz.below (Below.alloc (Below.refl _ _) (Nat.le_refl _) _)) _ _ (.int .u64 x) rfl (by simp [go_sem]) rfl (by unfold maxLen; omega) (by omega) (by (try simp); omega) ?_; intro v4 w4 hq4 ho4); (have hq4 := QV.snoc hq4); (have ho4 := hoz.trans ((ali _).trans ho4)); (have ec4 : w4.cell? ⟨w0.heap.size, 1, none⟩ = some (.int .u64 x) := (ho4.cell hcb (by omega)).trans ec); (have hs4 := ho4.size); (have hl4 : (M ++ [x]).length ≤ 300 := by (rw [List.length_append, List.length_singleton]; omega))))
       have hb4 : Below w.heap.size w w4 := ho4.below (B := w.heap.size) hB1 hBi (fun k hk => by omega)
       go_wp2
       go_roundw
       case rel => first | exact ⟨k + 1, by omega, by go_num, by rw [HE2.out]; exact hq4.lower hBi, hb4⟩ | ((repeat apply Exists.intro); exact ⟨⟨k + 1, by omega, by go_num, by rw [HE2.out]; exact hq4.lower hBi, hb4⟩, rfl⟩)
       case measure => simp [intOf]; omega
      ·have HE2 := Lib.hid (HS2.out.trans (HE.out.trans (if_pos rfl)))
       have hb4 : Below w.heap.size w wr := hoz.below (B := w.heap.size) hB1 hBi (fun k hk => by omega)
       go_wp2
       go_roundw
       case rel => first | exact ⟨k + 1, by omega, by go_num, by rw [HE2.out]; exact hqz.lower hBi, hb4⟩ | ((repeat apply Exists.intro); exact ⟨⟨k + 1, by omega, by go_num, by rw [HE2.out]; exact hqz.lower hBi, hb4⟩, rfl⟩)
       case measure => simp [intOf]; omega
  ·obtain rfl : k = l.length := by omega
   rw [List.take_length] at hq
   have HE := Lib.hid (rkn_eq l)
   go_wp2
   rcases hq.parts with ⟨rfl, hnil⟩ | ⟨blk, off, cap, rfl, hcap, hBb, hbl, hHU⟩
   ·go_ret
    exact ⟨⟨none, 0, by rw [← HE.out, hnil]; rfl, .inl (by rw [← HE.out, hnil])⟩, hB⟩
   ·go_ret
    rw [HE.out] at hHU
    exact ⟨⟨_, cap, by rw [← HE.out]; rfl, KV.of_hu hHU hbl⟩, hB⟩
end Go.Proofs.YtffaahipgabkhaaGreat
end
section
namespace Go.Proofs.YtffaahipgabkhaaGreat
open Go.RowKit Fg Reg Go.Sort
attribute [local irreducible] Reg.wE Holds QS
theorem KV.at {z : World} {p : Option Addr} {L : List Int} (h : KV z p L) {j : Nat} (hj : j < L.length) : ∃ b o, p = some ⟨b, o, none⟩ ∧ b < z.heap.size ∧ ∀ i, i < L.length → z.cell? ⟨b, o + i, none⟩ = some (.int .u64 (L.getD i 0)) := by
 rcases h with h | h
 ·rw [h] at hj; exact absurd hj (by simp)
 ·exact h
end Go.Proofs.YtffaahipgabkhaaGreat
end
section
namespace Go.Proofs.YtffaahipgabkhaaGreat
open Go.RowKit Fg Reg Go.Sort
attribute [local irreducible] Reg.wE Holds QS
def rse (t : Int) (c : Cv) : Int := if kind c.m1 c.d c.m2 = 0 then 0 else if t < c.d then c.m1 else c.m2
end Go.Proofs.YtffaahipgabkhaaGreat
end
section
namespace Go.Proofs.YtffaahipgabkhaaGreat
open Fg
def fk (T : Int) (l : List Cv) (k : Int) : Bool := decide (65536 * k < tots (csv k) l * T)
def fe (T : Int) (l : List Cv) : Bool := decide (65536 < tots csl l * T)
def fullv (T : Int) (l : List Cv) : Int × Bool := ((kns l).find? (fk T l)).elim (0, fe T l) (fun k => (k, true))
def lok (l : List Cv) : Bool := l.all fun c => decide (kind c.m1 c.d c.m2 ≠ 0)
def tok (T : Int) : Bool := decide (1 ≤ T ∧ T ≤ 65536)
def fullr (T : Int) (l : List Cv) : Int × Bool := if (tok T && lok l) = true then fullv T l else (0, false)
def fitr (T : Int) (l : List Cv) : Int := if tok T = false then 1 else if lok l = false then 21 else if (fullv T l).2 = true then 22 else 0
structure Adm (T : Int) (l : List Cv) : Prop where
 t1 : 1 ≤ T
 t2 : T ≤ 65536
 ok : lok l = true
 kn : ∀ k ∈ kns l, tots (csv k) l * T ≤ 65536 * k
 en : tots csl l * T ≤ 65536
theorem bend_d {c : Cv} (h : bend c = true) (h2 : 0 ≤ c.d) : 0 < c.d ∧ c.d ≤ 1048576 := by
 unfold bend kind at h
 simp only [decide_eq_true_eq] at h
 split at h
 ·omega
 ·rename_i g
  split at h
  ·omega
  ·split at h
   ·omega
   ·split at h
    ·omega
    ·split at h <;> omega
theorem kns_pos {l : List Cv} (hok : ∀ c ∈ l, c.ok) {k : Int} (hk : k ∈ kns l) : 0 < k ∧ k ≤ 1048576 := by
 obtain ⟨c, hc, hb, rfl⟩ := (mem_kns l k).1 hk
 exact bend_d hb (hok c hc).h2.1
def rest (T : Int) (l : List Cv) (k : Int) : Int := (65536 * k / T - tots (csv k) l) / k
def mn (a b : Int) : Int := if b < a then b else a
def room (T : Int) (l : List Cv) (K : List Int) : Int := K.foldl (fun r k => mn r (rest T l k)) (65536 / T - tots csl l)
def linc (n : Int) : Cv := ⟨n, 0, n⟩
theorem le_div {a b c : Int} (hc : 0 < c) : a ≤ b / c ↔ a * c ≤ b := Int.le_ediv_iff_mul_le hc
end Go.Proofs.YtffaahipgabkhaaGreat
end
