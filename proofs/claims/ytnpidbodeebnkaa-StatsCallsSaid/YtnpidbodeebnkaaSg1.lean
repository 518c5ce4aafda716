/- Statistics of any classes. -/
import Derived.Test.YtnpidbodeebnkaaSt5
import Derived.Test.YtnpidbodeebnkaaMr0
import Derived.Test.YtnpidbodeebnkaaRegS
import Derived.Test.YtnpidbodeebnkaaItM
namespace Go.Proofs.Ytnpidbodeebnkaa
set_option linter.unusedVariables false
set_option linter.unusedSimpArgs false
set_option maxRecDepth 100000
open Go.RowKit Fg Reg Go.Maps
attribute [local irreducible] Reg.wN Reg.wE QR

def uw {α : Type} (f : Int → α) (c : Int) (v : α) : Int → α := fun x => if x = c then v else f x
theorem uw_at {α : Type} (f : Int → α) (c : Int) (v : α) : uw f c v c = v := by unfold uw; rw [if_pos rfl]
theorem uw_ne {α : Type} (f : Int → α) {c x : Int} (v : α) (h : x ≠ c) : uw f c v x = f x := by unfold uw; rw [if_neg h]
/-- Statistics in memory: the ticks that wait of each class, its slice and its block; the rows. -/
structure SG (z : World) (B p mw mr : Nat) (f : Int → Option Value) (W : Int → List Int) (bk : Int → Option Nat) (R : Int → Option R5) : Prop where
  c0 : z.cell? ⟨p, 0, none⟩ = some (.map (some mw))
  c1 : z.cell? ⟨p, 1, none⟩ = some (.map (some mr))
  ltp : p < B
  ltw : mw < B
  ltr : mr < B
  npw : mw ≠ p
  npr : mr ≠ p
  nwr : mw ≠ mr
  hB : B ≤ z.heap.size
  mp : ∃ n, Mp ikv (fun v : Value => v) iok f n z mw
  rows : ∀ c, QR z B 1 ((f c).getD (.slice none 0 0)) (W c).length ((W c).map (Value.int .u64)) (bk c)
  ap : ∀ c c' b, c ≠ c' → bk c = some b → bk c' ≠ some b
  mpr : ∃ n, Mp ikv r5v iok R n z mr
theorem SG.plt {z : World} {B p mw mr : Nat} {f : Int → Option Value} {W : Int → List Int} {bk : Int → Option Nat} {R : Int → Option R5} (h : SG z B p mw mr f W bk R) : p < z.heap.size := Nat.lt_of_lt_of_le h.ltp h.hB
theorem SG.only {z : World} {B p mw mr : Nat} {f : Int → Option Value} {W : Int → List Int} {bk : Int → Option Nat} {R : Int → Option R5} {S : Nat → Prop} {z' : World} (h : SG z B p mw mr f W bk R) (ho : Only S z z') (h1 : ¬ S p) (h2 : ¬ S mw) (h3 : ¬ S mr) (h4 : ∀ c b, bk c = some b → ¬ S b) : SG z' B p mw mr f W bk R := by
  obtain ⟨n, hn⟩ := h.mp
  obtain ⟨m, hm⟩ := h.mpr
  exact ⟨(ho.cell h.plt h1).trans h.c0, (ho.cell h.plt h1).trans h.c1, h.ltp, h.ltw, h.ltr, h.npw, h.npr, h.nwr, Nat.le_trans h.hB ho.size, ⟨n, hn.frame (ho.block mw hn.lt h2)⟩, fun c => (h.rows c).only ho (h4 c), h.ap, ⟨m, hm.frame (ho.block mr hm.lt h3)⟩⟩
theorem SG.below {z : World} {B p mw mr : Nat} {f : Int → Option Value} {W : Int → List Int} {bk : Int → Option Nat} {R : Int → Option R5} {z' : World} (h : SG z B p mw mr f W bk R) (hb : Below z.heap.size z z') : SG z' B p mw mr f W bk R := h.only (Only.of_below (S := fun _ => False) hb) (fun h => h) (fun h => h) (fun h => h) (fun _ _ _ h => h)
theorem SG.lookw {z : World} {B p mw mr : Nat} {f : Int → Option Value} {W : Int → List Int} {bk : Int → Option Nat} {R : Int → Option R5} (h : SG z B p mw mr f W bk R) {c : Int} (hc : iok c) : (Instr.lookup 52 (.map (some mw)) (.int .i64 c) false).run Try.prog z = .ok ((f c).getD (.slice none 0 0)) z := by
  obtain ⟨n, hn⟩ := h.mp
  have := Mp.look false hn ikok Try.underlying52 (wz0 z) hc
  have e : mget (.slice none 0 0) (fun v : Value => v) (f c) = (f c).getD (.slice none 0 0) := by cases f c <;> rfl
  rw [e] at this
  exact this
theorem SG.lookr {z : World} {B p mw mr : Nat} {f : Int → Option Value} {W : Int → List Int} {bk : Int → Option Nat} {R : Int → Option R5} (h : SG z B p mw mr f W bk R) {c : Int} (hc : iok c) : (Instr.lookup 53 (.map (some mr)) (.int .i64 c) false).run Try.prog z = .ok (r5v ((R c).getD r50)) z := by
  obtain ⟨n, hn⟩ := h.mpr
  have := Mp.look false hn ikok Try.underlying53 (rz0 z) hc
  have e : mget (r5v r50) r5v (R c) = r5v ((R c).getD r50) := by cases R c <;> rfl
  rw [e] at this
  exact this
/-- One class's row of ticks is another one. -/
theorem SG.putw {z : World} {B p mw mr : Nat} {f : Int → Option Value} {W : Int → List Int} {bk : Int → Option Nat} {R : Int → Option R5} {z1 z2 : World} {c : Int} {v : Value} {L : List Int} {bc : Option Nat} {n : Nat} (h : SG z B p mw mr f W bk R)
    (ho : Only (fun k => bk c = some k) z z1) (hq : QR z1 B 1 v L.length (L.map (Value.int .u64)) bc) (hbc : ∀ b, bc = some b → bk c = some b ∨ z.heap.size ≤ b) (hm : Mp ikv (fun v : Value => v) iok (upd f c v) n z2 mw) (ho2 : Only (fun k => k = mw) z1 z2) :
    SG z2 B p mw mr (upd f c v) (uw W c L) (uw bk c bc) R := by
  have hbp : ∀ b, bk c = some b → B ≤ b := fun b hb => ((h.rows c).lt b hb).1
  have hltp := h.ltp
  have hltw := h.ltw
  have hltr := h.ltr
  obtain ⟨m, hmr⟩ := h.mpr
  have o1p : ¬ bk c = some p := fun g => by have := hbp p g; omega
  have o1r : ¬ bk c = some mr := fun g => by have := hbp mr g; omega
  have e1 := ho.block p h.plt o1p
  have e2 := ho2.block p (Nat.lt_of_lt_of_le h.plt ho.size) (fun g => h.npw g.symm)
  refine ⟨(World.cell?_of_block (e2.trans e1)).trans h.c0, (World.cell?_of_block (e2.trans e1)).trans h.c1, h.ltp, h.ltw, h.ltr, h.npw, h.npr, h.nwr, Nat.le_trans h.hB (Nat.le_trans ho.size ho2.size), ⟨n, hm⟩, fun x => ?_, fun x y b hxy hb => ?_,
    ⟨m, hmr.frame ((ho2.block mr (Nat.lt_of_lt_of_le hmr.lt ho.size) (fun g => h.nwr g.symm)).trans (ho.block mr hmr.lt o1r))⟩⟩
  · by_cases hx : x = c
    · subst hx
      have e1 : (upd f x v x).getD (.slice none 0 0) = v := by simp [upd]
      rw [e1, uw_at, uw_at]
      exact hq.only ho2 fun b hb g => by have := (hq.lt b hb).1; omega
    · rw [show upd f c v x = f x by simp [upd, hx], uw_ne _ _ hx, uw_ne _ _ hx]
      refine ((h.rows x).only ho fun b hb g => h.ap x c b hx hb g).only ho2 fun b hb g => ?_
      have := ((h.rows x).lt b hb).1
      omega
  · by_cases hx : x = c
    · subst hx
      rw [uw_at] at hb
      rw [uw_ne _ _ (Ne.symm hxy)]
      rcases hbc b hb with g | g
      · exact h.ap x y b hxy g
      · intro g2
        have := ((h.rows y).lt b g2).2
        omega
    · rw [uw_ne _ _ hx] at hb
      by_cases hy : y = c
      · subst hy
        rw [uw_at]
        intro g
        rcases hbc b g with g2 | g2
        · exact h.ap x y b hxy hb g2
        · have := ((h.rows x).lt b hb).2; omega
      · rw [uw_ne _ _ hy]
        exact h.ap x y b hxy hb
theorem SG.putr {z : World} {B p mw mr : Nat} {f : Int → Option Value} {W : Int → List Int} {bk : Int → Option Nat} {R : Int → Option R5} {z2 : World} {c : Int} {r : R5} {n : Nat} (h : SG z B p mw mr f W bk R) (hm : Mp ikv r5v iok (upd R c r) n z2 mr) (ho : Only (fun k => k = mr) z z2) : SG z2 B p mw mr f W bk (upd R c r) := by
  obtain ⟨m, hw⟩ := h.mp
  have hltr := h.ltr
  exact ⟨(ho.cell h.plt (fun g => h.npr g.symm)).trans h.c0, (ho.cell h.plt (fun g => h.npr g.symm)).trans h.c1, h.ltp, h.ltw, h.ltr, h.npw, h.npr, h.nwr, Nat.le_trans h.hB ho.size, ⟨m, hw.frame (ho.block mw hw.lt h.nwr)⟩, fun c => (h.rows c).only ho (fun b hb g => by have := ((h.rows c).lt b hb).1; omega), h.ap, ⟨n, hm⟩⟩
theorem sg_new (w : World) : SG (((w.alloc (.map #[] 0)).alloc (.map #[] 0)).alloc (.cells #[.map (some w.heap.size), .map (some (w.heap.size + 1))] 55)) (w.heap.size + 3) (w.heap.size + 2) w.heap.size (w.heap.size + 1) (fun _ => none) (fun _ => []) (fun _ => none) (fun _ => none) := by
  have h1 := Mp.made (κ := Int) ikv (fun v : Value => v) iok w
  have h2 := Mp.made (κ := Int) ikv r5v iok (w.alloc (.map #[] 0))
  have hs : (w.alloc (.map #[] 0)).heap.size = w.heap.size + 1 := by simp
  rw [hs] at h2
  exact ⟨by simp [go_sem], by simp [go_sem], by omega, by omega, by omega, by omega, by omega, by omega, by simp, ⟨0, (h1.alloc _).alloc _⟩, fun c => QR.nil _ _ _, fun c c' b _ h => (by cases h), ⟨0, h2.alloc _⟩⟩
theorem sgnew_c (w : World) : Calls Try.prog 5 #[] w fun e w' => e = .returned (.pointer (some ⟨w.heap.size + 2, 0, none⟩)) ∧ SG w' (w.heap.size + 3) (w.heap.size + 2) w.heap.size (w.heap.size + 1) (fun _ => none) (fun _ => []) (fun _ => none) (fun _ => none) ∧ Below w.heap.size w w' := by
  have HS := Lib.hid (sg_new w)
  have HB : Hid (Below w.heap.size w (((w.alloc (.map #[] 0)).alloc (.map #[] 0)).alloc (.cells #[.map (some w.heap.size), .map (some (w.heap.size + 1))] 55))) := Lib.hid (by (repeat' (first | assumption | exact Below.refl _ _ | refine Below.setCell ?_ (by first | (simp; done) | omega | (simp; omega)) _ | refine Below.alloc ?_ (by first | (simp; done) | omega | (simp; omega)) _ | refine Below.drew ?_ | refine below_drewN ?_ _)))
  have hmm := @run_makeMap Try.prog
  go_enter Try.func5, Try.ntmps5
  go_wp2
  go_ret
  exact ⟨rfl, HS.out, HB.out⟩
theorem swait_c {z : World} {B p mw mr : Nat} {f : Int → Option Value} {W : Int → List Int} {bk : Int → Option Nat} {R : Int → Option R5} (h : SG z B p mw mr f W bk R) {cl : Int} (hc : iok cl) : Calls Try.prog 14 #[.pointer (some ⟨p, 0, none⟩), .int .i64 cl] z fun e z' => e = .returned (.int .i64 ((W cl).length : Int)) ∧ Below z.heap.size z z' := by
  obtain ⟨ao, cp, hv⟩ := (h.rows cl).form
  have hl := h.lookw hc
  rw [hv] at hl
  obtain ⟨m, hm⟩ : ∃ m, (W cl).length = m := ⟨_, rfl⟩
  rw [hm] at hl ⊢
  have c0 := h.c0
  have plt := h.plt
  clear h hv hm
  go_enter Try.func14, Try.ntmps14
  go_wp2
  go_ret
  exact ⟨rfl, Below.refl _ _⟩
set_option maxHeartbeats 4000000 in
theorem srow_c {z : World} {B p mw mr : Nat} {f : Int → Option Value} {W : Int → List Int} {bk : Int → Option Nat} {R : Int → Option R5} (h : SG z B p mw mr f W bk R) {cl : Int} (hc : iok cl) : Calls Try.prog 11 #[.pointer (some ⟨p, 0, none⟩), .int .i64 cl] z fun e z' => e = .returned (r5v ((R cl).getD r50)) ∧ Below z.heap.size z z' := by
  have hb : Below z.heap.size z (z.alloc (.cells #[.int .u64 0, .int .u64 0, .int .u64 0, .int .u64 0, .int .u64 0] 39)) := Below.alloc (Below.refl _ _) (Nat.le_refl _) _
  have hl := (h.below hb).lookr hc
  have c1 := h.c1
  have plt := h.plt
  clear h hb
  generalize (R cl).getD r50 = r at *
  unfold r5v at hl ⊢
  go_enter Try.func11, Try.ntmps11
  go_wp2
  refine bodyPost_ret (v := .agg #[.int .u64 (r).a, .int .u64 (r).b, .int .u64 (r).c, .int .u64 (r).d, .int .u64 (r).e]) (by simp [results, Try.results11, go_sem, *]) rfl ⟨rfl, (by repeat' (first | with_reducible exact Below.refl _ _ | with_reducible assumption | ((with_reducible refine Below.drew ?_)) | ((with_reducible refine below_drewN ?_ _)) | ((with_reducible refine Below.alloc ?_ ?_ _); rotate_left; focus (first | omega | (simp; done) | (simp; omega))) | ((with_reducible refine Below.setCell ?_ ?_ _); rotate_left; focus (first | omega | (simp; done) | (simp; omega))) | ((with_reducible refine Below.trans ?_ (Below.mono (by with_reducible assumption) ?_)); rotate_left; focus (first | omega | (simp; done) | (simp; omega)))))⟩
end Go.Proofs.Ytnpidbodeebnkaa
