/- RealEligible: the calls that a law hands to story, and the law. -/
import Derived.Test.YtdahjhokcjfioaaRe6
import Derived.Laws.AppendOwnNone
namespace Go.Proofs.Ytdahjhokcjfioaa
set_option linter.unusedVariables false
set_option linter.unusedSimpArgs false
set_option maxRecDepth 100000
open Go.RowKit Fg Reg
attribute [local irreducible] Reg.wE World.there World.rangeAt Told

theorem grown_refl (w : World) (row : Option Nat) : w.grownBy w row := ⟨rfl, rfl, rfl, Nat.le_refl _, fun _ _ _ => rfl⟩
theorem bcellB20 {B : Nat} {W w' : World} (hb : Below B W w') : (∀ b o, b < B → w'.cell? ⟨b, o, none⟩ = W.cell? ⟨b, o, none⟩) ∧ (∀ b o, b < B → w'.frozen? ⟨b, o, none⟩ = W.frozen? ⟨b, o, none⟩) := by
  refine ⟨fun b o h => hb.cell (p := ⟨b, o, none⟩) h, fun b o h => ?_⟩
  unfold World.frozen?
  rw [hb.block b h]
/-- append(s, x...) of a row, nil or not. -/
theorem wpList_append_rows {P : Program} {w : World} {ops : Array Oper} {rest : List Oper} {o : Oper} {a : Act} {Q : Exit → Act → World → Prop} (hgd : o.guard = none) (s x : Operand) (t : TypeId)
    (ho : o.op = .call { callee := .builtin .append, args := #[s, x], argTypes := #[t, t] })
    (base : Nat) (e : TypeId) (i : TypeInfo) (z : Value) (size bytes : Nat) (ht : P.underlying t = some (.slice e)) (hi : P.info? e = some i) (hz : i.zero = some z)
    (hsize : i.size = size) (hby : i.bytes = bytes) (hzs : z.cells.size = size) (hsz : 0 < size)
    (v : Value) (n : Nat) (xs : List Value) (hs : a.eval s = v) (hown : w.ownsRow base e size v n xs)
    {α : Type} {cells : α → List Value} (C : CellsOf cells size) (ls : List α) (ad : Option Addr) (c : Nat) (hx : a.eval x = .slice ad ls.length c) (hR : RwV cells size w ad ls) (h0 : ad = none → c = 0)
    (h63 : n + ls.length ≤ maxLen) (hbytes : (n + ls.length) * bytes ≤ 140737488355328) (hbase : base ≤ w.heap.size)
    (h : ∀ v' w', w'.ownsRow base e size v' (n + ls.length) (xs ++ ls.flatMap cells) → w.grownBy w' v.ownBlock → wpList P ops Q rest (a.put o.dst v') w') : wpList P ops Q (o :: rest) a w := by
  cases ad with
  | none =>
    have hl : ls = [] := by
      cases ls with
      | nil => rfl
      | cons y r => obtain ⟨b, q, hb, _⟩ := hR 0 (by simp); cases hb
    subst hl
    rw [h0 rfl] at hx
    exact wpList_append_own_none hgd s x t ho base e i size ht hi v n xs hs hown hx (h v w (by simpa using hown) (grown_refl w _))
  | some ad =>
    exact wpList_append_own w hgd s x t ho base e i z size bytes ht hi hz hsize hby hzs hsz v n xs hs hown ad ls.length c (ls.flatMap cells) hx (flat_len C ls) (RwV.src C hR) (flat_one C ls) h63 hbytes hbase (fun v' w' p q _ => h v' w' p q)
theorem calls_of20 {w : World} {v : Value} (h : Op.FlatSlice w 4 [.int .i64, .int .u64, .int .i64, .int .i64] v) :
    ∃ a, ∃ qs : List Cl, ∃ cap, v = .slice a qs.length cap ∧ RwV (fun q : Cl => [Value.int .i64 q.kd, Value.int .u64 q.nw, Value.int .i64 q.sn, Value.int .i64 q.hd]) 4 w a qs ∧ (∀ k (h : k < qs.length), qs[k].wf) ∧ (a = none → cap = 0) := by
  obtain ⟨a, qs, cap, e, hR, hq⟩ := calls_of h
  cases a with
  | some a => exact ⟨some a, qs, cap, e, hR, hq, fun h => by cases h⟩
  | none =>
    have hl : qs = [] := by
      cases qs with
      | nil => rfl
      | cons y r => obtain ⟨b, q, hb, _⟩ := hR 0 (by simp); cases hb
    subst hl
    refine ⟨none, [], 0, ?_, RwV.nil _ _, fun k h => absurd h (Nat.not_lt_zero _), fun _ => rfl⟩
    rcases h with h | ⟨a, cap', h, hc⟩ | ⟨b, o, n, cap', css, h0, h, h3, h4, hlt, hn, hi⟩
    · exact h
    · rw [h] at e; simp at e
    · rw [h] at e; simp at e
def allc (ls : List Cl) : List Cl := (⟨0, 0, 0, 0⟩ : Cl) :: ls
def alle (ls : List Cl) (head : Int) : List Cl := ((⟨0, 0, 0, 0⟩ : Cl) :: ls) ++ [⟨2, 0, 0, head⟩]
theorem allc_wf {ls : List Cl} (hq : ∀ k (h : k < ls.length), ls[k].wf) : ∀ k (h : k < (allc ls).length), (allc ls)[k].wf := fun k h => by
  unfold allc at *
  rcases k with _ | k
  · simp; constructor <;> dsimp only <;> omega
  · simpa using hq k (by simpa using h)
theorem alle_wf {ls : List Cl} {head : Int} (hq : ∀ k (h : k < ls.length), ls[k].wf) (x0 : -9223372036854775808 ≤ head) (x1 : head ≤ 9223372036854775807) : ∀ k (h : k < (alle ls head).length), (alle ls head)[k].wf := fun k h => by
  have hm : (alle ls head)[k] ∈ alle ls head := List.getElem_mem h
  generalize (alle ls head)[k] = q at hm
  unfold alle at hm
  simp only [List.mem_append, List.mem_cons, List.not_mem_nil, or_false] at hm
  rcases hm with (rfl | hm) | rfl
  · constructor <;> dsimp only <;> omega
  · obtain ⟨j, hj, rfl⟩ := List.getElem_of_mem hm
    exact hq j hj
  · constructor <;> dsimp only <;> omega
theorem alle_hd (ls : List Cl) (head : Int) : hdAt (alle ls head) (alle ls head).length = head := by
  unfold hdAt alle
  simp
theorem allc_z (ls : List Cl) : ∀ h : 0 < (allc ls).length, (allc ls)[0].kd = 0 := fun _ => rfl
theorem alle_z (ls : List Cl) (head : Int) : ∀ h : 0 < (alle ls head).length, (alle ls head)[0].kd = 0 := fun _ => by simp [alle]
theorem elig_fin {c1 cd c2 now p e d head : Int} {ls : List Cl} {h : Bool} {D R : Rn} {ws : List (Int × Int)} (hn : ls.length ≤ 60) (hh1 : head ≤ 16384)
    (s : St c1 cd c2 (alle ls head).length (hdAt (alle ls head) (alle ls head).length) h D R p e d now ws) : (head < 1 → e = 9223372036854775808 ∧ d = 9223372036854775808) ∧ (1 ≤ head → e ≤ d ∧ d ≤ 9223372036854775808) := by
  have hl : (alle ls head).length = ls.length + 2 := by simp [alle]
  obtain ⟨_, E, _, rfl, rfl⟩ := s.on (by omega)
  rw [alle_hd]
  have p1 := s.p1
  rw [hl] at p1
  refine ⟨fun h => ?_, fun h => ei_tick E s.p0 (by omega) (by omega) hh1⟩
  unfold tE tD
  rw [if_neg (by omega), if_neg (by omega)]
  exact ⟨rfl, rfl⟩
set_option maxHeartbeats 8000000 in
theorem elig_in (c1 cd c2 head : Int) (h1 : In c1) (h2 : In cd) (h3 : In c2) (hk : ¬ kind c1 cd c2 = 0) (ls : List Cl) (a : Option Addr) (ce : Nat) (hn : ls.length ≤ 60) (hq : ∀ k (h : k < ls.length), ls[k].wf) (hnil : a = none → ce = 0) (x0 : -9223372036854775808 ≤ head) (hh : head ≤ 16384) (w : World) (hR : RwV (fun q : Cl => [Value.int .i64 q.kd, Value.int .u64 q.nw, Value.int .i64 q.sn, Value.int .i64 q.hd]) 4 w a ls) :
    Calls Try.prog 5 #[.agg #[.int .u64 (c1), .int .u64 (cd), .int .u64 (c2)], .slice a ls.length ce, .int .i64 head] w fun e w' => e = .returned (.bool true) ∧ Below w.heap.size w w' := by
  obtain ⟨ic, CI0, CZ0, CZ1, CZ2⟩ := clt_parts
  have LI := Lib.hid rlt_info
  have HR := Lib.hid hR
  have K := Lib.hid hundred20_c
  have KK := Lib.hid (fun z => krt_yes c1 cd c2 h1 h2 h3 hk z)
  have d0 : decide ((60 : Int) < ls.length) = false := by simp; omega
  have d1 : decide (16384 < head) = false := by simp; omega
  have hal : (alle ls head).length = ls.length + 2 := by simp [alle]
  have KS := Lib.hid (fun ao cap z hR => story_c c1 cd c2 h1 h2 h3 hk (alle ls head) ao cap (by omega) (alle_wf hq x0 (by omega)) (alle_z ls head) z hR)
  clear hal
  clear hR h1 h2 h3 hk
  go_enter Try.func5, Try.ntmps5
  go_wp2_with (first | (go_at_call 33; ((with_reducible refine (KK.out _).mono ?_); rintro e w2 ⟨rfl, hbel⟩; obtain ⟨hcc, hff⟩ := bcell hbel; have hsz := hbel.size; (try simp at hsz); have hF : ((w2.cell? ⟨w.heap.size, 0, none⟩ = some (.int .u64 c1) ∧ w2.cell? ⟨w.heap.size, 1, none⟩ = some (.int .u64 cd) ∧ w2.cell? ⟨w.heap.size, 2, none⟩ = some (.int .u64 c2) ∧ w.heap.size < w2.heap.size)) ∧ w.heap.size < w2.heap.size ∧ Below w.heap.size w w2 := (by ((repeat' apply And.intro) <;> first | (simp [go_sem, *]; done) | omega | (repeat' (first | with_reducible exact Below.refl _ _ | with_reducible assumption | ((with_reducible refine Below.drew ?_)) | ((with_reducible refine below_drewN ?_ _)) | ((with_reducible refine Below.alloc ?_ ?_ _); rotate_left; focus (first | omega | (simp; done) | (simp; omega))) | ((with_reducible refine Below.setCell ?_ ?_ _); rotate_left; focus (first | omega | (simp; done) | (simp; omega))) | ((with_reducible refine Below.trans ?_ (Below.mono (by with_reducible assumption) ?_)); rotate_left; focus (first | omega | (simp; done) | (simp; omega))))))); go_split_ands; clear hcc hff hbel)) | (at_builtin; refine wpList_append_own _ rfl _ _ 77 rfl (w2.heap.size) 60 ic (.agg #[.int .i64 0, .int .u64 0, .int .i64 0, .int .i64 0]) 4 32 Try.underlying77 CI0 CZ0 CZ1 CZ2 rfl (by decide) (.slice none 0 0) (0) ([]) rfl (World.ownsRow_nil _ _ _ _) ⟨_, 0, none⟩ 1 1 [.int .i64 0, .int .u64 0, .int .i64 0, .int .i64 0] rfl rfl ?c1 ?c2 ?c3 ?c4 ?c5 ?_))
  (case c1 => (intro j u hu; rcases j with _ | _ | _ | _ | j <;> simp at hu <;> (try subst hu) <;> simp [Addr.add, go_sem])); (case c2 => (intro u hu; simp at hu; rcases hu with rfl | rfl | rfl | rfl <;> rfl)); (case c3 => (unfold maxLen; omega)); (case c4 => omega); (case c5 => (first | (simp; done) | (simp; omega) | omega))
  intro v3 w3 hown3 hg3 _
  have hb3 : Below w2.heap.size w2 w3 := Below.grown (by repeat' (first | with_reducible exact Below.refl _ _ | with_reducible assumption | ((with_reducible refine Below.drew ?_)) | ((with_reducible refine below_drewN ?_ _)) | ((with_reducible refine Below.alloc ?_ ?_ _); rotate_left; focus (first | omega | (simp; done) | (simp; omega))) | ((with_reducible refine Below.setCell ?_ ?_ _); rotate_left; focus (first | omega | (simp; done) | (simp; omega))) | ((with_reducible refine Below.trans ?_ (Below.mono (by with_reducible assumption) ?_)); rotate_left; focus (first | omega | (simp; done) | (simp; omega))))) hg3 (by first | (simp; done) | (simp; omega) | omega) (fun k hk => by cases hk)
  have hB2 : Below w.heap.size w w2 := by assumption
  have hz2 : w.heap.size < w2.heap.size := by assumption
  have hz3 := hb3.size
  have hB3 : Below w.heap.size w w3 := hB2.trans (hb3.mono (by omega))
  have HO3 := Lib.hid (show w3.ownsRow w2.heap.size 60 4 v3 1 ([(⟨0, 0, 0, 0⟩ : Cl)].flatMap (fun q : Cl => [Value.int .i64 q.kd, Value.int .u64 q.nw, Value.int .i64 q.sn, Value.int .i64 q.hd])) by simpa using hown3)
  obtain ⟨hcc, hff⟩ := bcellB20 hb3
  have hcb3 : (w3.cell? ⟨w.heap.size, 0, none⟩ = some (.int .u64 c1) ∧ w3.cell? ⟨w.heap.size, 1, none⟩ = some (.int .u64 cd) ∧ w3.cell? ⟨w.heap.size, 2, none⟩ = some (.int .u64 c2) ∧ w.heap.size < w3.heap.size) := by ((repeat' apply And.intro) <;> first | (simp [go_sem, *]; done) | omega | (repeat' (first | with_reducible exact Below.refl _ _ | with_reducible assumption | ((with_reducible refine Below.drew ?_)) | ((with_reducible refine below_drewN ?_ _)) | ((with_reducible refine Below.alloc ?_ ?_ _); rotate_left; focus (first | omega | (simp; done) | (simp; omega))) | ((with_reducible refine Below.setCell ?_ ?_ _); rotate_left; focus (first | omega | (simp; done) | (simp; omega))) | ((with_reducible refine Below.trans ?_ (Below.mono (by with_reducible assumption) ?_)); rotate_left; focus (first | omega | (simp; done) | (simp; omega))))))
  clear hcc hff hg3 hown3 hb3
  go_split_ands
  go_wp2_with (at_builtin; refine wpList_append_rows rfl _ _ 77 rfl w2.heap.size 60 ic (.agg #[.int .i64 0, .int .u64 0, .int .i64 0, .int .i64 0]) 4 32 Try.underlying77 CI0 CZ0 CZ1 CZ2 rfl (by decide) v3 1 ([(⟨0, 0, 0, 0⟩ : Cl)].flatMap (fun q : Cl => [Value.int .i64 q.kd, Value.int .u64 q.nw, Value.int .i64 q.sn, Value.int .i64 q.hd])) rfl HO3.out cllC ls a ce rfl (HR.out.below hB3) hnil (by unfold maxLen; omega) (by omega) (by omega) ?_)
  intro v4 w4 hown4 hg4
  have hb4 : Below w2.heap.size w3 w4 := Below.grown (Below.refl _ _) hg4 hz3 (fun k hk => (HO3.out.lt k hk).1)
  have hz4 : w2.heap.size ≤ w4.heap.size := by have := hb4.size; omega
  have hB4 : Below w.heap.size w w4 := hB3.trans (hb4.mono (by omega))
  have HO4 := Lib.hid (show w4.ownsRow w2.heap.size 60 4 v4 (1 + ls.length) (((⟨0, 0, 0, 0⟩ : Cl) :: ls).flatMap (fun q : Cl => [Value.int .i64 q.kd, Value.int .u64 q.nw, Value.int .i64 q.sn, Value.int .i64 q.hd])) by simpa using hown4)
  obtain ⟨hcc, hff⟩ := bcellB20 hb4
  have hcb4 : (w4.cell? ⟨w.heap.size, 0, none⟩ = some (.int .u64 c1) ∧ w4.cell? ⟨w.heap.size, 1, none⟩ = some (.int .u64 cd) ∧ w4.cell? ⟨w.heap.size, 2, none⟩ = some (.int .u64 c2) ∧ w.heap.size < w4.heap.size) := by ((repeat' apply And.intro) <;> first | (simp [go_sem, *]; done) | omega | (repeat' (first | with_reducible exact Below.refl _ _ | with_reducible assumption | ((with_reducible refine Below.drew ?_)) | ((with_reducible refine below_drewN ?_ _)) | ((with_reducible refine Below.alloc ?_ ?_ _); rotate_left; focus (first | omega | (simp; done) | (simp; omega))) | ((with_reducible refine Below.setCell ?_ ?_ _); rotate_left; focus (first | omega | (simp; done) | (simp; omega))) | ((with_reducible refine Below.trans ?_ (Below.mono (by with_reducible assumption) ?_)); rotate_left; focus (first | omega | (simp; done) | (simp; omega))))))
  clear hcc hff hg4 hown4 hb4 HO3 hB3 hz3
  go_split_ands
  go_wp2_with (at_builtin; refine wpList_append_own _ rfl _ _ 77 rfl (w2.heap.size) 60 ic (.agg #[.int .i64 0, .int .u64 0, .int .i64 0, .int .i64 0]) 4 32 Try.underlying77 CI0 CZ0 CZ1 CZ2 rfl (by decide) (v4) (1 + ls.length) ((((⟨0, 0, 0, 0⟩ : Cl) :: ls).flatMap (fun q : Cl => [Value.int .i64 q.kd, Value.int .u64 q.nw, Value.int .i64 q.sn, Value.int .i64 q.hd]))) rfl (HO4.out.alloc _) ⟨_, 0, none⟩ 1 1 [.int .i64 2, .int .u64 0, .int .i64 0, .int .i64 head] rfl rfl ?c1 ?c2 ?c3 ?c4 ?c5 ?_)
  (case c1 => (intro j u hu; rcases j with _ | _ | _ | _ | j <;> simp at hu <;> (try subst hu) <;> simp [Addr.add, go_sem])); (case c2 => (intro u hu; simp at hu; rcases hu with rfl | rfl | rfl | rfl <;> rfl)); (case c3 => (unfold maxLen; omega)); (case c4 => omega); (case c5 => (first | (simp; done) | (simp; omega) | omega))
  intro v5 w5 hown5 hg5 _
  have hb5 : Below w2.heap.size w4 w5 := Below.grown (by repeat' (first | with_reducible exact Below.refl _ _ | with_reducible assumption | ((with_reducible refine Below.drew ?_)) | ((with_reducible refine below_drewN ?_ _)) | ((with_reducible refine Below.alloc ?_ ?_ _); rotate_left; focus (first | omega | (simp; done) | (simp; omega))) | ((with_reducible refine Below.setCell ?_ ?_ _); rotate_left; focus (first | omega | (simp; done) | (simp; omega))) | ((with_reducible refine Below.trans ?_ (Below.mono (by with_reducible assumption) ?_)); rotate_left; focus (first | omega | (simp; done) | (simp; omega))))) hg5 (by first | (simp; done) | (simp; omega) | omega) (fun k hk => (HO4.out.lt k hk).1)
  have hz5 : w2.heap.size ≤ w5.heap.size := by have := hb5.size; omega
  have hB5 : Below w.heap.size w w5 := hB4.trans (hb5.mono (by omega))
  have HO5 := Lib.hid (show w5.ownsRow w2.heap.size 60 4 v5 (alle ls head).length ((alle ls head).flatMap (fun q : Cl => [Value.int .i64 q.kd, Value.int .u64 q.nw, Value.int .i64 q.sn, Value.int .i64 q.hd])) by
    have e1 : (alle ls head).length = 1 + ls.length + 1 := by simp [alle]; omega
    have e2 : (alle ls head).flatMap (fun q : Cl => [Value.int .i64 q.kd, Value.int .u64 q.nw, Value.int .i64 q.sn, Value.int .i64 q.hd]) = ((⟨0, 0, 0, 0⟩ : Cl) :: ls).flatMap (fun q : Cl => [Value.int .i64 q.kd, Value.int .u64 q.nw, Value.int .i64 q.sn, Value.int .i64 q.hd]) ++ [.int .i64 2, .int .u64 0, .int .i64 0, .int .i64 head] := by unfold alle; rw [List.flatMap_append]; simp
    rw [e1, e2]; exact hown5)
  obtain ⟨hcc, hff⟩ := bcellB20 hb5
  have hcb5 : (w5.cell? ⟨w.heap.size, 0, none⟩ = some (.int .u64 c1) ∧ w5.cell? ⟨w.heap.size, 1, none⟩ = some (.int .u64 cd) ∧ w5.cell? ⟨w.heap.size, 2, none⟩ = some (.int .u64 c2) ∧ w.heap.size < w5.heap.size) := by ((repeat' apply And.intro) <;> first | (simp [go_sem, *]; done) | omega | (repeat' (first | with_reducible exact Below.refl _ _ | with_reducible assumption | ((with_reducible refine Below.drew ?_)) | ((with_reducible refine below_drewN ?_ _)) | ((with_reducible refine Below.alloc ?_ ?_ _); rotate_left; focus (first | omega | (simp; done) | (simp; omega))) | ((with_reducible refine Below.setCell ?_ ?_ _); rotate_left; focus (first | omega | (simp; done) | (simp; omega))) | ((with_reducible refine Below.trans ?_ (Below.mono (by with_reducible assumption) ?_)); rotate_left; focus (first | omega | (simp; done) | (simp; omega))))))
  clear hcc hff hg5 hown5 hb5 HO4 hB4 hz4
  go_split_ands
  obtain ⟨ao, cap, hveq, hR5, _⟩ := RwV.of_own cllC HO5.out
  subst hveq
  have HR5 := Lib.hid hR5
  clear hR5
  by_cases hd1 : head < 1
  · have d2 : decide (head < 1) = true := by simpa using hd1
    go_wp2_with (first | (go_at_call 34; (with_reducible refine (KS.out _ _ _ HR5.out).mono ?_); rintro ee w8 htold; obtain ⟨h, D, R, p, e, d, now, ws, v8, rfl, hst, hbel, hown8⟩ := told_out htold; obtain ⟨rfl, rfl⟩ := (elig_fin hn hh hst).1 hd1; obtain ⟨hcc, hff⟩ := bcell hbel; have hsz := hbel.size; (try simp at hsz); have hF : Below w.heap.size w w8 := (by ((repeat' apply And.intro) <;> first | (simp [go_sem, *]; done) | omega | (repeat' (first | with_reducible exact Below.refl _ _ | with_reducible assumption | ((with_reducible refine Below.drew ?_)) | ((with_reducible refine below_drewN ?_ _)) | ((with_reducible refine Below.alloc ?_ ?_ _); rotate_left; focus (first | omega | (simp; done) | (simp; omega))) | ((with_reducible refine Below.setCell ?_ ?_ _); rotate_left; focus (first | omega | (simp; done) | (simp; omega))) | ((with_reducible refine Below.trans ?_ (Below.mono (by with_reducible assumption) ?_)); rotate_left; focus (first | omega | (simp; done) | (simp; omega))))))); go_split_ands; clear hcc hff hbel hst hown8) | (refine wpList_store_new rfl 56 _ _ rfl _ #[.bool (h), .int .u64 (D.x1), .int .u64 (hi D.y1), .int .u64 (lo D.y1), .int .u64 (D.m1), .int .u64 (D.x2), .int .u64 (hi D.y2), .int .u64 (lo D.y2), .int .u64 (D.m2), .bool (D.b), .int .u64 (R.x1), .int .u64 (hi R.y1), .int .u64 (lo R.y1), .int .u64 (R.m1), .int .u64 (R.x2), .int .u64 (hi R.y2), .int .u64 (lo R.y2), .int .u64 (R.m2), .bool (R.b), .int .u64 (p), .int .u64 (9223372036854775808), .int .u64 (9223372036854775808)] rfl rfl LI.out rfl (lfa_one h D R p 9223372036854775808 9223372036854775808) ?_) | (go_at_call 25; ((with_reducible refine (K.out _).mono ?_); rintro e w9 ⟨rfl, hbel⟩; obtain ⟨hcc, hff⟩ := bcell hbel; have hsz := hbel.size; (try simp at hsz); have hF : Below w.heap.size w w9 := (by ((repeat' apply And.intro) <;> first | (simp [go_sem, *]; done) | omega | (repeat' (first | with_reducible exact Below.refl _ _ | with_reducible assumption | ((with_reducible refine Below.drew ?_)) | ((with_reducible refine below_drewN ?_ _)) | ((with_reducible refine Below.alloc ?_ ?_ _); rotate_left; focus (first | omega | (simp; done) | (simp; omega))) | ((with_reducible refine Below.setCell ?_ ?_ _); rotate_left; focus (first | omega | (simp; done) | (simp; omega))) | ((with_reducible refine Below.trans ?_ (Below.mono (by with_reducible assumption) ?_)); rotate_left; focus (first | omega | (simp; done) | (simp; omega))))))); go_split_ands; clear hcc hff hbel)))
    (go_ret; refine ⟨?_, ?_⟩; (focus (exact rfl)); ((repeat' (first | with_reducible exact Below.refl _ _ | with_reducible assumption | ((with_reducible refine Below.drew ?_)) | ((with_reducible refine below_drewN ?_ _)) | ((with_reducible refine Below.alloc ?_ ?_ _); rotate_left; focus (first | omega | (simp; done) | (simp; omega))) | ((with_reducible refine Below.setCell ?_ ?_ _); rotate_left; focus (first | omega | (simp; done) | (simp; omega))) | ((with_reducible refine Below.trans ?_ (Below.mono (by with_reducible assumption) ?_)); rotate_left; focus (first | omega | (simp; done) | (simp; omega))))); done))
  · have d2 : decide (head < 1) = false := by simpa using hd1
    go_wp2_with (first | (go_at_call 34; (with_reducible refine (KS.out _ _ _ HR5.out).mono ?_); rintro ee w8 htold; obtain ⟨h, D, R, p, e, d, now, ws, v8, rfl, hst, hbel, hown8⟩ := told_out htold; have hed := (elig_fin hn hh hst).2 (by omega); have q1 : decide (e ≤ d) = true := by { simp; omega }; have q2 : decide (d ≤ 9223372036854775808) = true := by { simp; omega }; obtain ⟨hcc, hff⟩ := bcell hbel; have hsz := hbel.size; (try simp at hsz); have hF : Below w.heap.size w w8 := (by ((repeat' apply And.intro) <;> first | (simp [go_sem, *]; done) | omega | (repeat' (first | with_reducible exact Below.refl _ _ | with_reducible assumption | ((with_reducible refine Below.drew ?_)) | ((with_reducible refine below_drewN ?_ _)) | ((with_reducible refine Below.alloc ?_ ?_ _); rotate_left; focus (first | omega | (simp; done) | (simp; omega))) | ((with_reducible refine Below.setCell ?_ ?_ _); rotate_left; focus (first | omega | (simp; done) | (simp; omega))) | ((with_reducible refine Below.trans ?_ (Below.mono (by with_reducible assumption) ?_)); rotate_left; focus (first | omega | (simp; done) | (simp; omega))))))); go_split_ands; clear hcc hff hbel hst hown8) | (refine wpList_store_new rfl 56 _ _ rfl _ #[.bool (h), .int .u64 (D.x1), .int .u64 (hi D.y1), .int .u64 (lo D.y1), .int .u64 (D.m1), .int .u64 (D.x2), .int .u64 (hi D.y2), .int .u64 (lo D.y2), .int .u64 (D.m2), .bool (D.b), .int .u64 (R.x1), .int .u64 (hi R.y1), .int .u64 (lo R.y1), .int .u64 (R.m1), .int .u64 (R.x2), .int .u64 (hi R.y2), .int .u64 (lo R.y2), .int .u64 (R.m2), .bool (R.b), .int .u64 (p), .int .u64 (e), .int .u64 (d)] rfl rfl LI.out rfl (lfa_one h D R p e d) ?_) | (go_at_call 25; ((with_reducible refine (K.out _).mono ?_); rintro e w9 ⟨rfl, hbel⟩; obtain ⟨hcc, hff⟩ := bcell hbel; have hsz := hbel.size; (try simp at hsz); have hF : Below w.heap.size w w9 := (by ((repeat' apply And.intro) <;> first | (simp [go_sem, *]; done) | omega | (repeat' (first | with_reducible exact Below.refl _ _ | with_reducible assumption | ((with_reducible refine Below.drew ?_)) | ((with_reducible refine below_drewN ?_ _)) | ((with_reducible refine Below.alloc ?_ ?_ _); rotate_left; focus (first | omega | (simp; done) | (simp; omega))) | ((with_reducible refine Below.setCell ?_ ?_ _); rotate_left; focus (first | omega | (simp; done) | (simp; omega))) | ((with_reducible refine Below.trans ?_ (Below.mono (by with_reducible assumption) ?_)); rotate_left; focus (first | omega | (simp; done) | (simp; omega))))))); go_split_ands; clear hcc hff hbel)))
    (go_ret; refine ⟨?_, ?_⟩; (focus (exact rfl)); ((repeat' (first | with_reducible exact Below.refl _ _ | with_reducible assumption | ((with_reducible refine Below.drew ?_)) | ((with_reducible refine below_drewN ?_ _)) | ((with_reducible refine Below.alloc ?_ ?_ _); rotate_left; focus (first | omega | (simp; done) | (simp; omega))) | ((with_reducible refine Below.setCell ?_ ?_ _); rotate_left; focus (first | omega | (simp; done) | (simp; omega))) | ((with_reducible refine Below.trans ?_ (Below.mono (by with_reducible assumption) ?_)); rotate_left; focus (first | omega | (simp; done) | (simp; omega))))); done))
theorem realEligible_law (c1 cd c2 : Int) (v : Value) (x : Int) {w : World} (w0 : (Lit.int .u64 c1).wf = true) (w1 : (Lit.int .u64 cd).wf = true) (w2 : (Lit.int .u64 c2).wf = true) (hs : Op.FlatSlice w 4 [.int .i64, .int .u64, .int .i64, .int .i64] v) (wt : (Lit.int .i64 x).wf = true) :
    Calls Try.prog 5 #[.agg #[.int .u64 (c1), .int .u64 (cd), .int .u64 (c2)], v, .int .i64 x] w fun e w' => e = .returned (.bool true) ∧ Below w.heap.size w w' := by
  have h1 := in_wf w0
  have h2 := in_wf w1
  have h3 := in_wf w2
  have hx := bounds_i64 wt
  obtain ⟨a, ls, cap, rfl, hR, hq, hnil⟩ := calls_of20 hs
  by_cases h : 60 < ls.length ∨ (ls.length ≤ 60 ∧ 16384 < x) ∨ (ls.length ≤ 60 ∧ x ≤ 16384 ∧ kind c1 cd c2 = 0)
  · exact elig_out c1 cd c2 x a _ cap h1 h2 h3 h w
  · exact elig_in c1 cd c2 x h1 h2 h3 (by omega) ls a cap (by omega) hq hnil hx.1 (by omega) w hR
end Go.Proofs.Ytdahjhokcjfioaa
