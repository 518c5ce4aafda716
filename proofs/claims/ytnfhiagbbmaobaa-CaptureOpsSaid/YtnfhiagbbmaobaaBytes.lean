/- Slices of bytes that are gathered, some of which bear the mark of a text: by their cells alone. -/
import Derived.Test.YtnfhiagbbmaobaaIp7
import Derived.Test.YtnfhiagbbmaobaaGrow
import Derived.Test.YtnfhiagbbmaobaaQSlice
import Derived.Lib.SlBytesConst
namespace Go.Proofs.Ytnfhiagbbmaobaa
set_option linter.unusedVariables false
set_option linter.unusedSimpArgs false
set_option maxRecDepth 100000
open Go.RowKit Fg Reg

theorem bl_get' (T : ByteArray) (j : Nat) : (bl T).getD j 0 = byt T j := by
  have hok : ∀ x ∈ bl T, 0 ≤ x ∧ x ≤ 255 := fun x hx => by
    unfold bl at hx
    obtain ⟨b, _, rfl⟩ := List.mem_map.1 hx
    have := b.toNat_lt
    omega
  have h := byt_strOf (bl T) j hok
  rw [bl_str] at h
  exact h.symm
/-- A slice of bytes whose cells may be written. -/
def BS (z : World) (B : Nat) (v : Value) (l : List Int) : Prop := QS z B v l.length (fun j => .int .u8 (l.getD j 0))
theorem BS.only {S : Nat → Prop} {z z' : World} {B : Nat} {v : Value} {l : List Int} (h : BS z B v l) (ho : Only S z z') (hS : ∀ k, v.ownBlock = some k → ¬ S k) : BS z' B v l := by
  rcases h with h | ⟨b, o, cap, rfl, h1, h2, h3, h4, h5, h6⟩
  · exact .inl h
  · have hn := hS b rfl
    exact .inr ⟨b, o, cap, rfl, h1, h2, h3, Nat.lt_of_lt_of_le h4 ho.size, fun j hj => ⟨by rw [ho.cell h4 hn]; exact (h5 j hj).1, by rw [ho.frozen h4 hn]; exact (h5 j hj).2⟩, fun j hj => by rw [ho.cell h4 hn]; exact h6 j hj⟩
theorem BS.below {z z' : World} {B : Nat} {v : Value} {l : List Int} (h : BS z B v l) (hb : Below z.heap.size z z') : BS z' B v l := BS.only (S := fun _ => False) h (Only.of_below hb) (fun _ _ h => h)
theorem BS.alloc {z : World} {B : Nat} {v : Value} {l : List Int} (h : BS z B v l) (o : Obj) : BS (z.alloc o) B v l := h.below (Below.alloc (Below.refl _ _) (Nat.le_refl _) o)
theorem BS.form {z : World} {B : Nat} {v : Value} {l : List Int} (h : BS z B v l) : ∃ ao cap, v = .slice ao l.length cap := by
  rcases h with ⟨rfl, h0⟩ | ⟨b, o, cap, rfl, _⟩
  · exact ⟨none, 0, by rw [h0]⟩
  · exact ⟨_, cap, rfl⟩
theorem BS.blk {z : World} {B : Nat} {v : Value} {l : List Int} (h : BS z B v l) : ∀ k, v.ownBlock = some k → B ≤ k ∧ k < z.heap.size := fun k hk => by
  rcases h with ⟨rfl, h0⟩ | ⟨b, o, cap, rfl, h1, h2, h3, h4, h5, h6⟩
  · simp [Value.ownBlock] at hk
  · simp [Value.ownBlock] at hk; subst hk; exact ⟨h3, h4⟩
theorem BS.of_own {z : World} {B n : Nat} {v : Value} {e : TypeId} {xs : List Value} {l : List Int} (h : z.ownsRow B e 1 v n xs) (hx : xs = l.map (Value.int .u8)) : BS z B v l := by
  have hn : n = l.length := by have := h.1; rw [hx, List.length_map, Nat.mul_one] at this; exact this.symm
  subst hx hn
  rcases h.2 with ⟨rfl, h0⟩ | ⟨g, cap, cur, rfl, q1, q2, q3, q4, q5, q6⟩
  · exact .inl ⟨rfl, h0⟩
  · have hlt : g < z.heap.size := by
      rcases Nat.lt_or_ge g z.heap.size with h' | h'
      · exact h'
      · rw [Array.getElem?_eq_none h'] at q2; cases q2
    refine .inr ⟨g, 0, cap, rfl, q3, q4, q1, hlt, fun j hj => ?_, fun j hj => ?_⟩
    · have hj' : j < cur.size := by omega
      constructor
      · simp [World.cell?, q2, hj']
      · simp [World.frozen?, q2]
    · rw [Nat.zero_add]
      unfold World.cell?
      rw [q2]
      have : (cur.toList.take (l.length * 1))[j]? = some (Value.int .u8 (l.getD j 0)) := by rw [q6]; simp [List.getD, List.getElem?_eq_getElem hj]
      rw [List.getElem?_take, if_pos (by omega)] at this
      simpa using this
/-- Its bytes, for a conversion to a text. -/
theorem BS.text {z : World} {B : Nat} {l : List Int} {ao : Option Addr} {n cap : Nat} (h : BS z B (.slice ao n cap) l) (hn : l.length = n) : (convert 43 9 (.slice ao n cap)).run Try.prog z = .ok (.string (strOf l)) z := by
  rcases h with ⟨h0, h1⟩ | ⟨b, o, cap', h0, h1, h2, h3, h4, h5, h6⟩
  · simp only [Value.slice.injEq] at h0
    obtain ⟨rfl, rfl, rfl⟩ := h0
    obtain rfl : l = [] := List.eq_nil_of_length_eq_zero h1
    rw [run_convert_bytes_nil z 43 5 Try.underlying43 Try.underlying5 0 0 9 Try.underlying9]
    rfl
  · simp only [Value.slice.injEq] at h0
    obtain ⟨rfl, rfl, rfl⟩ := h0
    exact run_dec z b o _ _ l hn (fun j x hj => by
      have hjl : j < l.length := (List.getElem?_eq_some_iff.1 hj).1
      rw [h6 j (by omega)]
      simp [List.getD, hj])
section
variable {P : Program} {w : World}
theorem only_setCells {b : Nat} (vs : List Value) : ∀ (o : Nat) (a w : World), Only (fun k => k = b) a w → Only (fun k => k = b) a (w.setCells b o vs) := by
  induction vs with
  | nil => intro o a w h; exact h
  | cons v vs ih => intro o a w h; exact ih (o + 1) a _ (h.setCell (.inl rfl) v)
theorem bs_app {B : Nat} {t ty e : TypeId} {i : TypeInfo} {z : Value} (ht : P.underlying t = some (.slice e)) (hi : P.info? e = some i) (hz : i.zero = some z)
    (hsize : i.size = 1) (hby : i.bytes = 1) (hzs : z.cells.size = 1) {v : Value} {l : List Int} (hq : BS w B v l) {a : Addr} {c : Nat} {x : Int} (hu : w.cell? a = some (.int .u8 x)) (hl : l.length + 1 ≤ 1000000000) (hB : B ≤ w.heap.size) :
    ∃ v' w', (Builtin.append_ #[t, t] ty #[v, .slice (some a) 1 c]).run P w = .ok v' w' ∧ BS w' B v' (l ++ [x]) ∧ GW v w v' w' := by
  obtain ⟨v', w', h1, h2, h3⟩ := run_append_q (P := P) w B t ty e i z 1 ht hi hz hsize hby hzs v l.length _ hq a c (.int .u8 x) hu rfl (by unfold maxLen; omega) (by omega) hB
  refine ⟨v', w', h1, ?_, ?_⟩
  · unfold BS
    rw [List.length_append]
    refine h2.congr fun j hj => ?_
    by_cases hjm : j = l.length
    · subst hjm; simp [List.getD]
    · have : j < l.length := by omega
      simp [List.getD, hjm, List.getElem?_append_left this]
  · have hnews : ∀ j y, [Value.int .u8 x][j]? = some y → w.cell? (a.add j) = some y := fun j y hj => by
      rcases j with _ | j
      · have e : Value.int .u8 x = y := by simpa using hj
        rw [← e]
        simpa [Addr.add] using hu
      · simp at hj
    have hone : ∀ u ∈ [Value.int .u8 x], u.oneCell' = true := fun u hu => by simp at hu; subst hu; rfl
    rcases hq with ⟨rfl, h0⟩ | ⟨b, o, cap, rfl, hmc, hcm, hBb, hbs, hcells, hg⟩
    · obtain ⟨v2, w2, hr2, q2, q3⟩ := app_gw (P := P) w w.heap.size t ty e i z 1 1 ht hi hz hsize hby hzs (by omega) (.slice none 0 0) 0 [] (World.ownsRow_nil w _ e 1) a 1 c [.int .u8 x] rfl hnews hone (by unfold maxLen; omega) (by omega) (Nat.le_refl _)
      rw [hr2] at h1
      injection h1 with e1 e2
      subst e1 e2
      exact q3
    · by_cases hroom : l.length + 1 ≤ cap
      · have hcj := hcells l.length (by omega)
        have hr2 := run_append_room_cells (P := P) w t ty e i ht hi b o l.length cap a 1 c [.int .u8 x] (by rw [hsize]; rfl) hnews hone hroom
          (fun j hj => by have : j = 0 := by simpa using hj
                          subst this; rw [hsize, Nat.mul_one, Nat.add_zero]; exact hcj.1)
          (fun j hj => by have : j = 0 := by simpa using hj
                          subst this; rw [hsize, Nat.mul_one, Nat.add_zero]; exact hcj.2)
        rw [hr2] at h1
        injection h1 with e1 e2
        subst e1 e2
        exact ⟨(only_setCells (b := b) _ _ w w (Only.refl _ w)).mono (fun k hk => by rw [hk]; rfl), .inl rfl⟩
      · obtain ⟨v2, w2, hr2, q2, q3⟩ := run_append_arg_grows (P := P) w t ty e i z 1 1 ht hi hz hsize hby hzs (by omega) ⟨b, o, none⟩ l.length cap ((List.range l.length).map fun j => .int .u8 (l.getD j 0)) (by simp) (fun j y hj => by
          have hjm : j < l.length := by
            rcases Nat.lt_or_ge j l.length with h' | h'
            · exact h'
            · rw [List.getElem?_eq_none (by simpa using h')] at hj; cases hj
          rw [Addr.add_lit, hg j hjm, ← hj]
          simp [hjm]) a 1 c [.int .u8 x] rfl hnews (by omega) (by unfold maxLen; omega) (by omega)
        rw [hr2] at h1
        injection h1 with e1 e2
        subst e1 e2
        exact ⟨(only_grown' q3).mono (fun k hk => by cases hk), .inr fun k hk => (row_blk q2 k hk).1⟩
theorem bs_text {B : Nat} {t u ty e : TypeId} {i : TypeInfo} (ht : P.underlying t = some (.slice e)) (hut : P.underlying u = some .string) (hi : P.info? e = some i) (hz : i.zero = some (.int .u8 0))
    (hsize : i.size = 1) (hby : i.bytes = 1) {v : Value} {l : List Int} (hq : BS w B v l) (S : ByteArray) (hl : l.length + S.size ≤ 1000000000) (hB : B ≤ w.heap.size) :
    ∃ v' w', (Builtin.append_ #[t, u] ty #[v, .string S]).run P w = .ok v' w' ∧ BS w' B v' (l ++ bl S) ∧ GW v w v' w' := by
  have hlen : (l ++ bl S).length = l.length + S.size := by rw [List.length_append, bl_len]
  rcases hq with ⟨rfl, h0⟩ | ⟨b, o, cap, rfl, hmc, hcm, hBb, hbs, hcells, hg⟩
  · obtain rfl : l = [] := List.eq_nil_of_length_eq_zero h0
    obtain ⟨v', w', hr, h2, h3⟩ := app_gw_str (P := P) w B t u ty e i ht hut hi hz hsize hby (.slice none 0 0) 0 [] (World.ownsRow_nil w B e 1) S (by unfold maxLen; simp at hl; omega) (by simp at hl; omega) hB
    exact ⟨v', w', hr, BS.of_own h2 (by rw [bl_cells]; simp), h3⟩
  · by_cases hroom : l.length + S.size ≤ cap
    · have hfc := Lib.run_firstCells_string (P := P) w 1 S
      have hcs : ∀ j, j < (Lib.strCells S).length → (w.cell? ⟨b, o + l.length + j, none⟩).isSome = true := fun j hj => by rw [Lib.strCells_length] at hj; rw [Nat.add_assoc]; exact (hcells (l.length + j) (by omega)).1
      have hfs : ∀ j, j < (Lib.strCells S).length → w.frozen? ⟨b, o + l.length + j, none⟩ = false := fun j hj => by rw [Lib.strCells_length] at hj; rw [Nat.add_assoc]; exact (hcells (l.length + j) (by omega)).2
      have hst := run_storeCells_cells (P := P) b (o + l.length) (Lib.strCells S) 0 w (by simpa using hcs) (by simpa using hfs) (Lib.strCells_oneCell S)
      simp only [Nat.add_zero] at hst
      have hr : (Builtin.append_ #[t, u] ty #[.slice (some ⟨b, o, none⟩) l.length cap, .string S]).run P w = .ok (.slice (some ⟨b, o, none⟩) (l.length + S.size) cap) (w.setCells b (o + l.length) (Lib.strCells S)) := by
        simp [Builtin.append_, run_underlying ht, run_underlying hut, sizeOf, typeInfo, hi, hsize, Builtin.lenOf, hroom, hfc, Addr.add_lit, hst]
      have hin := World.cell?_setCells_in b (Lib.strCells S) (o + l.length) w hcs
      have hout : ∀ j, j < l.length → (w.setCells b (o + l.length) (Lib.strCells S)).cell? ⟨b, o + j, none⟩ = w.cell? ⟨b, o + j, none⟩ := fun j hj =>
        World.cell?_setCells_out b (Lib.strCells S) (o + l.length) w ⟨b, o + j, none⟩ (fun _ _ => by simp; omega)
      have hout2 : ∀ j, l.length + S.size ≤ j → (w.setCells b (o + l.length) (Lib.strCells S)).cell? ⟨b, o + j, none⟩ = w.cell? ⟨b, o + j, none⟩ := fun j hj =>
        World.cell?_setCells_out b (Lib.strCells S) (o + l.length) w ⟨b, o + j, none⟩ (fun _ _ => by rw [Lib.strCells_length]; simp; omega)
      have hinn : ∀ j, l.length ≤ j → j < l.length + S.size → (w.setCells b (o + l.length) (Lib.strCells S)).cell? ⟨b, o + j, none⟩ = some (.int .u8 ((l ++ bl S).getD j 0)) := fun j h1 h2 => by
        have := hin (j - l.length) (by rw [Lib.strCells_length]; omega)
        rw [show o + l.length + (j - l.length) = o + j by omega] at this
        have hj3 : j - l.length < (bl S).length := by rw [bl_len]; omega
        rw [this]
        simp only [bl_cells, List.getElem_map]
        unfold List.getD
        rw [List.getElem?_append_right h1, List.getElem?_eq_getElem hj3]
        rfl
      have hfz : ∀ j, (w.setCells b (o + l.length) (Lib.strCells S)).frozen? ⟨b, o + j, none⟩ = w.frozen? ⟨b, o + j, none⟩ := fun j => World.frozen?_setCells b _ (o + l.length) w _
      have hos := only_setCells (b := b) (Lib.strCells S) (o + l.length) w w (Only.refl _ w)
      refine ⟨_, _, hr, ?_, ⟨hos.mono (fun k hk => by rw [hk]; rfl), .inl rfl⟩⟩
      unfold BS
      rw [hlen]
      refine .inr ⟨b, o, cap, rfl, hroom, hcm, hBb, Nat.lt_of_lt_of_le hbs hos.size, fun j hj => ⟨?_, by rw [hfz]; exact (hcells j hj).2⟩, fun j hj => ?_⟩
      · by_cases h1 : j < l.length
        · rw [hout j h1]; exact (hcells j hj).1
        · by_cases h2 : j < l.length + S.size
          · rw [hinn j (by omega) h2]; rfl
          · rw [hout2 j (by omega)]; exact (hcells j hj).1
      · by_cases h1 : j < l.length
        · rw [hout j h1, hg j h1]
          show some (Value.int .u8 (l.getD j 0)) = some (Value.int .u8 ((l ++ bl S).getD j 0))
          unfold List.getD
          rw [List.getElem?_append_left h1]
        · exact hinn j (by omega) hj
    · have holds : ∀ j x, (l.map (Value.int .u8))[j]? = some x → w.cell? ((⟨b, o, none⟩ : Addr).add j) = some x := fun j x hj => by
        have hjm : j < l.length := by
          rcases Nat.lt_or_ge j l.length with h' | h'
          · exact h'
          · rw [List.getElem?_eq_none (by simpa using h')] at hj; cases hj
        rw [Addr.add_lit, hg j hjm, ← hj]
        simp [List.getD, List.getElem?_eq_getElem hjm]
      have hge := grownCap_ge w (l.length + S.size) cap e
      have hcm2 : grownCap w (l.length + S.size) cap e ≤ maxLen := grownCap_le_maxLen w (l.length + S.size) cap e (by unfold maxLen; omega)
      have hr := Lib.run_append_grow_string (P := P) w t u ty e i (.int .u8 0) ht hut hi hz ⟨b, o, none⟩ l.length cap (l.map (Value.int .u8)) (by rw [hsize]; simp) holds S (by omega) (by omega) (by rw [hby]; exact growslice_fits (by omega) (by omega))
      refine ⟨_, _, hr, ?_, ⟨(Only.refl _ w).drew.alloc _, .inr fun k hk => by simp [Value.ownBlock] at hk; omega⟩⟩
      refine BS.of_own (e := e) (n := l.length + S.size) (xs := (l ++ bl S).map (Value.int .u8)) ⟨by rw [List.length_map, hlen, Nat.mul_one], .inr ⟨w.heap.size, _, _, rfl, hB, heap_alloc_new w.drew _, hge, hcm2, ?_, ?_⟩⟩ rfl
      · simp only [Array.size_append, List.size_toArray, size_zeroCells, Lib.strCells_length, List.length_map]
        have hz1 : (Value.int IntKind.u8 0).cells.size = 1 := rfl
        rw [hz1]
        omega
      · simp only [Array.toList_append, List.append_assoc]
        rw [List.map_append, ← bl_cells, ← List.append_assoc, show (l.length + S.size) * 1 = (l.map (Value.int .u8) ++ Lib.strCells S).length by rw [List.length_append, List.length_map, Lib.strCells_length, Nat.mul_one]]
        exact List.take_left
end
theorem wpList_append_bs {P : Program} {w : World} {ops : Array Oper} {rest : List Oper} {o : Oper} {a : Act} {Q : Exit → Act → World → Prop} (hgd : o.guard = none) (s x : Operand) (t : TypeId)
    (ho : o.op = .call { callee := .builtin .append, args := #[s, x], argTypes := #[t, t] })
    (B : Nat) (e : TypeId) (i : TypeInfo) (z : Value) (ht : P.underlying t = some (.slice e)) (hi : P.info? e = some i) (hz : i.zero = some z)
    (hsize : i.size = 1) (hby : i.bytes = 1) (hzs : z.cells.size = 1) (v : Value) (l : List Int) (hs : a.eval s = v) (hq : BS w B v l)
    (ad : Addr) (c : Nat) (u : Int) (hx : a.eval x = .slice (some ad) 1 c) (hu : w.cell? ad = some (.int .u8 u)) (hl : l.length + 1 ≤ 1000000000) (hB : B ≤ w.heap.size)
    (h : ∀ v' w', BS w' B v' (l ++ [u]) → GW v w v' w' → wpList P ops Q rest (a.put o.dst v') w') : wpList P ops Q (o :: rest) a w := by
  refine wpList_plain hgd fun K hK => ?_
  obtain ⟨v', w', hr, h2, h3⟩ := bs_app (P := P) (ty := o.type) ht hi hz hsize hby hzs hq (c := c) hu hl hB
  unfold Oper.wp execOp
  simp only [ho, resolve, invoke, builtin, Sem.run_bind, Sem.run_pure, Result.andThen_ok, List.map_toArray, List.map_cons, List.map_nil, hs, hx, hr]
  exact hK _ _ (h v' w' h2 h3)
theorem wpList_append_bt {P : Program} {w : World} {ops : Array Oper} {rest : List Oper} {o : Oper} {a : Act} {Q : Exit → Act → World → Prop} (hgd : o.guard = none) (s x : Operand) (t u : TypeId)
    (ho : o.op = .call { callee := .builtin .append, args := #[s, x], argTypes := #[t, u] })
    (B : Nat) (e : TypeId) (i : TypeInfo) (ht : P.underlying t = some (.slice e)) (hu : P.underlying u = some .string) (hi : P.info? e = some i) (hz : i.zero = some (.int .u8 0))
    (hsize : i.size = 1) (hby : i.bytes = 1) (v : Value) (l : List Int) (hs : a.eval s = v) (hq : BS w B v l) (S : ByteArray) (hx : a.eval x = .string S) (hl : l.length + S.size ≤ 1000000000) (hB : B ≤ w.heap.size)
    (h : ∀ v' w', BS w' B v' (l ++ bl S) → GW v w v' w' → wpList P ops Q rest (a.put o.dst v') w') : wpList P ops Q (o :: rest) a w := by
  refine wpList_plain hgd fun K hK => ?_
  obtain ⟨v', w', hr, h2, h3⟩ := bs_text (P := P) (ty := o.type) ht hu hi hz hsize hby hq S hl hB
  unfold Oper.wp execOp
  simp only [ho, resolve, invoke, builtin, Sem.run_bind, Sem.run_pure, Result.andThen_ok, List.map_toArray, List.map_cons, List.map_nil, hs, hx, hr]
  exact hK _ _ (h v' w' h2 h3)
/-- A literal's bytes, marked. -/
theorem bs_mark (w : World) {B : Nat} (hB : B ≤ w.heap.size) (l : List Int) (hl : l.length ≤ 1000000000) : BS (w.alloc (.cells (l.map (Value.int .u8)).toArray 5 ((l.map (Value.int .u8)).toArray.size, (l.map (Value.int .u8)).toArray.size + 1))) B (.slice (some ⟨w.heap.size, 0, none⟩) l.length l.length) l := by
  have hh : (w.alloc (.cells (l.map (Value.int .u8)).toArray 5 ((l.map (Value.int .u8)).toArray.size, (l.map (Value.int .u8)).toArray.size + 1))).heap[w.heap.size]? = some (.cells (l.map (Value.int .u8)).toArray 5 ((l.map (Value.int .u8)).toArray.size, (l.map (Value.int .u8)).toArray.size + 1)) := heap_alloc_new w _
  refine .inr ⟨w.heap.size, 0, l.length, rfl, Nat.le_refl _, by unfold maxLen; omega, hB, by simp, fun j hj => ⟨?_, ?_⟩, fun j hj => ?_⟩
  · rw [Nat.zero_add]; unfold World.cell?; rw [hh]; simp [hj]
  · rw [Nat.zero_add]; unfold World.frozen?; rw [hh]; simp; omega
  · rw [Nat.zero_add]; unfold World.cell?; rw [hh]; simp [List.getD, List.getElem?_eq_getElem hj]
end Go.Proofs.Ytnfhiagbbmaobaa
