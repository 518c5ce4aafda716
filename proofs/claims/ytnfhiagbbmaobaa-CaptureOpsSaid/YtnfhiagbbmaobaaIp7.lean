/- ipv4.Encode: a datagram as bytes, or why it has none. -/
import Derived.Test.YtnfhiagbbmaobaaIp4
import Derived.Test.YtnfhiagbbmaobaaIp6
import Derived.Lib.AppendStr
namespace Go.Proofs.Ytnfhiagbbmaobaa
set_option linter.unusedVariables false
set_option linter.unusedSimpArgs false
set_option maxRecDepth 100000
open Go.RowKit Fg Reg
attribute [local irreducible] Reg.wE Reg2.wT Reg.wN

theorem ou_new (w : World) : OU (w.alloc (.cells #[.slice none 0 0] 43)) w.heap.size (w.heap.size + 1) (.slice none 0 0) [] :=
  ⟨by simp [go_sem], by simp [go_sem], by omega, World.ownsRow_nil _ _ _ _, by simp⟩
theorem enc_arg (tos idn flg ofs ttl pro src dst : Int) (O body : ByteArray) (hi : (0 ≤ tos ∧ tos ≤ 255) ∧ (0 ≤ idn ∧ idn ≤ 65535) ∧ (0 ≤ flg ∧ flg ≤ 255) ∧ (0 ≤ ofs ∧ ofs ≤ 65535) ∧ (0 ≤ ttl ∧ ttl ≤ 255) ∧ (0 ≤ pro ∧ pro ≤ 255) ∧ (0 ≤ src ∧ src ≤ 4294967295) ∧ (0 ≤ dst ∧ dst ≤ 4294967295)) (h : 7 < flg ∨ 8191 < ofs) (w : World) : Calls Try.prog 17 #[.agg #[.int .u8 tos, .int .u16 idn, .int .u8 flg, .int .u16 ofs, .int .u8 ttl, .int .u8 pro, .int .u32 src, .int .u32 dst, .string O], .string body] w fun ee w' => ee = .returned (.tuple #[.string ⟨#[]⟩, .int .i64 1]) ∧ Below w.heap.size w w' := by
  rcases Int.lt_or_le 7 flg with h1 | h1
  · have d1 : decide (7 < flg) = true := by simpa using h1
    go_enter Try.func17, Try.ntmps17
    go_wp2
    (go_ret2; refine ⟨?_, ?_⟩; (focus (exact rfl)); ((repeat' (first | with_reducible exact Below.refl _ _ | with_reducible assumption | ((with_reducible refine Below.drew ?_)) | ((with_reducible refine below_drewN ?_ _)) | ((with_reducible refine Below.alloc ?_ ?_ _); rotate_left; focus (first | omega | (simp; done) | (simp; omega))) | ((with_reducible refine Below.setCell ?_ ?_ _); rotate_left; focus (first | omega | (simp; done) | (simp; omega))) | ((with_reducible refine Below.trans ?_ (Below.mono (by with_reducible assumption) ?_)); rotate_left; focus (first | omega | (simp; done) | (simp; omega))))); done))
  · have d1 : decide (7 < flg) = false := by simp; omega
    have d2 : decide (8191 < ofs) = true := by simp; omega
    go_enter Try.func17, Try.ntmps17
    go_wp2
    (go_ret2; refine ⟨?_, ?_⟩; (focus (exact rfl)); ((repeat' (first | with_reducible exact Below.refl _ _ | with_reducible assumption | ((with_reducible refine Below.drew ?_)) | ((with_reducible refine below_drewN ?_ _)) | ((with_reducible refine Below.alloc ?_ ?_ _); rotate_left; focus (first | omega | (simp; done) | (simp; omega))) | ((with_reducible refine Below.setCell ?_ ?_ _); rotate_left; focus (first | omega | (simp; done) | (simp; omega))) | ((with_reducible refine Below.trans ?_ (Below.mono (by with_reducible assumption) ?_)); rotate_left; focus (first | omega | (simp; done) | (simp; omega))))); done))
theorem enc_opts (tos idn flg ofs ttl pro src dst : Int) (O body : ByteArray) (hi : (0 ≤ tos ∧ tos ≤ 255) ∧ (0 ≤ idn ∧ idn ≤ 65535) ∧ (0 ≤ flg ∧ flg ≤ 255) ∧ (0 ≤ ofs ∧ ofs ≤ 65535) ∧ (0 ≤ ttl ∧ ttl ≤ 255) ∧ (0 ≤ pro ∧ pro ≤ 255) ∧ (0 ≤ src ∧ src ≤ 4294967295) ∧ (0 ≤ dst ∧ dst ≤ 4294967295)) (h1 : flg ≤ 7) (h2 : ofs ≤ 8191) (h : 40 < O.size) (hM : O.size ≤ 9223372036854775807) (w : World) : Calls Try.prog 17 #[.agg #[.int .u8 tos, .int .u16 idn, .int .u8 flg, .int .u16 ofs, .int .u8 ttl, .int .u8 pro, .int .u32 src, .int .u32 dst, .string O], .string body] w fun ee w' => ee = .returned (.tuple #[.string ⟨#[]⟩, .int .i64 2]) ∧ Below w.heap.size w w' := by
  have d1 : decide (7 < flg) = false := by simp; omega
  have d2 : decide (8191 < ofs) = false := by simp; omega
  have d3 : decide (40 < (O.size : Int)) = true := by simp; omega
  go_enter Try.func17, Try.ntmps17
  go_wp2
  (go_ret2; refine ⟨?_, ?_⟩; (focus (exact rfl)); ((repeat' (first | with_reducible exact Below.refl _ _ | with_reducible assumption | ((with_reducible refine Below.drew ?_)) | ((with_reducible refine below_drewN ?_ _)) | ((with_reducible refine Below.alloc ?_ ?_ _); rotate_left; focus (first | omega | (simp; done) | (simp; omega))) | ((with_reducible refine Below.setCell ?_ ?_ _); rotate_left; focus (first | omega | (simp; done) | (simp; omega))) | ((with_reducible refine Below.trans ?_ (Below.mono (by with_reducible assumption) ?_)); rotate_left; focus (first | omega | (simp; done) | (simp; omega))))); done))
theorem enc_long (tos idn flg ofs ttl pro src dst : Int) (O body : ByteArray) (hi : (0 ≤ tos ∧ tos ≤ 255) ∧ (0 ≤ idn ∧ idn ≤ 65535) ∧ (0 ≤ flg ∧ flg ≤ 255) ∧ (0 ≤ ofs ∧ ofs ≤ 65535) ∧ (0 ≤ ttl ∧ ttl ≤ 255) ∧ (0 ≤ pro ∧ pro ≤ 255) ∧ (0 ≤ src ∧ src ≤ 4294967295) ∧ (0 ≤ dst ∧ dst ≤ 4294967295)) (h1 : flg ≤ 7) (h2 : ofs ≤ 8191) (h : O.size ≤ 40) (hb : 65535 - 20 - (fil O).size < body.size) (hM : body.size ≤ 9223372036854775807) (w : World) : Calls Try.prog 17 #[.agg #[.int .u8 tos, .int .u16 idn, .int .u8 flg, .int .u16 ofs, .int .u8 ttl, .int .u8 pro, .int .u32 src, .int .u32 dst, .string O], .string body] w fun ee w' => ee = .returned (.tuple #[.string ⟨#[]⟩, .int .i64 2]) ∧ Below w.heap.size w w' := by
  have d1 : decide (7 < flg) = false := by simp; omega
  have d2 : decide (8191 < ofs) = false := by simp; omega
  have d3 : decide (40 < (O.size : Int)) = false := by simp; omega
  have KF := Lib.hid (fun z => fill_c O (by omega) z)
  have hfs := fil_size O
  have hfb : (fil O).size ≤ 43 := by omega
  clear hfs
  generalize fil O = F at *
  have d4 : decide (65535 - (20 + (F.size : Int)) < (body.size : Int)) = true := by simp; omega
  go_enter Try.func17, Try.ntmps17
  go_wp2_with (go_at_call 48; ((with_reducible refine (KF.out _).mono ?_); rintro e w1 ⟨rfl, hbel⟩; obtain ⟨hcc, hff⟩ := bcell hbel; have hsz := hbel.size; (try simp at hsz); have hF : (w1.cell? ⟨w.heap.size, 0, none⟩ = some (.int .u8 tos) ∧ w1.cell? ⟨w.heap.size, 1, none⟩ = some (.int .u16 idn) ∧ w1.cell? ⟨w.heap.size, 2, none⟩ = some (.int .u8 flg) ∧ w1.cell? ⟨w.heap.size, 3, none⟩ = some (.int .u16 ofs) ∧ w1.cell? ⟨w.heap.size, 4, none⟩ = some (.int .u8 ttl) ∧ w1.cell? ⟨w.heap.size, 5, none⟩ = some (.int .u8 pro) ∧ w1.cell? ⟨w.heap.size, 6, none⟩ = some (.int .u32 src) ∧ w1.cell? ⟨w.heap.size, 7, none⟩ = some (.int .u32 dst) ∧ w1.cell? ⟨w.heap.size, 8, none⟩ = some (.string O) ∧ w.heap.size < w1.heap.size) ∧ Below w.heap.size w w1 := (by ((repeat' apply And.intro) <;> first | (simp [go_sem, *]; done) | omega | (repeat' (first | with_reducible exact Below.refl _ _ | with_reducible assumption | ((with_reducible refine Below.drew ?_)) | ((with_reducible refine below_drewN ?_ _)) | ((with_reducible refine Below.alloc ?_ ?_ _); rotate_left; focus (first | omega | (simp; done) | (simp; omega))) | ((with_reducible refine Below.setCell ?_ ?_ _); rotate_left; focus (first | omega | (simp; done) | (simp; omega))) | ((with_reducible refine Below.trans ?_ (Below.mono (by with_reducible assumption) ?_)); rotate_left; focus (first | omega | (simp; done) | (simp; omega))))))); go_split_ands; clear hcc hff hbel))
  (go_ret2; refine ⟨?_, ?_⟩; (focus (exact rfl)); ((repeat' (first | with_reducible exact Below.refl _ _ | with_reducible assumption | ((with_reducible refine Below.drew ?_)) | ((with_reducible refine below_drewN ?_ _)) | ((with_reducible refine Below.alloc ?_ ?_ _); rotate_left; focus (first | omega | (simp; done) | (simp; omega))) | ((with_reducible refine Below.setCell ?_ ?_ _); rotate_left; focus (first | omega | (simp; done) | (simp; omega))) | ((with_reducible refine Below.trans ?_ (Below.mono (by with_reducible assumption) ?_)); rotate_left; focus (first | omega | (simp; done) | (simp; omega))))); done))
/-- The header's bytes, with c in the place of the sum. -/
def ehd (a tos al idn fo ttl pro c src dst : Int) : List Int := by1 a ++ by1 tos ++ by2 al ++ by2 idn ++ by2 fo ++ by1 ttl ++ by1 pro ++ by2 c ++ by4 src ++ by4 dst
theorem or_flags {f o : Int} (hf : 0 ≤ f ∧ f ≤ 7) (ho : 0 ≤ o ∧ o ≤ 8191) : bits .or .u64 (f * 8192) o = f * 8192 + o := by
  exact bits_join .u64 64 (by decide) (fun n h0 h1 => by rw [wrap_u64]; omega) 13 (f * 8192) o (by omega) (by omega) (by omega) (by omega) (by omega) (by omega)
/-- A row of bytes in a block known whole. -/
def GR (z : World) (g cap : Nat) (L : List Int) : Prop := ∃ cur : Array Value, z.heap[g]? = some (.cells cur 5 (0, 0)) ∧ L.length ≤ cap ∧ cur.size = cap ∧ cur.toList.take L.length = L.map (Value.int .u8)
theorem GR.lt {z : World} {g cap : Nat} {L : List Int} (h : GR z g cap L) : g < z.heap.size := by
  obtain ⟨cur, h, -⟩ := h
  rcases Nat.lt_or_ge g z.heap.size with h' | h'
  · exact h'
  · rw [Array.getElem?_eq_none h'] at h; cases h
theorem GR.below {z z' : World} {g cap : Nat} {L : List Int} (h : GR z g cap L) (hb : Below z.heap.size z z') : GR z' g cap L := by
  have hl := h.lt
  obtain ⟨cur, h1, h2⟩ := h
  exact ⟨cur, (hb.block g hl).trans h1, h2⟩
theorem GR.cells {z : World} {g cap : Nat} {L : List Int} (h : GR z g cap L) : ∀ j x, L[j]? = some x → z.cell? ⟨g, 0 + j, none⟩ = some (.int .u8 x) := fun j x hj => by
  obtain ⟨cur, h1, h2, h3, h4⟩ := h
  rw [Nat.zero_add]
  unfold World.cell?
  rw [h1]
  have hjl : j < L.length := (List.getElem?_eq_some_iff.1 hj).1
  have : (cur.toList.take L.length)[j]? = some (.int .u8 x) := by rw [h4, List.getElem?_map, hj]; rfl
  rw [List.getElem?_take, if_pos hjl] at this
  simpa using this
theorem GR.patch {z : World} {g cap : Nat} {E R : List Int} {a b : Int} (h : GR z g cap (E ++ [a, b] ++ R)) (hE : E.length = 10) (x y : Int) {b2 : Nat} {f : Nat → Int} (hb : BR z b2 2 f) (h0 : f 0 = x) (h1 : f 1 = y) (ty : TypeId) (dl dc : Nat) (hdl : 2 ≤ dl) :
    ∃ w', (Builtin.copy_ #[43, 43] ty #[.slice (some ⟨g, 10, none⟩) dl dc, .slice (some ⟨b2, 0, none⟩) 2 2]).run Try.prog z = .ok (goInt 2) w' ∧ GR w' g cap (E ++ [x, y] ++ R) ∧ Only (fun k => k = g) z w' := by
  obtain ⟨ie, HI0, HZ0, HZ1, HZ2⟩ := u8_parts
  obtain ⟨cur, e1, e2, e3, e4⟩ := h
  have hlen : (E ++ [a, b] ++ R).length = 12 + R.length := by simp [hE]; omega
  rw [hlen] at e2 e4
  have hr := run_copy_row (P := Try.prog) z 43 43 ty 5 g 10 dl dc ⟨b2, 0, none⟩ 2 2 cur 5 [.int .u8 x, .int .u8 y] Try.underlying43 (by rw [HI0]; simp [HZ1]) e1 (by simp [Nat.min_def]; omega)
    (fun j v hj => by
      rw [Addr.add_lit, Nat.zero_add]
      rcases j with _ | _ | j
      · rw [hb.2 0 (by omega), h0]; simpa using hj
      · rw [hb.2 1 (by omega), h1]; simpa using hj
      · simp at hj) (by simp; omega) (fun v hv => by simp at hv; rcases hv with rfl | rfl <;> rfl)
  refine ⟨_, hr, ⟨_, setRow_heap _ g _ _ _ _ e1, ?_, ?_, ?_⟩, ⟨rfl, rfl, rfl, by simp, fun k _ hk => setRow_other _ g k _ (fun e => hk e)⟩⟩
  · simp [hE] at e2 ⊢; omega
  · simp; omega
  · have hl2 : (E ++ [x, y] ++ R).length = 12 + R.length := by simp [hE]; omega
    rw [hl2]
    have ht : cur.toList.take 10 = E.map (Value.int .u8) := by
      have := congrArg (List.take 10) e4
      rw [List.take_take, Nat.min_eq_left (by omega)] at this
      rw [this, List.append_assoc, List.map_append, List.take_append_of_le_length (by simp [hE]), List.take_of_length_le (by simp [hE])]
    have hd : (cur.toList.drop 12).take R.length = R.map (Value.int .u8) := by
      have := congrArg (List.drop 12) e4
      rw [List.drop_take, show 12 + R.length - 12 = R.length by omega] at this
      rw [this, List.map_append, List.drop_append_of_le_length (by simp [hE]), List.drop_of_length_le (by simp [hE]), List.nil_append]
    rw [ht]
    show (E.map (Value.int .u8) ++ [Value.int .u8 x, Value.int .u8 y] ++ cur.toList.drop 12).take (12 + R.length) = _
    rw [List.take_append, List.take_of_length_le (by simp [hE]), show 12 + R.length - (E.map (Value.int .u8) ++ [Value.int .u8 x, Value.int .u8 y]).length = R.length by simp [hE], hd]
    simp
theorem eff_copy {P : Program} {Cl : List Value → World → Prop} {ps : List Value} {o : Oper} {ρ : Act} {w w' : World} {x y u : Value} (d s : Operand) (dT sT : TypeId)
    (ho : o.op = .call { callee := .builtin .copy, args := #[d, s], argTypes := #[dT, sT] }) (hd : ρ.eval d = x) (hs : ρ.eval s = y) (hr : (Builtin.copy_ #[dT, sT] o.type #[x, y]).run P w = .ok u w') (h : Cl (ps ++ [u]) w') :
    Reg.effUpon P Cl ps ((execOp ρ.eval o).run P w) := by
  unfold execOp
  simp only [ho, resolve, invoke, builtin, Sem.run_bind, Sem.run_pure, Result.andThen_ok, List.map_toArray, List.map_cons, List.map_nil, hd, hs, hr]
  exact h
theorem OU.row {z : World} {q B : Nat} {v : Value} {l : List Int} (h : OU z q B v l) (hl : 0 < l.length) : ∃ g cap, v = .slice (some ⟨g, 0, none⟩) l.length cap ∧ B ≤ g ∧ GR z g cap l := by
  rcases h.own.2 with ⟨_, h0⟩ | ⟨g, cap, cur, h1, h2, h3, h4, h5, h6, h7⟩
  · omega
  · exact ⟨g, cap, h1, h2, cur, h3, h4, by simpa using h6, by simpa using h7⟩
theorem own_list {z : World} {B : Nat} {e : TypeId} {v : Value} {n : Nat} {xs : List Value} {L : List Int} (h : z.ownsRow B e 1 v n xs) (hx : xs = L.map (Value.int .u8)) : z.ownsRow B e 1 v L.length (L.map (Value.int .u8)) := by
  subst hx
  have := h.1
  rw [Nat.mul_one, List.length_map] at this
  rw [this]
  exact h
theorem shrunk {G : World → Prop} {w : World} (F : World → Prop) (hF : F w) (h : ∀ n, F n → G n) : G w := h w hF
def e10 (a tos al idn fo ttl pro : Int) : List Int := by1 a ++ by1 tos ++ by2 al ++ by2 idn ++ by2 fo ++ by1 ttl ++ by1 pro
theorem e10_len (a tos al idn fo ttl pro : Int) : (e10 a tos al idn fo ttl pro).length = 10 := rfl
def bl (F : ByteArray) : List Int := F.data.toList.map fun b => (b.toNat : Int)
theorem bl_len (F : ByteArray) : (bl F).length = F.size := by unfold bl; rw [List.length_map, Array.length_toList]; rfl
theorem bl_cells (F : ByteArray) : Lib.strCells F = (bl F).map (Value.int .u8) := by unfold Lib.strCells bl; rw [List.map_map]; rfl
theorem bl_str (F : ByteArray) : strOf (bl F) = F := by
  unfold bl
  rw [strOf_eq, List.map_map]
  have e : ((fun n : Int => UInt8.ofNat n.toNat) ∘ fun b : UInt8 => (b.toNat : Int)) = id := by funext b; simp
  rw [e, List.map_id]
end Go.Proofs.Ytnfhiagbbmaobaa
