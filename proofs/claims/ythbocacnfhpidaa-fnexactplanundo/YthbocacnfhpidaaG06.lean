import Derived.Test.YthbocacnfhpidaaG05
import Derived.Test.YthbocacnfhpidaaG01
import Derived.Test.YthbocacnfhpidaaG00
import Derived.Deep.MidRow
import Derived.Deep.DeepCutAuto
import Derived.WalkKit
import Derived.OrdersHeld
import Derived.Deep.RegionHeld3
namespace Go.Proofs.Ythbocacnfhpidaa
set_option maxRecDepth 100000
set_option maxHeartbeats 4000000
open Go.RowKit
set_option linter.unusedVariables false
set_option linter.unusedSimpArgs false
def FrC (w : World) (b off : Nat) (ps : List StLogFrame) : Prop := ∀ j i, (h : j < ps.length) → i < 16 → w.cell? ⟨b, off + (j * 16 + i), none⟩ = (kFr.cells ps[j])[i]?
theorem FrC.same {w w' : World} {b off : Nat} {ps : List StLogFrame} (h : FrC w b off ps) (hk : Same w w') : FrC w' b off ps := fun j i hj hi => by
  have h1 := h j i hj hi
  rw [List.getElem?_eq_getElem (by rw [kFr.len]; exact hi)] at h1 ⊢
  exact hk.cellOf h1 id
theorem FrC.lsn {w : World} {b off : Nat} {ps : List StLogFrame} (h : FrC w b off ps) (k : Nat) (hk : k < ps.length) : w.cell? ⟨b, off + k * 16, none⟩ = some (.int .i64 (f5 ps[k]).1) := by
  have := h k 0 hk (by omega)
  simpa [kFr, StLogFrame.cells, f5] using this
def recCells (r : StLogRecord) : List Value := [.int .i64 r.kind, .int .i64 r.txn, .int .i64 r.prev, .int .i64 r.page, .int .i64 r.slot, .bool r.before.used, r.before.data.v, .bool r.after.used, r.after.data.v, .int .i64 r.uN, .int .i64 r.nT, r.txns.v, r.dirty.v, r.image.v]
theorem recCells_one (r : StLogRecord) : (recCells r).toArray.all (·.oneCell') = true := all_oneCell_toArray (fun v hv => by
  simp only [recCells, List.mem_cons, List.not_mem_nil, or_false] at hv
  rcases hv with rfl | rfl | rfl | rfl | rfl | rfl | rfl | rfl | rfl | rfl | rfl | rfl | rfl | rfl <;> rfl)
theorem FrC.rec {w : World} {b off : Nat} {ps : List StLogFrame} (h : FrC w b off ps) (k : Nat) (hk : k < ps.length) : w.rangeAt b (off + k * 16 + 2) (recCells ps[k].record) := fun j v hv => by
  have hj : j < 14 := by have := (List.getElem?_eq_some_iff.1 hv).1; simpa [recCells] using this
  have h1 := h k (j + 2) hk (by omega)
  rw [show off + (k * 16 + (j + 2)) = off + k * 16 + 2 + j from by omega] at h1
  rw [h1, ← hv]
  simp [kFr, StLogFrame.cells, recCells]
theorem specRises_any (v : Value) (ps : List StLogFrame) (w : World) (hv : RdFr w v ps) :
    Calls Try.prog 18 #[v] w fun e w' => e = .returned (.bool (!nbg fAfter (fs5 ps))) ∧ Same w w' := by
  have hm : ps.length ≤ maxLen := hv.row.max
  unfold maxLen at hm
  have hL5 := fs5_length ps
  obtain ⟨B, hB⟩ : ∃ B, nbg fAfter (fs5 ps) = B := ⟨_, rfl⟩
  rw [hB]
  rcases hv.row.row with ⟨rfl, a, c, rfl⟩ | ⟨b, off, c, rfl, hc⟩
  · have : B = false := by rw [← hB]; rfl
    subst this
    clear hv hm hL5 hB
    go_enter Try.func18, Try.ntmps18
    go_wp2_with fail
    refine wp_loop_rounds 1 ?_
    rw [rounds_succ]
    go_wp2
    go_ret
    exact ⟨rfl, Kept.refl _ _⟩
  · have HC : Hid (FrC w b off ps) := hc
    have HB := hid hB
    have HL5 := hid hL5
    clear hc hv hB hL5
    generalize hl : ps.length = L at *
    have HL := hid hl
    clear hl
    go_enter Try.func18, Try.ntmps18
    go_wp2_with fail
    go_loopw [3] (fun i wr => ∃ j : Nat, 1 ≤ j ∧ (j ≤ L ∨ j = 1) ∧ i = .int .i64 j ∧ Hid (∀ (i : Nat) (h : i + 1 < (fs5 ps).length), i + 1 < j → fAfter (fs5 ps)[i] (fs5 ps)[i + 1] = false) ∧ Hid (Same w wr)) (fun i _ => L - (intOf i).toNat)
    case atStart => exact ⟨1, by omega, .inr rfl, rfl, fun i h hj => by omega, Kept.refl _ _⟩
    case round =>
      obtain ⟨j, hj1, hj, rfl, HAr, HKr⟩ := hrel
      by_cases hlt : j < L
      · obtain ⟨m, rfl⟩ : ∃ m, j = m + 1 := ⟨j - 1, by omega⟩
        have hla : m < ps.length := by rw [HL.out]; omega
        have hlb : m + 1 < ps.length := by rw [HL.out]; omega
        have ca := (HC.out.same HKr.out).lsn m hla
        have cb := (HC.out.same HKr.out).lsn (m + 1) hlb
        have HXa := hid (fs5_at ps m hla)
        have HXb := hid (fs5_at ps (m + 1) hlb)
        obtain ⟨x, hx⟩ : ∃ x, (f5 ps[m]).1 = x := ⟨_, rfl⟩
        obtain ⟨y, hy⟩ : ∃ y, (f5 ps[m + 1]).1 = y := ⟨_, rfl⟩
        rw [hx] at ca
        rw [hy] at cb
        have HX := hid hx
        have HY := hid hy
        have em : ((m + 1 : Nat) : Int) - 1 = (m : Int) := by omega
        have mm : (m : Int) < (L : Int) := by omega
        clear hx hy
        by_cases h1 : y ≤ x
        · go_wp2
          go_quiet (fail)
          go_wp2
          go_ret
          refine ⟨?_, HKr.out.drewN _⟩
          have h := nbg_yes (f := fAfter) (ls := fs5 ps) m (by rw [HL5.out]; omega) (by rw [HXa.out, HXb.out]; simp only [fAfter, HX.out, HY.out]; simpa using h1)
          rw [HB.out] at h
          rw [h]
          rfl
        · go_wp2
          go_quiet (fail)
          go_wp2
          go_roundw
          case rel => exact ⟨m + 1 + 1, by omega, by omega, by go_num, fun i hi hj => by
            by_cases hik : i + 1 < m + 1
            · exact HAr.out i hi hik
            · obtain rfl : i = m := by omega
              rw [HXa.out, HXb.out]; simp only [fAfter, HX.out, HY.out]; simpa using h1, HKr.out.drewN _⟩
          case measure => simp [intOf]; omega
      · go_wp2
        go_ret
        have h := nbg_no (f := fAfter) (ls := fs5 ps) (fun i hi => HAr.out i hi (by have := HL5.out; omega))
        rw [HB.out] at h
        exact ⟨by rw [h]; rfl, HKr.out⟩
end Go.Proofs.Ythbocacnfhpidaa

namespace Go.Proofs.Ythbocacnfhpidaa
set_option maxRecDepth 100000
set_option maxHeartbeats 4000000
open Go.RowKit
set_option linter.unusedVariables false
set_option linter.unusedSimpArgs false
structure PuM (w wr : World) (lo : Nat) (la : Option Addr) (ln lc : Nat) (left : List Q4) (sa : Option Addr) (sn sc : Nat) (st : List U3) : Prop where
  own4 : OwQ 4 52 wr la ln lc (flat4 left)
  own3 : OwQ 3 54 wr sa sn sc (flat3U st)
  f4 : ∀ b, (Value.slice la ln lc).ownBlock = some b → lo < b
  f3 : ∀ b, (Value.slice sa sn sc).ownBlock = some b → lo < b
  ap : ∀ b, (Value.slice la ln lc).ownBlock = some b → (Value.slice sa sn sc).ownBlock = some b → False
  keep : Same w wr
  low : w.heap.size ≤ lo
section
variable {w wr wx : World} {lo : Nat} {la : Option Addr} {ln lc : Nat} {left : List Q4} {sa : Option Addr} {sn sc : Nat} {st : List U3}
theorem PuM.len4 (h : PuM w wr lo la ln lc left sa sn sc st) : left.length = ln := by
  have := h.own4.len
  rw [flat4_length] at this
  omega
theorem PuM.len3 (h : PuM w wr lo la ln lc left sa sn sc st) : st.length = sn := by
  have := h.own3.len
  rw [flat3U_length] at this
  omega
theorem PuM.same (h : PuM w wr lo la ln lc left sa sn sc st) (hk : Same wr wx) : PuM w wx lo la ln lc left sa sn sc st :=
  ⟨h.own4.same hk, h.own3.same hk, h.f4, h.f3, h.ap, h.keep.trans hk, h.low⟩
theorem PuM.put (h : PuM w wr lo la ln lc left sa sn sc st) {B : Nat} (hk : Kept (fun b => b = B) wr wx) (hB : B ≤ lo) (hw : w.heap.size ≤ B) : PuM w wx lo la ln lc left sa sn sc st :=
  ⟨h.own4.kept hk (fun b hb e => by have := h.f4 b hb; omega), h.own3.kept hk (fun b hb e => by have := h.f3 b hb; omega), h.f4, h.f3, h.ap, h.keep.next hk (fun b hb e => by omega), h.low⟩
theorem ownBlk (g n c : Nat) : (Value.slice (some ⟨g, 0, none⟩) n c).ownBlock = some g := rfl
theorem PuM.app3 (h : PuM w wr lo la ln lc left sa sn sc st) (hs : Same wr wx) (hlo : lo < wr.heap.size) {o : Obj} {w5 : World} {g5 cap5 : Nat} {x y z : Int}
    (hown : w5.ownsRow 0 54 3 (.slice (some ⟨g5, 0, none⟩) (sn + 1) cap5) (sn + 1) (vals .i64 (flat3U st) ++ [.int .i64 x, .int .i64 y, .int .i64 z]))
    (hg : (wx.alloc o).grownBy w5 (Value.slice sa sn sc).ownBlock) (hat : (Value.slice sa sn sc).ownBlock = some g5 ∨ g5 = wx.heap.size + 1) :
    PuM w w5 lo la ln lc left (some ⟨g5, 0, none⟩) (sn + 1) cap5 (st ++ [(x, y, z)]) ∧ Kept (fun b => (Value.slice sa sn sc).ownBlock = some b) wr w5 := by
  have hk : Kept (fun b => (Value.slice sa sn sc).ownBlock = some b) wr w5 := ((hs.alloc o).mono (fun _ _ e => e.elim)).trans (Kept.of_grown hg (fun k e => e))
  have hsz := hs.size
  refine ⟨⟨h.own4.kept hk (fun b hb e => h.ap b hb e), OwQ.of3 hown, h.f4, fun b hb => ?_, fun b h1 h2 => ?_, h.keep.next hk (fun b hb e => by have := h.f3 b e; have := h.low; omega), h.low⟩, hk⟩
  · rw [ownBlk] at hb
    obtain rfl : g5 = b := Option.some.inj hb
    rcases hat with e | e
    · exact h.f3 _ e
    · omega
  · rw [ownBlk] at h2
    obtain rfl : g5 = b := Option.some.inj h2
    rcases hat with e | e
    · exact h.ap _ h1 e
    · have := h.own4.lt _ h1; omega
theorem PuM.app4 (h : PuM w wr lo la ln lc left sa sn sc st) (hs : Same wr wx) (hlo : lo < wr.heap.size) {o : Obj} {w5 : World} {g5 cap5 : Nat} {x y z u : Int}
    (hown : w5.ownsRow 0 52 4 (.slice (some ⟨g5, 0, none⟩) (ln + 1) cap5) (ln + 1) (vals .i64 (flat4 left) ++ [.int .i64 x, .int .i64 y, .int .i64 z, .int .i64 u]))
    (hg : (wx.alloc o).grownBy w5 (Value.slice la ln lc).ownBlock) (hat : (Value.slice la ln lc).ownBlock = some g5 ∨ g5 = wx.heap.size + 1) :
    PuM w w5 lo (some ⟨g5, 0, none⟩) (ln + 1) cap5 (left ++ [(x, y, z, u)]) sa sn sc st ∧ Kept (fun b => (Value.slice la ln lc).ownBlock = some b) wr w5 := by
  have hk : Kept (fun b => (Value.slice la ln lc).ownBlock = some b) wr w5 := ((hs.alloc o).mono (fun _ _ e => e.elim)).trans (Kept.of_grown hg (fun k e => e))
  have hsz := hs.size
  refine ⟨⟨OwQ.of4 hown, h.own3.kept hk (fun b hb e => h.ap b e hb), fun b hb => ?_, h.f3, fun b h1 h2 => ?_, h.keep.next hk (fun b hb e => by have := h.f4 b e; have := h.low; omega), h.low⟩, hk⟩
  · rw [ownBlk] at hb
    obtain rfl : g5 = b := Option.some.inj hb
    rcases hat with e | e
    · exact h.f4 _ e
    · omega
  · rw [ownBlk] at h1
    obtain rfl : g5 = b := Option.some.inj h1
    rcases hat with e | e
    · exact h.ap _ e h2
    · have := h.own3.lt _ h2; omega
theorem PuM.set4 {g : Nat} (h : PuM w wr lo (some ⟨g, 0, none⟩) ln lc left sa sn sc st) (k : Nat) (hk : k < left.length) (x : Int) : PuM w (wr.setCell ⟨g, k * 4 + 3, none⟩ (.int .i64 x)) lo (some ⟨g, 0, none⟩) ln lc (left.set k (updU (left.getD k q4z) x)) sa sn sc st := by
  have hkp : Kept (fun b => b = g) wr (wr.setCell ⟨g, k * 4 + 3, none⟩ (.int .i64 x)) := Kept.setCell (R := fun b => b = g) (Kept.refl _ _) (p := ⟨g, k * 4 + 3, none⟩) (.inr rfl) _
  have hlg := h.f4 g (ownBlk _ _ _)
  have ho : OwnF 4 52 wr g ln lc (flat4 left) := h.own4
  refine ⟨?_, h.own3.kept hkp (fun b hb e => ?_), h.f4, h.f3, h.ap, h.keep.next hkp (fun b hb e => by have := h.low; omega), h.low⟩
  · have := ho.stored (k * 4 + 3) x
    rw [flat4_set left k x hk] at this
    exact this
  · subst e
    exact h.ap _ (ownBlk _ _ _) hb
theorem PuM.cells (h : PuM w wr lo la ln lc left sa sn sc st) (k : Nat) (hk : k < left.length) : ∃ g, la = some ⟨g, 0, none⟩ ∧ ln ≤ lc ∧ lo < g ∧ g < wr.heap.size ∧ wr.cell? ⟨g, k * 4, none⟩ = some (.int .i64 (left.getD k q4z).1) ∧ wr.cell? ⟨g, k * 4 + 1, none⟩ = some (.int .i64 (left.getD k q4z).2.1) ∧ wr.cell? ⟨g, k * 4 + 2, none⟩ = some (.int .i64 (left.getD k q4z).2.2.1) ∧ wr.cell? ⟨g, k * 4 + 3, none⟩ = some (.int .i64 (left.getD k q4z).2.2.2) ∧ ∀ j, wr.frozen? ⟨g, j, none⟩ = false := by
  have hl := h.len4
  obtain ⟨g, rfl, hc, hm, ho⟩ := h.own4.form (by omega)
  have h4 := flat4_at left k hk
  refine ⟨g, rfl, hc, h.f4 g (ownBlk _ _ _), h.own4.lt g (ownBlk _ _ _), ?_, ?_, ?_, ?_, fun j => ho.frozen j⟩
  · rw [ho.cell _ (by omega), h4.1]
  · rw [ho.cell _ (by omega), h4.2.1]
  · rw [ho.cell _ (by omega), h4.2.2.1]
  · rw [ho.cell _ (by omega), h4.2.2.2]
end
theorem PuM.at4 {w wr : World} {lo g ln lc : Nat} {left : List Q4} {sa : Option Addr} {sn sc : Nat} {st : List U3} (h : PuM w wr lo (some ⟨g, 0, none⟩) ln lc left sa sn sc st) (k : Nat) (hk : k < left.length) (a s l u : Int) (hq : left.getD k q4z = (a, s, l, u)) : wr.cell? ⟨g, k * 4, none⟩ = some (.int .i64 a) ∧ wr.cell? ⟨g, k * 4 + 1, none⟩ = some (.int .i64 s) ∧ wr.cell? ⟨g, k * 4 + 2, none⟩ = some (.int .i64 l) ∧ wr.cell? ⟨g, k * 4 + 3, none⟩ = some (.int .i64 u) := by
  obtain ⟨g', e, _, _, _, c0, c1, c2, c3, _⟩ := h.cells k hk
  injection e with e
  injection e with e
  subst e
  rw [hq] at c0 c1 c2 c3
  exact ⟨c0, c1, c2, c3⟩
theorem box_newL (w : World) (zs : Array Value) (cs : List Value) (t : TypeId) (h : zs.size = cs.length) : Blk ((w.alloc (.cells zs t)).setCells w.heap.size 0 cs) w.heap.size t cs ∧ Same w ((w.alloc (.cells zs t)).setCells w.heap.size 0 cs) := by
  refine ⟨?_, Kept.setCells (.inl (Nat.le_refl _)) _ _ ((Kept.refl _ _).alloc _)⟩
  have h1 := (Blk.new w zs t).setCells cs 0 (by simp [h])
  rwa [lay_all _ _ (by simp [h])] at h1
theorem OwQ.made0 (m : Nat) (e : TypeId) (w : World) : OwQ m e (w.alloc (.cells #[] e)) (some ⟨w.heap.size, 0, none⟩) 0 0 [] :=
  ⟨by simp [vals], .inr ⟨w.heap.size, 0, #[], rfl, Nat.zero_le _, Blk.new w #[] e, Nat.le_refl _, Nat.zero_le _, by simp, by simp [vals]⟩⟩
theorem step_append_runQ {P : Program} {ops : Array Oper} {o : Oper} {a : Act} {w : World} {K : Act → World → Prop} {Q : Exit → Act → World → Prop} {E : Prop} (hgd : o.guard = none) (s x : Operand) (t tn : TypeId)
    (ho : o.op = .call { callee := .builtin .append, args := #[s, x], argTypes := #[t, tn] }) (vs vx : Value) (hs : a.eval s = vs) (hx : a.eval x = vx)
    (v' : Value) (w' : World) (hr : (Builtin.append_ #[t, tn] o.type #[vs, vx]).run P w = .ok v' w') (h : K (a.put o.dst v') w') : if Region.wanted o (yielded ops a.tmps) = true then Oper.wp P o a w K Q else E := by
  have hw : Region.wanted o (yielded ops a.tmps) = true := by simp [Region.wanted, hgd]
  rw [if_pos hw]
  unfold Oper.wp execOp
  simp only [ho, resolve, invoke, builtin, Sem.run_bind, Sem.run_pure, Result.andThen_ok, List.map_toArray, List.map_cons, List.map_nil, hs, hx, hr]
  exact h
theorem PuM.erased {w wr w2 : World} {lo g ln lc : Nat} {left : List Q4} {sa : Option Addr} {sn sc : Nat} {st : List U3} (h : PuM w wr lo (some ⟨g, 0, none⟩) ln lc left sa sn sc st) (hk : Same wr w2) {a' : Option Addr} {n' c' : Nat} {rest : List Q4} (ho : OwQ 4 52 w2 a' n' c' (flat4 rest)) (hn : ∀ b, (Value.slice a' n' c').ownBlock = some b → wr.heap.size ≤ b) (hlo : lo < wr.heap.size) : PuM w w2 lo a' n' c' rest sa sn sc st :=
  ⟨ho, h.own3.same hk, fun b hb => by have := hn b hb; omega, h.f3, fun b h1 h2 => by have := hn b h1; have := h.own3.lt b h2; omega, h.keep.trans hk, h.low⟩
theorem erase_parts (left : List Q4) (K : Nat) : left.take K ++ left.drop (K + 1) = left.eraseIdx K := (List.eraseIdx_eq_take_drop_succ left K).symm
theorem madeB (e : TypeId) (w : World) (base : Nat) (hb : base ≤ w.heap.size) : (w.alloc (.cells #[] e)).ownsRow base e 4 (.slice (some ⟨w.heap.size, 0, none⟩) 0 0) 0 (vals .i64 []) :=
  ⟨by simp [vals], .inr ⟨w.heap.size, 0, #[], rfl, hb, Blk.new w #[] e, Nat.le_refl _, Nat.zero_le _, by simp, by simp [vals]⟩⟩
theorem ownB_le {base : Nat} {e : TypeId} {w : World} {a : Option Addr} {n c : Nat} {xs : List Value} (h : w.ownsRow base e 4 (.slice a n c) n xs) : ∀ b, (Value.slice a n c).ownBlock = some b → base ≤ b := fun b hb => by
  rcases h.2 with ⟨h1, _⟩ | ⟨g, cap, cur, h1, h2, _⟩
  · rw [h1] at hb; simp [Value.ownBlock] at hb
  · rw [h1, ownBlk] at hb
    rw [← Option.some.inj hb]
    exact h2
theorem ownB_zero {base : Nat} {e : TypeId} {w : World} {a : Option Addr} {n c : Nat} {bs : List Int} (h : w.ownsRow base e 4 (.slice a n c) n (vals .i64 bs)) : OwQ 4 e w a n c bs := by
  refine ⟨h.1, ?_⟩
  rcases h.2 with h1 | ⟨g, cap, cur, h1, h2, h3⟩
  · exact .inl h1
  · exact .inr ⟨g, cap, cur, h1, Nat.zero_le _, h3⟩
theorem appB {base : Nat} {e : TypeId} {w : World} {a : Option Addr} {n c : Nat} {bs : List Int} (h : w.ownsRow base e 4 (.slice a n c) n (vals .i64 bs)) (hbase : base ≤ w.heap.size) {t ty : TypeId} (ht : Try.prog.underlying t = some (.slice e)) {i : TypeInfo} {z : Value} (hi : Try.prog.info? e = some i) (hz0 : i.zero = some z) (hz1 : i.size = 4) (hz2 : i.bytes = 32) (hz3 : z.cells.size = 4)
    (ad : Addr) (m c' : Nat) (news : List Int) (hl : news.length = m * 4) (hc : ∀ j, j < m * 4 → w.cell? (ad.add j) = some (.int .i64 (news.getD j 0))) (hm : n + m ≤ 1048576) :
    ∃ a' c2 w', (Builtin.append_ #[t, t] ty #[.slice a n c, .slice (some ad) m c']).run Try.prog w = .ok (.slice a' (n + m) c2) w' ∧ w'.ownsRow base e 4 (.slice a' (n + m) c2) (n + m) (vals .i64 (bs ++ news)) ∧ w.grownBy w' (Value.slice a n c).ownBlock := by
  obtain ⟨v', w', hr, ho, hg, _⟩ := run_append_own w base t ty e i z 4 32 ht hi hz0 hz1 hz2 hz3 (by omega) (.slice a n c) n (vals .i64 bs) h ad m c' (vals .i64 news) (by rw [vals_length, hl]) (fun j u hu => by
    have hj : j < news.length := by have := (List.getElem?_eq_some_iff.1 hu).1; rwa [vals_length] at this
    rw [hc j (by omega), ← hu, vals_at .i64 news j hj]) (fun u hu => by obtain ⟨x, _, rfl⟩ := List.mem_map.1 hu; rfl) (by unfold maxLen; omega) (by omega) hbase
  have hv : ∃ a' c2, v' = .slice a' (n + m) c2 := by
    rcases ho.2 with ⟨h1, h2⟩ | ⟨g, cap, cur, h1, _⟩
    · have h3 := ho.1
      rw [h2] at h3
      exact ⟨none, 0, by rw [h1, show n + m = 0 from by simp at h3; omega]⟩
    · exact ⟨_, _, h1⟩
  obtain ⟨a', c2, rfl⟩ := hv
  refine ⟨a', c2, w', hr, ?_, hg⟩
  have e1 : vals .i64 (bs ++ news) = vals .i64 bs ++ vals .i64 news := by simp [vals]
  rw [e1]
  exact ho
theorem erase_own {base : Nat} {e : TypeId} {w : World} {a : Option Addr} {n c : Nat} {left : List Q4} {K : Nat} {x : Q4} (h : w.ownsRow base e 4 (.slice a n c) n (vals .i64 ([] ++ flat4 ((left.set K x).take K) ++ flat4 ((left.set K x).drop (K + 1))))) : OwQ 4 e w a n c (flat4 (left.eraseIdx K)) := by
  have h := ownB_zero h
  rw [List.nil_append, ← flat4_append, erase_parts, List.eraseIdx_set_eq] at h
  exact h
theorem getD_take {l : List Int} {k j : Nat} (h : j < k) : (l.take k).getD j 0 = l.getD j 0 := by simp [List.getD, List.getElem?_take, h]
theorem getD_drop {l : List Int} {k j : Nat} : (l.drop k).getD j 0 = l.getD (k + j) 0 := by simp [List.getD]
theorem PuM.del {w wr w2 : World} {lo g ln lc m : Nat} {left rest : List Q4} {sa : Option Addr} {sn sc : Nat} {st : List U3} (h : PuM w wr lo (some ⟨g, 0, none⟩) ln lc left sa sn sc st) (hk : Kept (fun b => b = g) wr w2) (ho : OwnF 4 52 w2 g m lc (flat4 rest)) : PuM w w2 lo (some ⟨g, 0, none⟩) m lc rest sa sn sc st := by
  have hg := h.f4 g (ownBlk _ _ _)
  have hlow := h.low
  exact ⟨ho, h.own3.kept hk (fun b hb e => by subst e; exact h.ap _ (ownBlk _ _ _) hb), fun b hb => by rw [ownBlk] at hb; rw [← Option.some.inj hb]; exact hg, h.f3, fun b h1 h2 => by rw [ownBlk] at h1; exact h.ap b (by rw [ownBlk]; exact h1) h2, h.keep.next hk (fun b hb e => by omega), h.low⟩
end Go.Proofs.Ythbocacnfhpidaa

namespace Go.Proofs.Ythbocacnfhpidaa
set_option maxRecDepth 100000
set_option maxHeartbeats 4000000
open Go.RowKit
set_option linter.unusedVariables false
set_option linter.unusedSimpArgs false
def rdI (w : World) (a : Addr) : Int := match w.cell? a with | some (.int _ x) => x | _ => 0
def muOf (fs : List F5) (w : World) (v : Value) : Nat := match v with
  | .slice (some ⟨g, _, _⟩) n _ => mu fs ((List.range n).map (fun k => (rdI w ⟨g, k * 4, none⟩, rdI w ⟨g, k * 4 + 1, none⟩, rdI w ⟨g, k * 4 + 2, none⟩, rdI w ⟨g, k * 4 + 3, none⟩)))
  | _ => 0
theorem PuM.muOf {w wr : World} {lo : Nat} {la : Option Addr} {ln lc : Nat} {left : List Q4} {sa : Option Addr} {sn sc : Nat} {st : List U3} (h : PuM w wr lo la ln lc left sa sn sc st) (fs : List F5) : muOf fs wr (.slice la ln lc) = mu fs left := by
  have hl := h.len4
  by_cases h0 : left = []
  · subst h0
    have : ln = 0 := by simpa using hl.symm
    subst this
    cases la with
    | none => rfl
    | some a => obtain ⟨g, o, q⟩ := a; rfl
  · have hp : 0 < left.length := List.length_pos_iff.2 h0
    obtain ⟨g, rfl, _⟩ := h.cells 0 hp
    show mu fs _ = _
    congr 1
    apply List.ext_getElem?
    intro k
    by_cases hk : k < left.length
    · obtain ⟨g', e, _, _, _, c0, c1, c2, c3, _⟩ := h.cells k hk
      injection e with e
      injection e with e
      subst e
      rw [List.getElem?_map, List.getElem?_eq_getElem (by simpa using (by omega : k < ln)), List.getElem?_eq_getElem hk]
      have hg : left.getD k q4z = left[k] := by rw [List.getD_eq_getElem?_getD, List.getElem?_eq_getElem hk]; rfl
      rw [hg] at c0 c1 c2 c3
      simp [rdI, c0, c1, c2, c3]
    · rw [List.getElem?_eq_none (by simp; omega), List.getElem?_eq_none (by omega)]
theorem RdFr.cs {w : World} {va : Option Addr} {vc : Nat} {ps : List StLogFrame} {L : Nat} (hL : ps.length = L) (h : RdFr w (.slice va L vc) ps) (h0 : 0 < L) : ∃ b off, va = some ⟨b, off, none⟩ ∧ FrC w b off ps := by
  subst hL
  rcases h.row.row with ⟨rfl, _⟩ | ⟨b, off, c, e, hc⟩
  · simp at h0
  · injection e with e1 e2 e3
    exact ⟨b, off, e1, hc⟩
theorem any_no {f : Q4 → Bool} {ls : List Q4} (h : ∀ (k : Nat), k < ls.length → f (ls.getD k q4z) = false) : ls.any f = false := by
  rw [List.any_eq_false]
  intro x hx
  obtain ⟨k, hk, rfl⟩ := List.getElem_of_mem hx
  have := h k hk
  rw [List.getD_eq_getElem?_getD, List.getElem?_eq_getElem hk] at this
  simpa using this
theorem any_yes {f : Q4 → Bool} {ls : List Q4} (k : Nat) (h : k < ls.length) (hf : f (ls.getD k q4z) = true) : ls.any f = true := by
  rw [List.getD_eq_getElem?_getD, List.getElem?_eq_getElem h] at hf
  exact List.any_eq_true.2 ⟨_, List.getElem_mem h, hf⟩
theorem nbq_no {f : Q4 → Q4 → Bool} {ls : List Q4} (h : ∀ (k : Nat), k + 1 < ls.length → f (ls.getD k q4z) (ls.getD (k + 1) q4z) = false) : nbg f ls = false := nbg_no (fun k hk => by
  have := h k hk
  rw [List.getD_eq_getElem?_getD, List.getD_eq_getElem?_getD, List.getElem?_eq_getElem hk, List.getElem?_eq_getElem (by omega : k < ls.length)] at this
  exact this)
theorem nbq_yes {f : Q4 → Q4 → Bool} {ls : List Q4} (k : Nat) (h : k + 1 < ls.length) (hf : f (ls.getD k q4z) (ls.getD (k + 1) q4z) = true) : nbg f ls = true := nbg_yes k h (by
  rw [List.getD_eq_getElem?_getD, List.getD_eq_getElem?_getD, List.getElem?_eq_getElem h, List.getElem?_eq_getElem (by omega : k < ls.length)] at hf
  exact hf)
theorem take_snoc {ls : List Q4} {k : Nat} (h : k < ls.length) : ls.take (k + 1) = ls.take k ++ [ls.getD k q4z] := by
  rw [List.take_succ_eq_append_getElem h, List.getD_eq_getElem?_getD, List.getElem?_eq_getElem h]
  rfl
theorem PuM.far {w wr wx : World} {lo : Nat} {la : Option Addr} {ln lc : Nat} {left : List Q4} {sa : Option Addr} {sn sc : Nat} {st : List U3} (h : PuM w wr lo la ln lc left sa sn sc st) {B : Nat} (hk : Kept (fun b => b = B) wr wx) (h4 : ∀ b, (Value.slice la ln lc).ownBlock = some b → b ≠ B) (h3 : ∀ b, (Value.slice sa sn sc).ownBlock = some b → b ≠ B) (hw : w.heap.size ≤ B) : PuM w wx lo la ln lc left sa sn sc st :=
  ⟨h.own4.kept hk h4, h.own3.kept hk h3, h.f4, h.f3, h.ap, h.keep.next hk (fun b hb e => by omega), h.low⟩
end Go.Proofs.Ythbocacnfhpidaa

namespace Go.Proofs.Ythbocacnfhpidaa
set_option maxRecDepth 100000
set_option maxHeartbeats 4000000
open Go.RowKit
set_option linter.unusedVariables false
set_option linter.unusedSimpArgs false
structure StUndoPlan where
  code : Int
  steps : FR
def StUndoPlan.val (x : StUndoPlan) : Value := .agg #[.int .i64 x.code, x.steps.v]
def StUndoPlan.rows (x : StUndoPlan) : List Row := (x.steps).rows 3
def StUndoPlan.dat (x : StUndoPlan) : Int × List Int := (x.code, x.steps.bs)
def StUndoPlan.size (x : StUndoPlan) : Int := (x.steps.bs.length : Int)
theorem StUndoPlan.size_le (x : StUndoPlan) : 0 ≤ x.size := by
  unfold StUndoPlan.size
  omega
def StUndoPlan.marked (x : StUndoPlan) (k : Int) : StUndoPlan := ⟨x.code, x.steps.marked (k)⟩
theorem StUndoPlan.foot_marked (x : StUndoPlan) (k : Int) (b : Nat) : FootL (x.marked k).rows b ↔ FootL x.rows b := by
  exact FR.foot_marked 3 _ _ b
def StUndoPlan.rd (w : World) (x : StUndoPlan) : Prop := RdF 3 w x.steps
theorem StUndoPlan.rd.kept {R : Nat → Prop} {w w' : World} {x : StUndoPlan} (h : StUndoPlan.rd w x) (hk : Kept R w w') (hr : ∀ b, FootL x.rows b → ¬ R b) : StUndoPlan.rd w' x :=
  RdF.kept (h) hk (fun b hb => hr b (((FootL_one _ _).2 hb)))
theorem StUndoPlan.rd.same {w w' : World} {x : StUndoPlan} (h : StUndoPlan.rd w x) (hk : Same w w') : StUndoPlan.rd w' x := h.kept hk (fun _ _ => id)
theorem StUndoPlan.own_rd {w : World} {x : StUndoPlan} (h : OwnL w x.rows) : StUndoPlan.rd w x :=
  (FR.own_rd h)
def StUndoPlan.szs (x : StUndoPlan) : Int := (x.steps.n : Int)
theorem StUndoPlan.szs_le (x : StUndoPlan) : 0 ≤ x.szs := by
  unfold StUndoPlan.szs
  omega
theorem eqUndoPlan_own (x y : StUndoPlan) (w : World) (hn : x.size ≤ 1125899906842624) (hd : x.dat = y.dat) (ha : OwnL w x.rows) (hb : OwnL w y.rows) :
    Calls Try.prog 10 #[x.val, y.val] w fun e w' => e = .returned (.bool true) ∧ Same w w' := by
  obtain ⟨xcode, ⟨xsteps_e, xsteps_a, xsteps_n, xsteps_c, xsteps_b⟩⟩ := x
  obtain ⟨ycode, ⟨ysteps_e, ysteps_a, ysteps_n, ysteps_c, ysteps_b⟩⟩ := y
  simp only [StUndoPlan.dat, Prod.mk.injEq] at hd
  obtain ⟨rfl, rfl⟩ := hd
  simp only [StUndoPlan.size] at hn
  have Hx0 := (show Hid (OwnL w [⟨xsteps_e, 3, .slice xsteps_a xsteps_n xsteps_c, xsteps_n, vals .i64 xsteps_b⟩]) from ha)
  have Hy0 := (show Hid (OwnL w [⟨ysteps_e, 3, .slice ysteps_a ysteps_n ysteps_c, ysteps_n, vals .i64 xsteps_b⟩]) from hb)
  clear ha hb
  dsimp only [StUndoPlan.val, BS.v, FR.v]
  go_enter Try.func10, Try.ntmps10
  have hk0 : Same w ((w.alloc (.cells #[.int .i64 xcode, .slice xsteps_a xsteps_n xsteps_c] 28)).alloc (.cells #[.int .i64 xcode, .slice ysteps_a ysteps_n ysteps_c] 28)) := ((Kept.refl _ _).alloc _).alloc _
  have HK0 := (show Hid (Same w _) from hk0)
  obtain ⟨_, HBx0, HBy0⟩ := new2 w [.int .i64 xcode, .slice xsteps_a xsteps_n xsteps_c] 28 [.int .i64 xcode, .slice ysteps_a ysteps_n ysteps_c] 28
  clear hk0
  go_wp2_with fail
  refine (eqUndoStepS_own ⟨xsteps_e, xsteps_a, xsteps_n, xsteps_c, xsteps_b⟩ ⟨ysteps_e, ysteps_a, ysteps_n, ysteps_c, xsteps_b⟩ _ (by dsimp only; omega) rfl (Hx0.out.same HK0.out) (Hy0.out.same HK0.out)).mono ?_
  rintro e w1 ⟨rfl, hk⟩
  have HK1 := (show Hid (Same w w1) from HK0.out.trans hk)
  have HBx1 := hid (HBx0.out.same hk)
  have HBy1 := hid (HBy0.out.same hk)
  clear hk HK0 HBx0 HBy0
  go_wp2
  go_ret
  exact ⟨rfl, HK1.out⟩
end Go.Proofs.Ythbocacnfhpidaa

namespace Go.Proofs.Ythbocacnfhpidaa
open Go
section
variable {P : Program} {ops : Array Oper} {Q : Exit → Act → World → Prop} {md : Region.Mode} {S : World → Prop} {s : Nat}
def wpAnyV (P : Program) (md : Region.Mode) (ops : Array Oper) (Q : Exit → Act → World → Prop) (S : World → Prop) (s : Nat) : Nat → Array Bool → Act → World → Prop
  | 0, listed, a, w => Region.ready md ops listed = [] ∧ Q .normal a w
  | fuel + 1, listed, a, w =>
    (Region.ready md ops listed = [] → Q .normal a w) ∧
    ∀ i ∈ Region.ready md ops listed, wpOp P ops Q i (fun a' w' => (i ≠ s → S w') ∧ wpAnyV P md ops Q S s fuel (listed.setIfInBounds i true) a' w') a w
theorem wpAny_of_V : ∀ (fuel : Nat) (listed : Array Bool) (a : Act) (w : World), wpAnyV P md ops Q S s fuel listed a w → wpAny P md ops Q fuel listed a w
  | 0, _, _, _, h => h
  | fuel + 1, _, _, _, h => ⟨h.1, fun i hi => wpOp_mono (fun a' w' h' => wpAny_of_V fuel _ a' w' h'.2) (h.2 i hi)⟩
def waits (md : Region.Mode) (ops : Array Oper) (s i : Nat) : Bool :=
  match ops[s]? with
  | some o => o.after.any fun e => Region.binds md e && e.on == i
  | none => true
theorem waits_spec {i : Nat} (h : waits md ops s i = true) {os : Oper} (ho : ops[s]? = some os) (hn : ∀ e ∈ os.after, Region.binds md e = true → e.on ≠ i) : False := by
  unfold waits at h
  rw [ho] at h
  obtain ⟨e, he, hb⟩ := Array.any_eq_true'.1 h
  simp only [Bool.and_eq_true, beq_iff_eq] at hb
  exact hn e he hb.1 hb.2
theorem ready_apart {listed : Array Bool} {i j : Nat} (hi : i ∈ Region.ready md ops listed) (hj : j ∈ Region.ready md ops listed) {oj : Oper} (hoj : ops[j]? = some oj) :
    ∀ e ∈ oj.after, Region.binds md e = true → e.on ≠ i := by
  rintro e he hb rfl
  obtain ⟨_, o, ho, hall⟩ := mem_ready.1 hj
  obtain rfl : o = oj := by rw [hoj] at ho; exact (Option.some.inj ho).symm
  have hyes := hall e he hb
  have hno := (mem_ready.1 hi).1
  by_cases hl : e.on < listed.size <;> simp_all
def Loose (md : Region.Mode) (ops : Array Oper) (i : Nat) (oi : Oper) (listed : Array Bool) : Prop :=
  ∀ j oj, ops[j]? = some oj → j ≠ i → listed.getD j true = false → (∀ e ∈ oj.after, Region.binds md e = true → e.on ≠ i) → oi.apart ops oj = true
theorem Loose.on {i j : Nat} {oi : Oper} {listed : Array Bool} (h : Loose md ops i oi listed) (hj : listed.getD j true = false) : Loose md ops i oi (listed.setIfInBounds j true) := fun k ok hk hki hun hno =>
  h k ok hk hki (if e : j = k then e ▸ hj else (getD_set_ne true e) ▸ hun) hno
theorem wpAnyV_first {i : Nat} {oi : Oper} {v : Value} (hi : ops[i]? = some oi) (hsel : ∀ (j : Nat) (o : Oper) cs b, ops[j]? = some o → o.op ≠ .select cs b) (hs : waits md ops s i = true)
    (hQ : ∀ c a w, Q (.panic c) (a.put oi.dst v) w → Q (.panic c) a w) (fuel : Nat) : ∀ (listed : Array Bool) (a : Act) (w : World), Loose md ops i oi listed → i ∈ Region.ready md ops listed → YieldsIf P ops S oi v a → S w →
      wpAnyV P md ops Q S s fuel (listed.setIfInBounds i true) (a.put oi.dst v) w → wpAnyV P md ops Q S s (fuel + 1) listed a w := by
  induction fuel with
  | zero =>
    intro listed a w _ hr hy hS H
    constructor
    · intro h0; simp [h0] at hr
    · intro j hj
      by_cases e : j = i
      · exact e ▸ hy.wpOp hi hS ⟨fun _ => hS, H⟩
      · have := ready_mono hj e
        simp [H.1] at this
  | succ fuel ih =>
    intro listed a w hl hr hy hS H
    constructor
    · intro h0; simp [h0] at hr
    · intro j hj
      by_cases e : j = i
      · exact e ▸ hy.wpOp hi hS ⟨fun _ => hS, H⟩
      · obtain ⟨hun, oj, hoj, _⟩ := mem_ready.1 hj
        have hap := ready_apart hr hj hoj
        have hjs : j ≠ s := fun es => waits_spec hs (es ▸ hoj) hap
        refine wpOp_mono ?_ (wpOp_putIf hoj (hl j oj hoj e hun hap) (fun cs b => hsel i oi cs b hi) (fun cs b => hsel j oj cs b hoj) hQ hy (H.2 j (ready_mono hj e)))
        rintro a' w' ⟨hy', hS', hw'⟩
        exact ⟨hS', ih _ a' w' (hl.on hun) (ready_mono hr (Ne.symm e)) hy' (hS' hjs) (by rw [Array.setIfInBounds_comm _ _ e]; exact hw')⟩
theorem wpAnyV_take {i : Nat} {oi : Oper} {v : Value} {fuel : Nat} {listed : Array Bool} {a : Act} {w : World} (d : Option Tmp) (hi : ops[i]? = some oi) (hd : oi.dst = d)
    (hsl : Region.noSelect ops = true) (hf : Region.free md ops listed i = true) (hr : (Region.ready md ops listed).contains i = true) (hs : waits md ops s i = true)
    (hQ : ∀ c a w, Q (.panic c) (a.put d v) w → Q (.panic c) a w) (hy : YieldsIf P ops S oi v a) (hS : S w)
    (h : wpAnyV P md ops Q S s fuel (listed.setIfInBounds i true) (a.put d v) w) : wpAnyV P md ops Q S s (fuel + 1) listed a w := by
  subst hd
  exact wpAnyV_first hi (Region.noSelect_spec hsl) hs hQ fuel listed a w (Region.free_spec hi hf) (by simpa using hr) hy hS h
theorem sA {α : Type} {l : List α} {i : Nat} {a : α} : l.toArray.setIfInBounds i a = (l.set i a).toArray := List.setIfInBounds_toArray ..
theorem s0 {α : Type} {x : α} {xs : List α} {a : α} : (x :: xs).set 0 a = a :: xs := List.set_cons_zero
theorem sS {α : Type} {x : α} {xs : List α} {i : Nat} {a : α} : (x :: xs).set (i + 1) a = x :: xs.set i a := List.set_cons_succ
theorem tk (i d : Nat) {oi : Oper} {v : Value} {fuel : Nat} {listed : Array Bool} {a a' : Act} {w : World} (hS : S w)
    (h : wpAnyV P md ops Q S s fuel (listed.setIfInBounds i true) a' w) (hi : ops[i]? = some oi := by rfl) (hg : Region.wanted oi (yielded ops a.tmps) = true := by rfl) (hd : oi.dst = some d := by rfl)
    (hy : ∀ w, S w → (execOp a.eval oi).run P w = .ok (.value v) w := by intro w hSw; (try dsimp only at hSw); go_simp; (try with_reducible rfl))
    (hsl : Region.noSelect ops = true := by kernel_rfl) (hf : Region.free md ops listed i = true := by kernel_rfl) (hr : (Region.ready md ops listed).contains i = true := by kernel_rfl) (hs : waits md ops s i = true := by kernel_rfl)
    (hQ : ∀ c a w, Q (.panic c) (a.put (some d) v) w → Q (.panic c) a w := by exact fun _ _ _ h => h)
    (ha : a.put (some d) v = a' := by first | (simp only [Act.put, sA, s0, sS]; done) | (simp only [Act.put, sA, s0, sS]; rfl) | rfl) : wpAnyV P md ops Q S s (fuel + 1) listed a w :=
  wpAnyV_take (some d) hi hd hsl hf hr hs hQ (Or.inl ⟨hg, hy⟩) hS (ha ▸ h)
theorem tkV (i d : Nat) (v : Value) {oi : Oper} {fuel : Nat} {listed : Array Bool} {a a' : Act} {w : World} (hS : S w)
    (h : wpAnyV P md ops Q S s fuel (listed.setIfInBounds i true) a' w) (hi : ops[i]? = some oi := by rfl) (hg : Region.wanted oi (yielded ops a.tmps) = true := by rfl) (hd : oi.dst = some d := by rfl)
    (hy : ∀ w, S w → (execOp a.eval oi).run P w = .ok (.value v) w := by intro w hSw; (try dsimp only at hSw); go_simp; (try omega))
    (hsl : Region.noSelect ops = true := by kernel_rfl) (hf : Region.free md ops listed i = true := by kernel_rfl) (hr : (Region.ready md ops listed).contains i = true := by kernel_rfl) (hs : waits md ops s i = true := by kernel_rfl)
    (hQ : ∀ c a w, Q (.panic c) (a.put (some d) v) w → Q (.panic c) a w := by exact fun _ _ _ h => h)
    (ha : a.put (some d) v = a' := by first | (simp only [Act.put, sA, s0, sS]; done) | (simp only [Act.put, sA, s0, sS]; rfl) | rfl) : wpAnyV P md ops Q S s (fuel + 1) listed a w :=
  wpAnyV_take (some d) hi hd hsl hf hr hs hQ (Or.inl ⟨hg, hy⟩) hS (ha ▸ h)
theorem tkS (i d : Nat) {oi : Oper} {fuel : Nat} {listed : Array Bool} {a a' : Act} {w : World} (hS : S w)
    (h : wpAnyV P md ops Q S s fuel (listed.setIfInBounds i true) a' w) (hi : ops[i]? = some oi := by rfl) (hg : Region.wanted oi (yielded ops a.tmps) = false := by rfl) (hd : oi.dst = some d := by rfl)
    (hsl : Region.noSelect ops = true := by kernel_rfl) (hf : Region.free md ops listed i = true := by kernel_rfl) (hr : (Region.ready md ops listed).contains i = true := by kernel_rfl) (hs : waits md ops s i = true := by kernel_rfl)
    (hQ : ∀ c a w, Q (.panic c) (a.put (some d) undef) w → Q (.panic c) a w := by exact fun _ _ _ h => h)
    (ha : a.put (some d) undef = a' := by first | (simp only [Act.put, sA, s0, sS]; done) | (simp only [Act.put, sA, s0, sS]; rfl) | rfl) : wpAnyV P md ops Q S s (fuel + 1) listed a w :=
  wpAnyV_take (some d) hi hd hsl hf hr hs hQ (Or.inr ⟨hg, rfl⟩) hS (ha ▸ h)
theorem wpAnyV_one {i : Nat} {o : Oper} {fuel : Nat} {listed : Array Bool} {a : Act} {w : World} (hr : Region.ready md ops listed = [i]) (ho : ops[i]? = some o)
    (h : ∀ K' : Act → World → Prop, Shut (∀ a w, (i ≠ s → S w) → wpAnyV P md ops Q S s fuel (listed.setIfInBounds i true) a w → K' a w) → if Region.wanted o (yielded ops a.tmps) = true then Oper.wp P o a w K' Q else K' (a.put o.dst undef) w) :
    wpAnyV P md ops Q S s (fuel + 1) listed a w := by
  constructor
  · intro h0; simp [hr] at h0
  · intro j hj
    rw [hr] at hj
    obtain rfl : j = i := by simpa using hj
    exact wpOp_step ho (fun K' hK => h K' (fun a w hS hW => hK a w ⟨hS, hW⟩))
theorem wpAnyV_done {fuel : Nat} {listed : Array Bool} {a : Act} {w : World} (hr : Region.ready md ops listed = []) (h : Q .normal a w) : wpAnyV P md ops Q S s fuel listed a w := by
  cases fuel with
  | zero => exact ⟨hr, h⟩
  | succ n => exact ⟨fun _ => h, by rw [hr]; simp⟩
theorem wp_region_V {id : Nat} {a : Act} {w : World} (S : World → Prop) (s n : Nat) (hn : ops.size = n) (hm : P.follows .mixedOrders = true) (h : wpAnyV P .any ops Q S s n (Array.replicate n false) a w.drew) : (Code.region id ops true).wp P Q a w := by
  subst hn
  exact wp_region_any hm (wpAny_of_V _ _ _ _ h)
end
end Go.Proofs.Ythbocacnfhpidaa
