import Derived.Test.YtljfcdkhicffcaaGreatLockAskS
import Derived.Deep.CutBlock
import Derived.Laws.ResultCell
namespace Go.Proofs.YtljfcdkhicffcaaGreat
set_option linter.unusedVariables false
set_option linter.unusedSimpArgs false
set_option maxRecDepth 100000
set_option maxHeartbeats 8000000
open Go.RowKit Go
abbrev WrD := Int × Bool × List Int
abbrev RcD := Int × List Int
abbrev StD := Int × Int × Int × Int × List Int × List Int
abbrev AnD := Int × Int × Int × List Int × List RcD × Int
def Vj (id : Int) (d : List Int) : Bool → List RcD → List RcD
 | done, [] => if done then [] else [(id, d)]
 | done, r :: rs => (if !done && decide (id < r.1) then [(id, d)] else []) ++ (if decide (r.1 ≠ id) then [r] else []) ++ Vj id d (done || decide (id < r.1)) rs
def ja2 (rs : List RcD) (w : WrD) : List RcD := Vj w.1 w.2.2 (!w.2.1) rs
def Uq (rs : List RcD) (ws : List WrD) : List RcD := ws.foldl ja2 rs
def V9 (id : Int) (o : Bool × List Int) (r : RcD) : Bool × List Int := if r.1 = id then (true, r.2) else o
def X4 (id : Int) (o : Bool × List Int) (w : WrD) : Bool × List Int := if w.1 = id then w.2 else o
def V7 (rs : List RcD) (ws : List WrD) (id : Int) : Bool × List Int := ws.foldl (X4 id) (rs.foldl (V9 id) (false, []))
def Vn (id : Int) (m : Int) (r : RcD) : Int := if r.1 = id then (r.2.length : Int) else m
def Wl (id : Int) (m : Int) (w : WrD) : Int := if w.1 = id then max m (w.2.2.length : Int) else m
def XQ (rs : List RcD) (ws : List WrD) (id : Int) : Int := ws.foldl (Wl id) (rs.foldl (Vn id) 0)
structure PlS where
 up : Bool
 recs : List RcD
 txns : List (Int × List WrD)
 locks : List T3
 told : Int
 cut : List WrD
def Ue (a : AnD) (c : Int) : Bool := decide (a.1 = c) && decide (a.2.1 = 0) && decide (a.2.2.1 = 0) && decide (a.2.2.2.1.length = 0) && decide (a.2.2.2.2.1.length = 0)
def ifB (b : Bool) (st : PlS) : Option PlS := if b then some st else none
def Vo (st : PlS) : PlS := { st with up := false, txns := [], locks := [], told := 0 }
def UH (st : PlS) (a : AnD) : Option PlS :=
 if st.up then ifB (Ue a 11) st
 else if a.1 = 1 ∨ a.1 = 10 then ifB (Ue a a.1) st
 else ifB (decide (a.1 = 0) && decide (a.2.1 = 0) && decide (a.2.2.1 = 0) && decide (a.2.2.2.1.length = 0) && (decide (a.2.2.2.2.1 = st.recs) || decide (a.2.2.2.2.1 = Uq st.recs st.cut))) { st with recs := a.2.2.2.2.1, cut := [], up := true }
def Uw (txns : List (Int × List WrD)) (t : Int) : Option (List WrD) := (txns.find? (fun x => decide (x.1 = t))).map (·.2)
def jap (txns : List (Int × List WrD)) (t : Int) (w : WrD) : List (Int × List WrD) := txns.map fun x => if x.1 = t then (x.1, x.2 ++ [w]) else x
def jfP (txns : List (Int × List WrD)) (t : Int) : List (Int × List WrD) := txns.filter fun x => decide (x.1 ≠ t)
def Vb (ls : List T3) (txn id aw : Int) : List T3 := tri (VI ls txn id aw).2
def Vm (aA : Int) (st : PlS) (txn id : Int) : Bool := decide (id < 0) || decide (aA * 32 ≤ id) || decide (U5 st.locks txn id ≠ 0) || st.recs.any (fun r => decide (r.1 = id)) || st.txns.any (fun t => t.2.any (fun w => decide (w.1 = id)))
def UL (st : PlS) (txn id : Int) (r : Bool × List Int) : PlS := { st with locks := Vb st.locks txn id 2, txns := jap st.txns txn (id, r) }
def Vw (aA : Int) (st : PlS) (ws : List WrD) (s : StD) (a : AnD) : Option PlS :=
 if s.2.2.1 < 0 ∨ aA * 32 ≤ s.2.2.1 then ifB (Ue a 4) st
 else if (VI st.locks s.2.1 s.2.2.1 (if s.1 = 5 then 1 else 2)).1 ≠ 0 then ifB (Ue a 5) st
 else if (V7 st.recs ws s.2.2.1).1 = false then ifB (Ue a 6) { st with locks := Vb st.locks s.2.1 s.2.2.1 (if s.1 = 5 then 1 else 2) }
 else if s.1 = 5 then ifB (decide (a.1 = 0) && decide (a.2.1 = 0) && decide (a.2.2.1 = 0) && decide (a.2.2.2.2.1.length = 0) && decide (a.2.2.2.1 = (V7 st.recs ws s.2.2.1).2)) { st with locks := Vb st.locks s.2.1 s.2.2.1 1 }
 else if Ue a 8 = true ∨ (s.1 = 3 ∧ XQ st.recs ws s.2.2.1 < (s.2.2.2.2.1.length : Int) ∧ Ue a 7 = true) then some st
 else ifB (Ue a 0) (UL st s.2.1 s.2.2.1 (decide (s.1 = 3), s.2.2.2.2.1))
def VX (st : PlS) (a : AnD) : Option PlS :=
 if st.txns.length = 8 then ifB (Ue a 9) st
 else ifB (decide (a.1 = 0) && decide (a.2.2.1 = 0) && decide (a.2.2.2.1.length = 0) && decide (a.2.2.2.2.1.length = 0) && decide (st.told < a.2.1) && decide (1 ≤ a.2.1 ∧ a.2.1 ≤ 2147483647)) { st with told := a.2.1, txns := st.txns ++ [(a.2.1, [])] }
def Zr (st : PlS) (s : StD) (ws : List WrD) : PlS := { st with recs := if s.1 = 6 then Uq st.recs ws else st.recs, locks := tri (Xl st.locks s.2.1).2, txns := jfP st.txns s.2.1 }
def X5 (aA : Int) (st : PlS) (s : StD) (a : AnD) : Option PlS :=
 if s.1 = 1 then VX st a
 else if s.1 = 8 then ifB (Ue a 0 || Ue a 8) st
 else match Uw st.txns s.2.1 with
  | none => ifB (Ue a 2) st
  | some ws =>
   if 1000 < s.2.2.2.2.1.length then ifB (Ue a 3) st
   else if s.1 = 2 then
    if Ue a 7 = true ∨ Ue a 8 = true then some st
    else ifB (decide (a.1 = 0) && decide (a.2.1 = 0) && decide (a.2.2.2.1.length = 0) && decide (a.2.2.2.2.1.length = 0) && !Vm aA st s.2.1 a.2.2.1) (UL st s.2.1 a.2.2.1 (true, s.2.2.2.2.1))
   else if s.1 ≠ 6 ∧ s.1 ≠ 7 then Vw aA st ws s a
   else ifB (Ue a 0) (Zr st s ws)
def UC (st : PlS) (s : StD) : PlS := Vo { st with cut := if s.1 = 6 then (Uw st.txns s.2.1).getD st.cut else st.cut }
def VD (aA : Int) (st : PlS) (s : StD) (a : AnD) : Option PlS :=
 if s.1 = 10 then ifB (Ue a 0) (Vo st)
 else if s.1 = 11 then ifB (Ue a 0) st
 else if s.1 = 9 then UH st a
 else if st.up = false then ifB (Ue a 1) st
 else if Ue a 1 = true then some (UC st s)
 else X5 aA st s a
def U9 (ws : List WrD) (id : Int) : Option (Bool × List Int) := ws.foldl (fun o w => if w.1 = id then some w.2 else o) none
def UG (ws : List WrD) : Nat → List WrD
 | 0 => []
 | n + 1 => UG ws n ++ (match U9 ws (n : Int) with | none => [] | some d => [((n : Int), d)])
def U0 (recs : List RcD) : PlS := ⟨false, recs, [], [], 0, []⟩
def Xm (aA : Int) (ss : List StD) (al : List AnD) (st : PlS) : Nat → Sum Nat PlS
 | 0 => .inr st
 | k + 1 => match Xm aA ss al st k with
  | .inl i => .inl i
  | .inr cJ => match VD aA cJ (ss.getD k (0, 0, 0, 0, [], [])) (al.getD k (0, 0, 0, [], [], 0)) with
   | none => .inl k
   | some st'' => .inr st''
variable {E : Type}
section
variable {K : RowK E} {base : Nat} {tw tb : TypeId} {w w' : World} {v : Value} {qs : List E}
theorem OwnR.snoc {g n cap : Nat} (p : E) (h : OwnR K base tw tb w v qs) (hu : Own base tb .u8 w (K.v p) (K.bs p)) (zS : ∀ b, (K.v p).ownBlock = some b → ¬ Uc K v qs b)
  (hg : w.grownBy w' v.ownBlock) (aX : w'.ownsRow base tw K.m (Q4 g (n + 1) cap) (n + 1) (K.all qs ++ K.cells p)) (hn : n = qs.length) (bU : v.ownBlock = some g ∨ g = w.heap.size) :
  OwnR K base tw tb w' (Q4 g (n + 1) cap) (qs ++ [p]) := by
 have hk : Kept (fun b => v.ownBlock = some b) w w' := Kept.of_grown hg (fun k e => e);have I6 : ∀ b, (K.v p).ownBlock = some b → b < w.heap.size := fun b hb => (hu.lt b hb).2
 have Ks : (K.v p).ownBlock ≠ some g := fun e => by
  rcases bU with bU | bU
  ·exact zS g e (.inl bU)
  ·have := I6 g e; omega
 have Ig : ∀ q ∈ qs, (K.v q).ownBlock ≠ some g := fun q hp e => by
  rcases bU with bU | bU
  ·exact h.out (K.v q) (List.mem_map_of_mem hp) g bU e
  ·have := (h.lt g (.inr ⟨q, hp, e⟩)).2; omega
 refine ⟨?_, fun q hp => ?_, fun x hx => ?_, ?_⟩
 ·have e : K.all (qs ++ [p]) = K.all qs ++ K.cells p := by rw [K.all_append]; simp [RowK.all]
  rw [e, List.length_append, List.length_singleton, ← hn];exact aX
 ·rcases List.mem_append.1 hp with hp | hp
  ·exact (h.data q hp).kept hk (fun b hb e => h.out (K.v q) (List.mem_map_of_mem hp) b e hb)
  ·simp at hp
   subst hp;exact hu.kept hk (fun b hb e => zS b hb (.inl e))
 ·rw [List.map_append, List.mem_append] at hx
  intro b hb
  have bw : b = g := by simpa [Value.ownBlock] using hb.symm
  subst bw
  rcases hx with hx | hx
  ·obtain ⟨q, hp, rfl⟩ := List.mem_map.1 hx
   exact Ig q hp
  ·simp at hx
   subst hx;exact Ks
 ·rw [List.map_append]
  refine List.pairwise_append.2 ⟨h.each, by simp, fun x hx y hy => ?_⟩;obtain ⟨q, hp, rfl⟩ := List.mem_map.1 hx;simp at hy;subst hy;exact fun b hb bw => zS b bw (.inr ⟨q, hp, hb⟩)
theorem YI {g n cap : Nat} {p : E} (b : Nat) (hb : Uc K (Q4 g n cap) (qs ++ [p]) b) : b = g ∨ Uc K v qs b ∨ (K.v p).ownBlock = some b := by
 rcases hb with hb | ⟨q, hp, hb⟩
 ·exact .inl (by simpa [Value.ownBlock] using hb.symm)
 ·rcases List.mem_append.1 hp with hp | hp
  ·exact .inr (.inl (.inr ⟨q, hp, hb⟩))
  ·simp at hp
   subst hp;exact .inr (.inr hb)
theorem jeX (b : Nat) : ¬ Uc K (V0) [] b := by
 rintro (h | ⟨p, hp, _⟩)
 ·simp [Value.ownBlock] at h
 ·simp at hp
theorem jcx {qs : List E} {k : Nat} (h : k < qs.length) : qs = qs.take k ++ qs[k] :: qs.drop (k + 1) := by
 rw [← List.drop_eq_getElem_cons h, List.take_append_drop]
theorem set_mid {qs : List E} {k : Nat} (h : k < qs.length) (p : E) : qs.set k p = qs.take k ++ p :: qs.drop (k + 1) := List.set_eq_take_append_cons_drop.trans (if_pos h)
theorem OwnR.setAt {g n cap k : Nat} {p' : E} (h : OwnR K base tw tb w (Q4 g n cap) qs) (hn : n = qs.length) (hk : k < qs.length) (i : Nat) (u : Value) (hi : i < K.m)
  (hc : K.cells p' = (K.cells qs[k]).set i u) (hv : K.v p' = K.v qs[k]) (hb : K.bs p' = K.bs qs[k]) (j : Nat) (hj : j = k * K.m + i) :
  OwnR K base tw tb (w.setCell ⟨g, j, none⟩ u) (Q4 g n cap) (qs.set k p') := by
 have h' := h;rw [jcx hk] at h';rw [set_mid hk];exact OwnR.set h' (by rw [← jcx hk]; exact hn) i u hi hc hv hb j (by rw [List.length_take, Nat.min_eq_left (Nat.le_of_lt hk)]; exact hj)
end
def KO (G : Obj → Prop) (w w' : World) : Prop := Kept (fun b => ∃ o, w.heap[b]? = some o ∧ G o) w w'
theorem KO.refl (G : Obj → Prop) (w : World) : KO G w w := kZ0
theorem KO.same {G : Obj → Prop} {w w' : World} (h : Same w w') : KO G w w' := h.mono (fun _ _ e => e.elim)
theorem KO.trans {G : Obj → Prop} {w w1 w2 : World} (h : KO G w w1) (h2 : KO G w1 w2) : KO G w w2 := by
 refine ⟨h2.os.trans h.os, h2.tape.trans h.tape, h2.output.trans h.output, Nat.le_trans h.size h2.size, fun i hi hn => ?_⟩;have h1 := h.block i hi hn;refine (h2.block i (Nat.lt_of_lt_of_le hi h.size) (fun ⟨o, ho, hg⟩ => hn ⟨o, ?_, hg⟩)).trans h1;rw [← h1];exact ho
theorem KO.of {G : Obj → Prop} {R : Nat → Prop} {w w' : World} (h : Kept R w w') (hR : ∀ b, b < w.heap.size → R b → ∃ o, w.heap[b]? = some o ∧ G o) : KO G w w' := h.mono hR
def RdG (G : Obj → Prop) (w : World) (v : Value) (bs : List Int) : Prop := ∀ w', KO G w w' → Rd .u8 w' v bs
theorem RdG.here {G : Obj → Prop} {w : World} {v : Value} {bs : List Int} (h : RdG G w v bs) : Rd .u8 w v bs := h w (KO.refl G w)
theorem RdG.on {G : Obj → Prop} {w w' : World} {v : Value} {bs : List Int} (h : RdG G w v bs) (hk : KO G w w') : RdG G w' v bs := fun w2 h2 => h w2 (hk.trans h2)
theorem RdG.same {G : Obj → Prop} {w w' : World} {v : Value} {bs : List Int} (h : RdG G w v bs) (hk : Same w w') : RdG G w' v bs := h.on (KO.same hk)
theorem UM {w : World} {e : TypeId} {m n : Nat} {v : Value} {xs : List Value} {b : Nat} (h : w.ownsRow 0 e m v n xs) (hb : v.ownBlock = some b) : ∃ cs, w.heap[b]? = some (.cells cs e (0, 0)) := by
 obtain ⟨_, h⟩ := h
 rcases h with ⟨rfl, _⟩ | ⟨g, c, cs, rfl, _, hB, _⟩
 ·simp [Value.ownBlock] at hb
 ·have e2 : g = b := (by simpa [Value.ownBlock] using hb)
  subst e2;exact ⟨cs, hB⟩
theorem Zt {G : Obj → Prop} {w w' : World} {e : TypeId} {m n : Nat} {v : Value} {xs : List Value} (h : w.ownsRow 0 e m v n xs) (hG : ∀ cs, ¬ G (.cells cs e (0, 0))) (hk : KO G w w') : w'.ownsRow 0 e m v n xs :=
 Kept.owns hk h (fun b hb ⟨o, ho, hg⟩ => by
  obtain ⟨cs, hc⟩ := UM h hb;rw [hc] at ho
  exact hG cs (by cases ho; exact hg))
theorem Own.rdG {G : Obj → Prop} {w : World} {e : TypeId} {v : Value} {bs : List Int} (h : Own 0 e .u8 w v bs) (hG : ∀ cs, ¬ G (.cells cs e (0, 0))) : RdG G w v bs := fun w' hk => (show Own 0 e .u8 w' v bs from Zt h hG hk).rd
theorem OwnR.onG {E : Type} {K : RowK E} {G : Obj → Prop} {tw tb : TypeId} {w w' : World} {v : Value} {ps : List E} (h : OwnR K 0 tw tb w v ps) (hw : ∀ cs, ¬ G (.cells cs tw (0, 0))) (hb : ∀ cs, ¬ G (.cells cs tb (0, 0))) (hk : KO G w w') : OwnR K 0 tw tb w' v ps :=
 ⟨Zt h.row hw hk, fun p hp => Zt (h.data p hp) hb hk, h.out, h.each⟩
structure EWr where
 id : Int
 us : Bool
 v : Value
 bs : List Int
def kWr : RowK EWr := ⟨3, fun p => [V p.id, .bool p.us, p.v], fun _ => rfl, EWr.v, EWr.bs⟩
def EWr.dat (p : EWr) : WrD := (p.id, p.us, p.bs)
def TU (ps : List EWr) : List WrD := ps.map EWr.dat
structure OwW (G : Obj → Prop) (w : World) (v : Value) (ps : List EWr) : Prop where
 row : w.ownsRow 0 112 3 v ps.length (kWr.all ps)
 data : ∀ p ∈ ps, RdG G w p.v p.bs
theorem OwW.same {G : Obj → Prop} {w w' : World} {v : Value} {ps : List EWr} (h : OwW G w v ps) (hk : Same w w') : OwW G w' v ps := ⟨hk.owns h.row (fun _ _ => id), fun p hp => (h.data p hp).same hk⟩
theorem OwW.kept {G : Obj → Prop} {R : Nat → Prop} {w w' : World} {v : Value} {ps : List EWr} (h : OwW G w v ps) (hk : Kept R w w') (hR : ∀ b, v.ownBlock = some b → ¬ R b) (hG : KO G w w') : OwW G w' v ps := ⟨hk.owns h.row hR, fun p hp => (h.data p hp).on hG⟩
theorem OwW.nil (G : Obj → Prop) (w : World) : OwW G w (V0) [] := ⟨⟨by simp [RowK.all], .inl ⟨rfl, rfl⟩⟩, fun p hp => by simp at hp⟩
theorem OwW.form {G : Obj → Prop} {w : World} {v : Value} {ps : List EWr} (h : OwW G w v ps) : ∃ a c, v = .slice a ps.length c := by
 obtain ⟨_, h⟩ := h.row
 rcases h with ⟨rfl, h1⟩ | ⟨g, c, cs, rfl, _⟩
 ·exact ⟨_, _, by rw [h1]⟩
 ·exact ⟨_, _, rfl⟩
theorem VE {E : Type} {K : RowK E} {w : World} {e : TypeId} {g n cap : Nat} {ps : List E} (h : w.ownsRow 0 e K.m (Q4 g n cap) ps.length (K.all ps)) (j i : Nat) (hj : j < ps.length) (hi : i < K.m) : w.cell? ⟨g, j * K.m + i, none⟩ = (K.cells ps[j])[i]? := by
 have hn : n = ps.length := by
  rcases h.2 with ⟨h, _⟩ | ⟨_, _, _, h, _⟩
  ·cases h
  ·injection h
 subst hn;rw [World.ownsRow.cellAt h (j * K.m + i) (by have := Nat.mul_le_mul_right K.m (Nat.succ_le_of_lt hj); rw [Nat.succ_mul] at this; omega), K.all_at ps j i hj hi]
theorem jbm (ps : List EWr) : (TU ps).length = ps.length := by simp [TU]
theorem jfQ {ps qs : List EWr} (h : TU ps = TU qs) (k : Nat) (h1 : k < ps.length) (h2 : k < qs.length) : ps[k].dat = qs[k].dat := by
 have := congrArg (fun l => l[k]?) h
 simpa [TU, h1, h2] using this
def UY : List EWr → Nat
 | [] => 0
 | p :: ps => p.bs.length + UY ps
theorem jfR {ta tb : TypeId} (base : Nat) (us : Bool) (va vb : Value) (bs : List Int) (w : World) (hn : bs.length ≤ 1125899906842624) (ha : Own base ta .u8 w va bs) (hb : Own base tb .u8 w vb bs) :
  Calls Tryz.prog 169 #[.agg #[.bool us, va], .agg #[.bool us, vb]] w fun e w' => e = .returned (.bool true) ∧ Same w w' := by
 obtain ⟨aa, na, ca, rfl⟩ := UD ha;obtain ⟨ab, nb, cb, rfl⟩ := UD hb;have HA : Hid (Own base ta .u8 w (.slice aa na ca) bs) := ha;have HB : Hid (Own base tb .u8 w (.slice ab nb cb) bs) := hb;have b0 := (Blk.newL w [.bool us, .slice aa na ca] 110).same (kZ0.alloc (.cells #[.bool us, .slice ab nb cb] 110));have b1 := Blk.newB w [.bool us, .slice aa na ca] 110 [.bool us, .slice ab nb cb] 110;clear ha hb
 go_enter Tryz.func169, Tryz.ntmps169
 go_wp2_with fail
 refine (WV base _ _ bs _ hn (HA.out.same ((kZ0.alloc _).alloc _)) (HB.out.same ((kZ0.alloc _).alloc _))).mono ?_;rintro e w1 ⟨rfl, n1, hw⟩
 have hk : Same ((w.alloc (.cells #[.bool us, .slice aa na ca] 110)).alloc (.cells #[.bool us, .slice ab nb cb] 110)) w1 := by rw [hw]; exact kZ0.drewN _
 clear hw;go_wp2;go_ret;exact ⟨rfl, ((kZ0.alloc _).alloc _).trans hk⟩
theorem Z5 {ta tb : TypeId} (base : Nat) (id : Int) (us : Bool) (va vb : Value) (bs : List Int) (w : World) (hn : bs.length ≤ 1125899906842624) (ha : Own base ta .u8 w va bs) (hb : Own base tb .u8 w vb bs) :
  Calls Tryz.prog 131 #[.agg #[V id, .bool us, va], .agg #[V id, .bool us, vb]] w fun e w' => e = .returned (.bool true) ∧ Same w w' := by
 obtain ⟨aa, na, ca, rfl⟩ := UD ha;obtain ⟨ab, nb, cb, rfl⟩ := UD hb;have HA : Hid (Own base ta .u8 w (.slice aa na ca) bs) := ha;have HB : Hid (Own base tb .u8 w (.slice ab nb cb) bs) := hb;have b0 := (Blk.newL w [V id, .bool us, .slice aa na ca] 112).same (kZ0.alloc (.cells #[V id, .bool us, .slice ab nb cb] 112));have b1 := Blk.newB w [V id, .bool us, .slice aa na ca] 112 [V id, .bool us, .slice ab nb cb] 112;clear ha hb
 go_enter Tryz.func131, Tryz.ntmps131
 go_wp2_with fail
 refine (jfR base us _ _ bs _ hn (HA.out.same ((kZ0.alloc _).alloc _)) (HB.out.same ((kZ0.alloc _).alloc _))).mono ?_;rintro e w1 ⟨rfl, hk⟩;go_wp2;go_ret;exact ⟨rfl, ((kZ0.alloc _).alloc _).trans hk⟩
theorem Zu {ta tb : TypeId} (base : Nat) (va vb : Value) (ps qs : List EWr) (w : World) (hn : ps.length ≤ 1125899906842624) (hs : TU ps = TU qs) (gR : ∀ p ∈ ps, p.bs.length ≤ 1125899906842624)
  (ha : OwnR kWr base 112 ta w va ps) (hb : OwnR kWr base 112 tb w vb qs) :
  Calls Tryz.prog 109 #[va, vb] w fun e w' => e = .returned (.bool true) ∧ Same w w' := by
 have az : qs.length = ps.length := by rw [← jbm, ← jbm, hs]
 by_cases hz : ps.length = 0
 ·obtain rfl : ps = [] := List.length_eq_zero_iff.1 hz
  obtain rfl : qs = [] := List.length_eq_zero_iff.1 az
  obtain ⟨aa, ca, rfl⟩ : ∃ aa ca, va = .slice aa 0 ca := by rcases ha.form with ⟨rfl, _⟩ | ⟨g, cap, rfl, _⟩ <;> exact ⟨_, _, rfl⟩
  obtain ⟨ab, cb, rfl⟩ : ∃ aa ca, vb = .slice aa 0 ca := by rcases hb.form with ⟨rfl, _⟩ | ⟨g, cap, rfl, _⟩ <;> exact ⟨_, _, rfl⟩
  clear ha hb hn hz hs
  go_enter Tryz.func109, Tryz.ntmps109
  go_wp2;refine wp_loop_rounds 1 ?_;rw [rounds_succ];go_wp2;go_ret;exact ⟨rfl, kZ0⟩
 ·obtain ⟨ga, ca, rfl⟩ : ∃ g cap, va = Q4 g ps.length cap := by
   rcases ha.form with ⟨_, h⟩ | ⟨g, cap, h, _⟩
   ·simp [h] at hz
   ·exact ⟨g, cap, h⟩
  obtain ⟨gb, cb, rfl⟩ : ∃ g cap, vb = Q4 g ps.length cap := by
   rcases hb.form with ⟨_, h⟩ | ⟨g, cap, h, _⟩
   ·simp [h] at az; omega
   ·exact ⟨g, cap, by rw [h, az]⟩
  have HA : Hid (OwnR kWr base 112 ta w (Q4 ga ps.length ca) ps) := ha;have HB : Hid (OwnR kWr base 112 tb w (Q4 gb ps.length cb) qs) := hb;have HQ : Hid (qs.length = ps.length) := az;have HS : Hid (TU ps = TU qs) := hs;have HM : Hid (∀ p ∈ ps, p.bs.length ≤ 1125899906842624) := gR;clear ha hb hs az gR;generalize hl : ps.length = len at hn hz HA HB ⊢;have HL : Hid (ps.length = len) := hl;clear hl
  go_enter Tryz.func109, Tryz.ntmps109
  go_wp2
  go_loopw [5] (fun i wr => ∃ (k : Nat), k ≤ len ∧ i = V k ∧ Hid (Same w wr)) (fun i _ => len - (intOf i).toNat)
  case atStart => exact ⟨0, Nat.zero_le _, rfl, kZ0⟩
  case round =>
   obtain ⟨k, hk, rfl, HK⟩ := hrel
   by_cases aG : k < len
   ·have aF : k < ps.length := by rw [HL.out]; exact aG
    have cV : k < qs.length := by rw [HQ.out]; exact aF
    have ef := HA.out.same HK.out;have d8 := HB.out.same HK.out;have ek := jfQ HS.out k aF cV;simp only [EWr.dat, Prod.mk.injEq] at ek;obtain ⟨d0, d1, d2⟩ := ek;have s3 := HM.out _ (List.getElem_mem aF);have l7 : wr.cell? ⟨ga, k * 3, none⟩ = some (V ps[k].id) := ef.cell HL.out.symm k 0 aF (by decide);have l4 : wr.cell? ⟨ga, k * 3 + 1, none⟩ = some (.bool ps[k].us) := ef.cell HL.out.symm k 1 aF (by decide);have rM : wr.cell? ⟨ga, k * 3 + 2, none⟩ = some (ps[k].v) := ef.cell HL.out.symm k 2 aF (by decide)
    have bR : wr.cell? ⟨gb, k * 3, none⟩ = some (V ps[k].id) := by rw [d0]; exact d8.cell (by rw [HQ.out, HL.out]) k 0 cV (by decide)
    have cW : wr.cell? ⟨gb, k * 3 + 1, none⟩ = some (.bool ps[k].us) := by rw [d1]; exact d8.cell (by rw [HQ.out, HL.out]) k 1 cV (by decide)
    have aV : wr.cell? ⟨gb, k * 3 + 2, none⟩ = some (qs[k].v) := d8.cell (by rw [HQ.out, HL.out]) k 2 cV (by decide);have mM : Hid (Own base ta .u8 wr ps[k].v ps[k].bs) := ef.data _ (List.getElem_mem aF)
    have nm : Hid (Own base tb .u8 wr qs[k].v ps[k].bs) := by have := d8.data _ (List.getElem_mem cV); rw [d2]; exact this
    clear d0 d1 d2 ef d8
    go_wp2_with fail
    go_region_with (go_at_call 131; refine (Z5 base ps[k].id ps[k].us ps[k].v qs[k].v ps[k].bs _ s3 (by exact mM.out.same kZ0.drew) (by exact nm.out.same kZ0.drew)).mono ?_; rintro e w1 ⟨rfl, af⟩)
    all_goals
     have ao : Hid (Same w w1) := HK.out.drew.trans af;clear af l7 bR l4 cW rM aV mM nm;go_wp2;go_roundw
     case rel => exact ⟨k + 1, by omega, by go_num, ao⟩
     case measure => simp [intOf]; omega
   ·go_wp2
    go_ret;exact ⟨rfl, HK.out⟩
def mHeapWrite : MarkK kWr := ⟨fun k p => ⟨k, (k + 1) % 3 == 0, p.v, marks (k + 1 + 1) p.bs.length⟩, fun p => 2 + p.bs.length, fun _ _ => rfl⟩
theorem YJ (k : Int) (ps : List EWr) : Ug mHeapWrite k ps = k + 2 * ps.length + UY ps := by
 induction ps generalizing k with
 | nil => simp [Ug, UY]
 | cons p ps ih =>
  have h : ((mHeapWrite.sz p : Nat) : Int) = 2 + (p.bs.length : Int) := by simp [mHeapWrite]
  simp only [Ug, ih, UY, List.length_cons];omega
theorem YK {tb : TypeId} (base : Nat) (va : Value) (ps : List EWr) (k0 : Int) (w : World) (h0 : 0 ≤ k0) (h1 : Ug mHeapWrite k0 ps ≤ 1125899906842624) (hn : ps.length ≤ 1125899906842624)
  (ha : OwnR kWr base 112 tb w va ps) :
  Calls Tryz.prog 78 #[va, V k0] w fun e w' => e = .returned (V (Ug mHeapWrite k0 ps)) ∧ OwnR kWr base 112 tb w' va (Uk mHeapWrite k0 ps) ∧ Kept (Uc kWr va ps) w w' := by
 by_cases hz : ps.length = 0
 ·obtain rfl : ps = [] := List.length_eq_zero_iff.1 hz
  obtain ⟨aa, ca, rfl⟩ : ∃ aa ca, va = .slice aa 0 ca := by rcases ha.form with ⟨rfl, _⟩ | ⟨g, cap, rfl, _⟩ <;> exact ⟨_, _, rfl⟩
  have HA : Hid (OwnR kWr base 112 tb w (.slice aa 0 ca) []) := ha;clear ha hn hz h1
  go_enter Tryz.func78, Tryz.ntmps78
  go_wp2;refine wp_loop_rounds 1 ?_;rw [rounds_succ];go_wp2;go_ret;exact ⟨by simp [Ug], by simpa [Uk] using HA.out, kZ0⟩
 ·obtain ⟨g, cap, rfl, hb, aG, _, _⟩ : ∃ g cap, va = Q4 g ps.length cap ∧ base ≤ g ∧ g < w.heap.size ∧ ps.length ≤ cap ∧ cap ≤ maxLen := by
   rcases ha.form with ⟨_, rfl⟩ | h
   ·simp at hz
   ·exact h
  have H1 : Hid (Ug mHeapWrite k0 ps ≤ 1125899906842624) := h1;have iJ : Hid (OwnR kWr base 112 tb w (Q4 g ps.length cap) ps) := ha;clear h1 ha;generalize hl : ps.length = len at *;have HL : Hid (ps.length = len) := hl;clear hl
  go_enter Tryz.func78, Tryz.ntmps78
  go_wp2
  go_loopw [1, 5] (fun v i wr => ∃ (k : Nat) (c : Int), k ≤ len ∧ i = V k ∧ v = V c ∧ Hid (c = Ug mHeapWrite k0 (ps.take k)) ∧ Hid (OwnR kWr base 112 tb wr (Q4 g len cap) (Wj mHeapWrite k0 ps k)) ∧ Hid (Kept (Uc kWr (Q4 g len cap) ps) w wr)) (fun _ i _ => len - (intOf i).toNat)
  case atStart => exact ⟨0, k0, Nat.zero_le _, rfl, rfl, rfl, by rw [YD]; exact iJ.out, kZ0⟩
  case round =>
   obtain ⟨k, c, hk, rfl, rfl, HC, HO, HK⟩ := hrel
   by_cases aG : k < len
   ·have aF : k < ps.length := by rw [HL.out]; exact aG
    have oV : k0 ≤ c := by rw [HC.out]; exact Vu _ _ _
    have dm := Wx mHeapWrite k0 ps k aF
    have li : c + 2 + ps[k].bs.length ≤ 1125899906842624 := by have h2 := Vv mHeapWrite k0 ps (k + 1); have h3 := H1.out; have h4 := HC.out; simp only [mHeapWrite] at dm; simp only [mHeapWrite] at h2 h3 h4; omega
    have eo := (show Hid (Ug mHeapWrite k0 (ps.take (k + 1)) = Ug mHeapWrite k0 (ps.take k) + (mHeapWrite.sz ps[k] : Nat)) from dm);clear dm
    have cK : Hid (OwnR kWr base 112 tb wr (Q4 g len cap) (Uk mHeapWrite k0 (ps.take k) ++ ps[k] :: ps.drop (k + 1))) := by
     have h := HO.out;rw [jaf _ _ _ _ aF] at h;exact h
    have bH : ∀ e : EWr, Hid (len = (Uk mHeapWrite k0 (ps.take k) ++ e :: ps.drop (k + 1)).length) := fun e => by have hl := HL.out; simp [Hid, Ua]; omega
    have iT : Hid ((Uk mHeapWrite k0 (ps.take k)).length = k) := by have hl := HL.out; simp [Hid, Ua]; omega
    have gn : wr.cell? ⟨g, k * 3, none⟩ = some (V ps[k].id) := cK.out.cellMid (bH _).out 0 (by decide) _ (by rw [iT.out]; rfl);have fy : wr.cell? ⟨g, k * 3 + 1, none⟩ = some (.bool ps[k].us) := cK.out.cellMid (bH _).out 1 (by decide) _ (by rw [iT.out]; rfl);have cR : wr.cell? ⟨g, k * 3 + 2, none⟩ = some (ps[k].v) := cK.out.cellMid (bH _).out 2 (by decide) _ (by rw [iT.out]; rfl);have fr := HO.out.frozen (by rw [Xw]; exact HL.out.symm);have lW : Hid (OwnR kWr base 112 tb (wr.setCell ⟨g, k * 3, none⟩ (V (c))) (Q4 g len cap) (Uk mHeapWrite k0 (ps.take k) ++ ⟨c, ps[k].us, ps[k].v, ps[k].bs⟩ :: ps.drop (k + 1))) := cK.out.set (p' := ⟨c, ps[k].us, ps[k].v, ps[k].bs⟩) (bH _).out 0 (V (c)) (by decide) rfl rfl rfl (k * 3) (by first | (rw [iT.out]; done) | (rw [iT.out]; rfl));have lh : Hid (OwnR kWr base 112 tb ((wr.setCell ⟨g, k * 3, none⟩ (V (c))).setCell ⟨g, k * 3 + 1, none⟩ (.bool ((c + 1) % 3 == 0))) (Q4 g len cap) (Uk mHeapWrite k0 (ps.take k) ++ ⟨c, (c + 1) % 3 == 0, ps[k].v, ps[k].bs⟩ :: ps.drop (k + 1))) := lW.out.set (p' := ⟨c, (c + 1) % 3 == 0, ps[k].v, ps[k].bs⟩) (bH _).out 1 (.bool ((c + 1) % 3 == 0)) (by decide) rfl rfl rfl (k * 3 + 1) (by first | (rw [iT.out]; done) | (rw [iT.out]; rfl))
    go_wp2_with fail
    refine (V5 base ps[k].v ps[k].bs (c + 1 + 1) _ (by omega) (by omega) (by omega) (lh.out.data ⟨c, (c + 1) % 3 == 0, ps[k].v, ps[k].bs⟩ (by simp))).mono ?_;rintro e w1 ⟨rfl, ho, af⟩;have Es : Hid (OwnR kWr base 112 tb w1 (Q4 g len cap) (Uk mHeapWrite k0 (ps.take k) ++ ⟨c, (c + 1) % 3 == 0, ps[k].v, marks (c + 1 + 1) ps[k].bs.length⟩ :: ps.drop (k + 1))) := lh.out.setData (p' := (⟨c, (c + 1) % 3 == 0, ps[k].v, marks (c + 1 + 1) ps[k].bs.length⟩ : EWr)) af rfl rfl ho;have Pj : ∀ j, w1.frozen? ⟨g, j, none⟩ = false := fun j => Es.out.frozen (bH _).out j
    have dV : Hid (OwnR kWr base 112 tb w1 (Q4 g len cap) (Wj mHeapWrite k0 ps (k + 1))) := by
     rw [YE _ _ _ _ aF, ← HC.out];exact Es.out
    have ax : Hid (Kept (Uc kWr (Q4 g len cap) ps) w w1) := (((HK.out.setCell (p := ⟨g, k * 3, none⟩) (.inr (.inl rfl)) _).setCell (p := ⟨g, k * 3 + 1, none⟩) (.inr (.inl rfl)) _).trans (af.mono fun b _ hb => .inr ⟨ps[k], List.getElem_mem _, hb⟩));clear ho af HO cK lW lh gn fy cR;go_wp2;go_roundw
    case rel =>
     exact ⟨k + 1, c + 1 + 1 + (ps[k].bs.length : Int), by omega, by go_num, rfl, by unfold Hid; rw [eo.out, ← HC.out]; simp only [mHeapWrite]; omega, dV, ax⟩
    case measure => simp [intOf]; omega
   ·go_wp2
    go_ret
    obtain rfl : k = len := by omega
    have hl := HL.out;have hc := HC.out;have ho := HO.out;rw [← hl, List.take_length] at hc;rw [← hl, Zl, hl] at ho;exact ⟨Yh hc, ho, HK.out⟩
theorem YL {tb : TypeId} (base : Nat) (va : Value) (ps : List EWr) (k0 : Int) (w : World) (h0 : 0 ≤ k0) (h1 : Ug mHeapWrite k0 ps ≤ 1125899906842624) (hn : ps.length ≤ 1125899906842624)
  (ha : OwnR kWr base 112 tb w va (Uk mHeapWrite k0 ps)) :
  Calls Tryz.prog 80 #[va, V k0] w fun e w' => e = .returned (V (Ug mHeapWrite k0 ps)) ∧ w' = w := by
 by_cases hz : ps.length = 0
 ·obtain rfl : ps = [] := List.length_eq_zero_iff.1 hz
  obtain ⟨aa, ca, rfl⟩ : ∃ aa ca, va = .slice aa 0 ca := by rcases ha.form with ⟨rfl, _⟩ | ⟨g, cap, rfl, _⟩ <;> exact ⟨_, _, rfl⟩
  clear ha hn hz h1
  go_enter Tryz.func80, Tryz.ntmps80
  go_wp2;refine wp_loop_rounds 1 ?_;rw [rounds_succ];go_wp2;go_ret;exact ⟨by simp [Ug], rfl⟩
 ·obtain ⟨g, cap, rfl⟩ : ∃ g cap, va = Q4 g ps.length cap := by
   rcases ha.form with ⟨_, h⟩ | ⟨g, cap, h, _⟩
   ·have := congrArg List.length h; simp [Ua] at this; simp [this] at hz
   ·exact ⟨g, cap, by rw [h, Ua]⟩
  have H1 : Hid (Ug mHeapWrite k0 ps ≤ 1125899906842624) := h1;have HA : Hid (OwnR kWr base 112 tb w (Q4 g ps.length cap) (Uk mHeapWrite k0 ps)) := ha;clear h1 ha;generalize hl : ps.length = len at hn hz HA ⊢;have HL : Hid (ps.length = len) := hl;clear hl
  go_enter Tryz.func80, Tryz.ntmps80
  go_wp2
  go_loop [1, 5] (fun v i => ∃ (k : Nat) (c : Int), k ≤ len ∧ i = V k ∧ v = V c ∧ Hid (c = Ug mHeapWrite k0 (ps.take k))) (fun _ i => len - (intOf i).toNat)
  case atStart => exact ⟨0, k0, Nat.zero_le _, rfl, rfl, rfl⟩
  case round =>
   obtain ⟨k, c, hk, rfl, rfl, HC⟩ := hrel
   by_cases aG : k < len
   ·have aF : k < ps.length := by rw [HL.out]; exact aG
    have lN : k < (Uk mHeapWrite k0 ps).length := by rw [Ua]; exact aF
    have gn : w.cell? ⟨g, k * 3, none⟩ = some (V (c)) := by have h := HA.out.cell (by rw [Ua]; exact HL.out.symm) k 0 lN (by decide); rw [U4 _ _ _ _ aF, ← HC.out] at h; exact h
    have fy : w.cell? ⟨g, k * 3 + 1, none⟩ = some (.bool ((c + 1) % 3 == 0)) := by have h := HA.out.cell (by rw [Ua]; exact HL.out.symm) k 1 lN (by decide); rw [U4 _ _ _ _ aF, ← HC.out] at h; exact h
    have cR : w.cell? ⟨g, k * 3 + 2, none⟩ = some (ps[k].v) := by have h := HA.out.cell (by rw [Ua]; exact HL.out.symm) k 2 lN (by decide); rw [U4 _ _ _ _ aF, ← HC.out] at h; exact h
    have hd := HA.out.data _ (List.getElem_mem lN);rw [U4 _ _ _ _ aF, ← HC.out] at hd;have HD : Hid (Own base tb .u8 w ps[k].v (marks (c + 1 + 1) ps[k].bs.length)) := hd
    have oV : k0 ≤ c := by rw [HC.out]; exact Vu _ _ _
    have dm := Wx mHeapWrite k0 ps k aF
    have li : c + 2 + ps[k].bs.length ≤ 1125899906842624 := by have h2 := Vv mHeapWrite k0 ps (k + 1); have h3 := H1.out; have h4 := HC.out; simp only [mHeapWrite] at dm; simp only [mHeapWrite] at h2 h3 h4; omega
    have eo := (show Hid (Ug mHeapWrite k0 (ps.take (k + 1)) = Ug mHeapWrite k0 (ps.take k) + (mHeapWrite.sz ps[k] : Nat)) from dm);clear hd dm
    go_wp2_with fail
    refine (Yt base ps[k].v ps[k].bs.length (c + 1 + 1) _ (by omega) (by omega) (by omega) HD.out).mono ?_;rintro e w1 ⟨rfl, rfl⟩;go_wp2;go_round
    case rel => exact ⟨k + 1, c + 1 + 1 + (ps[k].bs.length : Int), by omega, by go_num, rfl, by unfold Hid; rw [eo.out, ← HC.out]; simp only [mHeapWrite]; omega⟩
    case measure => simp [intOf]; omega
   ·go_wp2
    go_ret
    obtain rfl : k = len := by omega
    have hl := HL.out;have hc := HC.out;rw [← hl, List.take_length] at hc;exact ⟨Yh hc, rfl⟩
theorem Vq (cd tx rid : Int) (da : Option Addr) (dn dc : Nat) (ra : Option Addr) (rn rc : Nat) (us c : Int) (w : World) :
  Calls Tryz.prog 52 #[.agg #[V cd, V tx, V rid, .slice da dn dc, .slice ra rn rc, V us], V c] w fun e w' => e = .returned (.bool (decide (cd = c) && decide (tx = 0) && decide (rid = 0) && decide (dn = 0) && decide (rn = 0))) ∧ Same w w' := by
 by_cases h1 : cd = c
 case neg =>
  have e1 : (cd == c) = false := by simp [h1]
  go_enter Tryz.func52, Tryz.ntmps52
  go_wp2;go_ret;exact ⟨by simp [h1], kZ0.alloc _⟩
 by_cases h2 : tx = 0
 case neg =>
  subst h1
  have e2 : (tx == 0) = false := by simp [h2]
  go_enter Tryz.func52, Tryz.ntmps52
  go_wp2;go_ret;exact ⟨by simp [h2], kZ0.alloc _⟩
 by_cases h3 : rid = 0
 case neg =>
  subst h1 h2
  have e2 : (rid == 0) = false := by simp [h3]
  go_enter Tryz.func52, Tryz.ntmps52
  go_wp2;go_ret;exact ⟨by simp [h3], kZ0.alloc _⟩
 by_cases h4 : dn = 0
 case neg =>
  subst h1 h2 h3
  have e2 : ((dn : Int) == 0) = false := by simp [h4]
  have e3 : ¬ (dn : Int) = 0 := by omega
  go_enter Tryz.func52, Tryz.ntmps52
  go_wp2;go_ret;exact ⟨by simp [h4], kZ0.alloc _⟩
 by_cases h5 : rn = 0
 case neg =>
  subst h1 h2 h3 h4
  have e2 : ((rn : Int) == 0) = false := by simp [h5]
  have e3 : ¬ (rn : Int) = 0 := by omega
  go_enter Tryz.func52, Tryz.ntmps52
  go_wp2;go_ret;exact ⟨by simp [h5], kZ0.alloc _⟩
 subst h1 h2 h3 h4 h5
 go_enter Tryz.func52, Tryz.ntmps52
 go_wp2;go_ret;exact ⟨by simp, kZ0.alloc _⟩
structure ETx where
 id : Int
 v : Value
 ps : List EWr
def kTx : RowK ETx := ⟨2, fun t => [V t.id, t.v], fun _ => rfl, fun _ => V0, fun _ => []⟩
def ETx.dat (t : ETx) : Int × List WrD := (t.id, TU t.ps)
def Uo (ts : List ETx) : List (Int × List WrD) := ts.map ETx.dat
def Wm (txn : Int) : Nat → List ETx → Int
 | _, [] => -1
 | k, t :: ts => if t.id = txn then (k : Int) else Wm txn (k + 1) ts
theorem jfS {txn : Int} {ts : List ETx} {k : Nat} (hk : k < ts.length) : Wm txn k (ts.drop k) = if ts[k].id = txn then (k : Int) else Wm txn (k + 1) (ts.drop (k + 1)) := by
 rw [List.drop_eq_getElem_cons hk];rfl
theorem jaq (M : Nat) (tv : Value) (ts : List ETx) (txn : Int) (w : World) (hm : w.cell? ⟨M, 5, none⟩ = some tv) (hv : RdR kTx w tv ts) :
  Calls Tryz.prog 54 #[Q3 M 0, V txn] w fun e w' => e = .returned (V (Wm txn 0 ts)) ∧ Same w w' := by
 obtain ⟨a, c, rfl⟩ := hv.form;have bG := hv.max;unfold maxLen at bG;obtain ⟨R, hR⟩ : ∃ R, Wm txn 0 ts = R := ⟨_, rfl⟩
 have HR : Hid (Wm txn 0 (ts.drop 0) = R) := by rw [List.drop_zero]; exact hR
 rw [hR];clear hR;obtain ⟨len, hl⟩ : ∃ n, ts.length = n := ⟨_, rfl⟩;have HL : Hid (ts.length = len) := hl
 rcases hv.row with ⟨lH, _⟩ | ⟨b, off, c', he, hc⟩
 ·subst lH
  have e : (-1 : Int) = R := HR.out;have O8 : 0 = len := hl;subst O8;clear hv HR HL hl;simp only [List.length_nil] at hm
  go_enter Tryz.func54, Tryz.ntmps54
  go_wp2_with fail
  go_loopw [5] (fun i wr => i = V 0 ∧ w = wr) (fun _ _ => 0)
  case atStart => exact ⟨rfl, rfl⟩
  case round =>
   obtain ⟨rfl, rfl⟩ := hrel;go_wp2;go_ret;exact ⟨by rw [← e]; rfl, kZ0⟩
 injection he with he1 jF he3
 subst he1 he3;have HC : Hid (∀ j i, (h : j < ts.length) → i < 2 → w.cell? ⟨b, off + (j * 2 + i), none⟩ = (kTx.cells ts[j])[i]?) := hc;rw [hl] at hm bG;clear hv hc jF hl
 go_enter Tryz.func54, Tryz.ntmps54
 go_wp2_with fail
 go_loopw [5] (fun i wr => ∃ k : Nat, k ≤ len ∧ i = V k ∧ Hid (Wm txn k (ts.drop k) = R) ∧ w = wr) (fun i _ => len - (intOf i).toNat)
 case atStart => exact ⟨0, Nat.zero_le _, rfl, HR, rfl⟩
 case round =>
  clear HR;obtain ⟨k, hk, rfl, HA, rfl⟩ := hrel
  by_cases aG : k < len
  ·have aF : k < ts.length := by rw [HL.out]; exact aG
   obtain ⟨pg, J3⟩ : ∃ x, ts[k].id = x := ⟨_, rfl⟩;have QQ : Hid (ts[k].id = pg) := J3
   have d0 : w.cell? ⟨b, off + k * 2, none⟩ = some (V pg) := by rw [← J3]; exact HC.out k 0 aF (by decide)
   clear J3
   have iP : Hid ((if pg = txn then (k : Int) else Wm txn (k + 1) (ts.drop (k + 1))) = R) := by have h := HA.out; rw [jfS aF, QQ.out] at h; exact h
   by_cases h2 : pg = txn
   ·have HE : Hid ((k : Int) = R) := by have h := iP.out; rw [if_pos h2] at h; exact h
    clear iP HA;subst h2;go_wp2;go_ret;exact ⟨by rw [← HE.out]; rfl, kZ0⟩
   ·go_wp2
    go_roundw
    case rel => exact ⟨k + 1, by omega, by go_num, by have h := iP.out; rw [if_neg h2] at h; exact h, trivial⟩
    case measure => simp [intOf]; omega
  ·obtain rfl : len = k := by omega
   have he : (-1 : Int) = R := by have h := HA.out; rw [← HL.out, List.drop_length] at h; exact h
   go_wp2;go_ret;exact ⟨by rw [← he]; rfl, kZ0⟩
def jgB (a b : Int) : Int := if b < a then a else b
theorem jcy (a b : Int) (w : World) : Calls Tryz.prog 133 #[V a, V b] w fun e w' => e = .returned (V (jgB a b)) ∧ Same w w' := by
 unfold jgB
 by_cases h : b < a
 ·rw [if_pos h]
  go_enter Tryz.func133, Tryz.ntmps133
  go_wp2;go_ret;exact ⟨rfl, kZ0⟩
 ·rw [if_neg h]
  go_enter Tryz.func133, Tryz.ntmps133
  go_wp2;go_ret;exact ⟨rfl, kZ0⟩
theorem jgC (a b : Int) : jgB a b = max a b := by unfold jgB; omega
structure SeI (w wr : World) (Z Y : Nat) (u : Bool) (a : Option Addr) (n c : Nat) (bs : List Int) : Prop where
 box : Blk wr Z 110 [.bool u, .slice a n c]
 res : Blk wr Y 110 [.bool false, V0]
 data : Rd .u8 w (.slice a n c) bs
 len : bs.length = n
 loY : w.heap.size ≤ Y
 ne : Y < Z
 same : Same w wr
theorem SeI.put {w wr : World} {Z Y : Nat} {u : Bool} {a : Option Addr} {n c : Nat} {bs : List Int} (h : SeI w wr Z Y u a n c bs) (u' : Bool) {a' : Option Addr} {n' c' : Nat} {Iv : List Int} (hd : Rd .u8 w (.slice a' n' c') Iv) (hl : Iv.length = n') : SeI w ((wr.setCell ⟨Z, 0, none⟩ (.bool u')).setCell ⟨Z, 1, none⟩ (.slice a' n' c')) Z Y u' a' n' c' Iv := by
 have hk : Kept (fun b => b = Z) wr ((wr.setCell ⟨Z, 0, none⟩ (.bool u')).setCell ⟨Z, 1, none⟩ (.slice a' n' c')) := Kept.setCell (R := fun b => b = Z) (Kept.setCell (R := fun b => b = Z) kZ0 (p := ⟨Z, 0, none⟩) (.inr rfl) _) (p := ⟨Z, 1, none⟩) (.inr rfl) _;exact ⟨(h.box.stored 0 (.bool u')).stored 1 (.slice a' n' c'), h.res.kept hk (fun e => by have := h.ne; omega), hd, hl, h.loY, h.ne, h.same.next hk (fun i hi e => by have := h.loY; have := h.ne; omega)⟩
theorem SeI.on {w wr wx : World} {Z Y : Nat} {u : Bool} {a : Option Addr} {n c : Nat} {bs : List Int} (h : SeI w wr Z Y u a n c bs) (hk : Same wr wx) : SeI w wx Z Y u a n c bs := ⟨h.box.same hk, h.res.same hk, h.data, h.len, h.loY, h.ne, h.same.trans hk⟩
theorem VY {α β : Type} (f : β → α → β) (b : β) (l : List α) (k : Nat) (h : k < l.length) : (l.take (k + 1)).foldl f b = f ((l.take k).foldl f b) l[k] := by
 rw [List.take_succ_eq_append_getElem h, List.foldl_append];rfl
theorem Wq (ps : List EWr) : (TU ps).length = ps.length := by simp [TU]
theorem jfT (ps : List EWr) (k : Nat) (h : k < ps.length) : (TU ps)[k]'(by rw [Wq]; exact h) = ps[k].dat := by simp [TU]
theorem jfU (ps : List EHeapRecord) (k : Nat) (h : k < ps.length) : (jZ9 ps)[k]'(by rw [TQ]; exact h) = ps[k].dat := by simp [jZ9]
theorem jeY (M : Nat) (rv : Value) (rs : List EHeapRecord) (tv : Value) (ts : List ETx) (k : Nat) (id : Int) (w : World) (yw : w.cell? ⟨M, 4, none⟩ = some rv) (zq : w.cell? ⟨M, 5, none⟩ = some tv) (hr : RdR kHeapRecord w rv rs) (ht : RdR kTx w tv ts) (hk : k < ts.length) (hw : RdR kWr w ts[k].v ts[k].ps) :
  Calls Tryz.prog 113 #[Q3 M 0, V (k : Int), V id] w fun e w' => ∃ (u : Bool) (a : Option Addr) (n c : Nat) (bs : List Int), e = .returned (.tuple #[.agg #[.bool u, .slice a n c], V (XQ (jZ9 rs) (TU ts[k].ps) id)]) ∧ (u, bs) = V7 (jZ9 rs) (TU ts[k].ps) id ∧ bs.length = n ∧ Rd .u8 w' (.slice a n c) bs ∧ Same w w' := by
 have bG := hr.max;have d7 := hw.max;have iS := ht.max;unfold maxLen at bG d7 iS;obtain ⟨L, hL⟩ : ∃ n, rs.length = n := ⟨_, rfl⟩;obtain ⟨L2, iu⟩ : ∃ n, ts[k].ps.length = n := ⟨_, rfl⟩;obtain ⟨L3, rO⟩ : ∃ n, ts.length = n := ⟨_, rfl⟩;obtain ⟨ra, rc, rfl⟩ := hr.form
 rcases ht.row with ⟨h, _⟩ | ⟨tb, x9, tc, rfl, OA⟩
 ·rw [h] at hk; simp at hk
 obtain ⟨wa, a8, cC⟩ := hw.form
 have t1 : w.cell? ⟨tb, x9 + k * 2 + 1, none⟩ = some (.slice wa L2 a8) := by rw [← iu, ← cC]; exact OA k 1 hk (by decide)
 obtain ⟨ps, lH⟩ : ∃ z, ts[k].ps = z := ⟨_, rfl⟩;rw [cC] at hw;rw [lH] at hw iu d7 ⊢;rw [hL] at yw bG;rw [iu] at hw d7;rw [rO] at zq iS hk
 have Qa : (k : Int) < (L3 : Int) := by omega
 have HL := hid hL;have qY := hid iu;have HR := (show Hid (RdR kHeapRecord w (.slice ra L rc) rs) from by rw [← hL]; exact hr);have HW := hid hw;have iQ := hid t1;have Ji := hid yw;have FU := hid zq;clear hr ht hw OA cC lH t1 yw zq hL iu rO;generalize hDR : jZ9 rs = DR;generalize sr : TU ps = DW;have qM := hid hDR;have jQ := hid sr;clear hDR sr;have hy := Blk.newL w [.bool false, V0] 110;have Ki : Same w (w.alloc (.cells #[.bool false, V0] 110)) := kZ0.alloc _;obtain ⟨Y, hY⟩ : ∃ Y, w.heap.size = Y := ⟨_, rfl⟩;rw [hY] at hy
 go_enter Tryz.func113, Tryz.ntmps113
 go_upto_region 1 with fail
 try rw [hY]
 generalize w.alloc (.cells #[.bool false, V0] 110) = w1 at hy Ki ⊢;have hz := Blk.newL w1 [.bool false, V0] 110;have fC : Same w1 (w1.alloc (.cells #[.bool false, V0] 110)) := kZ0.alloc _;obtain ⟨Z, hZ⟩ : ∃ Z, w1.heap.size = Z := ⟨_, rfl⟩;rw [hZ] at hz
 go_upto_region 2 with fail
 try rw [hZ]
 have M9 : Y < Z := by have := hy.lt; omega
 generalize w1.alloc (.cells #[.bool false, V0] 110) = w2 at hz fC ⊢;have mS := (show Hid (SeI w w2 Z Y false none 0 0 []) from ⟨hz, hy.same fC, ⟨by simp, .inl ⟨rfl, _, _, rfl, fun _ => rfl⟩⟩, rfl, by omega, M9, Ki.trans fC⟩);clear hy Ki hz fC hY hZ M9
 go_wp2_with fail
 go_loopw [9, 10] (fun mo i wr => ∃ (j : Nat) (u : Bool) (a : Option Addr) (n c : Nat) (bs : List Int), j ≤ L ∧ i = V j ∧ mo = V ((DR.take j).foldl (Vn id) 0) ∧ Hid ((u, bs) = (DR.take j).foldl (V9 id) (false, [])) ∧ Hid (SeI w wr Z Y u a n c bs)) (fun _ i _ => L - (intOf i).toNat)
 case atStart => exact ⟨0, _, _, _, _, _, Nat.zero_le _, rfl, rfl, rfl, mS⟩
 case round =>
  clear mS;obtain ⟨j, u, a, n, c, bs, hj, rfl, rfl, HE, HS⟩ := hrel;have m4 : wr.cell? ⟨M, 4, none⟩ = some (.slice ra L rc) := HS.out.same.cellOf Ji.out (fun e => e)
  by_cases aG : j < L
  ·have h1 : j < rs.length := by rw [HL.out]; exact aG
   rcases HR.out.row with ⟨h, _⟩ | ⟨b, off, c', he, hc⟩
   ·rw [h] at h1; simp at h1
   injection he with e1 e2 e3
   subst e1 e3;obtain ⟨i1, eD⟩ : ∃ x, rs[j].id = x := ⟨_, rfl⟩;obtain ⟨y1, iB⟩ : ∃ x, rs[j].bs = x := ⟨_, rfl⟩;obtain ⟨a1, c1, dj⟩ := (HR.out.data rs[j] (List.getElem_mem h1)).form;have l2 : rs[j].v = .slice a1 rs[j].bs.length c1 := dj;obtain ⟨n1, eX⟩ : ∃ x, y1.length = x := ⟨_, rfl⟩;rw [iB, eX] at l2;have eT := (show Hid (Rd .u8 w (.slice a1 n1 c1) y1) from by rw [← l2, ← iB]; exact HR.out.data rs[j] (List.getElem_mem h1))
   have c0 : wr.cell? ⟨b, off + j * 2, none⟩ = some (V i1) := by rw [← eD]; exact HS.out.same.cellOf (hc j 0 h1 (by decide)) (fun e => e)
   have c2 : wr.cell? ⟨b, off + j * 2 + 1, none⟩ = some (.slice a1 n1 c1) := by rw [← l2]; exact HS.out.same.cellOf (hc j 1 h1 (by decide)) (fun e => e)
   have g8 := (show Hid ((DR.take (j + 1)).foldl (Vn id) 0 = Vn id ((DR.take j).foldl (Vn id) 0) (i1, y1) ∧ (DR.take (j + 1)).foldl (V9 id) (false, []) = V9 id ((DR.take j).foldl (V9 id) (false, [])) (i1, y1)) from by
    have h2 : j < DR.length := by rw [← qM.out, TQ]; exact h1
    have h3 : DR[j] = (i1, y1) := by
     have h4 := jfU rs j h1;simp only [EHeapRecord.dat, eD, iB] at h4;rw [← h4]
     congr 1
     exact qM.out.symm
    exact ⟨by rw [VY _ _ _ _ h2, h3], by rw [VY _ _ _ _ h2, h3]⟩)
   have eM := hid eX;clear eD iB dj l2 hc e2 eX;obtain ⟨m, hm⟩ : ∃ m, (DR.take j).foldl (Vn id) 0 = m := ⟨_, rfl⟩;rw [hm] at g8 ⊢;clear hm
   by_cases hii : i1 = id
   ·subst hii
    have z0 := HS.out.box.cell 0;have z1 := HS.out.box.cell 1;simp only [List.getElem?_cons_zero, List.getElem?_cons_succ] at z0 z1;have f0 := HS.out.box.frozen 0;have f1 := HS.out.box.frozen 1;have iI := hid (HS.out.put true eT.out eM.out)
    go_upto_region 8 with fail
    generalize (wr.setCell ⟨Z, 0, none⟩ (.bool true)).setCell ⟨Z, 1, none⟩ (.slice a1 n1 c1) = w3 at iI ⊢;clear z0 z1 f0 f1 HS m4 c0 c2;have z1 := iI.out.box.cell 1;simp only [List.getElem?_cons_zero, List.getElem?_cons_succ] at z1;have zz := (show Hid ((DR.take (j + 1)).foldl (Vn i1) 0 = (n1 : Int)) from by rw [g8.out.1]; unfold Vn; rw [if_pos rfl]; show (y1.length : Int) = _; rw [eM.out]);go_wp2;go_roundw
    case rel => exact ⟨j + 1, _, _, _, _, _, by omega, by go_num, by rw [zz.out], by rw [g8.out.2]; unfold V9; rw [if_pos rfl]; rfl, iI⟩
    case measure => simp [intOf]; omega
   ·have q1 : (i1 == id) = false := by simp [hii]
    have zz := (show Hid ((DR.take (j + 1)).foldl (Vn id) 0 = m) from by rw [g8.out.1]; unfold Vn; rw [if_neg hii]; rfl);go_wp2;go_roundw
    case rel => exact ⟨j + 1, _, _, _, _, _, by omega, by go_num, by rw [zz.out], by rw [g8.out.2, ← HE.out]; unfold V9; rw [if_neg hii]; rfl, HS⟩
    case measure => simp [intOf]; omega
  case neg =>
  obtain rfl : L = j := by omega
  have AW : DR.take L = DR := List.take_of_length_le (by rw [← qM.out, TQ, HL.out]; exact Nat.le_refl _);rw [AW] at HE;rw [AW];obtain ⟨m0, jI⟩ : ∃ m, DR.foldl (Vn id) 0 = m := ⟨_, rfl⟩;obtain ⟨s0, xf⟩ : ∃ m, DR.foldl (V9 id) (false, []) = m := ⟨_, rfl⟩;rw [xf] at HE;have Da := (show Hid (XQ DR DW id = DW.foldl (Wl id) m0 ∧ V7 DR DW id = DW.foldl (X4 id) s0) from ⟨by unfold XQ; rw [jI], by unfold V7; rw [xf]⟩);rw [jI];clear jI xf AW
  go_wp2_with fail
  clear m4
  go_loopw [9, 11] (fun mo i wr => ∃ (j : Nat) (u : Bool) (a : Option Addr) (n c : Nat) (bs : List Int), j ≤ L2 ∧ i = V j ∧ mo = V ((DW.take j).foldl (Wl id) m0) ∧ Hid ((u, bs) = (DW.take j).foldl (X4 id) s0) ∧ Hid (SeI w wr Z Y u a n c bs)) (fun _ i _ => L2 - (intOf i).toNat)
  case atStart => exact ⟨0, _, _, _, _, _, Nat.zero_le _, rfl, rfl, HE, HS⟩
  case round =>
   clear HS HE;obtain ⟨j, u, a, n, c, bs, hj, rfl, rfl, HE, HS⟩ := hrel;have m5 : wr.cell? ⟨M, 5, none⟩ = some (.slice (some ⟨tb, x9, none⟩) L3 tc) := HS.out.same.cellOf FU.out (fun e => e);have t1 : wr.cell? ⟨tb, x9 + k * 2 + 1, none⟩ = some (.slice wa L2 a8) := HS.out.same.cellOf iQ.out (fun e => e)
   by_cases aG : j < L2
   case neg =>
    obtain rfl : L2 = j := by omega
    have AW : DW.take L2 = DW := List.take_of_length_le (by rw [← jQ.out, Wq, qY.out]; exact Nat.le_refl _);rw [AW] at HE;rw [AW, ← Da.out.1];obtain ⟨mw, iV⟩ : ∃ z, XQ DR DW id = z := ⟨_, rfl⟩;have JJ := hid iV;rw [iV];clear iV;have z0 := HS.out.box.cell 0;have z1 := HS.out.box.cell 1;have y0 := HS.out.res.cell 0;have y1 := HS.out.res.cell 1;simp only [List.getElem?_cons_zero, List.getElem?_cons_succ] at z0 z1 y0 y1;have f0 := HS.out.res.frozen 0;have f1 := HS.out.res.frozen 1;have gS : Kept (fun b => b = Y) wr ((wr.setCell ⟨Y, 0, none⟩ (.bool u)).setCell ⟨Y, 1, none⟩ (.slice a n c)) := Kept.setCell (R := fun b => b = Y) (Kept.setCell (R := fun b => b = Y) kZ0 (p := ⟨Y, 0, none⟩) (.inr rfl) _) (p := ⟨Y, 1, none⟩) (.inr rfl) _;have yA := (HS.out.res.stored 0 (.bool u)).stored 1 (.slice a n c);have J0 := (show Hid (Same w ((wr.setCell ⟨Y, 0, none⟩ (.bool u)).setCell ⟨Y, 1, none⟩ (.slice a n c))) from HS.out.same.next gS (fun i hi e => by have := HS.out.loY; omega));have iM := hid yA;clear gS yA;go_wp2;generalize (wr.setCell ⟨Y, 0, none⟩ (.bool u)).setCell ⟨Y, 1, none⟩ (.slice a n c) = w9 at J0 iM ⊢;have r0 := iM.out.cell 0;have r1 := iM.out.cell 1;simp only [List.set_cons_zero, List.set_cons_succ, List.getElem?_cons_zero, List.getElem?_cons_succ] at r0 r1;have JO := (show Hid ((u, bs) = V7 DR DW id) from by rw [Da.out.2]; exact HE.out);have mM := hid (HS.out.data.same J0.out);have vX := hid HS.out.len;clear HS HE z0 z1 y0 y1 f0 f1 m5 t1
    rename_i _
    refine bodyPost_ret (v := .tuple #[.agg #[.bool u, .slice a n c], V mw]) ?_ rfl ⟨u, a, n, c, bs, by rw [JJ.out], JO.out, vX.out, mM.out, J0.out⟩;rw [results_cell_tmp rfl];go_simp
   have h1 : j < ps.length := by rw [qY.out]; exact aG
   rcases HW.out.row with ⟨h, _⟩ | ⟨b, off, c', he, hc⟩
   ·rw [h] at h1; simp at h1
   injection he with e1 e2 e3
   subst e1 e3;obtain ⟨i1, eD⟩ : ∃ x, ps[j].id = x := ⟨_, rfl⟩;obtain ⟨u1, yy⟩ : ∃ x, ps[j].us = x := ⟨_, rfl⟩;obtain ⟨y1, iB⟩ : ∃ x, ps[j].bs = x := ⟨_, rfl⟩;obtain ⟨a1, c1, dj⟩ := (HW.out.data ps[j] (List.getElem_mem h1)).form;have l2 : ps[j].v = .slice a1 ps[j].bs.length c1 := dj;obtain ⟨n1, eX⟩ : ∃ x, y1.length = x := ⟨_, rfl⟩;rw [iB, eX] at l2;have eT := (show Hid (Rd .u8 w (.slice a1 n1 c1) y1) from by rw [← l2, ← iB]; exact HW.out.data ps[j] (List.getElem_mem h1))
   have c0 : wr.cell? ⟨b, off + j * 3, none⟩ = some (V i1) := by rw [← eD]; exact HS.out.same.cellOf (hc j 0 h1 (by decide)) (fun e => e)
   have c2 : wr.cell? ⟨b, off + j * 3 + 1, none⟩ = some (.bool u1) := by rw [← yy]; exact HS.out.same.cellOf (hc j 1 h1 (by decide)) (fun e => e)
   have c3 : wr.cell? ⟨b, off + j * 3 + 1 + 1, none⟩ = some (.slice a1 n1 c1) := by rw [← l2]; exact HS.out.same.cellOf (hc j 2 h1 (by decide)) (fun e => e)
   have g8 := (show Hid ((DW.take (j + 1)).foldl (Wl id) m0 = Wl id ((DW.take j).foldl (Wl id) m0) (i1, u1, y1) ∧ (DW.take (j + 1)).foldl (X4 id) s0 = X4 id ((DW.take j).foldl (X4 id) s0) (i1, u1, y1)) from by
    have h2 : j < DW.length := by rw [← jQ.out, Wq]; exact h1
    have h3 : DW[j] = (i1, u1, y1) := by
     have h4 := jfT ps j h1;simp only [EWr.dat, eD, yy, iB] at h4;rw [← h4]
     congr 1
     exact jQ.out.symm
    exact ⟨by rw [VY _ _ _ _ h2, h3], by rw [VY _ _ _ _ h2, h3]⟩)
   have eM := hid eX;clear eD yy iB dj l2 hc e2 eX;obtain ⟨m, hm⟩ : ∃ m, (DW.take j).foldl (Wl id) m0 = m := ⟨_, rfl⟩;rw [hm] at g8 ⊢;clear hm
   by_cases hii : i1 = id
   ·subst hii
    have z0 := HS.out.box.cell 0;have z1 := HS.out.box.cell 1;simp only [List.getElem?_cons_zero, List.getElem?_cons_succ] at z0 z1;have f0 := HS.out.box.frozen 0;have f1 := HS.out.box.frozen 1;have iI := hid (HS.out.put u1 eT.out eM.out)
    go_upto_region 14 with fail
    generalize (wr.setCell ⟨Z, 0, none⟩ (.bool u1)).setCell ⟨Z, 1, none⟩ (.slice a1 n1 c1) = w3 at iI ⊢;clear z0 z1 f0 f1 HS m5 t1 c0 c2 c3;have z1 := iI.out.box.cell 1;simp only [List.getElem?_cons_zero, List.getElem?_cons_succ] at z1;have kM := jcy m (n1 : Int) w3;rw [jgC] at kM
    go_wp2_with fail
    refine kM.mono ?_;rintro e w4 ⟨rfl, aM⟩;have mF := hid (iI.out.on aM);have zz := (show Hid ((DW.take (j + 1)).foldl (Wl i1) m0 = max m (n1 : Int)) from by rw [g8.out.1]; unfold Wl; rw [if_pos rfl]; show max m (y1.length : Int) = _; rw [eM.out]);clear kM aM iI z1;go_wp2;go_roundw
    case rel => exact ⟨j + 1, _, _, _, _, _, by omega, by go_num, by rw [zz.out], by rw [g8.out.2]; unfold X4; rw [if_pos rfl]; rfl, mF⟩
    case measure => simp [intOf]; omega
   ·have q1 : (i1 == id) = false := by simp [hii]
    have zz := (show Hid ((DW.take (j + 1)).foldl (Wl id) m0 = m) from by rw [g8.out.1]; unfold Wl; rw [if_neg hii]; rfl);go_wp2;go_roundw
    case rel => exact ⟨j + 1, _, _, _, _, _, by omega, by go_num, by rw [zz.out], by rw [g8.out.2, ← HE.out]; unfold X4; rw [if_neg hii]; rfl, HS⟩
    case measure => simp [intOf]; omega
end Go.Proofs.YtljfcdkhicffcaaGreat
