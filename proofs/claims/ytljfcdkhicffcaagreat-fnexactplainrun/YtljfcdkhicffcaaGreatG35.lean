import Derived.Test.YtljfcdkhicffcaaGreatG23
namespace Go.Proofs.YtljfcdkhicffcaaGreat
set_option maxRecDepth 100000
set_option maxHeartbeats 8000000
set_option linter.unusedVariables false
set_option linter.unusedSimpArgs false
open Go Go.RowKit Go.MapKept
structure ELw where
 p : EWr
 st : Nat
def ELw.kv (e : ELw) : KV := (e.p.id, .agg #[.bool e.p.us, e.p.v], e.st)
theorem Yo (id : Int) (ce : List ELw) : (∀ e ∈ ce, e.p.id ≠ id) ∨ ∃ pre e post, ce = pre ++ e :: post ∧ e.p.id = id ∧ ∀ y ∈ pre, y.p.id ≠ id := by
 induction ce with
 | nil => exact .inl (fun _ h => by simp at h)
 | cons e r ih =>
  by_cases h : e.p.id = id
  ·exact .inr ⟨[], e, r, rfl, h, fun _ h => by simp at h⟩
  ·rcases ih with ih | ⟨pre, e', post, rfl, he, hp⟩
   ·exact .inl (fun y hy => by rcases List.mem_cons.1 hy with rfl | hy; exact h; exact ih y hy)
   ·exact .inr ⟨e :: pre, e', post, rfl, he, fun y hy => by rcases List.mem_cons.1 hy with rfl | hy; exact h; exact hp y hy⟩
theorem Zk {ce : List ELw} {id : Int} (h : ∀ e ∈ ce, e.p.id ≠ id) : ∀ e ∈ ce.map ELw.kv, e.1 ≠ id := fun e he => by
 obtain ⟨y, hy, rfl⟩ := List.mem_map.1 he;exact h y hy
theorem Yp (pre post : List ELw) (e : ELw) : (pre ++ e :: post).map ELw.kv = pre.map ELw.kv ++ (e.p.id, .agg #[.bool e.p.us, e.p.v], e.st) :: post.map ELw.kv := by
 rw [List.map_append, List.map_cons]; rfl
def jce (ce : List ELw) (id : Int) : Option (Bool × List Int) := (ce.find? (fun e => decide (e.p.id = id))).map (fun e => (e.p.us, e.p.bs))
structure LwM (w : World) (C ck : Nat) (ce : List ELw) (W : List WrD) : Prop where
 map : MapB w C (ce.map ELw.kv) ck
 ok : KVok (ce.map ELw.kv) ck
 data : ∀ e ∈ ce, Rd .u8 w e.p.v e.p.bs
 get : ∀ id, jce ce id = U9 W id
theorem LwM.same {w w' : World} {C ck : Nat} {ce : List ELw} {W : List WrD} (h : LwM w C ck ce W) (hk : Same w w') : LwM w' C ck ce W := ⟨h.map.same hk, h.ok, fun e he => (h.data e he).same hk, h.get⟩
theorem ZW (l : List WrD) (x : WrD) (id : Int) : U9 (l ++ [x]) id = if x.1 = id then some x.2 else U9 l id := by
 unfold U9;rw [List.foldl_append];rfl
theorem LwM.put {w0 w : World} {C ck : Nat} {ce : List ELw} {W : List WrD} (h : LwM w C ck ce W) (hC : w0.heap.size ≤ C) (hk : Same w0 w) (yj : ∀ e ∈ ce, Rd .u8 w0 e.p.v e.p.bs) (p : EWr) (hv : Rd .u8 w0 p.v p.bs) :
  ∃ w' ck' mj, (Instr.mapUpdate 86 (.map (some C)) (V p.id) (.agg #[.bool p.us, p.v])).run Tryz.prog w = .ok () w' ∧ LwM w' C ck' mj (W ++ [p.dat]) ∧ (∀ e ∈ mj, Rd .u8 w0 e.p.v e.p.bs) ∧ Same w0 w' := by
 rcases Yo p.id ce with hm | ⟨pre, e, post, rfl, he, cG⟩
 ·have hs : Same w0 (setM w C (ce.map ELw.kv ++ [(p.id, .agg #[.bool p.us, p.v], ck)]) (ck + 1)) := hk.next (Kept.setM _ _) (fun i hi e => by omega)
  have hd : ∀ y ∈ ce ++ [⟨p, ck⟩], Rd .u8 w0 y.p.v y.p.bs := fun y hy => by
   rcases List.mem_append.1 hy with hy | hy
   ·exact yj y hy
   ·rw [List.mem_singleton.1 hy]; exact hv
  refine ⟨_, ck + 1, ce ++ [⟨p, ck⟩], Vf Tryz.underlying86 Tryz.underlying2 h.map (Zk hm), ⟨?_, ?_, fun y hy => (hd y hy).same hs, fun id => ?_⟩, hd, hs⟩
  ·rw [List.map_append]
   exact MapB.set h.map
  ·rw [List.map_append]
   exact h.ok.snoc (Zk hm)
  ·rw [ZW]
   unfold jce;rw [List.find?_append]
   by_cases hi : p.id = id
   ·rw [List.find?_eq_none.2 (fun y hy => by have := hm y hy; simp; omega), if_pos (show p.dat.1 = id from hi)]
    simp [hi, EWr.dat]
   ·rw [if_neg (show ¬ p.dat.1 = id from hi), ← h.get id]
    unfold jce;simp [hi]
 ·have bJ := h.map
  rw [Yp, he] at bJ;have hs : Same w0 (setM w C (pre.map ELw.kv ++ (p.id, .agg #[.bool p.us, p.v], e.st) :: post.map ELw.kv) ck) := hk.next (Kept.setM _ _) (fun i hi e => by omega)
  have hd : ∀ y ∈ pre ++ ⟨p, e.st⟩ :: post, Rd .u8 w0 y.p.v y.p.bs := fun y hy => by
   rcases List.mem_append.1 hy with hy | hy
   ·exact yj y (List.mem_append_left _ hy)
   ·rcases List.mem_cons.1 hy with rfl | hy
    ·exact hv
    ·exact yj y (List.mem_append_right _ (List.mem_cons_of_mem _ hy))
  refine ⟨_, ck, pre ++ ⟨p, e.st⟩ :: post, WJ Tryz.underlying86 Tryz.underlying2 bJ (Zk cG), ⟨?_, ?_, fun y hy => (hd y hy).same hs, fun id => ?_⟩, hd, hs⟩
  ·rw [Yp]
   exact MapB.set bJ
  ·have bd := h.ok
   rw [Yp, he] at bd;rw [Yp];exact bd.store
  ·rw [ZW]
   unfold jce;rw [List.find?_append, List.find?_cons]
   by_cases hi : p.id = id
   ·rw [List.find?_eq_none.2 (fun y hy => by have := cG y hy; simp; omega), if_pos (show p.dat.1 = id from hi)]
    simp [hi, EWr.dat]
   ·rw [if_neg (show ¬ p.dat.1 = id from hi), ← h.get id]
    unfold jce;rw [List.find?_append, List.find?_cons];have e2 : decide (e.p.id = id) = false := decide_eq_false (by omega);have e3 : decide (p.id = id) = false := decide_eq_false hi;simp [e2, e3]
theorem LwM.look {w : World} {C ck : Nat} {ce : List ELw} {W : List WrD} (h : LwM w C ck ce W) {id : Int} {d : Bool × List Int} (hl : U9 W id = some d) : ∃ v, (∀ wx, Same w wx → (Instr.lookup 86 (.map (some C)) (V id) false).run Tryz.prog wx = .ok (.agg #[.bool d.1, v]) wx) ∧ Rd .u8 w v d.2 := by
 rcases Yo id ce with hm | ⟨pre, e, post, rfl, rfl, cG⟩
 ·have := h.get id
  unfold jce at this;rw [List.find?_eq_none.2 (fun y hy => by simpa using hm y hy), hl] at this
  cases this
 ·have h2 := h.get e.p.id
  unfold jce at h2;rw [List.find?_append, List.find?_eq_none.2 (fun y hy => by simpa using cG y hy), hl] at h2;simp at h2;subst h2;refine ⟨e.p.v, fun wx hx => ?_, h.data e (List.mem_append_right _ List.mem_cons_self)⟩;have bJ := (h.map.same hx);rw [Yp] at bJ;exact UI Tryz.underlying86 Tryz.underlying2 bJ (Zk cG) false
theorem VN (W : List WrD) : ∀ n, ((UG W n).map (·.1)).Pairwise (· < ·) ∧ (∀ x ∈ UG W n, 0 ≤ x.1 ∧ x.1 < (n : Int) ∧ U9 W x.1 = some x.2) ∧ ∀ id d, 0 ≤ id → id < (n : Int) → U9 W id = some d → (id, d) ∈ UG W n
 | 0 => ⟨List.Pairwise.nil, fun x hx => (by cases hx), fun id d h0 h1 _ => (by omega)⟩
 | n + 1 => by
  obtain ⟨i1, i2, i3⟩ := VN W n
  cases hl : U9 W (n : Int) with
  | none =>
   have e : UG W (n + 1) = UG W n := by
    show UG W n ++ _ = _
    rw [hl];exact List.append_nil _
   rw [e];refine ⟨i1, fun x hx => ?_, fun id d h0 h1 h2 => ?_⟩
   ·obtain ⟨j1, j2, j3⟩ := i2 x hx
    exact ⟨j1, by omega, j3⟩
   ·by_cases hi : id = (n : Int)
    ·rw [hi, hl] at h2; cases h2
    ·exact i3 id d h0 (by omega) h2
  | some d0 =>
   have e : UG W (n + 1) = UG W n ++ [((n : Int), d0)] := by
    show UG W n ++ _ = _
    rw [hl]
   rw [e];refine ⟨?_, fun x hx => ?_, fun id d h0 h1 h2 => ?_⟩
   ·rw [List.map_append, List.pairwise_append]
    refine ⟨i1, List.pairwise_singleton _ _, fun a ha b hb => ?_⟩;obtain ⟨x, hx, rfl⟩ := List.mem_map.1 ha;have := (i2 x hx).2.1
    have e2 : b = (n : Int) := by simpa using hb
    omega
   ·rcases List.mem_append.1 hx with hx | hx
    ·obtain ⟨j1, j2, j3⟩ := i2 x hx
     exact ⟨j1, by omega, j3⟩
    ·rw [List.mem_singleton.1 hx]
     exact ⟨by show (0 : Int) ≤ n; omega, by show (n : Int) < _; omega, hl⟩
   ·by_cases hi : id = (n : Int)
    ·subst hi
     rw [hl] at h2
     injection h2 with h2
     rw [h2];exact List.mem_append_right _ List.mem_cons_self
    ·exact List.mem_append_left _ (i3 id d h0 (by omega) h2)
theorem LwM.keys {w : World} {C ck : Nat} {ce : List ELw} {W : List WrD} (h : LwM w C ck ce W) (hi : ∀ x ∈ W, 0 ≤ x.1 ∧ x.1 < 512) : Xt ((ce.map ELw.kv).map (·.1)) = (UG W 512).map (·.1) ∧ ce.length = (UG W 512).length := by
 obtain ⟨i1, i2, i3⟩ := VN W 512;have hn := h.ok.keys
 have dK : ∀ id d, U9 W id = some d → 0 ≤ id ∧ id < 512 := fun id d => by
  unfold U9
  have : ∀ (l : List WrD) (o : Option (Bool × List Int)), (∀ x ∈ l, 0 ≤ x.1 ∧ x.1 < 512) → (∀ d, o = some d → 0 ≤ id ∧ id < 512) → ∀ d, l.foldl (fun o w => if w.1 = id then some w.2 else o) o = some d → 0 ≤ id ∧ id < 512 := by
   intro l
   induction l with
   | nil => intro o _ ho d hd; exact ho d hd
   | cons x xs ih =>
    intro o hl ho d hd;rw [List.foldl_cons] at hd;refine ih _ (fun y hy => hl y (List.mem_cons_of_mem _ hy)) (fun d2 eQ => ?_) d hd
    by_cases hx : x.1 = id
    ·rw [← hx]; exact hl x List.mem_cons_self
    ·rw [if_neg hx] at eQ; exact ho d2 eQ
  exact this W none hi (fun d hd => by cases hd) d
 have hp : ((ce.map ELw.kv).map (·.1)).Perm ((UG W 512).map (·.1)) := by
  refine (List.perm_ext_iff_of_nodup hn (i1.imp (fun h => by omega))).2 (fun a => ⟨fun ha => ?_, fun ha => ?_⟩)
  ·rcases Yo a ce with hm | ⟨pre, e, post, rfl, rfl, cG⟩
   ·obtain ⟨y, hy, rfl⟩ := List.mem_map.1 ha
    obtain ⟨z, hz, rfl⟩ := List.mem_map.1 hy;exact absurd rfl (hm z hz)
   ·have h2 := h.get e.p.id
    unfold jce at h2;rw [List.find?_append, List.find?_eq_none.2 (fun y hy => by simpa using cG y hy)] at h2;simp at h2;obtain ⟨j1, j2⟩ := dK _ _ h2.symm;exact List.mem_map.2 ⟨_, i3 _ _ j1 (by omega) h2.symm, rfl⟩
  ·obtain ⟨x, hx, rfl⟩ := List.mem_map.1 ha
   obtain ⟨_, _, j3⟩ := i2 x hx
   rcases Yo x.1 ce with hm | ⟨pre, e, post, rfl, he, cG⟩
   ·have h2 := h.get x.1
    unfold jce at h2;rw [List.find?_eq_none.2 (fun y hy => by simpa using hm y hy), j3] at h2
    cases h2
   ·rw [← he, Yp, List.map_append, List.map_cons]
    exact List.mem_append_right _ List.mem_cons_self
 refine ⟨lt_eq (jaM hn) i1 ((List.mergeSort_perm _ _).trans hp), ?_⟩;have := hp.length_eq
 simpa using this
theorem jfA (va : Value) (ws : List EWr) (w : World) (hn : ws.length ≤ 500000) (hs : ∀ p ∈ ws, p.bs.length ≤ 1099511627776) (hi : ∀ p ∈ ws, 0 ≤ p.id ∧ p.id < 512) (ha : RdR kWr w va ws) :
  Calls Tryz.prog 74 #[va] w fun e w' => NwW w w' e (UG (TU ws) 512) := by
 obtain ⟨L, hL⟩ : ∃ n, ws.length = n := ⟨_, rfl⟩;have HL := hid hL;have HA := hid ha;have HS := hid hs
 have FV := (show Hid (∀ x ∈ TU ws, 0 ≤ x.1 ∧ x.1 < 512) from fun x hx => by
  obtain ⟨p, hp, rfl⟩ := List.mem_map.1 hx
  exact hi p hp)
 obtain ⟨a0, c0, rfl⟩ := ha.form;rw [hL] at hn;rw [hL] at HA ⊢;obtain ⟨W, hW⟩ : ∃ z, TU ws = z := ⟨_, rfl⟩;have Lw := hid hW;have EZ := (show Hid (W.length = L) from by show W.length = L; rw [← hW]; simp [TU]; exact hL);rw [hW] at FV ⊢;obtain ⟨D, hD⟩ : ∃ z, UG W 512 = z := ⟨_, rfl⟩;have HD := hid hD;rw [hD];clear ha hs hL hi hW hD;have r9 := run_makeMap (P := Tryz.prog) 86 w;obtain ⟨C, hC⟩ : ∃ z, w.heap.size = z := ⟨_, rfl⟩;have rH := MapB.new w;have zm : Same w (w.alloc (.map #[] 0)) := kZ0.alloc _;rw [hC] at rH r9;obtain ⟨w1, df⟩ : ∃ z, w.alloc (.map #[] 0) = z := ⟨_, rfl⟩;rw [df] at rH zm r9;have pW := (show Hid (w.heap.size ≤ C) from Nat.le_of_eq hC);have H1 := (show Hid (∃ ck ce, LwM w1 C ck ce (W.take 0) ∧ (∀ e ∈ ce, Rd .u8 w e.p.v e.p.bs) ∧ Same w w1) from ⟨0, [], ⟨rH, KVok.nil 0, fun e he => by simp at he, fun id => rfl⟩, fun e he => by simp at he, zm⟩);clear rH zm df hC
 go_enter Tryz.func74, Tryz.ntmps74
 go_wp2_with fail
 go_loopw [13] (fun i wr => ∃ k : Nat, k ≤ L ∧ i = V k ∧ Hid (∃ ck ce, LwM wr C ck ce (W.take k) ∧ (∀ e ∈ ce, Rd .u8 w e.p.v e.p.bs) ∧ Same w wr)) (fun i _ => L - (intOf i).toNat)
 case atStart => exact ⟨0, Nat.zero_le _, rfl, H1.out⟩
 case round =>
  clear H1 r9;obtain ⟨k, hk, rfl, HK⟩ := hrel
  by_cases aG : k < L
  case pos =>
   have h1 : k < ws.length := by rw [HL.out]; exact aG
   have sy : k < W.length := by rw [EZ.out]; exact aG
   rcases HA.out.row with ⟨h, _⟩ | ⟨b, off, c, he, hc⟩
   ·rw [h] at h1; simp at h1
   injection he with e1 e2 e3
   subst e1 e3;clear e2
   have Kn : W.take (k + 1) = W.take k ++ [ws[k].dat] := by
    rw [List.take_succ_eq_append_getElem sy];have : W = TU ws := Lw.out.symm;subst this;simp [TU]
   obtain ⟨p, hp⟩ : ∃ x, ws[k] = x := ⟨_, rfl⟩
   have ch : Rd .u8 w p.v p.bs := by rw [← hp]; exact HA.out.data ws[k] (List.getElem_mem h1)
   rw [hp] at Kn;obtain ⟨ck, ce, j1, j2, j3⟩ := HK.out
   have d0 : wr.cell? ⟨b, off + k * 3, none⟩ = some (V p.id) := by rw [← hp]; exact j3.cellOf (hc k 0 h1 (by decide)) (fun e => e)
   have d1 : wr.cell? ⟨b, off + k * 3 + 1, none⟩ = some (.bool p.us) := by rw [← hp]; exact j3.cellOf (hc k 1 h1 (by decide)) (fun e => e)
   have d2 : wr.cell? ⟨b, off + k * 3 + 1 + 1, none⟩ = some p.v := by rw [← hp]; exact j3.cellOf (hc k 2 h1 (by decide)) (fun e => e)
   obtain ⟨da, dc, gd⟩ := ch.form;obtain ⟨dn, dM⟩ : ∃ n, p.bs.length = n := ⟨_, rfl⟩;rw [dM] at gd;have aV := Blk.newL wr [V p.id, .bool p.us, .slice da dn dc] 112;have ae : Same wr (wr.alloc (.cells #[V p.id, .bool p.us, .slice da dn dc] 112)) := kZ0.alloc _;obtain ⟨w3, JR, yK, dh, iA, ND, lF⟩ := (j1.same ae).put pW.out (j3.trans ae) j2 p ch;rw [gd] at d2 dh;have HR := (show Hid (∃ ck ce, LwM w3 C ck ce (W.take (k + 1)) ∧ (∀ e ∈ ce, Rd .u8 w e.p.v e.p.bs) ∧ Same w w3) from ⟨JR, yK, by rw [Kn]; exact iA, ND, lF⟩);have jf := hid dh;obtain ⟨pi, lU⟩ : ∃ x, p.id = x := ⟨_, rfl⟩;obtain ⟨pu, N3⟩ : ∃ x, p.us = x := ⟨_, rfl⟩;rw [lU] at d0 aV jf;rw [N3] at d1 aV jf;obtain ⟨X, hX⟩ : ∃ X, wr.heap.size = X := ⟨_, rfl⟩;rw [hX] at aV;clear hc hp ch Kn j1 j2 j3 dM gd ae iA ND lF dh h1 sy HK lU N3
   go_upto_region 5 with fail
   try rw [hX]
   generalize wr.alloc (.cells #[V pi, .bool pu, .slice da dn dc] 112) = w2 at aV jf ⊢;obtain ⟨x0, x1, x2⟩ := aV.all3;have dh := jf.out;clear aV hX d0 d1 d2 jf;go_wp2;go_roundw
   case rel => exact ⟨k + 1, by omega, by go_num, HR.out⟩
   case measure => simp [intOf]; omega
  obtain rfl : L = k := by omega
  obtain ⟨ck, ce, j1, j2, j3⟩ := HK.out;rw [List.take_of_length_le (by rw [EZ.out]; exact Nat.le_refl _)] at j1;obtain ⟨aS, oo⟩ := j1.keys FV.out;rw [HD.out] at aS oo;obtain ⟨N, hN⟩ : ∃ n, D.length = n := ⟨_, rfl⟩
  have Lx : N ≤ 512 := by
   have h1 := V3 (D.map (·.1)) 0 512 (by rw [← HD.out]; exact (VN W 512).1) (fun y hy => by
    obtain ⟨x, hx, rfl⟩ := List.mem_map.1 hy;rw [← HD.out] at hx;have := (VN W 512).2.1 x hx
    exact ⟨this.1, this.2.1⟩)
   rw [List.length_map] at h1;omega
  have gu : (ce.map ELw.kv).length = N := by rw [List.length_map, oo, hN]
  have dW := run_len_map (P := Tryz.prog) (T := 86) (ty := 3) j1.map Tryz.underlying86;rw [gu] at dW;obtain ⟨i0, vp, br, aT, bv⟩ := info_parts Tryz.infoHW;obtain ⟨w2, ji, fj, jo⟩ := run_make_own (P := Tryz.prog) wr 0 67 112 i0 _ 3 Tryz.underlying67 vp br aT .i64 .i64 N (by rw [bv]; omega) (by unfold maxLen; omega) (Nat.zero_le _);have ae : Same wr w2 := kZ0.grown jo (fun k e => by simp at e)
  have lf := (show Hid (UwW wr w2 (.slice (some ⟨wr.heap.size, 0, none⟩) 0 N) []) from ⟨⟨fj, fun p hp => by simp at hp, fun u hu => by simp at hu, by simp⟩, fun b hb => by
   rcases hb with hb | ⟨p, hp, _⟩
   ·have e : wr.heap.size = b := (by simpa [Value.ownBlock] using hb)
    omega
   ·simp at hp, ae⟩)
  have Da := (show Hid (Same wr w2) from ae);have h2 := j1.same ae;have k3 := jfk (some C) w2
  have k4 := jcY w2 C ck (ce.map ELw.kv) h2.map h2.ok (by omega) (fun e he => by
   have h5 : e.1 ∈ Xt ((ce.map ELw.kv).map (·.1)) := (List.mergeSort_perm _ _).symm.subset (List.mem_map_of_mem he);rw [aS] at h5;obtain ⟨x, hx, h6⟩ := List.mem_map.1 h5;rw [← HD.out] at hx;have := (VN W 512).2.1 x hx
   omega)
  rw [aS, gu] at k4
  have dL := (show Hid (∀ (k : Nat) (hk : k < D.length), ∃ (va : Option Addr) (vc : Nat), (∀ wx, Same wr wx → (Instr.lookup 86 (.map (some C)) (V (D[k].1)) false).run Tryz.prog wx = .ok (.agg #[.bool D[k].2.1, .slice va D[k].2.2.length vc]) wx) ∧ Rd .u8 wr (.slice va D[k].2.2.length vc) D[k].2.2 ∧ D[k].2.2.length ≤ 1099511627776) from fun k hk => by
   have hm : D[k] ∈ UG W 512 := by rw [HD.out]; exact List.getElem_mem hk
   have hl := ((VN W 512).2.1 _ hm).2.2;obtain ⟨v, h7, h8⟩ := j1.look hl;obtain ⟨va, vc, rfl⟩ := h8.form;refine ⟨va, vc, h7, h8, ?_⟩
   have : ∀ (l : List WrD) (o : Option (Bool × List Int)) (id : Int), (∀ x ∈ l, x.2.2.length ≤ 1099511627776) → (∀ d, o = some d → d.2.length ≤ 1099511627776) → ∀ d, l.foldl (fun o w => if w.1 = id then some w.2 else o) o = some d → d.2.length ≤ 1099511627776 := by
    intro l
    induction l with
    | nil => intro o id _ ho d hd; exact ho d hd
    | cons x xs ih =>
     intro o id hl ho d hd;rw [List.foldl_cons] at hd;refine ih _ id (fun y hy => hl y (List.mem_cons_of_mem _ hy)) (fun d2 eQ => ?_) d hd
     by_cases hx : x.1 = id
     ·rw [if_pos hx] at eQ; injection eQ with eQ; rw [← eQ]; exact hl x List.mem_cons_self
     ·rw [if_neg hx] at eQ; exact ho d2 eQ
   unfold U9 at hl;refine this W none D[k].1 (fun x hx => ?_) (fun d hd => by cases hd) _ hl;rw [← Lw.out] at hx;obtain ⟨p, hp, rfl⟩ := List.mem_map.1 hx
   exact HS.out p hp)
  have HN := hid hN;have yo := ae.size;have R9 := j3.size;have tL := (show Hid (Same w wr) from j3);clear aS oo gu fj jo ae h2 br aT bv vp hN j1 j2 j3 HK
  go_wp2_with fail
  refine k3.mono ?_;rintro e w3 ⟨rfl, rfl⟩;clear k3 ji dW
  go_wp2_with fail
  refine k4.mono ?_;rintro e w4 ⟨v, rfl, aX, aM⟩;obtain ⟨ch, az, ja⟩ := ZG aX;obtain ⟨ai, ci, rfl⟩ := ch.form;rw [az] at aX;have eJ := (show Hid (w4.ownsRow 0 2 1 (.slice ai N ci) N ((D.map (·.1)).map encZ)) from jgf aX);have nl := hid (lf.out.on ((kZ0.alloc _).trans aM));have ij := (show Hid (Same wr w4) from Da.out.trans ((kZ0.alloc _).trans aM));have gm := (show Hid ((D.map (·.1)).length = N) from az);rw [az];clear k4 aX aM ch ja az lf Da
  go_wp2_with fail
  obtain ⟨wq, Ri⟩ : ∃ z, z = wr := ⟨_, rfl⟩;subst Ri
  go_loopw [6, 30] (fun z i wr => ∃ (k : Nat) (a : Option Addr) (n c : Nat) (qs : List EWr), k ≤ N ∧ i = V k ∧ z = .slice a n c ∧ Hid (TU qs = D.take k) ∧ Hid (UwW wq wr (.slice a n c) qs) ∧ Hid (wr.ownsRow 0 2 1 (.slice ai N ci) N ((D.map (·.1)).map encZ))) (fun _ i _ => N - (intOf i).toNat)
  case atStart => exact ⟨0, _, _, _, [], Nat.zero_le _, rfl, rfl, rfl, nl, eJ⟩
  case round =>
   clear nl eJ ij;obtain ⟨k, fa, fn, fc, qs, hk, rfl, rfl, rQ, HU, eJ⟩ := hrel
   by_cases aG : k < N
   case neg =>
    obtain rfl : N = k := by omega
    have HE := (show Hid (TU qs = D) from by show TU qs = D; rw [rQ.out, List.take_of_length_le (by rw [HN.out]; exact Nat.le_refl _)]);have HF := (show Hid (UwW w wr (.slice fa fn fc) qs) from ⟨HU.out.own, fun b hb => Nat.le_trans tL.out.size (HU.out.foot b hb), tL.out.trans HU.out.same⟩);go_wp2;go_ret;exact ⟨_, _, _, qs, rfl, HE.out, HF.out⟩
   have fH : k < D.length := by rw [HN.out]; exact aG
   have ch := (ZG eJ.out).1;have dS := gm.out;rw [← dS] at ch;obtain ⟨bi, oi, ha, ED, bE⟩ := ch.at8 (by omega);have gn := bE k (by omega);rw [List.getElem_map] at gn;rw [dS] at ED;obtain ⟨va, vc, dH, DJ, Cg⟩ := dL.out k fH
   have fw := (show Hid (∀ v, TU (qs ++ [⟨D[k].1, D[k].2.1, v, D[k].2.2⟩]) = D.take (k + 1)) from fun v => by
    rw [List.take_succ_eq_append_getElem fH, ← rQ.out]
    simp [TU, EWr.dat])
   have bV := (show Hid (qs.length ≤ 512) from by
    have h := congrArg List.length rQ.out;rw [List.length_take] at h
    have h3 : (TU qs).length = qs.length := by simp [TU]
    show qs.length ≤ 512
    omega)
   have Aa := (show Hid (∀ wx, Same wr wx → _) from fun wx hx => jbk (.slice va D[k].2.2.length vc) D[k].2.2 wx Cg ((DJ.same HU.out.same).same hx));have f9 := (show Hid (∀ wx, Same wr wx → (Instr.lookup 86 (.map (some C)) (V (D[k].1)) false).run Tryz.prog wx = .ok (.agg #[.bool D[k].2.1, .slice va D[k].2.2.length vc]) wx) from fun wx hx => dH wx (HU.out.same.trans hx));generalize D[k].1 = key at gn f9 fw;generalize D[k].2.1 = ku at f9 fw;generalize D[k].2.2 = kd at f9 Aa fw;generalize kd.length = kn at f9 Aa;clear ch bE dH DJ Cg dS fH;subst ha;have gU := (show Hid (∀ b, Uc kWr (.slice fa fn fc) qs b → b < wr.heap.size) from fun b hb => (HU.out.own.lt b hb).2);have qS := (show Hid (wq.heap.size ≤ wr.heap.size) from HU.out.same.size)
   go_upto_region 11 with fail
   clear gn
   have SA : ∀ (wx : World), (Instr.field 110 (.agg #[.bool ku, .slice va kn vc]) 0).run Tryz.prog wx = .ok (.bool ku) wx := fun wx => by kernel_rfl
   have l0 : ∀ (wx : World), (Instr.field 110 (.agg #[.bool ku, .slice va kn vc]) 1).run Tryz.prog wx = .ok (.slice va kn vc) wx := fun wx => by kernel_rfl
   let Y1 : World → Prop := fun wx : World => (Instr.lookup 86 (.map (some C)) (V key) false).run Tryz.prog wx = .ok (.agg #[.bool ku, .slice va kn vc]) wx
   refine TT Y1 11 12 rfl (by kernel_rfl) ?_;have aP : Same wr (World.drew wr) := kZ0.drew;generalize World.drew wr = w5 at aP ⊢;have aH := hid aP;clear aP;have hS : Y1 w5 := f9.out w5 aH.out;refine tk 0 34 hS ?_;refine tk 1 35 hS ?_;refine tk 2 36 hS ?_;refine tk 3 37 hS ?_;refine tk 4 38 hS ?_;refine tk 5 39 hS ?_;refine tk 6 40 hS ?_;refine tk 7 41 hS ?_;refine YH (i := 8) (j := 10) (by kernel_rfl) rfl rfl (fun Kc ak => ?_) (fun Kc ak => ?_)
   ·go_simp
    refine (Aa.out w5 aH.out).mono ?_;rintro e w6 ⟨a5, n5, c5, rfl, bh, hf, hk⟩;have iK := hid bh;have yx := (show Hid (∀ b, (Value.slice a5 n5 c5).ownBlock = some b → wr.heap.size ≤ b) from fun b hb => Nat.le_trans aH.out.size (hf b hb));have xT := hid hk;have bI := hid (aH.out.trans hk);clear bh hf hk hS;have hS : Y1 w6 := f9.out w6 bI.out
    go_wp2_with fail
    refine ak.out _ _ (fun _ => hS) ?_;clear ak Kc
    try simp only [Act.put, sA, s0, sS]
    refine tk 9 43 hS ?_;refine o1Q 10 (fun Kc ak => ?_);go_simp;have fN := Blk.newL w6 [.bool false, V0] 110;have fC : Same w6 (w6.alloc (.cells #[.bool false, V0] 110)) := kZ0.alloc _;obtain ⟨Z, hZ⟩ : ∃ z, w6.heap.size = z := ⟨_, rfl⟩;rw [hZ] at fN
    try rw [hZ]
    generalize w6.alloc (.cells #[.bool false, V0] 110) = w7 at fN fC ⊢;have eN := hid fN;have JW := hid fC;have Cj := (show Hid (wr.heap.size ≤ Z) from by have := bI.out.size; show wr.heap.size ≤ Z; omega);have aZ := hid (bI.out.trans fC);clear fN fC hZ hS;have hS : Y1 w7 := f9.out w7 aZ.out;refine ak.out _ _ (fun _ => hS) ?_;clear ak Kc
    try simp only [Act.put, sA, s0, sS]
    have mV := hid (iK.out.same JW.out);clear iK JW;obtain ⟨z0, z1⟩ := eN.out.all2;have zf := eN.out.frozen;refine o1Q 11 (fun Kc ak => ?_);go_simp;refine ak.out _ _ (fun h => absurd rfl h) ?_;clear ak Kc hS;refine TS (by kernel_rfl) ?_
    try simp only [Act.put, sA, s0, sS]
    have kI : Kept (fun b => b = Z) w7 ((w7.setCell ⟨Z, 0, none⟩ (.bool ku)).setCell ⟨Z, 1, none⟩ (.slice a5 n5 c5)) := Kept.setCell (R := fun b => b = Z) (Kept.setCell (R := fun b => b = Z) kZ0 (p := ⟨Z, 0, none⟩) (.inr rfl) _) (p := ⟨Z, 1, none⟩) (.inr rfl) _;have lC := (show Hid (Blk ((w7.setCell ⟨Z, 0, none⟩ (.bool ku)).setCell ⟨Z, 1, none⟩ (.slice a5 n5 c5)) Z 110 [.bool ku, .slice a5 n5 c5]) from (eN.out.stored 0 _).stored 1 _);have ir := hid (aZ.out.next kI (fun i hi e => by have := Cj.out; omega));have vY := hid (mV.out.kept kI (fun b hb e => Un eN.out mV.out (by decide) b hb e));clear z0 z1 zf kI eN mV aZ Cj aH f9 Aa;generalize (w7.setCell ⟨Z, 0, none⟩ (.bool ku)).setCell ⟨Z, 1, none⟩ (.slice a5 n5 c5) = w8 at lC ir vY ⊢;obtain ⟨y0, y1⟩ := lC.out.all2;have sk := hid (HU.out.on ir.out);have I3 := (show Hid (w8.ownsRow 0 2 1 (.slice (some ⟨bi, oi, none⟩) N ci) N ((D.map (·.1)).map encZ)) from ir.out.owns eJ.out (fun _ _ h => h));have lR := (show Hid (Same w8 (w8.alloc (.cells #[V key, .bool ku, .slice a5 n5 c5] 112))) from kZ0.alloc _)
    go_wp2_with (at_builtin; go_loud (refine X8 (w0 := wq) (qs := qs) (id := key) (u := ku) (v := .slice a5 n5 c5) (bs := kd) rfl (.tmp 44) (.tmp 48) rfl rfl rfl (Blk.newL w8 [V key, .bool ku, .slice a5 n5 c5] 112) rfl (sk.out.on lR.out) (vY.out.same lR.out) (fun b' bw => ⟨by have := yx.out b' bw; have := qS.out; omega, fun hf => by have := yx.out b' bw; have := gU.out b' hf; omega⟩) (by have := bV.out; omega) ?_); intro gF cF w9 CR IL BO; have qp := hid CR; have fB := hid BO; clear CR IL BO)
    have kK := (show Hid (w9.ownsRow 0 2 1 (.slice (some ⟨bi, oi, none⟩) N ci) N ((D.map (·.1)).map encZ)) from by
     have h1 := lR.out.owns I3.out (fun _ _ h => h)
     exact fB.out.owns h1 (own_ne h1 (sk.out.on lR.out).own.row (by decide)))
    go_roundw
    case rel => exact ⟨k + 1, _, _, _, _, by omega, by go_num, rfl, fw.out _, qp, kK⟩
    case measure => simp [intOf]; omega
   ·go_simp
    have fN := Blk.newL w5 [.bool false, V0] 110;have fC : Same w5 (w5.alloc (.cells #[.bool false, V0] 110)) := kZ0.alloc _;obtain ⟨Z, hZ⟩ : ∃ z, w5.heap.size = z := ⟨_, rfl⟩;rw [hZ] at fN
    try rw [hZ]
    generalize w5.alloc (.cells #[.bool false, V0] 110) = w6 at fN fC ⊢;have eN := hid fN;have JW := hid fC;have Cj := (show Hid (wr.heap.size ≤ Z) from by have := aH.out.size; show wr.heap.size ≤ Z; omega);have bI := hid (aH.out.trans fC);clear fN fC hZ hS;have hS : Y1 w6 := f9.out w6 bI.out;refine ak.out _ _ (fun _ => hS) ?_;clear ak Kc
    try simp only [Act.put, sA, s0, sS]
    refine o1Q 8 (fun Kc ak => ?_);go_simp;refine (Aa.out w6 bI.out).mono ?_;rintro e w7 ⟨a5, n5, c5, rfl, bh, hf, hk⟩;have mV := hid bh;have yx := (show Hid (∀ b, (Value.slice a5 n5 c5).ownBlock = some b → wr.heap.size ≤ b) from fun b hb => Nat.le_trans bI.out.size (hf b hb));have xT := hid hk;have aZ := hid (bI.out.trans hk);clear bh hf hk hS;have hS : Y1 w7 := f9.out w7 aZ.out
    go_wp2_with fail
    refine ak.out _ _ (fun _ => hS) ?_;clear ak Kc
    try simp only [Act.put, sA, s0, sS]
    have lT := hid (eN.out.same xT.out);clear eN xT;have eN := lT;clear lT;refine tk 9 43 hS ?_;obtain ⟨z0, z1⟩ := eN.out.all2;have zf := eN.out.frozen;refine o1Q 11 (fun Kc ak => ?_);go_simp;refine ak.out _ _ (fun h => absurd rfl h) ?_;clear ak Kc hS;refine TS (by kernel_rfl) ?_
    try simp only [Act.put, sA, s0, sS]
    have kI : Kept (fun b => b = Z) w7 ((w7.setCell ⟨Z, 0, none⟩ (.bool ku)).setCell ⟨Z, 1, none⟩ (.slice a5 n5 c5)) := Kept.setCell (R := fun b => b = Z) (Kept.setCell (R := fun b => b = Z) kZ0 (p := ⟨Z, 0, none⟩) (.inr rfl) _) (p := ⟨Z, 1, none⟩) (.inr rfl) _;have lC := (show Hid (Blk ((w7.setCell ⟨Z, 0, none⟩ (.bool ku)).setCell ⟨Z, 1, none⟩ (.slice a5 n5 c5)) Z 110 [.bool ku, .slice a5 n5 c5]) from (eN.out.stored 0 _).stored 1 _);have ir := hid (aZ.out.next kI (fun i hi e => by have := Cj.out; omega));have vY := hid (mV.out.kept kI (fun b hb e => Un eN.out mV.out (by decide) b hb e));clear z0 z1 zf kI eN mV aZ Cj aH f9 Aa;generalize (w7.setCell ⟨Z, 0, none⟩ (.bool ku)).setCell ⟨Z, 1, none⟩ (.slice a5 n5 c5) = w8 at lC ir vY ⊢;obtain ⟨y0, y1⟩ := lC.out.all2;have sk := hid (HU.out.on ir.out);have I3 := (show Hid (w8.ownsRow 0 2 1 (.slice (some ⟨bi, oi, none⟩) N ci) N ((D.map (·.1)).map encZ)) from ir.out.owns eJ.out (fun _ _ h => h));have lR := (show Hid (Same w8 (w8.alloc (.cells #[V key, .bool ku, .slice a5 n5 c5] 112))) from kZ0.alloc _)
    go_wp2_with (at_builtin; go_loud (refine X8 (w0 := wq) (qs := qs) (id := key) (u := ku) (v := .slice a5 n5 c5) (bs := kd) rfl (.tmp 44) (.tmp 48) rfl rfl rfl (Blk.newL w8 [V key, .bool ku, .slice a5 n5 c5] 112) rfl (sk.out.on lR.out) (vY.out.same lR.out) (fun b' bw => ⟨by have := yx.out b' bw; have := qS.out; omega, fun hf => by have := yx.out b' bw; have := gU.out b' hf; omega⟩) (by have := bV.out; omega) ?_); intro gF cF w9 CR IL BO; have qp := hid CR; have fB := hid BO; clear CR IL BO)
    have kK := (show Hid (w9.ownsRow 0 2 1 (.slice (some ⟨bi, oi, none⟩) N ci) N ((D.map (·.1)).map encZ)) from by
     have h1 := lR.out.owns I3.out (fun _ _ h => h)
     exact fB.out.owns h1 (own_ne h1 (sk.out.on lR.out).own.row (by decide)))
    go_roundw
    case rel => exact ⟨k + 1, _, _, _, _, by omega, by go_num, rfl, fw.out _, qp, kK⟩
    case measure => simp [intOf]; omega
theorem jdd {w0 w : World} {ops : Array Oper} {rest : List Oper} {o : Oper} {a : Act} {Q : Exit → Act → World → Prop} (dY : o.guard = none) (s x : Operand)
  (ho : o.op = .call { callee := .builtin .append, args := #[s, x], argTypes := #[31, 31] }) {fa : Option Addr} {fn fc B : Nat} {ts : List ETx} {t : ETx} (hs : a.eval s = .slice fa fn fc) (hx : a.eval x = Q4 B 1 1)
  (hB : Blk w B 78 [V t.id, t.v]) (dj : t.v.oneCell' = true) (hU : UwT w0 w (.slice fa fn fc) ts) (ht : OwnR kWr 0 112 5 w t.v t.ps) (hf : ∀ b, Uc kWr t.v t.ps b → w0.heap.size ≤ b ∧ ∀ x ∈ ts, ¬ Uc kWr x.v x.ps b) (hq : ts.length ≤ 100000000)
  (h : ∀ gF cF w', UwT w0 w' (Q4 gF (fn + 1) cF) (ts ++ [t]) → Kept (fun b => (Value.slice fa fn fc).ownBlock = some b) w w' → wpList Tryz.prog ops Q rest (a.put o.dst (Q4 gF (fn + 1) cF)) w') : wpList Tryz.prog ops Q (o :: rest) a w := by
 refine wpList_plain dY (fun K hK => ?_);have h1 := jbo (ops := ops) (K := K) (Q := Q) (E := True) dY s x ho hs hx hB dj hU ht hf hq (fun gF cF w' h1 _ h3 => hK _ _ (h gF cF w' h1 h3))
 have hw : Region.wanted o (yielded ops a.tmps) = true := by simp [Region.wanted, dY]
 rwa [if_pos hw] at h1
theorem jgx {te : List ETp} {D : List (Int × List WrD)} (hD : (te.map ETp.dat).Perm D) (hr : (D.map (·.1)).Pairwise (· < ·)) : Xt ((te.map ETp.kv).map (·.1)) = D.map (·.1) := by
 have h1 : ((te.map ETp.kv).map (·.1)).Perm (D.map (·.1)) := by
  have h2 := hD.map (·.1);rw [List.map_map] at h2 ⊢;exact h2
 have hn : ((te.map ETp.kv).map (·.1)).Nodup := h1.nodup_iff.2 (hr.imp (fun h => by omega));exact lt_eq (jaM hn) hr ((List.mergeSort_perm _ _).trans h1)
def ZX (D : List (Int × List WrD)) : List (Int × List WrD) := D.map (fun t => (t.1, UG t.2 512))
def TlR (w w' : World) (e : Ending) (D : List (Int × List WrD)) : Prop := ∃ (a : Option Addr) (n c : Nat) (ts : List ETx), e = .returned (.slice a n c) ∧ Uo ts = ZX D ∧ UwT w w' (.slice a n c) ts
theorem jfB (lo M : Nat) (gp gf gl : Int) (x : PmX) (st : PlS) (n0 : Nat) (w : World) (h : PmI w lo M gp gf gl x) (hd : PmD x st) (bd : OkS gp n0 st) (hn : n0 ≤ 4096) (hg : 0 ≤ gp ∧ gp ≤ 16) :
  Calls Tryz.prog 36 #[Q3 M 0] w fun e w' => TlR w w' e st.txns := by
 obtain ⟨i0, vp, br, aT, bv⟩ := info_parts Tryz.infoPT;obtain ⟨D, hD⟩ : ∃ z, st.txns = z := ⟨_, rfl⟩;have cr := hd.txns;have Kt := bd.rt;have Lv := bd.n8;rw [hD] at cr Kt Lv
 have gu : (x.te.map ETp.kv).length = D.length := by have := cr.length_eq; simpa using this
 have dW := run_len_map (P := Tryz.prog) (T := 88) (ty := 3) h.n.txn Tryz.underlying88;rw [gu] at dW;obtain ⟨N, hN⟩ : ∃ n, D.length = n := ⟨_, rfl⟩;rw [hN] at dW Lv;obtain ⟨w2, ji, fj, jo⟩ := run_make_own (P := Tryz.prog) w 0 31 78 i0 _ 2 Tryz.underlying31 vp br aT .i64 .i64 N (by rw [bv]; omega) (by unfold maxLen; omega) (Nat.zero_le _);have ae : Same w w2 := kZ0.grown jo (fun k e => by simp at e)
 have lf := (show Hid (UwT w w2 (.slice (some ⟨w.heap.size, 0, none⟩) 0 N) []) from ⟨fj, fun t ht => by simp at ht, List.Pairwise.nil, fun b hb => by
  rcases hb with hb | ⟨t, ht, _⟩
  ·have e : w.heap.size = b := (by simpa [Value.ownBlock] using hb)
   omega
  ·simp at ht, ae⟩)
 have h2 := h.same ae;have k3 := jfj (some x.T) w2
 have k4 := jcX w2 x.T x.tk (x.te.map ETp.kv) h2.n.txn h2.n.tok (by omega) (fun e he => by
  obtain ⟨y, hy, rfl⟩ := List.mem_map.1 he;have hm : y.dat ∈ st.txns := hd.txns.subset (List.mem_map_of_mem hy);have h5 := bd.told _ hm;have h6 := bd.mx;have e1 : y.dat.1 = y.kv.1 := rfl
  omega)
 rw [jgx cr Kt, gu, hN] at k4
 have dL := (show Hid (∀ (k : Nat) (hk : k < D.length), ∃ (g : Nat) (va : Option Addr) (vc : Nat) (ps : List EWr), TU ps = D[k].2 ∧ ps.length ≤ 4096 ∧ (∀ p ∈ ps, OkB p.bs ∧ 0 ≤ p.id ∧ p.id < 512) ∧ (∀ wx, Same w wx → (Instr.lookup 88 (.map (some x.T)) (V (D[k].1)) false).run Tryz.prog wx = .ok (Q3 g 0) wx ∧ wx.cell? ⟨g, 1, none⟩ = some (.slice va ps.length vc) ∧ RdR kWr wx (.slice va ps.length vc) ps)) from fun k hk => by
  have hm : D[k] ∈ st.txns := by rw [hD]; exact List.getElem_mem hk
  rcases XK hd bd.rt D[k].1 with ⟨_, h3, _⟩ | ⟨pre, t, post, h3, h4, h5, h6⟩
  ·rw [ZC bd.rt hm] at h3; cases h3
  ·rw [ZC bd.rt hm] at h6
   injection h6 with h6
   have Im : t ∈ x.te := by rw [h3]; exact List.mem_append_right _ List.mem_cons_self
   have yY := bd.okw _ hm;obtain ⟨va, vc, hv⟩ := (h.n.tw t Im).form
   have az : t.ps.length ≤ 4096 := by
    have h7 := yY.len;rw [h6] at h7
    have h8 : (TU t.ps).length = t.ps.length := by simp [TU]
    omega
   refine ⟨t.g, va, vc, t.ps, h6.symm, az, fun p hp => ?_, fun wx hx => ⟨?_, ?_, ?_⟩⟩
   ·have Lj : p.dat ∈ D[k].2 := by rw [h6]; exact List.mem_map_of_mem hp
    have h9 := yY.ids _ Lj;have e1 : p.dat.1 = p.id := rfl;exact ⟨yY.ok _ Lj, by omega, by omega⟩
   ·have h7 := Ye ((h.same hx).n.txn) D[k].1
    rw [h5] at h7;exact h7
   ·have h7 := ((h.same hx).n.tb t Im).cell 1
    simp only [List.getElem?_cons_zero, List.getElem?_cons_succ] at h7;rw [hv] at h7;exact h7
   ·rw [← hv]
    exact ((h.same hx).n.tw t Im).rd)
 have H := hid h;have HN := hid hN;have yo := ae.size;have c6 := h.box.cell 6;have MP := h2.box.cell 6;simp only [PmC, List.getElem?_cons_zero, List.getElem?_cons_succ] at c6 MP;rw [hD];clear h hd bd gu fj jo ae h2 br aT bv vp hN hD cr Kt hn hg
 go_enter Tryz.func36, Tryz.ntmps36
 go_wp2_with fail
 refine k3.mono ?_;rintro e w3 ⟨rfl, rfl⟩;clear k3 ji dW c6 MP
 go_wp2_with fail
 refine k4.mono ?_;rintro e w4 ⟨v, rfl, aX, aM⟩;obtain ⟨ch, az, ja⟩ := ZG aX;obtain ⟨ai, ci, rfl⟩ := ch.form;rw [az] at aX;have eJ := (show Hid (w4.ownsRow 0 2 1 (.slice ai N ci) N ((D.map (·.1)).map encZ)) from jgf aX);have nl := hid (lf.out.on ((kZ0.alloc _).trans aM));have gm := (show Hid ((D.map (·.1)).length = N) from az);rw [az];clear k4 aX aM ch ja az lf
 go_wp2_with fail
 go_loopw [3, 19] (fun z i wr => ∃ (k : Nat) (a : Option Addr) (n c : Nat) (ts : List ETx), k ≤ N ∧ i = V k ∧ z = .slice a n c ∧ Hid (Uo ts = ZX (D.take k)) ∧ Hid (UwT w wr (.slice a n c) ts) ∧ Hid (wr.ownsRow 0 2 1 (.slice ai N ci) N ((D.map (·.1)).map encZ))) (fun _ i _ => N - (intOf i).toNat)
 case atStart => exact ⟨0, _, _, _, [], Nat.zero_le _, rfl, rfl, rfl, nl, eJ⟩
 case round =>
  clear nl eJ;obtain ⟨k, fa, fn, fc, ts, hk, rfl, rfl, rQ, HU, eJ⟩ := hrel
  by_cases aG : k < N
  case neg =>
   obtain rfl : N = k := by omega
   have HE := (show Hid (Uo ts = ZX D) from by show Uo ts = ZX D; rw [rQ.out, List.take_of_length_le (by rw [HN.out]; exact Nat.le_refl _)]);go_wp2;go_ret;exact ⟨_, _, _, ts, rfl, HE.out, HU.out⟩
  have fH : k < D.length := by rw [HN.out]; exact aG
  have ch := (ZG eJ.out).1;have dS := gm.out;rw [← dS] at ch;obtain ⟨bi, oi, ha, ED, bE⟩ := ch.at8 (by omega);have gn := bE k (by omega);rw [List.getElem_map] at gn;rw [dS] at ED;obtain ⟨g, va, vc, ps, lH, mT, Hf, dH⟩ := dL.out k fH;obtain ⟨MQ, wo, wO⟩ := dH wr HU.out.same;have kC := jfA (.slice va ps.length vc) ps wr (by omega) (fun p hp => by have := (Hf p hp).1.2; omega) (fun p hp => (Hf p hp).2) wO
  have fw := (show Hid (∀ v qs, TU qs = UG (TU ps) 512 → Uo (ts ++ [⟨D[k].1, v, qs⟩]) = ZX (D.take (k + 1))) from fun v qs hq => by
   rw [List.take_succ_eq_append_getElem fH];unfold ZX;rw [List.map_append];have h1 : Uo ts = (D.take k).map (fun t => (t.1, UG t.2 512)) := rQ.out;rw [← h1]
   simp only [Uo, List.map_append, List.map_cons, List.map_nil, ETx.dat, hq, lH])
  have bV := (show Hid (ts.length ≤ 512) from by
   have h := congrArg List.length rQ.out;unfold ZX at h;rw [List.length_map, List.length_take] at h
   have h3 : (Uo ts).length = ts.length := by simp [Uo]
   show ts.length ≤ 512
   omega)
  have m6 := (H.out.same HU.out.same).box.cell 6;simp only [PmC, List.getElem?_cons_zero, List.getElem?_cons_succ] at m6;generalize D[k].1 = key at gn MQ fw;generalize ps.length = pn at wo kC
  have gU := (show Hid (∀ b, (∃ x ∈ ts, Uc kWr x.v x.ps b) → b < wr.heap.size) from fun b hb => by
   obtain ⟨y, hy, hf⟩ := hb
   exact ((HU.out.wr y hy).lt b hf).2)
  have qS := (show Hid (w.heap.size ≤ wr.heap.size) from HU.out.same.size);clear ch bE dH wO lH mT Hf dS fH;subst ha
  go_wp2_with fail
  refine kC.mono ?_;rintro e w5 ⟨a5, n5, c5, qs, rfl, p9, oR⟩;have dI := hid oR.own;have rE := hid oR.foot;have pV := hid (HU.out.on oR.same);have mK := hid (oR.same.owns eJ.out (fun _ _ h => h));have AX := hid (fw.out (.slice a5 n5 c5) qs p9);have lR := (show Hid (Same w5 (w5.alloc (.cells #[V key, .slice a5 n5 c5] 78))) from kZ0.alloc _);clear kC p9 oR gn MQ wo eJ fw HU m6
  go_wp2_with (at_builtin; go_loud (refine jdd (w0 := w) (ts := ts) (t := ⟨key, .slice a5 n5 c5, qs⟩) rfl (.tmp 23) (.tmp 36) rfl rfl rfl (Blk.newL w5 [V key, .slice a5 n5 c5] 78) rfl (pV.out.on lR.out) (dI.out.same lR.out) (fun b' bw => ⟨by have := rE.out b' bw; have := qS.out; omega, fun y hy hf => by have := rE.out b' bw; have := gU.out b' ⟨y, hy, hf⟩; omega⟩) (by have := bV.out; omega) ?_); intro gF cF w6 CO Bs; have CK := hid CO; have bI := hid Bs; clear CO Bs)
  have C8 := (show Hid (w6.ownsRow 0 2 1 (.slice (some ⟨bi, oi, none⟩) N ci) N ((D.map (·.1)).map encZ)) from by
   have h1 := lR.out.owns mK.out (fun _ _ h => h)
   exact bI.out.owns h1 (own_ne h1 (pV.out.on lR.out).row (by decide)))
  go_roundw
  case rel => exact ⟨k + 1, _, _, _, _, by omega, by go_num, rfl, AX.out, CK, C8⟩
  case measure => simp [intOf]; omega
end Go.Proofs.YtljfcdkhicffcaaGreat
