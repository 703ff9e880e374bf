/-
  slices.IndexFunc with a captured variable, slices.DeleteFunc at holds; the program's HoldFree (by tools/gen/holdfreel.py).
-/
import Derived.Test.YtagcefbnhpkdiabHoldIns
namespace Go.Proofs.Ytagcefbnhpkdiab
set_option maxRecDepth 100000
set_option maxHeartbeats 4000000
open Go.RowKit
set_option linter.unusedVariables false
set_option linter.unusedSimpArgs false

theorem flat_setD (ls : List T3) (k : Nat) (h : k < ls.length) (p q r : Int) : (((flat3 ls).set (k * 3) p).set (k * 3 + 1) q).set (k * 3 + 2) r = flat3 (ls.set k (p, q, r)) := by
  induction ls generalizing k with
  | nil => simp at h
  | cons a t ih =>
    obtain ⟨a1, a2, a3⟩ := a
    cases k with
    | zero => simp [flat3]
    | succ k =>
      have := ih k (by simpa using h)
      rw [show (k + 1) * 3 = k * 3 + 3 from by omega]
      simp only [flat3, List.set_cons_succ]
      rw [← this]
theorem flat_takeD (ls : List T3) (k : Nat) (h : k ≤ ls.length) : (flat3 ls).take (k * 3) = flat3 (ls.take k) := by
  induction ls generalizing k with
  | nil => obtain rfl : k = 0 := by simpa using h
           rfl
  | cons a t ih =>
    obtain ⟨a1, a2, a3⟩ := a
    cases k with
    | zero => simp [flat3]
    | succ k =>
      have := ih k (by simpa using h)
      rw [show (k + 1) * 3 = k * 3 + 3 from by omega]
      simp only [flat3, List.take_succ_cons]
      rw [← this]
def Asks3c (fid : FuncId) (cp : Value) (f : T3 → Bool) (S : World → Prop) : Prop :=
  ∀ (p : T3) (wx : World), S wx → Calls Try.prog fid #[.agg #[.int .i64 p.1, .int .i64 p.2.1, .int .i64 p.2.2], cp] wx fun e w' => e = .returned (.bool (f p)) ∧ Same wx w'
theorem idxF3_spec (f : T3 → Bool) : ∀ (ps : List T3) (k : Nat), (idxF3 f k ps = -1 ∧ ∀ p ∈ ps, f p = false) ∨ ∃ (i : Nat) (h : i < ps.length), idxF3 f k ps = ((k + i : Nat) : Int) ∧ f ps[i] = true ∧ ∀ p ∈ ps.take i, f p = false
  | [], k => .inl ⟨rfl, fun p hp => by simp at hp⟩
  | q :: t, k => by
    by_cases hq : f q = true
    · exact .inr ⟨0, by simp, by simp [idxF3, hq], hq, fun p hp => by simp at hp⟩
    · have hq' : f q = false := by simpa using hq
      have e : idxF3 f k (q :: t) = idxF3 f (k + 1) t := if_neg hq
      rcases idxF3_spec f t (k + 1) with ⟨h1, h2⟩ | ⟨i, h, h1, h2, h3⟩
      · exact .inl ⟨by rw [e, h1], fun p hp => by
          rcases List.mem_cons.1 hp with rfl | hp
          · exact hq'
          · exact h2 p hp⟩
      · exact .inr ⟨i + 1, by simpa using h, by rw [e, h1]; omega, by simpa using h2, fun p hp => by
          rw [List.take_succ_cons] at hp
          rcases List.mem_cons.1 hp with rfl | hp
          · exact hq'
          · exact h3 p hp⟩
theorem indexHc_any (fid : FuncId) (cp : Value) (f : T3 → Bool) (S : World → Prop) (x : FR) (w : World) (hv : RdF 3 w x) (hent : Enters8 fid) (hS : S w) (hSs : ∀ wx wy, S wx → Same wx wy → S wy) (hf : Asks3c fid cp f S) :
    Calls Try.prog 63 #[x.v, .func (.func fid) #[] #[cp]] w fun e w' => e = .returned (.int .i64 (idxF3 f 0 (tri x.bs))) ∧ Same w w' := by
  obtain ⟨xe, xa, n, xc, bs⟩ := x
  have hm : n ≤ maxLen := hv.1
  unfold maxLen at hm
  have hl := tri_length n bs hv.2.1
  dsimp only [FR.v]
  have HSS := hid hSs
  have HS0 := hid hS
  have HV := hid hv
  have HF : Hid (Asks3c fid cp f S) := hf
  obtain ⟨R, hR⟩ : ∃ R, idxF3 f 0 (tri bs) = R := ⟨_, rfl⟩
  have HR : Hid (idxF3 f 0 ((tri bs).drop 0) = R) := by rw [List.drop_zero]; exact hR
  rw [hR]
  have HL := hid hl
  clear hv hf hR hl hS hSs
  have hent' : ∀ (args : Array Value) (wx : World), (callFunc fid args).run Try.prog wx = .ok (.enter fid args) wx := hent
  clear hent
  go_enter Try.func63, Try.ntmps63
  go_wp2
  go_loopw [8] (fun i wr => ∃ k : Nat, k ≤ n ∧ i = .int .i64 k ∧ Hid (idxF3 f k ((tri bs).drop k) = R) ∧ Hid (Same w wr)) (fun i _ => n - (intOf i).toNat)
  case atStart => exact ⟨0, Nat.zero_le _, rfl, HR, Kept.refl _ _⟩
  case round =>
    obtain ⟨k, hk, rfl, HA, HK⟩ := hrel
    by_cases hlt : k < n
    · obtain ⟨b, off, ha, hc⟩ := HV.out.some (show 0 < n by omega)
      dsimp only at ha hc
      subst ha
      have hla : k < (tri bs).length := by rw [HL.out]; omega
      have HA2 : Hid ((if f (tri bs)[k] = true then (k : Int) else idxF3 f (k + 1) ((tri bs).drop (k + 1))) = R) := by have h := HA.out; rw [idxF3_at hla] at h; exact h
      have kf := HF.out (tri bs)[k] wr (HSS.out w wr HS0.out HK.out)
      obtain ⟨⟨x, y, z⟩, hxa⟩ : ∃ q, (tri bs)[k] = q := ⟨_, rfl⟩
      obtain ⟨da0, da1, da2⟩ := (HV.out.same HK.out).tri k hla _ _ _ hxa
      rw [hxa] at kf HA2
      dsimp only at kf
      cases hb : f (x, y, z) with
      | true =>
        have HE : Hid ((k : Int) = R) := by have h := HA2.out; rw [if_pos hb] at h; exact h
        rw [hb] at kf
        clear HA2 HA hb hxa
        go_wp2_with fail
        refine kf.mono ?_
        rintro e w1 ⟨rfl, hk1⟩
        have HK1 := (show Hid (Same w w1) from HK.out.trans hk1)
        clear da0 da1 da2 kf hk1
        go_wp2
        go_ret
        exact ⟨by rw [← HE.out]; rfl, HK1.out⟩
      | false =>
        have HE : Hid (idxF3 f (k + 1) ((tri bs).drop (k + 1)) = R) := by have h := HA2.out; rw [if_neg (by simp [hb])] at h; exact h
        rw [hb] at kf
        clear HA2 HA hb hxa
        go_wp2_with fail
        refine kf.mono ?_
        rintro e w1 ⟨rfl, hk1⟩
        have HK1 := (show Hid (Same w w1) from HK.out.trans hk1)
        clear da0 da1 da2 kf hk1
        go_wp2
        go_roundw
        case rel => exact ⟨k + 1, by omega, by go_num, HE, HK1⟩
        case measure => simp [intOf]; omega
    · obtain rfl : n = k := by omega
      have he : (-1 : Int) = R := by have h := HA.out; rw [← HL.out, idxF3_end] at h; exact h
      go_wp2
      go_ret
      exact ⟨by rw [← he]; rfl, HK.out⟩


theorem deleteH_any (fid : FuncId) (cp : Value) (f : T3 → Bool) (S : World → Prop) (xa : Option Addr) (n c : Nat) (hs : List T3) (w : World) (hn : n ≤ 1048576) (ho : OwnL w (FR.rows 3 ⟨53, xa, n, c, flat3 hs⟩)) (hS : S w)
    (hSk : ∀ wx wy, S wx → Kept (FootL (FR.rows 3 ⟨53, xa, n, c, flat3 hs⟩)) wx wy → S wy) (hent : Enters8 fid) (hf : Asks3c fid cp f S) :
    Calls Try.prog 33 #[.slice xa n c, .func (.func fid) #[] #[cp]] w fun e w' => ∃ m, e = .returned (.slice xa m c) ∧ OwnL w' (FR.rows 3 ⟨53, xa, m, c, flat3 (hs.filter (fun p => !f p))⟩) ∧ Kept (FootL (FR.rows 3 ⟨53, xa, n, c, flat3 hs⟩)) w w' := by
  have k0 := indexHc_any fid cp f S ⟨53, xa, n, c, flat3 hs⟩ w (FR.own_rd ho) hent hS (fun wx wy h1 h2 => hSk wx wy h1 (h2.mono (fun b _ e => e.elim))) hf
  have hlen : hs.length = n := by have := FR.own_len ho; dsimp only at this; rw [flat3_length] at this; omega
  dsimp only [FR.v] at k0
  rw [tri_flat3] at k0
  have hent' : ∀ (args : Array Value) (wx : World), (callFunc fid args).run Try.prog wx = .ok (.enter fid args) wx := hent
  rcases idxF3_spec f hs 0 with ⟨h1, h2⟩ | ⟨i, hi, h1, h2, h3⟩
  · rw [h1] at k0
    have hfil : hs.filter (fun p => !f p) = hs := List.filter_eq_self.2 (fun p hp => by simp [h2 p hp])
    have HO := hid ho
    rw [hfil]
    clear hfil h1 h2 ho hSk hf hS
    go_enter Try.func33, Try.ntmps33
    go_wp2_with fail
    refine k0.mono ?_
    rintro e w1 ⟨rfl, hk1⟩
    have HK1 := hid hk1
    clear hk1
    go_wp2
    go_ret
    exact ⟨n, rfl, HO.out.same HK1.out, HK1.out.mono (fun b _ e => e.elim)⟩
  rw [h1, Nat.zero_add] at k0
  rcases FR.own_form ho with ⟨h, _, _⟩ | ⟨g, hg, hnc, hcm, hof⟩
  · dsimp only at h; omega
  dsimp only at hg hnc hcm hof
  unfold maxLen at hcm
  subst hg
  have hft : ∀ b, FootL (FR.rows 3 ⟨53, some ⟨g, 0, none⟩, n, c, flat3 hs⟩) b ↔ b = g := fun b => ⟨fun h => (FootL_fr h).symm, fun h => (FootL_one _ _).2 (by rw [h]; rfl)⟩
  have HSK : Hid (∀ wx wy, S wx → Kept (fun b => b = g) wx wy → S wy) := fun wx wy h1 h2 => hSk wx wy h1 (h2.mono (fun b _ e => (hft b).2 e))
  suffices HH : Calls Try.prog 33 #[.slice (some ⟨g, 0, none⟩) n c, .func (.func fid) #[] #[cp]] w fun e w' => ∃ m, e = .returned (.slice (some ⟨g, 0, none⟩) m c) ∧ OwnF 3 53 w' g m c (flat3 (hs.filter (fun p => !f p))) ∧ Kept (fun b => b = g) w w' by
    refine HH.mono ?_
    rintro e w' ⟨m, rfl, h1, h2⟩
    exact ⟨m, rfl, h1.out, h2.mono (fun b _ e => (hft b).2 e)⟩
  have HOF := hid hof
  have HF := hid hf
  have HS0 := hid hS
  have HI : Hid (hs.take i = (hs.take (i + 1)).filter (fun p => !f p)) := by
    unfold Hid
    rw [List.take_succ_eq_append_getElem hi, List.filter_append, List.filter_eq_self.2 (fun p hp => by simp [h3 p hp])]
    simp [h2]
  have HLN := hid hlen
  have hin : i < n := by omega
  clear h1 h2 h3 ho hof hSk hf hS hft hlen
  go_enter Try.func33, Try.ntmps33
  go_wp2_with fail
  refine k0.mono ?_
  rintro e w1 ⟨rfl, hk1⟩
  have HK1 : Hid (Kept (fun b => b = g) w w1) := hk1.mono (fun b _ e => e.elim)
  have HO1 := hid (HOF.out.same hk1)
  clear hk1 k0
  have hi1 : ((i : Int) == -1) = false := by simp
  go_wp2_with fail
  go_loopw [5, 6] (fun u v wr => ∃ (a b : Nat) (ls : List T3), a < b ∧ b ≤ n ∧ u = .int .i64 a ∧ v = .int .i64 b ∧ Hid (OwnF 3 53 wr g n c (flat3 ls)) ∧ Hid (ls.length = n ∧ ls.take a = (hs.take b).filter (fun p => !f p) ∧ ls.drop b = hs.drop b) ∧ Hid (Kept (fun b => b = g) w wr)) (fun _ v _ => n - (intOf v).toNat)
  case atStart => exact ⟨i, i + 1, hs, by omega, by omega, rfl, by go_num, HO1, ⟨HLN.out, HI.out, rfl⟩, HK1⟩
  case round =>
    obtain ⟨a, b, ls, hab, hbn, rfl, rfl, HO, HL, HK⟩ := hrel
    by_cases hlt : b < n
    · have hbl : b < ls.length := by rw [HL.out.1]; exact hlt
      have hbh : b < hs.length := by rw [HLN.out]; exact hlt
      have hlb : ls[b] = hs[b] := by
        have h := congrArg (fun l : List T3 => l[0]?) HL.out.2.2
        simp only [List.getElem?_drop, Nat.add_zero, List.getElem?_eq_getElem hbl, List.getElem?_eq_getElem hbh] at h
        exact Option.some.inj h
      obtain ⟨⟨x, y, z⟩, hx⟩ : ∃ q, hs[b] = q := ⟨_, rfl⟩
      have hd := FR.own_rd HO.out.out
      obtain ⟨da0, da1, da2⟩ := hd.tri b (by rw [tri_flat3]; exact hbl) x y z (by simp only [tri_flat3]; rw [hlb, hx])
      rw [Nat.zero_add] at da0 da1 da2
      have HB := (show Hid (Blk (wr.alloc (.cells #[.int .i64 x, .int .i64 y, .int .i64 z] 53)) wr.heap.size 53 [.int .i64 x, .int .i64 y, .int .i64 z]) from Blk.newL wr _ _)
      have HKa := (show Hid (Same wr (wr.alloc (.cells #[.int .i64 x, .int .i64 y, .int .i64 z] 53))) from (Kept.refl _ _).alloc _)
      have kf := HF.out (x, y, z) (wr.alloc (.cells #[.int .i64 x, .int .i64 y, .int .i64 z] 53)) (HSK.out _ _ (HSK.out _ _ HS0.out HK.out) (HKa.out.mono (fun b _ e => e.elim)))
      dsimp only at kf
      have hgl := HO.out.lt
      have HX := hid hx
      obtain ⟨c0, c1, c2⟩ := HB.out.all3
      clear hx hlb hd
      cases hfx : f (x, y, z) with
      | true =>
        rw [hfx] at kf
        have HL2 : Hid (ls.length = n ∧ ls.take a = (hs.take (b + 1)).filter (fun p => !f p) ∧ ls.drop (b + 1) = hs.drop (b + 1)) := by
          refine ⟨HL.out.1, ?_, ?_⟩
          · rw [List.take_succ_eq_append_getElem hbh, List.filter_append, HX.out, HL.out.2.1]
            simp [hfx]
          · have h := congrArg (List.drop 1) HL.out.2.2
            rwa [List.drop_drop, List.drop_drop] at h
        clear HL hfx
        go_wp2_with fail
        refine kf.mono ?_
        rintro e w2 ⟨rfl, hk2⟩
        have HK2 : Hid (Kept (fun b => b = g) w w2) := HK.out.next (HKa.out.trans hk2) (fun i _ e => e.elim)
        have HO2 := hid (HO.out.same (HKa.out.trans hk2))
        clear hk2 kf da0 da1 da2 c0 c1 c2
        go_wp2
        go_roundw
        case rel => exact ⟨a, b + 1, ls, by omega, by omega, rfl, by go_num, HO2, HL2, HK2⟩
        case measure => simp [intOf]; omega
      | false =>
        rw [hfx] at kf
        have hal : a < ls.length := by omega
        have HL2 : Hid ((ls.set a (x, y, z)).length = n ∧ (ls.set a (x, y, z)).take (a + 1) = (hs.take (b + 1)).filter (fun p => !f p) ∧ (ls.set a (x, y, z)).drop (b + 1) = hs.drop (b + 1)) := by
          refine ⟨by rw [List.length_set]; exact HL.out.1, ?_, ?_⟩
          · rw [List.take_succ_eq_append_getElem (by rw [List.length_set]; exact hal), List.getElem_set_self, List.take_set_of_le (Nat.le_refl _), List.take_succ_eq_append_getElem hbh, List.filter_append, HX.out, HL.out.2.1]
            simp [hfx]
          · rw [List.drop_set_of_lt (by omega)]
            have h := congrArg (List.drop 1) HL.out.2.2
            rwa [List.drop_drop, List.drop_drop] at h
        clear HL hfx
        go_wp2_with fail
        refine kf.mono ?_
        rintro e w2 ⟨rfl, hk2⟩
        have HK2 : Hid (Kept (fun b => b = g) w w2) := HK.out.next (HKa.out.trans hk2) (fun i _ e => e.elim)
        have HO2 := hid (HO.out.same (HKa.out.trans hk2))
        have HB2 := hid (HB.out.same hk2)
        clear hk2 kf da0 da1 da2 c0 c1 c2
        obtain ⟨c0, c1, c2⟩ := HB2.out.all3
        have f0 := HO2.out.frozen (a * 3)
        have f1 := HO2.out.frozen (a * 3 + 1)
        have f2 := HO2.out.frozen (a * 3 + 2)
        have d0 := HO2.out.cell (a * 3) (by omega)
        have d1 := HO2.out.cell (a * 3 + 1) (by omega)
        have d2 := HO2.out.cell (a * 3 + 2) (by omega)
        go_wp2
        have HO3 := (show Hid (OwnF 3 53 (((w2.setCell ⟨g, a * 3, none⟩ (.int .i64 x)).setCell ⟨g, a * 3 + 1, none⟩ (.int .i64 y)).setCell ⟨g, a * 3 + 2, none⟩ (.int .i64 z)) g n c (flat3 (ls.set a (x, y, z)))) from by
          unfold Hid
          rw [← flat_setD ls a hal x y z]
          exact ((HO2.out.stored (a * 3) x).stored (a * 3 + 1) y).stored (a * 3 + 2) z)
        have HK3 := (show Hid (Kept (fun b => b = g) w (((w2.setCell ⟨g, a * 3, none⟩ (.int .i64 x)).setCell ⟨g, a * 3 + 1, none⟩ (.int .i64 y)).setCell ⟨g, a * 3 + 2, none⟩ (.int .i64 z))) from Kept.setCell (R := fun b => b = g) (Kept.setCell (R := fun b => b = g) (Kept.setCell (R := fun b => b = g) HK2.out (.inr rfl) _) (.inr rfl) _) (.inr rfl) _)
        go_roundw
        case rel => exact ⟨a + 1, b + 1, ls.set a (x, y, z), by omega, by omega, by go_num, by go_num, HO3, HL2, HK3⟩
        case measure => simp [intOf]; omega
    · obtain rfl : b = n := by omega
      obtain ⟨xs, hx, hxl, hxt, _, _⟩ := HO.out.blk
      obtain ⟨i0, hi0, hz0, hz1, hz2⟩ := info_parts Try.infoHold
      obtain ⟨zz, hzz⟩ : ∃ zz : List Value, zz = (Builtin.zeroCells (Value.agg #[.int .i64 0, .int .i64 0, .int .i64 0]).cells (b - a)).toList := ⟨_, rfl⟩
      have hzl : zz.length = (b - a) * 3 := by rw [hzz]; simp [Builtin.zeroCells, Value.cells]
      have hz1c : ∀ v ∈ zz, v.oneCell' = true := fun v hv => by
        rw [hzz] at hv
        obtain ⟨j, hj, rfl⟩ := List.getElem_of_mem hv
        have e : ((Value.agg #[.int .i64 0, .int .i64 0, .int .i64 0]).cells) = #[.int .i64 0, .int .i64 0, .int .i64 0] := rfl
        simp [Builtin.zeroCells, e]
        have : j % 3 < 3 := Nat.mod_lt _ (by omega)
        rcases (show j % 3 = 0 ∨ j % 3 = 1 ∨ j % 3 = 2 from by omega) with h | h | h <;> simp [h, Value.oneCell']
      have hfit : a * 3 + zz.length ≤ xs.length := by rw [hzl, hxl]; omega
      have hcl : ∀ ty, (Builtin.clear_ #[24] ty #[.slice (some ⟨g, a * 3, none⟩) (b - a) (c - a)]).run Try.prog wr = .ok (.tuple #[]) (wr.setCells g (a * 3) zz) := fun ty => by
        have hst := hx.stores (P := Try.prog) (a * 3) zz hfit hz1c
        obtain ⟨d, hd⟩ : ∃ d, b - a = d + 1 := ⟨b - a - 1, by omega⟩
        rw [hd] at hzz ⊢
        rw [hzz] at hst ⊢
        simp [Builtin.clear_, run_underlying Try.underlying24, zeroValue, typeInfo, hi0, hz0, hst]
      have HX2 := (show Hid (Blk (wr.setCells g (a * 3) zz) g 53 (lay xs (a * 3) zz)) from Blk.setCells _ _ hx hfit)
      have HK2 := (show Hid (Kept (fun b => b = g) w (wr.setCells g (a * 3) zz)) from Kept.setCells (R := fun b => b = g) (.inr rfl) _ _ HK.out)
      have HL2 := (show Hid ((lay xs (a * 3) zz).length = c * 3) from (lay_length _ _ _ hfit).trans hxl)
      have HT2 : Hid ((lay xs (a * 3) zz).take (a * 3) = vals .i64 (flat3 (hs.filter (fun p => !f p)))) := by
        unfold Hid lay
        rw [List.take_append_of_le_length (by rw [List.length_take]; omega), List.take_take, Nat.min_self]
        have h := congrArg (List.take (a * 3)) hxt
        rw [List.take_take, show min (a * 3) (b * 3) = a * 3 from by omega] at h
        rw [h]
        have h2 := HL.out.2.1
        rw [List.take_of_length_le (l := hs) (by rw [HLN.out]; exact Nat.le_refl _)] at h2
        rw [← h2, ← flat_takeD ls a (by rw [HL.out.1]; omega)]
        simp [vals]
      obtain ⟨W2, hW2⟩ : ∃ W2, wr.setCells g (a * 3) zz = W2 := ⟨_, rfl⟩
      rw [hW2] at HX2 HK2
      simp only [hW2] at hcl
      clear hx hxl hxt hi0 hz0 hz1 hz2 hzz hzl hz1c hfit hW2
      have hca : ¬ (c = a) := by omega
      go_wp2
      go_ret
      exact ⟨a, rfl, ownF_of_blk HX2.out HL2.out (by omega) (by unfold maxLen; omega) HT2.out, HK2.out⟩
theorem holdFree1_any (cb : Nat) (txn : Int) : Asks3c 32 (.pointer (some ⟨cb, 0, none⟩)) (fun p => p.2.1 == txn) (fun wx => wx.cell? ⟨cb, 0, none⟩ = some (.int .i64 txn)) := by
  rintro ⟨x, y, z⟩ w hS
  dsimp only at hS ⊢
  have HB0 := (show Hid (Blk (w.alloc (.cells #[.int .i64 x, .int .i64 y, .int .i64 z] 53)) w.heap.size 53 [.int .i64 x, .int .i64 y, .int .i64 z]) from Blk.newL w _ _)
  have HK0 := hid (sameA w [.int .i64 x, .int .i64 y, .int .i64 z] 53)
  obtain ⟨c0, c1, c2⟩ := HB0.out.all3
  have d0 := HK0.out.cellOf hS (fun h => h)
  go_enter Try.func32, Try.ntmps32
  go_wp2
  go_ret
  exact ⟨rfl, HK0.out⟩
theorem enters_hf : Enters8 32 := fun args wx => by simp [callFunc, go_sem, Try.func32, Try.f32]
theorem implHoldFree_any (x : FR) (txn : Int) (w : World) (hv : RdF 3 w x) :
    Calls Try.prog 11 #[x.v, .int .i64 txn] w fun e w' => ∃ y : FR, e = .returned y.v ∧ y.bs = freeH (tri x.bs) txn ∧ (∀ b, FootL (FR.rows 3 y) b → w.heap.size ≤ b) ∧ OwnL w' (FR.rows 3 y) ∧ Same w w' := by
  have HK0 := hid (sameA w [.int .i64 txn] 2)
  have HB0 := (show Hid (Blk (w.alloc (.cells #[.int .i64 txn] 2)) w.heap.size 2 [.int .i64 txn]) from Blk.newL w _ _)
  have k0 := implHoldsFault_any x _ (hv.same HK0.out)
  obtain ⟨xe, xa, n, xc, bs⟩ := x
  have hbl : bs.length = n * 3 := hv.2.1
  have HV := hid hv
  dsimp only [FR.v] at k0 ⊢
  clear hv
  obtain ⟨R, hR⟩ : ∃ R, freeH (tri bs) txn = R := ⟨_, rfl⟩
  rw [hR]
  unfold freeH at hR
  obtain ⟨q, hq⟩ : ∃ q, holdsF (tri bs) = q := ⟨_, rfl⟩
  rw [hq] at k0 hR
  by_cases h0 : q = 0
  case neg =>
    rw [if_neg h0] at hR
    subst hR
    clear hq hbl
    go_enter Try.func11, Try.ntmps11
    go_wp2_with fail
    refine k0.mono ?_
    rintro e w1 ⟨rfl, hk1⟩
    have HK1 := hid (HK0.out.trans hk1)
    clear hk1
    go_wp2
    go_ret
    exact ⟨⟨53, none, 0, 0, []⟩, rfl, rfl, fun b hb => by have := (FootL_one _ _).1 hb; simp [FR.v, Value.ownBlock] at this, FR.own_nil _, HK1.out⟩
  subst h0
  rw [if_pos rfl] at hR
  have hn := holdsF_len hq
  rw [tri_length n bs hbl] at hn
  have HR := hid hR
  have HBL := hid hbl
  clear hq hR hbl
  go_enter Try.func11, Try.ntmps11
  go_wp2_with fail
  refine k0.mono ?_
  rintro e w1 ⟨rfl, hk1⟩
  have HK1 := hid (HK0.out.trans hk1)
  have HB1 := hid (HB0.out.same hk1)
  clear hk1 k0 HB0 HK0
  have kc := cloneH_any ⟨xe, xa, n, xc, bs⟩ w1 (by dsimp only; omega) (HV.out.same HK1.out)
  dsimp only [FR.v] at kc
  go_wp2_with fail
  refine kc.mono ?_
  rintro e w2 ⟨ya, yc, rfl, ho, hfr, hk2⟩
  have HO : Hid (OwnL w2 (FR.rows 3 ⟨53, ya, n, yc, flat3 (tri bs)⟩)) := by unfold Hid; rw [flat3_tri n bs HBL.out]; exact ho
  have HFR : Hid (∀ b, FootL (FR.rows 3 ⟨53, ya, n, yc, flat3 (tri bs)⟩) b → w1.heap.size ≤ b) := by unfold Hid; rw [flat3_tri n bs HBL.out]; exact hfr
  have HK2 := hid (HK1.out.trans hk2)
  have HB2 := hid (HB1.out.same hk2)
  have hw1 := HK1.out.size
  have hbw := HB1.out.lt
  have kd := deleteH_any 32 (.pointer (some ⟨w.heap.size, 0, none⟩)) (fun p => p.2.1 == txn) (fun wx => wx.cell? ⟨w.heap.size, 0, none⟩ = some (.int .i64 txn)) ya n yc (tri bs) w2 (by omega) HO.out (HB2.out.cell 0) (fun wx wy h1 h2 => h2.cellOf h1 (fun h => by have h2 : w1.heap.size ≤ w.heap.size := HFR.out _ h; omega)) enters_hf (holdFree1_any w.heap.size txn)
  clear kc ho hfr hk2
  go_wp2_with fail
  refine kd.mono ?_
  rintro e w3 ⟨m, rfl, ho3, hk3⟩
  have HO3 := hid ho3
  have HK3 : Hid (Same w w3) := HK2.out.next hk3 (fun i hi h => absurd (HFR.out i h) (by omega))
  have HF3 : Hid (∀ b, FootL (FR.rows 3 ⟨53, ya, m, yc, flat3 ((tri bs).filter (fun p => !(p.2.1 == txn)))⟩) b → w.heap.size ≤ b) := fun b hb => by
    refine Nat.le_trans hw1 (HFR.out b ?_)
    have h1 := (FootL_one _ _).1 hb
    refine (FootL_one _ _).2 ?_
    cases ya with
    | none => simp [FR.v, Value.ownBlock] at h1
    | some ad => simpa [FR.v, Value.ownBlock] using h1
  have HRR : Hid (R = flat3 ((tri bs).filter (fun p => !(p.2.1 == txn)))) := by
    unfold Hid
    rw [← HR.out]
    congr 2
    funext p
    by_cases h : p.2.1 = txn <;> simp [h]
  clear kd ho3 hk3
  go_wp2
  go_ret
  exact ⟨⟨53, ya, m, yc, flat3 ((tri bs).filter (fun p => !(p.2.1 == txn)))⟩, rfl, HRR.out.symm, HF3.out, HO3.out, HK3.out⟩
end Go.Proofs.Ytagcefbnhpkdiab
