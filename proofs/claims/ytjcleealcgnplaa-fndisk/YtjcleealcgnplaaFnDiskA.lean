import Derived.Test.YtjcleealcgnplaaG05
import Derived.Test.YtjcleealcgnplaaG06
import Derived.Test.YtjcleealcgnplaaG03
import Derived.Test.YtjcleealcgnplaaG08
import Derived.Test.YtjcleealcgnplaaG07
namespace Go.Proofs.Ytjcleealcgnplaa
set_option maxRecDepth 100000
set_option maxHeartbeats 8000000
open Go.RowKit
set_option linter.unusedVariables false
set_option linter.unusedSimpArgs false
theorem RdR.takeO {w : World} {g c K : Nat} {os : List EOp} (h : RdR kOp w (.slice (some ⟨g, 0, none⟩) os.length c) os) (hK : K ≤ os.length) : RdR kOp w (.slice (some ⟨g, 0, none⟩) K c) (os.take K) := by
  have hl : (os.take K).length = K := by rw [List.length_take]; omega
  refine ⟨by rw [hl]; exact Nat.le_trans hK h.max, ?_, fun p hp => h.data p (List.mem_of_mem_take hp)⟩
  rcases h.row with ⟨h1, _⟩ | ⟨b, off, c', e, hc⟩
  · subst h1
    obtain rfl : K = 0 := by simpa using hK
    exact .inl ⟨rfl, _, _, rfl⟩
  · injection e with e1 _ e2
    injection e1 with e1
    cases e1
    subst e2
    refine .inr ⟨g, 0, c, by rw [hl], fun j i hj hi => ?_⟩
    rw [hc j i (by omega) hi, List.getElem_take]
theorem RdR.dropO {w : World} {g c K : Nat} {os : List EOp} (h : RdR kOp w (.slice (some ⟨g, 0, none⟩) os.length c) os) (hK : K ≤ os.length) : RdR kOp w (.slice (some ⟨g, K * 3, none⟩) (os.length - K) (c - K)) (os.drop K) := by
  have hl : (os.drop K).length = os.length - K := List.length_drop
  refine ⟨by rw [hl]; have := h.max; omega, ?_, fun p hp => h.data p (List.mem_of_mem_drop hp)⟩
  rcases h.row with ⟨h1, _⟩ | ⟨b, off, c', e, hc⟩
  · subst h1
    exact .inl ⟨by simp, some ⟨g, K * 3, none⟩, c - K, by simp⟩
  · injection e with e1 _ e2
    injection e1 with e1
    cases e1
    subst e2
    refine .inr ⟨g, K * 3, c - K, by rw [hl], fun j i hj hi => ?_⟩
    have h1 := hc (K + j) i (by omega) hi
    rw [List.getElem_drop, ← h1]
    congr 2
    show K * 3 + (j * 3 + i) = 0 + ((K + j) * 3 + i)
    omega
theorem RdR.nilO (w : World) (g c : Nat) : RdR kOp w (.slice (some ⟨g, 0, none⟩) 0 c) [] := ⟨Nat.zero_le _, .inl ⟨rfl, _, _, rfl⟩, fun p hp => by simp at hp⟩
def RunAns (w w' : World) (e : Ending) (b : Bool) (u : Int) (r : List Int) (ds : List (Int × List Int)) : Prop :=
  ∃ (xd xp : Value) (qs : List PW), e = .returned (.agg #[.bool b, .int .i64 u, xd, xp]) ∧ dataP qs = ds ∧ RdD w' xd xp r qs ∧ (∀ b, footD xd xp qs b → w.heap.size ≤ b ∧ b < w'.heap.size) ∧ Same w w'
theorem runAns_any (dv pv : Value) (dur : List Int) (ps : List PW) (bo off co : Nat) (os : List EOp) (n : Nat) (limit : Int) (w : World) (hd : dur.length ≤ 1099511627776) (hn : ps.length ≤ 1073741824) (hs : ∀ p ∈ ps, p.bs.length ≤ 1099511627776) (hv : RdD w dv pv dur ps) (hval : Valid dur.length (dataP ps)) (hno : n = os.length) (hc : os.length ≤ co) (ho : RdR kOp w (.slice (some ⟨bo, off, none⟩) n co) os) :
    Calls Try.prog 11 #[.agg #[dv, pv], .slice (some ⟨bo, off, none⟩) n co, .int .i64 limit] w fun e w' => RunAns w w' e (allO limit os.length) (usedO limit os.length) (runD dur (dataP ps) ((datOpS os).take (usedO limit os.length))).1 (runD dur (dataP ps) ((datOpS os).take (usedO limit os.length))).2 := by
  subst hno
  refine (implRunOps_any dv pv dur ps (.slice (some ⟨bo, off, none⟩) os.length co) os limit w hd hn hs hv ⟨bo, off, co, rfl, hc⟩ ho).mono ?_
  rintro e w' ⟨a, n, c, a', n', c', r, qs, rfl, hr, hf, ho', hk⟩
  rw [datOpS_length] at *
  have h := hr.yes hval
  rw [datOpS_length] at h
  refine ⟨.slice a n c, .slice a' n' c', qs, rfl, (congrArg Prod.snd h), ?_, fun b hb => ⟨hf b hb, (ho'.lt b hb).2⟩, hk⟩
  rw [← congrArg Prod.fst h]
  exact ho'.rd
def ORes (w0 w' : World) (b : Bool) (u : Int) (r : List Int) (ds : List (Int × List Int)) (v : Value) : Prop :=
  ∃ (X : Nat) (xd xp : Value) (qs : List PW), v = .pointer (some ⟨X, 0, none⟩) ∧ w0.heap.size ≤ X ∧ Blk w' X 31 [.bool b, .int .i64 u, xd, xp] ∧ dataP qs = ds ∧ RdD w' xd xp r qs ∧ Same w0 w'
theorem RunAns.box {w0 w' : World} {b : Bool} {u : Int} {r : List Int} {ds : List (Int × List Int)} {xd xp : Value} {qs : List PW} {X : Nat} (hb : Blk w' X 31 [.bool false, .int .i64 0, .slice none 0 0, .slice none 0 0]) (hX : w0.heap.size ≤ X) (hq : dataP qs = ds) (hr : RdD w' xd xp r qs) (hf : ∀ b, footD xd xp qs b → ¬ b = X) (hk : Same w0 w') :
    ORes w0 ((((w'.setCell ⟨X, 0, none⟩ (.bool b)).setCell ⟨X, 1, none⟩ (.int .i64 u)).setCell ⟨X, 2, none⟩ xd).setCell ⟨X, 3, none⟩ xp) b u r ds (.pointer (some ⟨X, 0, none⟩)) := by
  have hkr : Kept (fun b => b = X) w' ((((w'.setCell ⟨X, 0, none⟩ (.bool b)).setCell ⟨X, 1, none⟩ (.int .i64 u)).setCell ⟨X, 2, none⟩ xd).setCell ⟨X, 3, none⟩ xp) := ((((Kept.refl (fun b => b = X) w').setCell (p := ⟨X, 0, none⟩) (.inr rfl) _).setCell (p := ⟨X, 1, none⟩) (.inr rfl) _).setCell (p := ⟨X, 2, none⟩) (.inr rfl) _).setCell (p := ⟨X, 3, none⟩) (.inr rfl) _
  exact ⟨X, xd, xp, qs, rfl, hX, (((hb.stored 0 _).stored 1 _).stored 2 _).stored 3 _, hq, hr.kept hkr (fun b hb e => hf b hb e), hk.next hkr (fun i hi e => by omega)⟩
theorem ORes.new {w0 w' : World} {b : Bool} {u : Int} {r : List Int} {ds : List (Int × List Int)} {xd xp : Value} {qs : List PW} (hq : dataP qs = ds) (hr : RdD w' xd xp r qs) (hk : Same w0 w') : ORes w0 (w'.alloc (.cells #[.bool b, .int .i64 u, xd, xp] 31)) b u r ds (.pointer (some ⟨w'.heap.size, 0, none⟩)) :=
  ⟨w'.heap.size, xd, xp, qs, rfl, hk.size, Blk.new w' #[.bool b, .int .i64 u, xd, xp] 31, hq, hr.same ((Kept.refl _ _).alloc _), hk.alloc _⟩
theorem valid_bs {len : Nat} {ds : List (Int × List Int)} {qs : List PW} (hv : Valid len ds) (hq : dataP qs = ds) : ∀ p ∈ qs, p.bs.length ≤ 1099511627776 := fun p hp => by
  subst hq
  have h : (p.sec, p.bs) ∈ dataP qs := List.mem_map.2 ⟨p, hp, rfl⟩
  have := (hv.2 _ h).2.2
  simp only at this
  omega
theorem ans_yes {P : Prop} {r0 dur r : List Int} {ds : List (Int × List Int)} {qs : List PW} (hP : P) (h : Ans P r0 [] dur ds r (dataP qs)) : r = r0 ∧ qs = [] := by
  rcases h with ⟨_, h1, h2⟩ | ⟨h, _⟩
  · exact ⟨h1, List.map_eq_nil_iff.1 h2⟩
  · exact absurd hP h
def SetAns (w w' : World) (e : Ending) (r : List Int) : Prop := ∃ (a a' : Option Addr) (c c' : Nat), e = .returned (.agg #[.slice a r.length c, .slice a' 0 c']) ∧ Rd .u8 w' (.slice a r.length c) r ∧ Same w w'
theorem setAns_of {w w' : World} {a a' : Option Addr} {n n' c c' : Nat} {r : List Int} {tw tb : TypeId} (ho : OwnD 0 tw tb w' (.slice a n c) (.slice a' n' c') r []) (hk : Same w w') : SetAns w w' (.returned (.agg #[.slice a n c, .slice a' n' c'])) r := by
  have h := ho.rd
  obtain ⟨x, y, e1⟩ := h.dur.form
  obtain ⟨x', y', e2⟩ := h.pend.form
  injection e1 with _ e1 _
  injection e2 with _ e2 _
  have e2' : n' = 0 := e2
  subst e1 e2'
  exact ⟨a, a', c, c', rfl, h.dur, hk⟩
theorem crashAns_any (dv pv : Value) (dur : List Int) (ps : List PW) (kv : Value) (ks : List Int) (ds : List (Int × List Int)) (w : World) (hd : dur.length ≤ 1099511627776) (hn : ps.length ≤ 1073741824) (hv : RdD w dv pv dur ps) (hkl : ks.length ≤ 1099511627776) (hkv : Rd .i64 w kv ks) (hq : dataP ps = ds) (hval : Valid dur.length ds) :
    Calls Try.prog 15 #[.agg #[dv, pv], kv] w fun e w' => SetAns w w' e (settleN (keepS ks) dur ds ds.length) := by
  refine (implCrash_any dv pv dur ps kv ks w hd hn (valid_bs hval hq) hv hkl hkv).mono ?_
  subst hq
  rintro e w' ⟨a, n, c, a', n', c', r, qs, rfl, hr, _, ho, hk⟩
  obtain ⟨rfl, rfl⟩ := ans_yes hval hr
  exact setAns_of ho hk
theorem syncAns_any (dv pv : Value) (dur : List Int) (ps : List PW) (ds : List (Int × List Int)) (w : World) (hd : dur.length ≤ 1099511627776) (hn : ps.length ≤ 1073741824) (hv : RdD w dv pv dur ps) (hq : dataP ps = ds) (hval : Valid dur.length ds) :
    Calls Try.prog 16 #[.agg #[dv, pv]] w fun e w' => SetAns w w' e (settleN (fun _ => true) dur ds ds.length) := by
  refine (implSync_any dv pv dur ps w hd hn (valid_bs hval hq) hv).mono ?_
  subst hq
  rintro e w' ⟨a, n, c, a', n', c', r, qs, rfl, hr, _, ho, hk⟩
  obtain ⟨rfl, rfl⟩ := ans_yes hval hr
  exact setAns_of ho hk
def DRes (w0 w' : World) (r : List Int) (v : Value) : Prop := ∃ (X : Nat) (a a' : Option Addr) (c c' : Nat), v = .pointer (some ⟨X, 0, none⟩) ∧ Blk w' X 25 [.slice a r.length c, .slice a' 0 c'] ∧ Rd .u8 w' (.slice a r.length c) r ∧ Same w0 w'
theorem DRes.new {w0 w' : World} {r : List Int} {a a' : Option Addr} {c c' : Nat} (hr : Rd .u8 w' (.slice a r.length c) r) (hk : Same w0 w') : DRes w0 (w'.alloc (.cells #[.slice a r.length c, .slice a' 0 c'] 25)) r (.pointer (some ⟨w'.heap.size, 0, none⟩)) :=
  ⟨w'.heap.size, a, a', c, c', rfl, Blk.new w' #[.slice a r.length c, .slice a' 0 c'] 25, hr.same ((Kept.refl _ _).alloc _), hk.alloc _⟩
theorem usedO_neg (n : Nat) : usedO (-1) n = n := by unfold usedO; rw [if_neg (by omega)]
theorem allO_neg (n : Nat) : allO (-1) n = true := by unfold allO; rw [usedO_neg]; simp
theorem usedO_at (K n : Nat) (h : K ≤ n) : usedO (K : Int) n = K := by
  unfold usedO
  split
  · omega
  · omega
theorem allO_at (K n : Nat) (h : K ≤ n) : allO (K : Int) n = decide (K = n) := by unfold allO; rw [usedO_at _ _ h]
theorem Rd.opened {k : IntKind} {w : World} {a : Option Addr} {n c : Nat} {bs : List Int} (h : Rd k w (.slice a n c) bs) (hn : bs.length = n) (h0 : 0 < n) : ∃ b off, a = some ⟨b, off, none⟩ ∧ n ≤ c ∧ ∀ i, i < bs.length → w.cell? ⟨b, off + i, none⟩ = some (.int k (bs.getD i 0)) := by
  rcases h.2 with ⟨rfl, _⟩ | ⟨b, off, c', e, hl, hc⟩
  · simp at hn; omega
  · injection e with e1 e2 e3
    subst e3
    exact ⟨b, off, e1, by omega, hc⟩
theorem lastN_hit {sel : Nat → Bool} {s : Int} {ds : List (Int × List Int)} {t : Nat} {bs : List Int} (h : ds.getD t (0, []) = (s, bs)) (hs : sel t = true) : lastN sel s ds (t + 1) = some bs := by
  unfold lastN
  rw [h, if_pos ⟨rfl, hs⟩]
theorem lastN_miss {sel : Nat → Bool} {s x : Int} {ds : List (Int × List Int)} {t : Nat} {bs : List Int} (h : ds.getD t (0, []) = (x, bs)) (hs : ¬ (x = s ∧ sel t = true)) : lastN sel s ds (t + 1) = lastN sel s ds t := by
  rw [lastN, h, if_neg hs]
theorem datOpS_take (os : List EOp) (K : Nat) : datOpS (os.take K) = (datOpS os).take K := by simp [datOpS, List.map_take]
theorem datOpS_drop (os : List EOp) (K : Nat) : datOpS (os.drop K) = (datOpS os).drop K := by simp [datOpS, List.map_drop]
end Go.Proofs.Ytjcleealcgnplaa
