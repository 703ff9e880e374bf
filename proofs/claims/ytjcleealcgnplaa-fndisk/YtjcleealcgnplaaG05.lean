import Derived.Test.YtjcleealcgnplaaG04
import Derived.Test.YtjcleealcgnplaaG02
import Derived.Test.YtjcleealcgnplaaG01
namespace Go.Proofs.Ytjcleealcgnplaa
set_option maxRecDepth 100000
set_option maxHeartbeats 8000000
open Go.RowKit
set_option linter.unusedVariables false
set_option linter.unusedSimpArgs false
def doD (dur : List Int) (ds : List (Int × List Int)) (op : Int × Int × List Int) : List Int × List (Int × List Int) :=
  if op.1 = 2 then (settleN (fun _ => true) dur ds ds.length, []) else if op.1 = 1 then writeD dur ds op.2.1 op.2.2 else (dur, ds)
theorem doD_valid {dur : List Int} {ds : List (Int × List Int)} {op : Int × Int × List Int} (h : Valid dur.length ds) : (doD dur ds op).1.length = dur.length ∧ Valid dur.length (doD dur ds op).2 := by
  unfold doD
  by_cases h1 : op.1 = 2
  · rw [if_pos h1]
    exact ⟨settleN_length _ _ _ h _ (Nat.le_refl _), ⟨h.1.1, h.1.2.1, h.1.2.2.1, by simp⟩, fun p hp => by simp at hp⟩
  rw [if_neg h1]
  by_cases h2 : op.1 = 1
  · rw [if_pos h2]; exact writeD_valid h
  · rw [if_neg h2]; exact ⟨rfl, h⟩
end Go.Proofs.Ytjcleealcgnplaa

namespace Go.Proofs.Ytjcleealcgnplaa
set_option maxRecDepth 100000
set_option maxHeartbeats 8000000
open Go.RowKit
set_option linter.unusedVariables false
set_option linter.unusedSimpArgs false
theorem Plat.kept {R : Nat → Prop} {w w' : World} {B : Nat} {dv pv : Value} {dur : List Int} {ds : List (Int × List Int)} (h : Plat w B dv pv dur ds) (hk : Kept R w w') (hB : ¬ R B) (hd : ∀ b, dv.ownBlock = some b → ¬ R b) (hp : ∀ b, pv.ownBlock = some b → ¬ R b) : Plat w' B dv pv dur ds :=
  ⟨h.box.kept hk hB, hk.owns h.dur hd, hk.owns h.pend hp, h.a1, h.a2, h.a3⟩
theorem Plat.same {w w' : World} {B : Nat} {dv pv : Value} {dur : List Int} {ds : List (Int × List Int)} (h : Plat w B dv pv dur ds) (hk : Same w w') : Plat w' B dv pv dur ds := h.kept hk id (fun _ _ => id) (fun _ _ => id)
theorem do_any (B : Nat) (dv pv : Value) (dur : List Int) (ds : List (Int × List Int)) (kind sec : Int) (v : Value) (bs : List Int) (w : World) (hp : Plat w B dv pv dur ds) (hval : Valid dur.length ds) (hv : Rd .u8 w v bs) (hsep : bs ≠ [] → ∀ b, looks v b → b ≠ B ∧ dv.ownBlock ≠ some b ∧ pv.ownBlock ≠ some b) :
    Calls Try.prog 49 #[.pointer (some ⟨B, 0, none⟩), .agg #[.int .i64 kind, .int .i64 sec, v]] w fun e w' => e = .returned (.tuple #[]) ∧ (∃ pv', Plat w' B dv pv' (doD dur ds (kind, sec, bs)).1 (doD dur ds (kind, sec, bs)).2 ∧ ∀ b, pv'.ownBlock = some b → pv.ownBlock = some b ∨ w.heap.size ≤ b) ∧ Kept (fun b => b = B ∨ dv.ownBlock = some b ∨ pv.ownBlock = some b) w w' := by
  obtain ⟨av, cv, rfl⟩ := hv.form
  have hka : Same w (w.alloc (.cells #[.int .i64 kind, .int .i64 sec, .slice av bs.length cv] 69)) := (Kept.refl _ _).alloc _
  have hb : Blk (w.alloc (.cells #[.int .i64 kind, .int .i64 sec, .slice av bs.length cv] 69)) w.heap.size 69 [.int .i64 kind, .int .i64 sec, .slice av bs.length cv] := Blk.newL w [.int .i64 kind, .int .i64 sec, .slice av bs.length cv] 69
  have kw := write_any B dv pv dur ds sec (.slice av bs.length cv) bs _ (hp.same hka) hval (hv.same hka) hsep
  have ks := sync_any B dv pv dur ds _ (hp.same hka) hval
  have HP := hid hp
  have HKA := hid hka
  obtain ⟨o0, o1, o2⟩ := hb.all3
  clear hp hv hsep hka hb
  by_cases k1 : kind = 1
  · subst k1
    have HT : Hid (doD dur ds (1, sec, bs) = writeD dur ds sec bs) := by unfold Hid doD; rw [if_neg (by simp), if_pos rfl]
    clear ks
    go_enter Try.func49, Try.ntmps49
    go_wp2_with fail
    refine kw.mono ?_
    rintro e w1 ⟨rfl, ⟨pv', hp', hn'⟩, hk'⟩
    have H1 := hid hp'
    have H2 := hid hn'
    have H3 := hid hk'
    clear hp' hn' hk' kw
    go_wp2
    first | go_end0 | skip
    refine ⟨rfl, ⟨pv', by rw [HT.out]; exact H1.out, fun b hb => ?_⟩, (HKA.out.mono (fun _ _ e => e.elim)).next H3.out (fun i hi e => e)⟩
    rcases H2.out b hb with h | h
    · exact .inl h
    · simp only [World.size_alloc] at h
      exact .inr (by omega)
  by_cases k2 : kind = 2
  · subst k2
    have HT : Hid (doD dur ds (2, sec, bs) = (settleN (fun _ => true) dur ds ds.length, [])) := if_pos rfl
    clear kw
    go_enter Try.func49, Try.ntmps49
    go_wp2_with fail
    refine ks.mono ?_
    rintro e w1 ⟨rfl, hp', hk'⟩
    have H1 := hid hp'
    have H3 := hid hk'
    clear hp' hk' ks
    go_wp2
    first | go_end0 | skip
    refine ⟨rfl, ⟨.slice none 0 0, by rw [HT.out]; exact H1.out, fun b hb => by simp [Value.ownBlock] at hb⟩, (HKA.out.mono (fun _ _ e => e.elim)).next H3.out (fun i hi e => by rcases e with e | e; exact .inl e; exact .inr (.inl e))⟩
  · have HT : Hid (doD dur ds (kind, sec, bs) = (dur, ds)) := by unfold Hid doD; rw [if_neg k2, if_neg k1]
    clear kw ks
    go_enter Try.func49, Try.ntmps49
    go_wp2
    first | go_end0 | skip
    exact ⟨rfl, ⟨pv, by rw [HT.out]; exact HP.out.same HKA.out, fun b hb => .inl hb⟩, HKA.out.mono (fun _ _ e => e.elim)⟩
def usedO (limit : Int) (n : Nat) : Nat := if 0 ≤ limit ∧ limit < (n : Int) then limit.toNat else n
theorem usedO_le (limit : Int) (n : Nat) : usedO limit n ≤ n := by
  unfold usedO
  split
  · omega
  · exact Nat.le_refl _
def runD (dur : List Int) (ds : List (Int × List Int)) (ops : List (Int × Int × List Int)) : List Int × List (Int × List Int) := ops.foldl (fun x o => doD x.1 x.2 o) (dur, ds)
theorem runD_step {dur : List Int} {ds : List (Int × List Int)} {ops : List (Int × Int × List Int)} {k : Nat} (h : k < ops.length) : runD dur ds (ops.take (k + 1)) = doD (runD dur ds (ops.take k)).1 (runD dur ds (ops.take k)).2 ops[k] := by
  unfold runD
  rw [List.take_succ_eq_append_getElem h, List.foldl_append]
  rfl
theorem runD_valid {dur : List Int} {ds : List (Int × List Int)} (h : Valid dur.length ds) (ops : List (Int × Int × List Int)) : ∀ k, k ≤ ops.length → (runD dur ds (ops.take k)).1.length = dur.length ∧ Valid dur.length (runD dur ds (ops.take k)).2 := by
  intro k
  induction k with
  | zero => intro _; exact ⟨rfl, h⟩
  | succ k ih =>
    intro hk
    obtain ⟨h1, h2⟩ := ih (by omega)
    rw [runD_step (by omega)]
    have := doD_valid (op := ops[k]) (show Valid (runD dur ds (ops.take k)).1.length (runD dur ds (ops.take k)).2 from by rw [h1]; exact h2)
    rw [h1] at this
    exact this
structure IsRun (limit : Int) (dur : List Int) (ds : List (Int × List Int)) (ops : List (Int × Int × List Int)) (r : List Int) (qs : List (Int × List Int)) : Prop where
  yes : Valid dur.length ds → (r, qs) = runD dur ds (ops.take (usedO limit ops.length))
  no : ¬ Valid dur.length ds → r = dur ∧ qs = ds
theorem IsRun.one {limit : Int} {dur : List Int} {ds : List (Int × List Int)} {ops : List (Int × Int × List Int)} {r r' : List Int} {qs qs' : List (Int × List Int)} (h : IsRun limit dur ds ops r qs) (h' : IsRun limit dur ds ops r' qs') : r = r' ∧ qs = qs' := by
  by_cases hv : Valid dur.length ds
  · have := (h.yes hv).trans (h'.yes hv).symm
    simp only [Prod.mk.injEq] at this
    exact this
  · obtain ⟨e1, e2⟩ := h.no hv
    obtain ⟨e3, e4⟩ := h'.no hv
    exact ⟨e1.trans e3.symm, e2.trans e4.symm⟩
def allO (limit : Int) (n : Nat) : Bool := decide (usedO limit n = n)
end Go.Proofs.Ytjcleealcgnplaa

namespace Go.Proofs.Ytjcleealcgnplaa
set_option maxRecDepth 100000
open Go.RowKit
set_option linter.unusedSimpArgs false
set_option linter.unusedVariables false
def secB (dur : List Int) (i : Nat) : List Int := (dur.drop (i * 512)).take 512
def lastN (sel : Nat → Bool) (s : Int) (ds : List (Int × List Int)) : Nat → Option (List Int)
  | 0 => none
  | k + 1 => if (ds.getD k (0, [])).1 = s ∧ sel k = true then some (ds.getD k (0, [])).2 else lastN sel s ds k
theorem putAt_same (dur bs : List Int) (lo : Nat) (h : lo ≤ dur.length) : ((putAt dur lo bs).drop lo).take bs.length = bs := by
  unfold putAt
  have h1 : (dur.take lo).length = lo := by rw [List.length_take]; omega
  rw [List.drop_append, h1, List.drop_of_length_le (by omega), Nat.sub_self, List.drop_zero, List.nil_append, List.take_append_of_le_length (Nat.le_refl _), List.take_length]
theorem putAt_get (dur bs : List Int) (lo : Nat) (h : lo + bs.length ≤ dur.length) (k : Nat) (hk : k < lo ∨ lo + bs.length ≤ k) : (putAt dur lo bs)[k]? = dur[k]? := by
  unfold putAt
  have h1 : (dur.take lo).length = lo := by rw [List.length_take]; omega
  rcases hk with hk | hk
  · rw [List.getElem?_append_left (by omega), List.getElem?_take, if_pos hk]
  · rw [List.getElem?_append_right (by omega), List.getElem?_append_right (by omega), List.getElem?_drop, h1]
    congr 1
    omega
theorem secB_other (dur bs : List Int) (i j : Nat) (hij : i ≠ j) (hb : bs.length = 512) (h : j * 512 + 512 ≤ dur.length) : secB (putAt dur (j * 512) bs) i = secB dur i := by
  unfold secB
  apply List.ext_getElem?
  intro k
  rw [List.getElem?_take, List.getElem?_take]
  split
  · rw [List.getElem?_drop, List.getElem?_drop, putAt_get _ _ _ (by omega) _ (by rw [hb]; omega)]
  · rfl
theorem secB_same (dur bs : List Int) (i : Nat) (hb : bs.length = 512) (h : i * 512 + 512 ≤ dur.length) : secB (putAt dur (i * 512) bs) i = bs := by
  have := putAt_same dur bs (i * 512) (by omega)
  rw [hb] at this
  exact this
theorem settle_sec (sel : Nat → Bool) (dur : List Int) (ds : List (Int × List Int)) (hv : Valid dur.length ds) (i : Nat) (hi : i < dur.length / 512) : ∀ n, n ≤ ds.length → secB (settleN sel dur ds n) i = (lastN sel (i : Int) ds n).getD (secB dur i)
  | 0, _ => rfl
  | n + 1, hn => by
    have ih := settle_sec sel dur ds hv i hi n (by omega)
    have hl := settleN_length sel dur ds hv n (by omega)
    have hm : ds.getD n (0, []) ∈ ds := by simp [List.getD, show n < ds.length from by omega]
    obtain ⟨h1, h2, h3⟩ := hv.2 _ hm
    have h4 := hv.1.1
    unfold settleN lastN
    by_cases hs : sel n = true
    · rw [if_pos hs]
      by_cases hsec : (ds.getD n (0, [])).1 = (i : Int)
      · rw [if_pos ⟨hsec, hs⟩, hsec, show ((i : Int)).toNat = i from by omega, secB_same _ _ _ h3 (by omega)]
        rfl
      · rw [if_neg (fun h => hsec h.1), ← ih]
        exact secB_other _ _ _ _ (by omega) h3 (by omega)
    · rw [if_neg hs, if_neg (fun h => hs h.2)]
      exact ih
theorem lastP_lastN (s : Int) (ds : List (Int × List Int)) : ∀ n, n ≤ ds.length → lastP s (ds.take n) = lastN (fun _ => true) s ds n
  | 0, _ => by simp [lastP, lastN]
  | n + 1, hn => by
    have ih := lastP_lastN s ds n (by omega)
    have hg : ds.getD n (0, []) = ds[n]'(by omega) := by simp [List.getD, show n < ds.length from by omega]
    rw [List.take_succ_eq_append_getElem (by omega)]
    unfold lastN
    rw [hg]
    by_cases h : (ds[n]'(by omega)).1 = s
    · rw [if_pos ⟨h, rfl⟩, ← h]
      exact lastP_snoc _ _ _
    · rw [if_neg (fun q => h q.1), ← ih]
      exact lastP_append_none _ _ _ (fun p hp => by rw [List.mem_singleton.1 hp]; exact h)
theorem seeD_lastN (i : Nat) (dur : List Int) (ds : List (Int × List Int)) : seeD (i : Int) dur ds = (lastN (fun _ => true) (i : Int) ds ds.length).getD (secB dur i) := by
  have h := lastP_lastN (i : Int) ds ds.length (Nat.le_refl _)
  rw [List.take_length] at h
  unfold seeD secB
  rw [h, show ((i : Int)).toNat = i from by omega]
theorem runD_append (dur : List Int) (ds : List (Int × List Int)) (a b : List (Int × Int × List Int)) : runD dur ds (a ++ b) = runD (runD dur ds a).1 (runD dur ds a).2 b := by
  unfold runD
  rw [List.foldl_append]
theorem runD_parts (dur : List Int) (ds : List (Int × List Int)) (ops : List (Int × Int × List Int)) (k : Nat) : runD (runD dur ds (ops.take k)).1 (runD dur ds (ops.take k)).2 (ops.drop k) = runD dur ds ops := by
  rw [← runD_append, List.take_append_drop]
end Go.Proofs.Ytjcleealcgnplaa
