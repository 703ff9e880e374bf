import Derived.Test.YtcnaabjgjmodeaaG08
import Derived.Test.YtcnaabjgjmodeaaG05
import Derived.Test.YtcnaabjgjmodeaaG16
import Derived.Test.YtcnaabjgjmodeaaG11
namespace Go.Proofs.Ytcnaabjgjmodeaa
open Go Go.RowKit
set_option linter.unusedVariables false
set_option linter.unusedSimpArgs false
abbrev FrD := Int × Int × (Int × Int × Int × Int × Int × (Bool × List Int) × (Bool × List Int) × Int × Int × List Int × List Int × List Int)
def fLsn (d : FrD) : Int := d.1
def fKind (d : FrD) : Int := d.2.2.1
def fPage (d : FrD) : Int := d.2.2.2.2.2.1
def fSlot (d : FrD) : Int := d.2.2.2.2.2.2.1
def fAft (d : FrD) : Bool × List Int := d.2.2.2.2.2.2.2.2.1
def skipF (raw : List Int) (number frm : Int) (d : FrD) : Prop := (¬ fKind d = 1 ∧ ¬ fKind d = 2) ∨ ¬ fPage d = number ∨ fLsn d < frm ∨ fLsn d ≤ pageLSN raw
def skipFDec (raw : List Int) (number frm : Int) (d : FrD) : Decidable (skipF raw number frm d) := inferInstanceAs (Decidable (_ ∨ _))
def redoOne (raw : List Int) (d : FrD) : Int × List Int := pageSet raw (fSlot d) (fAft d).1 (fAft d).2 (fLsn d)
def redoL (number frm : Int) : List Int → List FrD → Int × List Int
  | raw, [] => (0, raw)
  | raw, d :: ds => @ite _ (skipF raw number frm d) (skipFDec raw number frm d) (redoL number frm raw ds) (if (redoOne raw d).1 = 0 then redoL number frm (redoOne raw d).2 ds else (2, []))
def redoD (raw : List Int) (number : Int) (ds : List FrD) (frm : Int) : Int × List Int := if pageFault raw number = 0 then redoL number frm raw ds else (1, [])
theorem fault0 {raw : List Int} {number : Int} : pageFault raw number = 0 ↔ ownOK raw = true ∧ numAt raw 12 4 = number := by
  unfold ownOK pageFault faultP
  by_cases hl : raw.length = 4096
  · simp only [hl, ne_eq, not_true_eq_false, if_false, beq_self_eq_true, Bool.true_and, beq_iff_eq]
    by_cases hn : numAt raw 12 4 = number
    · rw [hn]; simp
    · simp [hn]
  · simp [hl]
theorem redoOne_ok {raw : List Int} (hB : IsB raw) (hok : ownOK raw = true) {d : FrD} (hd : IsB (fAft d).2) (h0 : (redoOne raw d).1 = 0) : ownOK (redoOne raw d).2 = true ∧ IsB (redoOne raw d).2 ∧ numAt (redoOne raw d).2 12 4 = numAt raw 12 4 := by
  unfold redoOne pageSet at h0 ⊢
  by_cases h1 : setBad raw (fSlot d) (fAft d).1 (fAft d).2 (fLsn d) = true
  · rw [if_pos h1] at h0; simp at h0
  rw [if_neg h1] at h0 ⊢
  by_cases h2 : setFull raw (fSlot d).toNat (fAft d).2
  · rw [if_pos h2] at h0; simp at h0
  rw [if_neg h2] at h0 ⊢
  simp [setBad] at h1
  obtain ⟨_, g1, g2, g3, g4, g5, g6⟩ := h1
  have hk : (fSlot d).toNat < 32 := by omega
  have hsl := slOK_of hB hok
  have hz := usedN_zero (slotsOf raw) (fSlot d).toNat 32
  rw [if_pos hk] at hz
  obtain ⟨b, sl, r, e, h3, h4, h5, _⟩ := setB_ok hB hok (fSlot d).toNat hk (fAft d).1 (fAft d).2 hd (fLsn d) (by simp [isLSN]; omega) (by omega) (by unfold cBot; unfold setFull at h2; omega)
  refine ⟨h4, h5, ?_⟩
  show numAt (setB raw (fSlot d).toNat (fAft d).1 (fAft d).2 (fLsn d)) 12 4 = _
  rw [e, h3.dec.2.1]
theorem redoL_len {number frm : Int} : ∀ (ds : List FrD) (raw : List Int), IsB raw → ownOK raw = true → (∀ d ∈ ds, IsB (fAft d).2) → (redoL number frm raw ds).2.length ≤ 4096
  | [], raw, hB, hok, _ => by rw [redoL, ownOK_len hok]; exact Nat.le_refl _
  | d :: ds, raw, hB, hok, hd => by
    rw [redoL]
    split
    · exact redoL_len ds raw hB hok (fun x hx => hd x (List.mem_cons_of_mem _ hx))
    · split
      · rename_i h0
        obtain ⟨h1, h2, _⟩ := redoOne_ok hB hok (hd d (List.mem_cons_self ..)) h0
        exact redoL_len ds _ h2 h1 (fun x hx => hd x (List.mem_cons_of_mem _ hx))
      · simp
theorem redoD_small {raw : List Int} (hB : IsB raw) {number frm : Int} {ps : List StLogFrame} (hp : ∀ p ∈ ps, p.isB) {y : StPageResult} (hd : y.dat = redoD raw number (datFr ps) frm) : y.size ≤ 1099511627776 := by
  have e : y.page.bs = (redoD raw number (datFr ps) frm).2 := congrArg Prod.snd hd
  have h : (redoD raw number (datFr ps) frm).2.length ≤ 4096 := by
    unfold redoD
    split
    · rename_i h0
      refine redoL_len _ _ hB (fault0.1 h0).1 (fun d hd => ?_)
      obtain ⟨p, hm, rfl⟩ := List.mem_map.1 hd
      exact (hp p hm).2.1
    · simp
  unfold StPageResult.size
  rw [e]
  omega
theorem redoL_step {number frm : Int} {raw : List Int} {ps : List StLogFrame} {k : Nat} (hk : k < ps.length) : redoL number frm raw (datFr (ps.drop k)) = @ite _ (skipF raw number frm ps[k].dat) (skipFDec raw number frm ps[k].dat) (redoL number frm raw (datFr (ps.drop (k + 1)))) (if (redoOne raw ps[k].dat).1 = 0 then redoL number frm (redoOne raw ps[k].dat).2 (datFr (ps.drop (k + 1))) else (2, [])) := by
  rw [List.drop_eq_getElem_cons hk]
  rfl
end Go.Proofs.Ytcnaabjgjmodeaa
