/- Codes of trees: what they are, and finite facts on all lists of pairs and all codes. Plain mathematics. -/
import Derived.Test.YtimccjmphdkbjaaDoorMJ
set_option linter.unusedVariables false
set_option linter.unusedSimpArgs false
namespace Go.Proofs.YtimccjmphdkbjaaDoor
open Go.RowKit

/-- the ways of a list of pairs, at no cost -/
def lw (L : List (Int × Int)) : List Wy := L.map fun p => ⟨p.1, p.2, 0⟩
/-- how many pairs a place has -/
def degL (L : List (Int × Int)) (v : Int) : Int := L.foldl (fun c p => c + ((if p.1 = v then 1 else 0) + (if p.2 = v then 1 else 0))) 0
/-- how often a place stands in a code, and once more -/
def cntL (c : List Int) (v : Int) : Int := c.foldl (fun a x => a + (if x = v then 1 else 0)) 1
/-- the first number from k on, of so many, at which f is 1 -/
def leafFrom (f : Int → Int) : Nat → Nat → Nat
  | 0, k => k
  | g + 1, k => if f k = 1 then k else leafFrom f g (k + 1)
def leafOf (n : Nat) (f : Int → Int) : Nat := leafFrom f n 0
def nextL (L : List (Int × Int)) (l : Int) : List (Int × Int) := L.filter fun p => !(p.1 == l) && !(p.2 == l)
def outL (L : List (Int × Int)) (l : Int) : List Int := L.filterMap fun p => if p.1 = l then some p.2 else if p.2 = l then some p.1 else none
def codeGo (n : Nat) : Nat → List (Int × Int) → List Int → Option (List Int)
  | 0, L, out => if L.length ≤ 1 then some out else none
  | g + 1, L, out => if L.length ≤ 1 then some out else if leafOf n (degL L) < n then codeGo n g (nextL L (leafOf n (degL L))) (out ++ outL L (leafOf n (degL L))) else none
/-- the order of pairs -/
def gtP (p q : Int × Int) : Bool := decide (q.1 < p.1) || (decide (p.1 = q.1) && decide (q.2 < p.2))
/-- where a pair is put, seen from behind -/
def putPos (L : List (Int × Int)) (p : Int × Int) : Nat → Nat
  | 0 => 0
  | k + 1 => if gtP (L.getD k (0, 0)) p = true then putPos L p k else k + 1
def putL (L : List (Int × Int)) (p : Int × Int) : List (Int × Int) := L.take (putPos L p L.length) ++ p :: L.drop (putPos L p L.length)
def mkP (a b : Int) : Int × Int := if b < a then (b, a) else (a, b)
/-- the counts behind a leaf l whose other place is x -/
def stepF (f : Int → Int) (l x : Int) : Int → Int := fun v => if v = x then (if v = l then 0 else f v) - 1 else if v = l then 0 else f v
def treeGo (n : Nat) : List Int → (Int → Int) → List (Int × Int) → Option (List (Int × Int))
  | [], f, out => if leafOf n f < n ∧ leafFrom f (n - leafOf n f - 1) (leafOf n f + 1) < n then some (putL out (mkP (leafOf n f) (leafFrom f (n - leafOf n f - 1) (leafOf n f + 1)))) else none
  | x :: c, f, out => if leafOf n f < n then treeGo n c (stepF f (leafOf n f) x) (putL out (mkP (leafOf n f) x)) else none
/-- who is come to from the place 0, after so many waves -/
def wvs (ws : List Wy) (s : Int) : Nat → Int
  | 0 => 1
  | k + 1 => waveTo ws s (wvs ws s k) ws.length
/-! ### all lists of pairs -/
def keyP (p : Int × Int) : Int := p.1 * 8 + p.2
def baseP (n : Nat) : List (Int × Int) := (List.range n).flatMap fun (a : Nat) => ((List.range n).filter fun (b : Nat) => decide (a < b)).map fun (b : Nat) => ((a : Int), (b : Int))
def allSub {α : Type} (P : List α → Bool) : List α → Nat → List α → Bool
  | _, 0, acc => P acc
  | [], _ + 1, _ => true
  | b :: bs, k + 1, acc => allSub P bs k (acc ++ [b]) && allSub P bs (k + 1) acc
def allCode (P : List Int → Bool) (n : Nat) : Nat → List Int → Bool
  | 0, acc => P acc
  | k + 1, acc => (List.range n).all fun v => allCode P n k (acc ++ [(v : Int)])
def codeB (n : Nat) (c : List Int) : Bool := decide (c.length + 2 = n) && c.all fun x => decide (0 ≤ x) && decide (x < n)
def okAt (n : Nat) (L : List (Int × Int)) (k : Nat) : Bool := (decide (0 ≤ (L.getD k (0, 0)).1) && (decide ((L.getD k (0, 0)).1 < (L.getD k (0, 0)).2) && decide ((L.getD k (0, 0)).2 < n))) && (decide (k = 0) || gtP (L.getD k (0, 0)) (L.getD (k - 1) (0, 0)))
def shapeB (n : Nat) (L : List (Int × Int)) : Bool := decide (L.length + 1 = n) && (List.range L.length).all (okAt n L)
def chkTree (n : Nat) (L : List (Int × Int)) : Bool :=
  (waveTo (lw L) (full L.length) (wvs (lw L) (full L.length) 5) L.length == wvs (lw L) (full L.length) 5) &&
  (!(wvs (lw L) (full L.length) 5 == 2 ^ n - 1) || match codeGo n 6 L [] with
    | none => false
    | some c => codeB n c && ((treeGo n c (cntL c) [] == some L) && (List.range n).all fun v => degL L v == cntL c v))
def chkCode (n : Nat) (c : List Int) : Bool := match treeGo n c (cntL c) [] with
  | none => false
  | some L => (shapeB n L && (wvs (lw L) (full L.length) 5 == 2 ^ n - 1)) && ((waveTo (lw L) (full L.length) (wvs (lw L) (full L.length) 5) L.length == wvs (lw L) (full L.length) 5) && ((codeGo n 6 L [] == some c) && (List.range n).all fun v => (degL L v == 1) == !(c.contains (v : Int))))
set_option maxRecDepth 1000000 in
theorem tree_all2 : allSub (chkTree 2) (baseP 2) 1 [] = true := by decide +kernel
set_option maxRecDepth 1000000 in
theorem tree_all3 : allSub (chkTree 3) (baseP 3) 2 [] = true := by decide +kernel
set_option maxRecDepth 1000000 in
theorem tree_all4 : allSub (chkTree 4) (baseP 4) 3 [] = true := by decide +kernel
set_option maxRecDepth 1000000 in
theorem tree_all5 : allSub (chkTree 5) (baseP 5) 4 [] = true := by decide +kernel
set_option maxRecDepth 1000000 in
theorem code_all2 : allCode (chkCode 2) 2 0 [] = true := by decide +kernel
set_option maxRecDepth 1000000 in
theorem code_all3 : allCode (chkCode 3) 3 1 [] = true := by decide +kernel
set_option maxRecDepth 1000000 in
theorem code_all4 : allCode (chkCode 4) 4 2 [] = true := by decide +kernel
set_option maxRecDepth 1000000 in
theorem code_all5 : allCode (chkCode 5) 5 3 [] = true := by decide +kernel
/-! ### nets with a way between each two places -/
def kws (n : Nat) : List Wy := (List.range n).flatMap fun (a : Nat) => (List.range a).map fun (b : Nat) => ⟨(a : Int), (b : Int), 0⟩
def manyC (n : Nat) (ws : List Wy) : Nat → Int
  | 0 => 0
  | k + 1 => manyC n ws k + if (pop k == (n : Int) - 1 && (wvs ws k 5 == 2 ^ n - 1)) = true then 1 else 0
theorem kws_fix : ∀ n : Fin 5, ∀ s : Fin 64, s.val < 2 ^ (kws n.val).length → waveTo (kws n.val) s.val (wvs (kws n.val) s.val 5) (kws n.val).length = wvs (kws n.val) s.val 5 := by decide +kernel
theorem kws_many : ∀ n : Fin 5, 2 ≤ n.val → manyC n.val (kws n.val) (2 ^ (kws n.val).length) = (n.val : Int) ^ (n.val - 2) := by decide +kernel
theorem kws_net : ∀ n : Fin 5, 2 ≤ n.val → netOk (n.val : Int) (kws n.val) = true := by decide +kernel
theorem kws_len : ∀ n : Fin 7, (kws n.val).length = n.val * (n.val - 1) / 2 := by decide +kernel
/-! ### the place 0 with each other one -/
def starL (n : Nat) : List (Int × Int) := (List.range (n - 1)).map fun (k : Nat) => ((0 : Int), (k : Int) + 1)
theorem star_chk : ∀ n : Fin 7, 2 ≤ n.val → shapeB n.val (starL n.val) = true ∧ waveTo (lw (starL n.val)) (full (starL n.val).length) (wvs (lw (starL n.val)) (full (starL n.val).length) 5) (starL n.val).length = wvs (lw (starL n.val)) (full (starL n.val).length) 5 ∧ wvs (lw (starL n.val)) (full (starL n.val).length) 5 = 2 ^ n.val - 1 := by decide +kernel
end Go.Proofs.YtimccjmphdkbjaaDoor
