import Derived.Test.YthmlndmlnlfhnaaGreatDoorKc04492b9
set_option maxRecDepth 100000
set_option maxHeartbeats 16000000
namespace Go.Proofs.YthmlndmlnlfhnaaGreatDoor
open Go.Lib (hid)
theorem jai {α:Type} {l:List α} {k:Nat} {x:α} (h:l[k]? = some x):l.take (k+1)=l.take k ++ [x]:=by
 obtain ⟨hk,rfl⟩:=List.getElem?_eq_some_iff.1 h;exact List.take_succ_eq_append_getElem hk
theorem jdi {α:Type} {l:List α} {k:Nat} {x:α} (h:l[k]? = some x):l.drop k=x :: l.drop (k+1):=by
 obtain ⟨hk,rfl⟩:=List.getElem?_eq_some_iff.1 h;exact List.drop_eq_getElem_cons hk
def hasB (l:List (Int × Int)) (n:Int):Bool:=l.any fun r=>decide (r.1≤n) && decide (n≤r.2)
theorem joj (l:List (Int × Int)) (n:Int):hasB l n=true↔∃ r,r∈l∧r.1≤n∧n≤r.2:=by simp [hasB]
theorem jp9 (l:List (Int × Int)) {k:Nat} {x y:Int} (h:l[k]? = some (x,y)) (n:Int):hasB (l.take (k+1)) n=(hasB (l.take k) n || (decide (x≤n) && decide (n≤y))):=by
 unfold hasB;rw [jai h,List.any_append];simp only [List.any_cons,List.any_nil,Bool.or_false]
theorem yoh {l:List (Int × Int)} {k:Nat} {x y:Int} (h:l[k]? = some (x,y)) (n:Int) (h1:x≤n) (h2:n≤y):hasB l n=true :=
 (joj l n).2 ⟨(x,y),List.mem_of_getElem? h,h1,h2⟩
def jbn (last:Int):List (Int × Int)→Bool
 | []=>true
 | r :: rs=>(decide (-1000000≤r.1) && decide (r.2≤1000000) && decide (r.1≤r.2) && decide (last+1<r.1)) && jbn r.2 rs
def jbv (l:List (Int × Int)):Bool:=jbn (-1000002) l
def jpb (l:List (Int × Int)) (k:Nat):Int:=if k=0 then -1000002 else (l.getD (k-1) (0,0)).2
theorem jes {l:List (Int × Int)} {k:Nat} {x y:Int} (h:l[k]? = some (x,y)) (last:Int):jbn last (l.drop k)=((decide (-1000000≤x) && decide (y≤1000000) && decide (x≤y) && decide (last+1<x)) && jbn y (l.drop (k+1))):=by
 rw [jdi h];rfl
theorem jg8 {l:List (Int × Int)} {k:Nat} {x y:Int} (h:l[k]? = some (x,y)):jpb l (k+1)=y:=by
 obtain ⟨hk,e⟩:=List.getElem?_eq_some_iff.1 h;simp [jpb,hk,e]
theorem ydx {l:List (Int × Int)} {k:Nat} {x y:Int} (h0:0<k) (h:l[k-1]? = some (x,y)):jpb l k=y:=by
 obtain ⟨j,rfl⟩:∃ j,k=j+1:=⟨k-1,by omega⟩;exact jg8 h
def addL (x y:Int):List (Int × Int):=if y<x then [] else [(x,y)]
theorem jra {x y x' y':Int} (h1:x=x') (h2:y=y'):addL x y=addL x' y':=by rw [h1,h2]
theorem jj7 (x y:Int):(addL x y).length≤1:=by unfold addL;split <;> simp
def jkx (l:List (Int × Int)):List (Int × Int):=l.flatMap fun r=>addL (max r.1 (-1000000)) (min r.2 1000000)
theorem yn0 {l:List (Int × Int)} {k:Nat} {x y:Int} (h:l[k]? = some (x,y)):jkx (l.take (k+1))=jkx (l.take k) ++ addL (max x (-1000000)) (min y 1000000):=by
 rw [jai h];simp [jkx]
theorem jsf (l:List (Int × Int)):(jkx l).length≤l.length:=by
 induction l with
 | nil=>simp [jkx]
 | cons a l ih =>
  have:=jj7 (max a.1 (-1000000)) (min a.2 1000000)
  simp [jkx] at *;omega
theorem jrf (l:List (Int × Int)) (k:Nat):(jkx (l.take k)).length≤k:=Nat.le_trans (jsf _) (List.length_take_le _ _)
open Go.Lib (hid)
def jc2 (out:List (Int × Int)) (r:Int × Int):List (Int × Int) :=
 match out[out.length-1]? with
 | some p=>if r.1≤p.2+1 then out.set (out.length-1) (p.1,max p.2 r.2) else out ++ [r]
 | none=>out ++ [r]
def jjb (l:List (Int × Int)):List (Int × Int):=l.foldl jc2 []
theorem yk6 {l:List (Int × Int)} {k:Nat} {r:Int × Int} (h:l[k]? = some r):jjb (l.take (k+1))=jc2 (jjb (l.take k)) r:=by
 unfold jjb;rw [jai h,List.foldl_append];rfl
theorem jvz {out:List (Int × Int)} {r:Int × Int} (h:out.length=0):jc2 out r=out ++ [r]:=by
 have:out = []:=List.length_eq_zero_iff.1 h
 subst this;rfl
theorem ybt {out:List (Int × Int)} {r:Int × Int} {p q:Int} (h:out[out.length-1]? = some (p,q)) (hr:r.1≤q+1):jc2 out r=out.set (out.length-1) (p,max q r.2):=by
 unfold jc2;rw [h];simp [hr]
theorem jy4 {out:List (Int × Int)} {r:Int × Int} {p q:Int} (h:out[out.length-1]? = some (p,q)) (hr:q+1<r.1):jc2 out r=out ++ [r]:=by
 unfold jc2;rw [h];simp;omega
theorem jsx (out:List (Int × Int)) (r:Int × Int):(jc2 out r).length≤out.length+1:=by
 unfold jc2;split
 ·split <;> simp
 ·simp
theorem jy2 (l:List (Int × Int)):(jjb l).length≤l.length:=by
 have:∀ (l out:List (Int × Int)),(l.foldl jc2 out).length≤out.length+l.length:=by
  intro l;induction l with
  | nil=>intro out;simp
  | cons a l ih=>intro out;have:=ih (jc2 out a);have:=jsx out a;simp at *;omega
 simpa [jjb] using this l []
theorem jqc (l:List (Int × Int)) (k:Nat):(jjb (l.take k)).length≤k:=Nat.le_trans (jy2 _) (List.length_take_le _ _)
def hiIn (l:List (Int × Int)):Prop:=∀ r,r∈l → -1000000≤r.2∧r.2≤1000000
theorem ykj {l:List (Int × Int)} {k:Nat} {x y:Int} (h:hiIn l) (hk:l[k]? = some (x,y)):-1000000≤y∧y≤1000000:=h (x,y) (List.mem_of_getElem? hk)
theorem jpn {out:List (Int × Int)} {r:Int × Int} (h:hiIn out) (hr:-1000000≤r.2∧r.2≤1000000):hiIn (jc2 out r):=by
 intro q hq;unfold jc2 at hq;split at hq
 ·rename_i p hp
  split at hq
  ·rcases List.mem_or_eq_of_mem_set hq with h' | rfl
   ·exact h q h'
   ·have:=h p (List.mem_of_getElem? hp)
    simp;omega
  ·rcases List.mem_append.1 hq with h' | h'
   ·exact h q h'
   ·rw [List.mem_singleton] at h';subst h';exact hr
 ·rcases List.mem_append.1 hq with h' | h'
  ·exact h q h'
  ·rw [List.mem_singleton] at h';subst h';exact hr
theorem jy1 {l:List (Int × Int)} (h:hiIn l) (k:Nat):hiIn (jjb (l.take k)):=by
 have:∀ (l out:List (Int × Int)),hiIn l→hiIn out→hiIn (l.foldl jc2 out):=by
  intro l;induction l with
  | nil=>intro out _ h;exact h
  | cons a l ih=>intro out h1 h2;exact ih _ (fun r hr=>h1 r (List.mem_cons_of_mem _ hr)) (jpn h2 (h1 a List.mem_cons_self))
 exact this _ [] (fun r hr=>h r (List.mem_of_mem_take hr)) (by intro r hr;simp at hr)
open Go.Lib (hid)
def jbq:List (Int × Int)→List (Int × Int)→List (Int × Int)
 | x :: xs,y :: ys=>addL (max x.1 y.1) (min x.2 y.2) ++ (if x.2<y.2 then jbq xs (y :: ys) else jbq (x :: xs) ys)
 | _,_=>[]
termination_by a b=>a.length+b.length
theorem ygj {a b:List (Int × Int)} {i j:Nat} (h:a.length≤i∨b.length≤j):jbq (a.drop i) (b.drop j) = []:=by
 rcases h with h | h
 ·rw [List.drop_of_length_le h,jbq];simp
 ·rw [List.drop_of_length_le h,jbq];simp
theorem ynu {a b:List (Int × Int)} {i j:Nat} {x y p q:Int} (ha:a[i]? = some (x,y)) (hb:b[j]? = some (p,q)) :
  jbq (a.drop i) (b.drop j)=addL (max x p) (min y q) ++ (if y<q then jbq (a.drop (i+1)) (b.drop j) else jbq (a.drop i) (b.drop (j+1))):=by
 rw [jdi ha,jdi hb,jbq]
open Go.Lib (hid)
def jbo:List (Int × Int)→List (Int × Int)→List (Int × Int)
 | [],_=>[]
 | (x,y) :: rs,[]=>addL x y ++ jbo rs []
 | (x,y) :: rs,(p,q) :: bs=>if q<y then addL x (p-1) ++ jbo ((max x (q+1),y) :: rs) bs else addL x (min y (p-1)) ++ jbo rs ((p,q) :: bs)
termination_by a b=>a.length+b.length
theorem yhh {a b:List (Int × Int)} {k:Nat} (h:a.length≤k):jbo (a.drop k) b = []:=by
 rw [List.drop_of_length_le h,jbo]
theorem yos {rs b:List (Int × Int)} {m:Nat} {x y p q:Int} (hb:b[m]? = some (p,q)) (h:q<y) :
  jbo ((x,y) :: rs) (b.drop m)=addL x (p-1) ++ jbo ((max x (q+1),y) :: rs) (b.drop (m+1)):=by
 rw [jdi hb,jbo,if_pos h]
theorem ykv {rs b:List (Int × Int)} {m:Nat} {x y p q:Int} (hb:b[m]? = some (p,q)) (h:y≤q) :
  jbo ((x,y) :: rs) (b.drop m)=addL x (min y (p-1)) ++ jbo rs (b.drop m):=by
 rw [jdi hb,jbo,if_neg (by omega)]
theorem yku {rs b:List (Int × Int)} {m:Nat} {x y:Int} (h:b.length≤m) :
  jbo ((x,y) :: rs) (b.drop m)=addL x y ++ jbo rs (b.drop m):=by
 rw [List.drop_of_length_le h,jbo]
def yqx (l:List (Int × Int)):Prop:=∀ r,r∈l → -1000000≤r.1∧r.1≤1000000 ∧ -1000000≤r.2∧r.2≤1000000
theorem jx9 {l:List (Int × Int)} {k:Nat} {x y:Int} (h:yqx l) (hk:l[k]? = some (x,y)):-1000000≤x∧x≤1000000 ∧ -1000000≤y∧y≤1000000:=h (x,y) (List.mem_of_getElem? hk)
open Go.Lib (hid)
theorem jao {L x y:Int} {l:List (Int × Int)}:jbn L ((x,y) :: l)=true ↔ -1000000≤x∧y≤1000000∧x≤y∧L+1<x∧jbn y l=true:=by
 simp [jbn,and_assoc]
theorem jci {x y n:Int} {l:List (Int × Int)}:hasB ((x,y) :: l) n=true↔(x≤n∧n≤y)∨hasB l n=true:=by
 simp [hasB]
theorem js9 (n:Int):hasB [] n=false:=rfl
theorem jfc {l m:List (Int × Int)} {n:Int}:hasB (l ++ m) n=true↔hasB l n=true∨hasB m n=true:=by
 simp [hasB,List.any_append]
theorem jnk {x y n:Int}:hasB (addL x y) n=true↔x≤n∧n≤y:=by
 unfold addL;split
 ·simp [hasB];omega
 ·simp [hasB]
theorem jkh {L n:Int} {l:List (Int × Int)} (h:jbn L l=true) (hn:hasB l n=true):L+1<n:=by
 induction l generalizing L with
 | nil=>simp [hasB] at hn
 | cons a l ih =>
  obtain ⟨x,y⟩:=a;obtain ⟨h1,h2,h3,h4,h5⟩:=jao.1 h;rcases jci.1 hn with h' | h'
  ·omega
  ·have:=ih h5 h';omega
theorem jrn {L n:Int} {l:List (Int × Int)} (h:jbn L l=true) (hn:hasB l n=true):-1000000≤n∧n≤1000000:=by
 induction l generalizing L with
 | nil=>simp [hasB] at hn
 | cons a l ih =>
  obtain ⟨x,y⟩:=a;obtain ⟨h1,h2,h3,h4,h5⟩:=jao.1 h;rcases jci.1 hn with h' | h'
  ·omega
  ·exact ih h5 h'
theorem jpk {L L':Int} {l:List (Int × Int)} (h:jbn L l=true) (hL:L'≤L):jbn L' l=true:=by
 cases l with
 | nil=>rfl
 | cons a l =>
  obtain ⟨x,y⟩:=a;obtain ⟨h1,h2,h3,h4,h5⟩:=jao.1 h;exact jao.2 ⟨h1,h2,h3,by omega,h5⟩
theorem jfl {L:Int} {l:List (Int × Int)} (h:jbn L l=true):yqx l:=by
 induction l generalizing L with
 | nil=>intro r hr;simp at hr
 | cons a l ih =>
  obtain ⟨x,y⟩:=a;obtain ⟨h1,h2,h3,h4,h5⟩:=jao.1 h;intro r hr;rcases List.mem_cons.1 hr with rfl | hr
  ·exact ⟨h1,by omega,by omega,h2⟩
  ·exact ih h5 r hr
theorem jf5 {L L':Int} {a b:List (Int × Int)} (ha:jbn L a=true) (hb:jbn L' b=true) (h:∀ n,hasB a n=hasB b n):a=b:=by
 induction a generalizing b L L' with
 | nil =>
  cases b with
  | nil=>rfl
  | cons r b =>
   obtain ⟨p,q⟩:=r;obtain ⟨_,_,h3,_,_⟩:=jao.1 hb;have h1:hasB ((p,q) :: b) p=true:=jci.2 (.inl ⟨by omega,h3⟩);rw [← h p] at h1;simp [hasB] at h1
 | cons r a ih =>
  obtain ⟨x,y⟩:=r;obtain ⟨a1,a2,a3,a4,a5⟩:=jao.1 ha;cases b with
  | nil =>
   have h1:hasB ((x,y) :: a) x=true:=jci.2 (.inl ⟨by omega,a3⟩);rw [h x] at h1;simp [hasB] at h1
  | cons s b =>
   obtain ⟨p,q⟩:=s;obtain ⟨b1,b2,b3,b4,b5⟩:=jao.1 hb;have hlo:∀ {x y p q:Int} {a b:List (Int × Int)},jbn q b=true→p≤q→x≤y→(∀ n,hasB ((x,y) :: a) n=hasB ((p,q) :: b) n)→p≤x:=by
    intro x y p q a b hb hpq hxy h;have h1:hasB ((x,y) :: a) x=true:=jci.2 (.inl ⟨by omega,hxy⟩);rw [h x] at h1;rcases jci.1 h1 with h' | h'
    ·omega
    ·have:=jkh hb h';omega
   have e1:p≤x:=hlo b5 b3 a3 h;have e2:x≤p:=hlo a5 a3 b3 (fun n=>(h n).symm);have hhi:∀ {x y q:Int} {a b:List (Int × Int)},jbn y a=true→x≤y→(∀ n,hasB ((x,y) :: a) n=hasB ((x,q) :: b) n)→q≤y:=by
    intro x y q a b ha hxy h;by_cases hlt:y<q
    ·have h1:hasB ((x,q) :: b) (y+1)=true:=jci.2 (.inl ⟨by omega,by omega⟩);rw [← h (y+1)] at h1;rcases jci.1 h1 with h' | h'
     ·omega
     ·have:=jkh ha h';omega
    ·omega
   have e3:x=p:=by omega
   subst e3;have e4:q≤y:=hhi a5 a3 h;have e5:y≤q:=hhi b5 b3 (fun n=>(h n).symm);have e6:y=q:=by omega
   subst e6
   congr 1
   refine ih a5 b5 fun n=>?_;by_cases hn:n≤y
   ·have f1:hasB a n=false:=by
     cases hh:hasB a n with
     | false=>rfl
     | true=>have:=jkh a5 hh;omega
    have f2:hasB b n=false:=by
     cases hh:hasB b n with
     | false=>rfl
     | true=>have:=jkh b5 hh;omega
    rw [f1,f2]
   ·have:=h n
    simp only [hasB,List.any_cons] at this ⊢;have hd:decide (n≤y)=false:=by simp;omega
    simpa [hd] using this
theorem jd7 {a b:List (Int × Int)}:∀ {La Lb:Int},jbn La a=true→jbn Lb b=true→jbn (max La Lb) (jbq a b)=true∧∀ n,hasB (jbq a b) n=(hasB a n && hasB b n):=by
 induction a,b using jbq.induct with
 | case1 x xs y ys ih1 ih2 =>
  intro La Lb ha hb;obtain ⟨x,y'⟩:=x;obtain ⟨p,q⟩:=y;rw [jbq];obtain ⟨a1,a2,a3,a4,a5⟩:=jao.1 ha;obtain ⟨b1,b2,b3,b4,b5⟩:=jao.1 hb;simp only;by_cases h:y'<q
  ·rw [if_pos h];obtain ⟨g,m⟩:=ih1 a5 hb;refine ⟨?_,fun n=>?_⟩
   ·by_cases hp:p≤y'
    ·rw [show addL (max x p) (min y' q) = [(max x p,min y' q)] from by unfold addL;rw [if_neg (by omega)]];exact jao.2 ⟨by omega,by omega,by omega,by omega,jpk g (by omega)⟩
    ·rw [show addL (max x p) (min y' q) = [] from by unfold addL;rw [if_pos (by omega)]];exact jpk g (by omega)
   ·rw [Bool.eq_iff_iff,jfc,jnk,m,Bool.and_eq_true,Bool.and_eq_true,jci,jci];constructor
    ·rintro (h' | ⟨h1,h2⟩)
     ·exact ⟨.inl (by omega),.inl (by omega)⟩
     ·exact ⟨.inr h1,h2⟩
    ·rintro ⟨h1 | h1,h2⟩
     ·rcases h2 with h2 | h2
      ·exact .inl (by omega)
      ·have:=jkh b5 h2;omega
     ·exact .inr ⟨h1,h2⟩
  ·rw [if_neg h];obtain ⟨g,m⟩:=ih2 ha b5;refine ⟨?_,fun n=>?_⟩
   ·by_cases hp:x≤q
    ·rw [show addL (max x p) (min y' q) = [(max x p,min y' q)] from by unfold addL;rw [if_neg (by omega)]];exact jao.2 ⟨by omega,by omega,by omega,by omega,jpk g (by omega)⟩
    ·rw [show addL (max x p) (min y' q) = [] from by unfold addL;rw [if_pos (by omega)]];exact jpk g (by omega)
   ·rw [Bool.eq_iff_iff,jfc,jnk,m,Bool.and_eq_true,Bool.and_eq_true,jci,jci];constructor
    ·rintro (h' | ⟨h1,h2⟩)
     ·exact ⟨.inl (by omega),.inl (by omega)⟩
     ·exact ⟨h1,.inr h2⟩
    ·rintro ⟨h1,h2 | h2⟩
     ·rcases h1 with h1 | h1
      ·exact .inl (by omega)
      ·have:=jkh a5 h1;omega
     ·exact .inr ⟨h1,h2⟩
 | case2 a b hn =>
  intro La Lb ha hb;rw [jbq]
  ·refine ⟨rfl,fun n=>?_⟩;cases a with
   | nil=>simp [hasB]
   | cons r a =>
    cases b with
    | nil=>simp [hasB]
    | cons s b=>exact absurd rfl (hn r a s b rfl)
  ·exact hn
theorem jl1 {a b:List (Int × Int)}:∀ {La Lb:Int},jbn La a=true→jbn Lb b=true→jbn La (jbo a b)=true∧∀ n,hasB (jbo a b) n=(hasB a n && !hasB b n):=by
 induction a,b using jbo.induct with
 | case1 b =>
  intro La Lb ha hb;rw [jbo];exact ⟨rfl,fun n=>by simp [hasB]⟩
 | case2 x y rs ih =>
  intro La Lb ha hb;obtain ⟨a1,a2,a3,a4,a5⟩:=jao.1 ha;obtain ⟨g,m⟩:=ih a5 hb;rw [jbo,show addL x y = [(x,y)] from by unfold addL;rw [if_neg (by omega)]];refine ⟨jao.2 ⟨a1,a2,a3,a4,g⟩,fun n=>?_⟩;rw [Bool.eq_iff_iff]
  show hasB ((x,y) :: jbo rs []) n=true↔_
  rw [jci,m,js9];simp [jci]
 | case3 x y rs p q bs h ih =>
  intro La Lb ha hb;obtain ⟨a1,a2,a3,a4,a5⟩:=jao.1 ha;obtain ⟨b1,b2,b3,b4,b5⟩:=jao.1 hb;rw [jbo,if_pos h];refine ⟨?_,fun n=>?_⟩
  ·by_cases hp:x≤p-1
   ·obtain ⟨g,m⟩:=ih (La:=p-1) (jao.2 ⟨by omega,a2,by omega,by omega,a5⟩) b5;rw [show addL x (p-1) = [(x,p-1)] from by unfold addL;rw [if_neg (by omega)]];exact jao.2 ⟨a1,by omega,hp,a4,g⟩
   ·obtain ⟨g,m⟩:=ih (La:=La) (jao.2 ⟨by omega,a2,by omega,by omega,a5⟩) b5;rw [show addL x (p-1) = [] from by unfold addL;rw [if_pos (by omega)]];exact g
  ·obtain ⟨g,m⟩:=ih (La:=La) (jao.2 ⟨by omega,a2,by omega,by omega,a5⟩) b5;have hb':∀ n,hasB bs n=true→q+1<n:=fun n hn=>jkh b5 hn;have ha':∀ n,hasB rs n=true→y+1<n:=fun n hn=>jkh a5 hn;have nb:∀ n,hasB ((p,q) :: bs) n=true↔(p≤n∧n≤q)∨hasB bs n=true:=fun n=>jci;rw [Bool.eq_iff_iff,jfc,jnk,m,Bool.and_eq_true,Bool.and_eq_true,jci,jci,Bool.not_eq_true',Bool.not_eq_true',← Bool.not_eq_true,← Bool.not_eq_true,nb];have h1:=hb' n;have h2:=ha' n;constructor
   ·rintro (h' | ⟨h' | h',h''⟩)
    ·exact ⟨.inl (by omega),fun hh=>by rcases hh with hh | hh;omega;have:=h1 hh;omega⟩
    ·exact ⟨.inl (by omega),fun hh=>by rcases hh with hh | hh;omega;exact h'' hh⟩
    ·exact ⟨.inr h',fun hh=>by rcases hh with hh | hh;(have:=h2 h';omega);exact h'' hh⟩
   ·rintro ⟨h' | h',h''⟩
    ·by_cases hp:n≤p-1
     ·exact .inl ⟨h'.1,hp⟩
     ·by_cases hq:n≤q
      ·exact absurd (.inl ⟨by omega,hq⟩) h''
      ·exact .inr ⟨.inl (by omega),fun hh=>h'' (.inr hh)⟩
    ·exact .inr ⟨.inr h',fun hh=>h'' (.inr hh)⟩
 | case4 x y rs p q bs h ih =>
  intro La Lb ha hb;obtain ⟨a1,a2,a3,a4,a5⟩:=jao.1 ha;obtain ⟨b1,b2,b3,b4,b5⟩:=jao.1 hb;rw [jbo,if_neg h];obtain ⟨g,m⟩:=ih a5 hb;refine ⟨?_,fun n=>?_⟩
  ·by_cases hp:x≤min y (p-1)
   ·rw [show addL x (min y (p-1)) = [(x,min y (p-1))] from by unfold addL;rw [if_neg (by omega)]];exact jao.2 ⟨a1,by omega,hp,a4,jpk g (by omega)⟩
   ·rw [show addL x (min y (p-1)) = [] from by unfold addL;rw [if_pos (by omega)]];exact jpk g (by omega)
  ·have h1:hasB bs n=true→q+1<n:=fun hn=>jkh b5 hn;have nb:hasB ((p,q) :: bs) n=true↔(p≤n∧n≤q)∨hasB bs n=true:=jci;rw [Bool.eq_iff_iff,jfc,jnk,m,Bool.and_eq_true,Bool.and_eq_true,jci,Bool.not_eq_true',← Bool.not_eq_true,nb];constructor
   ·rintro (h' | ⟨h',h''⟩)
    ·exact ⟨.inl (by omega),fun hh=>by rcases hh with hh | hh;omega;have:=h1 hh;omega⟩
    ·exact ⟨.inr h',h''⟩
   ·rintro ⟨h' | h',h''⟩
    ·by_cases hp:n≤p-1
     ·exact .inl ⟨h'.1,by omega⟩
     ·exact absurd (.inl ⟨by omega,by omega⟩) h''
    ·exact .inr ⟨h',h''⟩
open Go.Lib (hid)
def jqa (L:Int):List (Int × Int)→Int
 | []=>L
 | r :: l=>jqa r.2 l
theorem jkj (L p q:Int) (l:List (Int × Int)):jqa L (l ++ [(p,q)])=q:=by
 induction l generalizing L with
 | nil=>rfl
 | cons a l ih=>exact ih _
theorem jlx {L p q:Int} {l:List (Int × Int)}:jbn L (l ++ [(p,q)])=true↔jbn L l=true ∧ -1000000≤p∧q≤1000000∧p≤q∧jqa L l+1<p:=by
 induction l generalizing L with
 | nil=>rw [List.nil_append,jao];simp [jbn,jqa]
 | cons a l ih =>
  obtain ⟨x,y⟩:=a;rw [List.cons_append,jao,jao,ih];simp only [jqa];constructor <;> (rintro ⟨h1,h2⟩;simp_all)
theorem jy3 (r:Int × Int):jc2 [] r = [r]:=rfl
theorem jv0 (l:List (Int × Int)) (p q x y:Int):jc2 (l ++ [(p,q)]) (x,y)=if x≤q+1 then l ++ [(p,max q y)] else l ++ [(p,q)] ++ [(x,y)]:=by
 unfold jc2;have e:(l ++ [(p,q)])[(l ++ [(p,q)]).length-1]? = some (p,q):=by simp
 rw [e];simp only;split
 ·simp
 ·rfl
def yjq (l:List (Int × Int)):Prop:=∀ r,r∈l → -1000000≤r.1∧r.1≤r.2∧r.2≤1000000
theorem yhm {l:List (Int × Int)}:∀ (out:List (Int × Int)),yjq l→l.Pairwise (fun x y=>x.1≤y.1)→jbv out=true→(∀ i p q,out=i ++ [(p,q)]→∀ r,r∈l→p≤r.1) →
  jbv (l.foldl jc2 out)=true∧∀ n,hasB (l.foldl jc2 out) n=(hasB out n || hasB l n):=by
 induction l with
 | nil=>intro out _ _ h _;exact ⟨h,fun n=>by simp [hasB]⟩
 | cons r l ih =>
  intro out hc hs hg hle;obtain ⟨x,y⟩:=r;obtain ⟨c1,c2,c3⟩:=hc (x,y) List.mem_cons_self;simp only at c1 c2 c3;have hc':yjq l:=fun r hr=>hc r (List.mem_cons_of_mem _ hr);obtain ⟨s1,s2⟩:=List.pairwise_cons.1 hs;have hn:∀ n,hasB ((x,y) :: l) n=((decide (x≤n) && decide (n≤y)) || hasB l n):=fun n=>by simp [hasB]
  rcases List.eq_nil_or_concat out with rfl | ⟨i,⟨p,q⟩,rfl⟩
  ·have hg':jbv [(x,y)]=true:=jao.2 ⟨c1,c3,c2,by omega,rfl⟩;obtain ⟨g,m⟩:=ih [(x,y)] hc' s2 hg' (fun i p q e r hr=>by
    have:i = []∧(p,q)=(x,y):=by
     cases i with
     | nil=>simp at e;exact ⟨rfl,by simp [e]⟩
     | cons a i=>simp at e
    obtain ⟨_,e2⟩:=this;injection e2 with e2 e3;subst e2;exact s1 r hr)
   rw [List.foldl_cons,jy3];exact ⟨g,fun n=>by rw [m,hn];simp [hasB]⟩
  ·rw [List.concat_eq_append] at *;rw [List.foldl_cons,jv0];obtain ⟨g0,g1,g2,g3,g4⟩:=jlx.1 hg;have hpx:p≤x:=hle i p q rfl (x,y) List.mem_cons_self;by_cases hx:x≤q+1
   ·rw [if_pos hx];obtain ⟨g,m⟩:=ih (i ++ [(p,max q y)]) hc' s2 (jlx.2 ⟨g0,g1,by omega,by omega,g4⟩) (fun i' p' q' e r hr=>by
     have e2:=(List.append_inj' e rfl).2;simp at e2;have:=s1 r hr
     have:p'≤x:=by omega
     omega)
    refine ⟨g,fun n=>?_⟩;rw [m,hn,Bool.eq_iff_iff];simp only [Bool.or_eq_true,jfc,Bool.and_eq_true,decide_eq_true_eq];have e1:hasB [(p,max q y)] n=true↔p≤n∧n≤max q y:=by simp [hasB]
    have e2:hasB [(p,q)] n=true↔p≤n∧n≤q:=by simp [hasB]
    rw [e1,e2];constructor
    ·rintro ((h | h) | h)
     ·exact .inl (.inl h)
     ·by_cases hq:n≤q
      ·exact .inl (.inr ⟨h.1,hq⟩)
      ·exact .inr (.inl (by omega))
     ·exact .inr (.inr h)
    ·rintro ((h | h) | (h | h))
     ·exact .inl (.inl h)
     ·exact .inl (.inr (by omega))
     ·exact .inl (.inr (by omega))
     ·exact .inr h
   ·rw [if_neg hx];obtain ⟨g,m⟩:=ih (i ++ [(p,q)] ++ [(x,y)]) hc' s2 (jlx.2 ⟨hg,c1,c3,c2,by rw [jkj];omega⟩) (fun i' p' q' e r hr=>by
     have e2:=(List.append_inj' e rfl).2;simp at e2;have:=s1 r hr
     have:p'=x:=e2.1.symm
     omega)
    refine ⟨g,fun n=>?_⟩;rw [m,hn,Bool.eq_iff_iff];simp only [Bool.or_eq_true,jfc,Bool.and_eq_true,decide_eq_true_eq];have e1:hasB [(x,y)] n=true↔x≤n∧n≤y:=by simp [hasB]
    rw [e1];constructor
    ·rintro (((h | h) | h) | h)
     ·exact .inl (.inl h)
     ·exact .inl (.inr h)
     ·exact .inr (.inl h)
     ·exact .inr (.inr h)
    ·rintro ((h | h) | (h | h))
     ·exact .inl (.inl (.inl h))
     ·exact .inl (.inl (.inr h))
     ·exact .inl (.inr h)
     ·exact .inr h
theorem yd3 {l:List (Int × Int)} (hc:yjq l) (hs:l.Pairwise (fun x y=>x.1≤y.1)):jbv (jjb l)=true∧∀ n,hasB (jjb l) n=hasB l n:=by
 obtain ⟨g,m⟩:=yhm [] hc hs rfl (fun i p q e=>by simp at e);exact ⟨g,fun n=>by rw [jjb,m];simp [hasB]⟩
theorem jt2 (l:List (Int × Int)):yjq (jkx l):=by
 intro r hr;simp only [jkx,List.mem_flatMap] at hr;obtain ⟨a,_,h⟩:=hr;unfold addL at h;split at h
 ·simp at h
 ·simp at h;subst h;simp;omega
theorem yjr (l:List (Int × Int)) (n:Int):hasB (jkx l) n=(decide (-1000000≤n) && decide (n≤1000000) && hasB l n):=by
 induction l with
 | nil=>simp [jkx,hasB]
 | cons a l ih =>
  obtain ⟨x,y⟩:=a;have e:jkx ((x,y) :: l)=addL (max x (-1000000)) (min y 1000000) ++ jkx l:=by simp [jkx]
  rw [e,Bool.eq_iff_iff,jfc,jnk,ih];simp only [Bool.and_eq_true,decide_eq_true_eq,jci];constructor
  ·rintro (h | h)
   ·exact ⟨by omega,.inl (by omega)⟩
   ·exact ⟨h.1,.inr h.2⟩
  ·rintro ⟨h,h' | h'⟩
   ·exact .inl (by omega)
   ·exact .inr ⟨h,h'⟩
theorem ykh {l m:List (Int × Int)} (h:l.Perm m) (n:Int):hasB l n=hasB m n:=by
 rw [Bool.eq_iff_iff,joj,joj];exact ⟨fun ⟨r,h1,h2⟩=>⟨r,h.mem_iff.1 h1,h2⟩,fun ⟨r,h1,h2⟩=>⟨r,h.mem_iff.2 h1,h2⟩⟩
def jeh (l:List (Int × Int)):List (Int × Int):=jjb ((jkx l).mergeSort fun x y=>decide (x.1≤y.1))
theorem jy5 {l l':List (Int × Int)} (hp:l'.Perm (jkx l)) (hs:l'.Pairwise (fun x y=>x.1≤y.1)):jbv (jjb l')=true∧∀ n,hasB (jjb l') n=(decide (-1000000≤n) && decide (n≤1000000) && hasB l n):=by
 obtain ⟨g,m⟩:=yd3 (l:=l') (fun r hr=>jt2 l r (hp.mem_iff.1 hr)) hs;exact ⟨g,fun n=>by rw [m,ykh hp,yjr]⟩
theorem jc8 (l:List (Int × Int)):jbv (jeh l)=true∧∀ n,hasB (jeh l) n=(decide (-1000000≤n) && decide (n≤1000000) && hasB l n):=by
 refine jy5 (List.mergeSort_perm _ _) ?_;have:=List.pairwise_mergeSort (le:=fun (x y:Int × Int)=>decide (x.1≤y.1)) (fun a b c h1 h2=>by simp at *;omega) (fun a b=>by simp;omega) (jkx l)
 exact this.imp (by intro a b h;simpa using h)
theorem yo1 {l l':List (Int × Int)} (hp:l'.Perm (jkx l)) (hs:l'.Pairwise (fun x y=>x.1≤y.1)):jjb l'=jeh l :=
 jf5 (jy5 hp hs).1 (jc8 l).1 (fun n=>by rw [(jy5 hp hs).2,(jc8 l).2])
theorem ygu {l:List (Int × Int)} (h:yjq l):hiIn l:=fun r hr=>by have:=h r hr;omega
def cnt (N:Nat) (f:Int→Bool):Nat:=(List.range N).countP fun i:Nat=>f ((i:Int)-1000000)
theorem yso (N:Nat) (f:Int→Bool):cnt N f≤N:=by
 have:=List.countP_le_length (p:=fun i:Nat=>f ((i:Int)-1000000)) (l:=List.range N)
 rw [List.length_range] at this;exact this
theorem yjy {α:Type} (f g:α→Bool) (l:List α) (h:∀ x,f x=true→g x=true→False):l.countP (fun x=>f x || g x)=l.countP f+l.countP g:=by
 induction l with
 | nil=>rfl
 | cons a l ih =>
  rw [List.countP_cons,List.countP_cons,List.countP_cons,ih];have:=h a
  cases hf:f a <;> cases hg:g a <;> simp_all <;> omega
theorem yqg (N:Nat) (f g:Int→Bool) (h:∀ x,f x=true→g x=true→False):cnt N (fun x=>f x || g x)=cnt N f+cnt N g:=yjy _ _ _ (fun _=>h _)
theorem yao (N a b:Nat) (h:a≤b) (hb:b≤N):(List.range N).countP (fun i=>decide (a≤i) && decide (i<b))=b-a:=by
 induction N generalizing b with
 | zero=>simp;omega
 | succ N ih =>
  rw [List.range_succ,List.countP_append,List.countP_cons,List.countP_nil];by_cases hbN:b≤N
  ·rw [ih b h hbN,if_neg (by simp;omega)];omega
  ·have:b=N+1:=by omega
   subst this;by_cases haN:a≤N
   ·have e:(List.range N).countP (fun i=>decide (a≤i) && decide (i<N+1))=(List.range N).countP (fun i=>decide (a≤i) && decide (i<N)):=by
     apply List.countP_congr;intro x hx;have:=List.mem_range.1 hx
     simp;omega
    rw [e,ih N haN (Nat.le_refl _),if_pos (by simp [haN])];omega
   ·have e:(List.range N).countP (fun i=>decide (a≤i) && decide (i<N+1))=0:=by
     rw [List.countP_eq_zero];intro x hx;have:=List.mem_range.1 hx
     simp;omega
    rw [e,if_neg (by simp;omega)];omega
theorem yjw (N:Nat) (hN:N=2000001) (x y:Int) (h1:-1000000≤x) (h2:x≤y) (h3:y≤1000000):(cnt N (fun n=>decide (x≤n) && decide (n≤y)):Int)=y-x+1:=by
 have:=yao N (x+1000000).toNat (y+1000001).toNat (by omega) (by omega)
 unfold cnt;have e:(List.range N).countP (fun i:Nat=>decide (x≤(i:Int)-1000000) && decide ((i:Int)-1000000≤y))=(List.range N).countP (fun i=>decide ((x+1000000).toNat≤i) && decide (i<(y+1000001).toNat)):=by
  apply List.countP_congr;intro i _;simp;omega
 rw [e,this];omega
def sumL (l:List (Int × Int)):Int:=(l.map fun r=>r.2-r.1+1).sum
theorem ycn (x y:Int) (l:List (Int × Int)):sumL ((x,y) :: l)=(y-x+1)+sumL l:=by simp [sumL]
theorem jtn (N:Nat) (hN:N=2000001) {L:Int} {l:List (Int × Int)} (h:jbn L l=true):sumL l=cnt N (hasB l):=by
 induction l generalizing L with
 | nil =>
  have:cnt N (hasB [])=0:=by unfold cnt;rw [List.countP_eq_zero];intro x _;simp [hasB]
  rw [this];rfl
 | cons a l ih =>
  obtain ⟨x,y⟩:=a;obtain ⟨h1,h2,h3,h4,h5⟩:=jao.1 h;have e2:hasB ((x,y) :: l)=fun n=>(decide (x≤n) && decide (n≤y)) || hasB l n:=by funext n;simp [hasB]
  rw [ycn,e2,yqg N _ _ (fun n g1 g2=>by simp at g1;have:=jkh h5 g2;omega),ih h5];have:=yjw N hN x y h1 h3 h2
  omega
theorem yke {L:Int} {l:List (Int × Int)} (h:jbn L l=true) (k:Nat):jbn L (l.take k)=true:=by
 induction l generalizing L k with
 | nil=>simp [jbn]
 | cons a l ih =>
  obtain ⟨x,y⟩:=a;obtain ⟨h1,h2,h3,h4,h5⟩:=jao.1 h;cases k with
  | zero=>rfl
  | succ k=>exact jao.2 ⟨h1,h2,h3,h4,ih h5 k⟩
theorem jiy {l:List (Int × Int)} (h:jbv l=true) (k:Nat):0≤sumL (l.take k)∧sumL (l.take k)≤2000001:=by
 obtain ⟨N,hN⟩:∃ N,N=2000001:=⟨_,rfl⟩;have:=jtn N hN (yke (k:=k) h)
 have:=yso N (hasB (l.take k))
 omega
theorem yco {a b:List (Int × Int)} (ha:jbv a=true) (hb:jbv b=true):sumL (jbq a b)+sumL (jbo a b)=sumL a:=by
 obtain ⟨N,hN⟩:∃ N,N=2000001:=⟨_,rfl⟩;obtain ⟨g1,m1⟩:=jd7 ha hb;obtain ⟨g2,m2⟩:=jl1 ha hb;have e:hasB a=fun n=>hasB (jbq a b) n || hasB (jbo a b) n:=by
  funext n;rw [m1,m2];cases hasB a n <;> cases hasB b n <;> rfl
 have:=yqg N (hasB (jbq a b)) (hasB (jbo a b)) (fun n h1 h2=>by rw [m1,Bool.and_eq_true] at h1;rw [m2,h1.2] at h2;simp at h2)
 rw [jtn N hN g1,jtn N hN g2,jtn N hN ha,e];omega
theorem jub {L:Int} {l:List (Int × Int)} (h:jbn L l=true):(l.length:Int)≤sumL l:=by
 induction l generalizing L with
 | nil=>simp [sumL]
 | cons a l ih =>
  obtain ⟨x,y⟩:=a;obtain ⟨h1,h2,h3,h4,h5⟩:=jao.1 h;have:=ih h5
  rw [ycn,List.length_cons];omega
theorem jdn {l:List (Int × Int)} (h:jbv l=true):l.length≤2000001:=by
 have h1:=jub h;have h2:=jiy h l.length;rw [List.take_length] at h2;omega
open Go.Lib (hid)
open Go.Lib (hid)
open Go.Lib (hid)
open Go.Lib (hid)
def jcf (b:List (List (Int × Int))):Bool:=b.all fun s=>decide (0<s.length) && jbv s
def jan (b:List (List (Int × Int))) (n:Int):Bool:=decide ((b.length:Int)=n) && decide (n≤3) && jcf b
def jaj:List (List (Int × Int))→List Int→Bool
 | [],[]=>true
 | s :: b,n :: i=>hasB s n && jaj b i
 | _,_=>false
def jc4:List (List (Int × Int))→Int
 | []=>1
 | s :: b=>sumL s*jc4 b
def jjo (a b:List (List (Int × Int))):Bool:=jan a a.length && jan b a.length
def jbe (a b:List (List (Int × Int))):List (List (Int × Int)):=List.zipWith jbq a b
def jff (a:List (List (Int × Int))):Bool:=a.all fun s=>decide (0<s.length)
def jcy (a b:List (List (Int × Int))):Bool:=jjo a b && jff (jbe a b)
def jdh (a b:List (List (Int × Int))):List (List (Int × Int)):=if jcy a b then jbe a b else []
def jjt (p:List (List (Int × Int))):List (List (Int × Int))→List (List (Int × Int))→List (List (List (Int × Int)))
 | s :: a,t :: b=>(if (jbo s t).length=0 then [] else [p ++ jbo s t :: a]) ++ jjt (p ++ [jbq s t]) a b
 | _,_=>[]
def ja4 (a b:List (List (Int × Int))):List (List (List (Int × Int))) :=
 if jjo a b then (if jff (jbe a b) then jjt [] a b else [a]) else []
def jpu (a:List (List (Int × Int))) (l:List (List (List (Int × Int)))):List (List (List (Int × Int))) :=
 if jan a a.length then l.foldl (fun r b=>if jan b a.length then r.flatMap (fun x=>ja4 x b) else r) [a] else []
def jb7 (b:List (List (Int × Int))):List Int:=b.filterMap fun s=>s.head?.map (·.1)
theorem jdu {s:List (Int × Int)} {b:List (List (Int × Int))}:jcf (s :: b)=true↔(0<s.length∧jbv s=true)∧jcf b=true:=by simp [jcf]
theorem jlc {a b:List (List (Int × Int))}:jcf (a ++ b)=true↔jcf a=true∧jcf b=true:=by simp [jcf,List.all_append]
theorem jrl {s:List (Int × Int)} {b:List (List (Int × Int))}:jff (s :: b)=true↔0<s.length∧jff b=true:=by simp [jff]
theorem jae {b:List (List (Int × Int))} {n:Int}:jan b n=true↔((b.length:Int)=n∧n≤3)∧jcf b=true:=by simp [jan]
theorem jcu {b:List (List (Int × Int))} {n:Int} (h:jan b n=true):jan b b.length=true:=by
 rw [jae] at h ⊢;exact ⟨⟨rfl,by omega⟩,h.2⟩
theorem jmm {p b:List (List (Int × Int))}:∀ {i:List Int},jaj (p ++ b) i=(jaj p (i.take p.length) && jaj b (i.drop p.length)):=by
 induction p with
 | nil=>intro i;simp [jaj]
 | cons s p ih=>intro i;cases i with
  | nil=>simp [jaj]
  | cons n i=>simp [jaj,ih,Bool.and_assoc]
theorem ym6 {s:List (Int × Int)} (h:jbv s=true):0≤sumL s∧sumL s≤2000001:=by
 have:=jiy h s.length
 rwa [List.take_length] at this
theorem jnz (a b:List (List (Int × Int))):jc4 (a ++ b)=jc4 a*jc4 b:=by
 induction a with
 | nil=>simp [jc4]
 | cons s a ih=>simp [jc4,ih,Int.mul_assoc]
theorem jso {b:List (List (Int × Int))} (h:∀ s,s∈b→jbv s=true):0≤jc4 b:=by
 induction b with
 | nil=>simp [jc4]
 | cons s b ih =>
  exact Int.mul_nonneg (ym6 (h s (by simp))).1 (ih fun t ht=>h t (by simp [ht]))
theorem jma {b:List (List (Int × Int))} (h:jcf b=true):∀ s,s∈b→jbv s=true:=by
 intro s hs;simp [jcf] at h;exact (h s hs).2
theorem jr4 {b:List (List (Int × Int))} (h:jcf b=true) (k:Nat):jcf (b.take k)=true:=by
 have:jcf (b.take k ++ b.drop k)=true:=by rw [List.take_append_drop];exact h
 exact (jlc.1 this).1
theorem yid {b:List (List (Int × Int))} (h:jcf b=true) (k:Nat):jcf (b.drop k)=true:=by
 have:jcf (b.take k ++ b.drop k)=true:=by rw [List.take_append_drop];exact h
 exact (jlc.1 this).2
theorem jrp {a b:List (List (Int × Int))} (ha:jcf a=true) (hb:jcf b=true):∀ s,s∈jbe a b→jbv s=true:=by
 induction a generalizing b with
 | nil=>intro s hs;simp [jbe] at hs
 | cons s a ih =>
  cases b with
  | nil=>intro s hs;simp [jbe] at hs
  | cons t b =>
   rw [jdu] at ha hb;intro x hx;simp only [jbe,List.zipWith_cons_cons,List.mem_cons] at hx;rcases hx with rfl | hx
   ·have:=(jd7 (La:=-1000002) (Lb:=-1000002) ha.1.2 hb.1.2).1
    rwa [Int.max_self] at this
   ·exact ih ha.2 hb.2 x hx
theorem jl0 {a b:List (List (Int × Int))} (ha:jcf a=true) (hb:jcf b=true) (hf:jff (jbe a b)=true):jcf (jbe a b)=true:=by
 simp only [jcf,List.all_eq_true,Bool.and_eq_true,decide_eq_true_eq];intro s hs;simp [jff] at hf;exact ⟨hf s hs,jrp ha hb s hs⟩
theorem ykr {a b:List (List (Int × Int))} (ha:jcf a=true) (hb:jcf b=true) (hl:a.length=b.length):∀ {i:List Int},jaj (jbe a b) i=(jaj a i && jaj b i):=by
 induction a generalizing b with
 | nil =>
  cases b with
  | nil=>intro i;cases i <;> simp [jbe,jaj]
  | cons=>simp at hl
 | cons s a ih =>
  cases b with
  | nil=>simp at hl
  | cons t b =>
   rw [jdu] at ha hb;intro i;cases i with
   | nil=>simp [jbe,jaj]
   | cons n i =>
    have h1:=(jd7 (La:=-1000002) (Lb:=-1000002) ha.1.2 hb.1.2).2 n;have h2:=ih ha.2 hb.2 (by simpa using hl) (i:=i);simp only [jbe] at h2;simp only [jbe,List.zipWith_cons_cons,jaj,h1,h2];cases hasB s n <;> cases hasB t n <;> cases jaj a i <;> cases jaj b i <;> rfl
theorem yaw {b:List (List (Int × Int))} (h:jff b=false):∀ {i:List Int},jaj b i=false:=by
 induction b with
 | nil=>simp [jff] at h
 | cons s b ih =>
  intro i;cases i with
  | nil=>rfl
  | cons n i =>
   simp only [jaj];by_cases hs:0<s.length
   ·have:jff b=false:=by
     cases hb:jff b
     ·rfl
     ·have:=jrl.2 ⟨hs,hb⟩;rw [this] at h;cases h
    rw [ih this,Bool.and_false]
   ·have:s = []:=List.length_eq_zero_iff.1 (by omega)
    subst this;rw [js9,Bool.false_and]
def bit (b:Bool):Nat:=if b then 1 else 0
def jde (l:List (List (List (Int × Int)))) (i:List Int):Nat:=l.countP fun x=>jaj x i
def jbz (l:List (List (List (Int × Int)))):Int:=(l.map jc4).sum
theorem jmh (l m:List (List (List (Int × Int)))) (i:List Int):jde (l ++ m) i=jde l i+jde m i:=List.countP_append
theorem jjy (l m:List (List (List (Int × Int)))):jbz (l ++ m)=jbz l+jbz m:=by simp [jbz]
theorem jup {s t:List (Int × Int)} (hs:jbv s=true) (ht:jbv t=true):jbv (jbo s t)=true∧∀ n,hasB (jbo s t) n=(hasB s n && !hasB t n) :=
 jl1 (La:=-1000002) (Lb:=-1000002) hs ht
theorem yhi {a:List (List (Int × Int))}:∀ {p b:List (List (Int × Int))},jcf p=true→jcf a=true→jcf b=true→jff (jbe a b)=true →
  ∀ x,x∈jjt p a b→x.length=p.length+a.length∧jcf x=true:=by
 induction a with
 | nil=>intro p b _ _ _ _ x hx;simp [jjt] at hx
 | cons s a ih =>
  intro p b hp ha hb hf x hx;cases b with
  | nil=>simp [jjt] at hx
  | cons t b =>
   rw [jdu] at ha hb;simp only [jbe,List.zipWith_cons_cons] at hf;rw [jrl] at hf;simp only [jjt,List.mem_append] at hx;rcases hx with hx | hx
   ·split at hx
    ·simp at hx
    ·rename_i h0
     simp at hx;subst hx;refine ⟨by simp,?_⟩;rw [jlc,jdu];exact ⟨hp,⟨by omega,(jup ha.1.2 hb.1.2).1⟩,ha.2⟩
   ·have hg:=(jd7 (La:=-1000002) (Lb:=-1000002) ha.1.2 hb.1.2).1;rw [Int.max_self] at hg;obtain ⟨h1,h2⟩:=ih (p:=p ++ [jbq s t]) (by rw [jlc,jdu];exact ⟨hp,⟨hf.1,hg⟩,rfl⟩) ha.2 hb.2 hf.2 x hx;exact ⟨by rw [h1];simp;omega,h2⟩
theorem ykw {a:List (List (Int × Int))}:∀ {p b:List (List (Int × Int))},jcf a=true→jcf b=true→a.length=b.length →
  ∀ i,jde (jjt p a b) i=bit (jaj (p ++ a) i && !jaj b (i.drop p.length)):=by
 induction a with
 | nil =>
  intro p b _ _ hl i;cases b with
  | nil =>
   simp only [jjt,jde,List.countP_nil,jmm];cases hd:jaj [] (i.drop p.length) <;> simp [bit]
  | cons=>simp at hl
 | cons s a ih =>
  intro p b ha hb hl i;cases b with
  | nil=>simp at hl
  | cons t b =>
   rw [jdu] at ha hb;simp only [jjt,jmh];rw [ih ha.2 hb.2 (by simpa using hl)];have hF:jde (if (jbo s t).length=0 then [] else [p ++ jbo s t :: a]) i=bit (jaj (p ++ jbo s t :: a) i):=by
    by_cases h0:(jbo s t).length=0
    ·have e:jbo s t = []:=List.length_eq_zero_iff.1 h0;have:jaj (p ++ jbo s t :: a) i=false:=by
      rw [e,jmm];cases i.drop p.length with
      | nil=>simp [jaj]
      | cons n r=>simp [jaj,js9]
     rw [if_pos h0,this];rfl
    ·rw [if_neg h0];simp only [jde,List.countP_cons,List.countP_nil,bit];cases jaj (p ++ jbo s t :: a) i <;> simp
   rw [hF];simp only [jmm,List.length_append,List.length_cons,List.length_nil,← List.drop_drop,Nat.zero_add];have et:(List.take (p.length+1) i).drop p.length=(i.drop p.length).take 1:=by rw [List.drop_take];congr 1;omega
   have ett:(List.take (p.length+1) i).take p.length=i.take p.length:=by rw [List.take_take];congr 1;omega
   rw [et,ett];cases i.drop p.length with
   | nil=>simp [jaj,bit]
   | cons n r =>
    have h1:=(jd7 (La:=-1000002) (Lb:=-1000002) ha.1.2 hb.1.2).2 n;have h2:=(jup ha.1.2 hb.1.2).2 n;simp only [List.take_succ_cons,List.take_zero,List.drop_succ_cons,List.drop_zero,jaj,h1,h2];cases jaj p (i.take p.length) <;> cases hasB s n <;> cases hasB t n <;> cases jaj a r <;> cases jaj b r <;> rfl
theorem ykx {a:List (List (Int × Int))}:∀ {p b:List (List (Int × Int))},jcf a=true→jcf b=true→a.length=b.length →
  jbz (jjt p a b)+jc4 p*jc4 (jbe a b)=jc4 p*jc4 a:=by
 induction a with
 | nil=>intro p b _ _ hl;simp [jjt,jbz,jbe]
 | cons s a ih =>
  intro p b ha hb hl;cases b with
  | nil=>simp at hl
  | cons t b =>
   rw [jdu] at ha hb;simp only [jjt,jjy];have h1:=ih (p:=p ++ [jbq s t]) ha.2 hb.2 (by simpa using hl);have h2:=yco ha.1.2 hb.1.2;have hF:jbz (if (jbo s t).length=0 then [] else [p ++ jbo s t :: a])=jc4 p*(sumL (jbo s t)*jc4 a):=by
    by_cases h0:(jbo s t).length=0
    ·have e:jbo s t = []:=List.length_eq_zero_iff.1 h0;rw [if_pos h0,e];simp [jbz,sumL]
    ·rw [if_neg h0];simp [jbz,jnz,jc4]
   rw [hF];simp only [jnz,jc4,Int.mul_one,jbe,List.zipWith_cons_cons] at h1 ⊢;rw [← h2,Int.add_mul,Int.mul_add,← Int.mul_assoc (jc4 p) (sumL (jbq s t)) (jc4 a),← h1];simp only [Int.mul_assoc];omega
theorem jfk {a b:List (List (Int × Int))}:jjo a b=true↔jan a a.length=true∧jan b a.length=true:=by simp [jjo]
theorem jk5 {a b x:List (List (Int × Int))} (hx:x∈ja4 a b):jan x a.length=true:=by
 unfold ja4 at hx;split at hx
 ·rename_i h
  rw [jfk] at h;obtain ⟨hga,hgb⟩:=h;have ha:=jae.1 hga;have hb:=jae.1 hgb;split at hx
  ·rename_i hf
   obtain ⟨h1,h2⟩:=yhi (p:=[]) rfl ha.2 hb.2 hf x hx;rw [jae];exact ⟨⟨by simp [h1],ha.1.2⟩,h2⟩
  ·simp at hx;subst hx;exact hga
 ·simp at hx
theorem jpl {a b:List (List (Int × Int))} (h:jjo a b=true) (i:List Int):jde (ja4 a b) i=bit (jaj a i && !jaj b i):=by
 unfold ja4;rw [if_pos h];rw [jfk] at h;obtain ⟨hga,hgb⟩:=h;have ha:=jae.1 hga;have hb:=jae.1 hgb;have hl:a.length=b.length:=by omega
 by_cases hf:jff (jbe a b)=true
 ·rw [if_pos hf,ykw ha.2 hb.2 hl];simp
 ·rw [if_neg hf];have h1:=ykr ha.2 hb.2 hl (i:=i);rw [yaw (by simpa using hf)] at h1;simp only [jde,List.countP_cons,List.countP_nil,bit];clear ha hb hga hgb hf hl;cases h2:jaj a i <;> cases h3:jaj b i
  ·rfl
  ·rfl
  ·rfl
  ·rw [h2,h3] at h1;cases h1
theorem juo {a b:List (List (Int × Int))} (h:jjo a b=true):jbz (ja4 a b)+(if jcy a b then jc4 (jbe a b) else 0)=jc4 a:=by
 unfold ja4 jcy;rw [if_pos h,h,Bool.true_and];rw [jfk] at h;obtain ⟨hga,hgb⟩:=h;have ha:=jae.1 hga;have hb:=jae.1 hgb;have hl:a.length=b.length:=by omega
 by_cases hf:jff (jbe a b)=true
 ·rw [if_pos hf,if_pos hf];have:=ykx (p:=[]) ha.2 hb.2 hl
  simpa [jc4] using this
 ·rw [if_neg hf,if_neg hf];simp [jbz]
theorem ybj (a:List (List (Int × Int))):∀ (p b:List (List (Int × Int))),(jjt p a b).length≤a.length:=by
 induction a with
 | nil=>intro p b;simp [jjt]
 | cons s a ih =>
  intro p b;cases b with
  | nil=>simp [jjt]
  | cons t b =>
   have:=ih (p ++ [jbq s t]) b
   simp only [jjt,List.length_append,List.length_cons];split <;> simp <;> omega
theorem jpc (a b:List (List (Int × Int))):(ja4 a b).length≤3:=by
 unfold ja4;split
 ·rename_i h
  have:=jae.1 (jfk.1 h).1
  split
  ·have:=ybj a [] b
   omega
  ·simp
 ·simp
def jdq (l:List (List (List (Int × Int)))) (b:List (List (Int × Int))):List (List (List (Int × Int))):=l.flatMap fun x=>ja4 x b
theorem jvv (l m:List (List (List (Int × Int)))) (b:List (List (Int × Int))):jdq (l ++ m) b=jdq l b ++ jdq m b:=by simp [jdq]
theorem yat {l:List (List (List (Int × Int)))} {k:Nat} {x:List (List (Int × Int))} (h:l[k]? = some x) (b:List (List (Int × Int))):jdq (l.take (k+1)) b=jdq (l.take k) b ++ ja4 x b:=by
 rw [jai h,jvv];simp [jdq]
theorem jo8 (l:List (List (List (Int × Int)))) (b:List (List (Int × Int))):(jdq l b).length≤3*l.length:=by
 induction l with
 | nil=>simp [jdq]
 | cons x l ih =>
  have:=jpc x b
  simp only [jdq,List.flatMap_cons,List.length_append,List.length_cons] at ih ⊢;omega
theorem yas {l:List (List (List (Int × Int)))} {b x:List (List (Int × Int))} {n:Int} (hl:∀ y,y∈l→jan y n=true) (hx:x∈jdq l b):jan x n=true:=by
 simp only [jdq,List.mem_flatMap] at hx;obtain ⟨y,hy,hx⟩:=hx;have h1:=(jae.1 (hl y hy)).1.1;have:=jk5 hx
 rwa [h1] at this
theorem ydh {l:List (List (List (Int × Int)))} {b:List (List (Int × Int))} {n:Int} (hl:∀ y,y∈l→jan y n=true) (hb:jan b n=true) (i:List Int):jde (jdq l b) i=if jaj b i then 0 else jde l i:=by
 induction l with
 | nil=>simp [jdq,jde]
 | cons x l ih =>
  have hx:=hl x (by simp);have h1:=(jae.1 hx).1.1;have ha:jjo x b=true:=jfk.2 ⟨jcu hx,by rw [h1];exact hb⟩;have h2:=ih fun y hy=>hl y (by simp [hy]);have e:jdq (x :: l) b=ja4 x b ++ jdq l b:=by simp [jdq]
  rw [e,jmh,h2,jpl ha];have e2:jde (x :: l) i=bit (jaj x i)+jde l i:=by
   simp only [jde,List.countP_cons,bit];omega
  rw [e2];cases jaj b i <;> cases jaj x i <;> simp [bit]
theorem ydi {l:List (List (List (Int × Int)))} {b:List (List (Int × Int))} {n:Int} (hl:∀ y,y∈l→jan y n=true) (hb:jan b n=true):jbz (jdq l b)≤jbz l:=by
 induction l with
 | nil=>simp [jdq]
 | cons x l ih =>
  have hx:=hl x (by simp);have h1:=(jae.1 hx).1.1;have ha:jjo x b=true:=jfk.2 ⟨jcu hx,by rw [h1];exact hb⟩;have h2:=ih fun y hy=>hl y (by simp [hy]);have e:jdq (x :: l) b=ja4 x b ++ jdq l b:=by simp [jdq]
  have h3:=juo ha;have h4:0≤(if jcy x b then jc4 (jbe x b) else 0):=by
   split
   ·exact jso (jrp (jae.1 hx).2 (jae.1 hb).2)
   ·omega
  have e2:jbz (x :: l)=jc4 x+jbz l:=by simp [jbz]
  rw [e,jjy,e2];omega
def jqp (n:Int) (r:List (List (List (Int × Int)))) (b:List (List (Int × Int))):List (List (List (Int × Int))):=if jan b n then jdq r b else r
def jiw (a:List (List (Int × Int))) (l:List (List (List (Int × Int)))):List (List (List (Int × Int))):=l.foldl (jqp a.length) [a]
theorem jl9 (a:List (List (Int × Int))) (l:List (List (List (Int × Int)))):jpu a l=if jan a a.length then jiw a l else []:=rfl
theorem jxv {a:List (List (Int × Int))} {l:List (List (List (Int × Int)))} {k:Nat} {b:List (List (Int × Int))} (h:l[k]? = some b):jiw a (l.take (k+1))=jqp a.length (jiw a (l.take k)) b:=by
 unfold jiw;rw [jai h,List.foldl_append];rfl
def jjp (n:Int) (l:List (List (List (Int × Int)))) (i:List Int):Bool:=l.any fun b=>jan b n && jaj b i
theorem jqo {a:List (List (Int × Int))} (ha:jan a a.length=true) (l:List (List (List (Int × Int)))):∀ k,k≤l.length →
  (∀ x,x∈jiw a (l.take k)→jan x a.length=true)∧(jiw a (l.take k)).length≤3 ^ k∧jbz (jiw a (l.take k))≤jc4 a ∧
  ∀ i,jde (jiw a (l.take k)) i=bit (jaj a i && !jjp a.length (l.take k) i):=by
 intro k;induction k with
 | zero =>
  intro _;simp only [List.take_zero,jiw,List.foldl_nil];refine ⟨fun x hx=>by simp at hx;subst hx;exact ha,by simp,by simp [jbz],fun i=>?_⟩;simp only [jde,List.countP_cons,List.countP_nil,jjp,bit];cases jaj a i <;> simp
 | succ k ih =>
  intro hk;obtain ⟨h1,h2,h3,h4⟩:=ih (by omega);have hb:l[k]? = some l[k]:=List.getElem?_eq_getElem (by omega);generalize l[k]=b at hb;rw [jxv hb];unfold jqp;have hin:∀ i,jjp a.length (l.take (k+1)) i=(jjp a.length (l.take k) i || (jan b a.length && jaj b i)):=by
   intro i;unfold jjp;rw [jai hb,List.any_append];simp
  by_cases hg:jan b a.length=true
  ·rw [if_pos hg];refine ⟨fun x hx=>yas h1 hx,?_,Int.le_trans (ydi h1 hg) h3,fun i=>?_⟩
   ·have h5:=jo8 (jiw a (l.take k)) b;have h6:=Nat.pow_succ 3 k;omega
   ·rw [ydh h1 hg,h4,hin,hg];cases jaj b i <;> cases jaj a i <;> cases jjp a.length (l.take k) i <;> rfl
  ·rw [if_neg hg];refine ⟨h1,?_,h3,fun i=>?_⟩
   ·have h6:=Nat.pow_succ 3 k;omega
   ·rw [h4,hin];have:jan b a.length=false:=by simpa using hg
    rw [this];simp
open Go.Lib (hid)
def ja5 (b:UInt8):Bool:=decide (97≤b.toNat) && decide (b.toNat≤122)
def jdr (s:ByteArray):Bool:=decide (0<s.size) && decide (s.size≤8) && s.data.toList.all ja5
def jap (a b:ByteArray):Bool:=a.toList == b.toList
def jly (seen:List ByteArray):List ByteArray→Bool
 | []=>true
 | s :: l=>(jdr s && !seen.any (jap s)) && jly (seen ++ [s]) l
def jfs (l:List ByteArray):Bool:=decide (0<l.length) && decide (l.length≤3) && jly [] l
def jcl (c:CellD):Bool:=!(c.1 && decide (c.2.length=0)) && decide (c.2.length≤4) && jbv c.2
def jfb (n:Int) (r:RuleD):Bool:=decide (-1000000≤r.2) && decide (r.2≤1000000) && decide ((r.1.length:Int)=n) && r.1.all jcl
def jgv (n:Int) (l:List RuleD):Bool:=decide (0<l.length) && decide (l.length≤6) && l.all (jfb n)
def jbd (t:TabD):Bool:=jdr t.name && decide (1≤t.pol) && decide (t.pol≤7) && jfs t.ins && jgv t.ins.length t.rules
def je8 (c:CellD) (n:Int):Bool:=decide (c.2.length=0) || (hasB c.2 n != c.1)
def jbw:List CellD→List Int→Bool
 | [],[]=>true
 | c :: cs,n :: l=>je8 c n && jbw cs l
 | _,_=>false
def idxL (k:Nat) (l:List RuleD) (i:List Int):List Int :=
 match l with
 | []=>[]
 | r :: l=>(if jbw r.1 i then [(k:Int)] else []) ++ idxL (k+1) l i
def jbl (l:List RuleD) (i:List Int):List Int:=(l.filter fun r=>jbw r.1 i).map (·.2)
def jbf (p a b:Int):Bool:=decide (p=1) || (decide (p=2) && decide (a≠b))
def jax (p:Int):List Int→Bool
 | []=>false
 | a :: l=>l.any (jbf p a)
def minL:List Int→Int
 | []=>0
 | a :: l=>l.foldl min a
def maxL:List Int→Int
 | []=>0
 | a :: l=>l.foldl max a
def jcc (p:Int) (l:List Int):Int:=if p=4 then minL l else if p=5 then maxL l else if p=6 then l.sum else if p=7 then l.length else l.headD 0
def jgc (p:Int) (o:List Int):Int × Bool × Int :=
 if o.length=0∧p≠7 then (0,false,0) else if jax p o then (0,false,4) else (jcc p o,true,0)
def jb5 (t:TabD) (i:List Int):Int × Bool × Int :=
 if jbd t=true∧i.length=t.ins.length then jgc t.pol (jbl t.rules i) else (0,false,1)
def jgq (t:TabD):Int × Int :=
 if jbd t then (if t.pol=7 then (0,t.rules.length) else if t.pol=6 then ((t.rules.map fun r=>min r.2 0).sum,(t.rules.map fun r=>max r.2 0).sum) else (minL (t.rules.map (·.2)),maxL (t.rules.map (·.2)))) else (0,0)
theorem yfk {l:List ByteArray} {k:Nat} {s:ByteArray} (h:l[k]? = some s):jly (l.take k) (l.drop k)=((jdr s && !(l.take k).any (jap s)) && jly (l.take (k+1)) (l.drop (k+1))):=by
 rw [jdi h,jai h];rfl
theorem jsc {α:Type} {f:α→Bool} {l:List α} {k:Nat} {x:α} (h:l[k]? = some x):(l.drop k).all f=(f x && (l.drop (k+1)).all f):=by
 rw [jdi h];rfl
theorem ybr {cs:List CellD} {l:List Int} {k:Nat} {c:CellD} {n:Int} (h:cs[k]? = some c) (h':l[k]? = some n):jbw (cs.drop k) (l.drop k)=(je8 c n && jbw (cs.drop (k+1)) (l.drop (k+1))):=by
 rw [jdi h,jdi h'];rfl
theorem jyz {cs:List CellD}:∀ {l:List Int},jbw cs l=true→cs.length=l.length:=by
 induction cs with
 | nil=>intro l h;cases l <;> simp_all [jbw]
 | cons c cs ih =>
  intro l h;cases l with
  | nil=>simp [jbw] at h
  | cons n l=>simp [jbw] at h;simp [ih h.2]
theorem ybs {cs:List CellD} {l:List Int} (h:¬ cs.length=l.length):jbw cs l=false:=by
 cases hm:jbw cs l
 ·rfl
 ·exact absurd (jyz hm) h
theorem yds (a b:List RuleD) (i:List Int):∀ k,idxL k (a ++ b) i=idxL k a i ++ idxL (k+a.length) b i:=by
 induction a with
 | nil=>intro k;simp [idxL]
 | cons r a ih=>intro k;simp only [List.cons_append,idxL,ih,List.append_assoc,List.length_cons];rw [show k+(a.length+1)=k+1+a.length from by omega]
theorem ybc {l:List RuleD} {k:Nat} {r:RuleD} (h:l[k]? = some r) (i:List Int):idxL 0 (l.take (k+1)) i=idxL 0 (l.take k) i ++ (if jbw r.1 i then [(k:Int)] else []):=by
 have hk:=(List.getElem?_eq_some_iff.1 h).1;rw [jai h,yds,List.length_take,Nat.min_eq_left (by omega)];simp [idxL]
theorem jmn (l:List RuleD) (i:List Int):∀ k,(idxL k l i).length≤l.length:=by
 induction l with
 | nil=>intro k;simp [idxL]
 | cons r l ih=>intro k;have:=ih (k+1);simp only [idxL,List.length_append,List.length_cons];split <;> simp <;> omega
theorem ybb (l:List RuleD) (i:List Int):∀ (pre:List RuleD),(∀ j,j∈idxL pre.length l i→∃ n:Nat,j=(n:Int)∧n<(pre ++ l).length)∧(idxL pre.length l i).map (fun j=>((pre ++ l)[j.toNat]?.map (·.2)).getD 0)=jbl l i:=by
 induction l with
 | nil=>intro pre;simp [idxL,jbl]
 | cons r l ih =>
  intro pre;have h:=ih (pre ++ [r]);rw [List.length_append,List.length_singleton,List.append_assoc,List.singleton_append] at h;obtain ⟨h1,h2⟩:=h;cases hm:jbw r.1 i
  ·simp only [idxL,hm,Bool.false_eq_true,if_false,List.nil_append];exact ⟨h1,by rw [h2];simp [jbl,hm]⟩
  ·simp only [idxL,hm,if_true,List.singleton_append,List.map_cons,h2];refine ⟨fun j hj=>?_,?_⟩
   ·rcases List.mem_cons.1 hj with rfl | hj
    ·exact ⟨pre.length,rfl,by simp⟩
    ·exact h1 j hj
   ·simp [jbl,hm]
theorem jnq (l:List RuleD) (i:List Int):(jbl l i).length≤l.length:=by
 unfold jbl;rw [List.length_map];exact List.length_filter_le _ _
theorem yb1 {l:List RuleD} {i:List Int} {x:Int} (h:x∈jbl l i):∃ r,r∈l∧jbw r.1 i=true∧r.2=x:=by
 obtain ⟨r,hr,rfl⟩:=List.mem_map.1 h;rw [List.mem_filter] at hr;exact ⟨r,hr.1,hr.2,rfl⟩
theorem jbi {t:TabD}:jbd t=true↔jdr t.name=true∧1≤t.pol∧t.pol≤7∧jfs t.ins=true∧jgv t.ins.length t.rules=true:=by
 simp [jbd,and_assoc]
theorem jf4 {l:List ByteArray}:jfs l=true↔0<l.length∧l.length≤3∧jly [] l=true:=by simp [jfs,and_assoc]
theorem jcd {n:Int} {l:List RuleD}:jgv n l=true↔0<l.length∧l.length≤6∧∀ r,r∈l→jfb n r=true:=by simp [jgv,and_assoc]
theorem jh2 {n:Int} {r:RuleD}:jfb n r=true ↔ -1000000≤r.2∧r.2≤1000000∧(r.1.length:Int)=n∧∀ c,c∈r.1→jcl c=true:=by simp [jfb,and_assoc]
theorem jp8 {c:CellD}:jcl c=true↔¬ (c.1=true∧c.2.length=0)∧c.2.length≤4∧jbv c.2=true:=by
 simp [jcl,and_assoc];cases c.1 <;> simp
theorem jxf {t:TabD} (h:jbd t=true) (i:List Int):(jbl t.rules i).length≤6∧∀ x,x∈jbl t.rules i → -1000000≤x∧x≤1000000:=by
 obtain ⟨_,_,_,_,h5⟩:=jbi.1 h;obtain ⟨_,h6,h7⟩:=jcd.1 h5;refine ⟨Nat.le_trans (jnq _ _) h6,fun x hx=>?_⟩;obtain ⟨r,hr,_,rfl⟩:=yb1 hx;obtain ⟨a,b,_⟩:=jh2.1 (h7 r hr);exact ⟨a,b⟩
theorem jcz {p:Int} {l:List Int} (h1:p≠1) (h2:p≠2):jax p l=false:=by
 cases l with
 | nil=>rfl
 | cons a l=>simp [jax,jbf,h1,h2]
open Go.Lib (hid)
abbrev BoxD:=List (List (Int × Int))
def jko (c:CellD) (s:List (Int × Int)):List (Int × Int):=if c.2.length=0 then s else if c.1 then jbo s (jeh c.2) else jbq s (jeh c.2)
theorem ju3 {c:CellD} {s:List (Int × Int)} (hs:jbv s=true):jbv (jko c s)=true∧∀ n,hasB (jko c s) n=(hasB s n && je8 c n):=by
 have hn:=jc8 c.2;unfold jko je8;by_cases h0:c.2.length=0
 ·simp [h0,hs]
 ·rw [if_neg h0];have key:∀ n,hasB s n=true→hasB (jeh c.2) n=hasB c.2 n:=by
   intro n h;rw [hn.2];have:=jrn hs h
   simp [this]
  cases hc:c.1
  ·obtain ⟨g1,g2⟩:=jd7 (La:=-1000002) (Lb:=-1000002) hs hn.1;refine ⟨by simpa [jbv] using g1,fun n=>?_⟩;simp only [Bool.false_eq_true,if_false,h0,decide_false,Bool.false_or];rw [g2];cases h:hasB s n
   ·rfl
   ·rw [key n h];simp
  ·obtain ⟨g1,g2⟩:=jup hs hn.1;refine ⟨by simpa using g1,fun n=>?_⟩;simp only [if_true,h0,decide_false,Bool.false_or];rw [g2];cases h:hasB s n
   ·rfl
   ·rw [key n h];simp
def jc9 (cs:List CellD) (a:BoxD):BoxD:=List.zipWith jko cs a
def jch (cs:List CellD) (a:BoxD):Bool:=decide (cs.length=a.length) && jan a a.length && jff (jc9 cs a)
def jpy (cs:List CellD) (a:BoxD):BoxD:=if jch cs a then jc9 cs a else []
theorem job {cs:List CellD} {a:BoxD}:jch cs a=true↔cs.length=a.length∧jan a a.length=true∧jff (jc9 cs a)=true:=by simp [jch,and_assoc]
theorem yja {a:BoxD}:∀ {cs:List CellD},jcf a=true→jff (jc9 cs a)=true→jcf (jc9 cs a)=true:=by
 induction a with
 | nil=>intro cs _ _;cases cs <;> rfl
 | cons s a ih =>
  intro cs ha hf;cases cs with
  | nil=>rfl
  | cons c cs =>
   rw [jdu] at ha;simp only [jc9,List.zipWith_cons_cons] at hf ⊢;rw [jrl] at hf;rw [jdu];exact ⟨⟨hf.1,(ju3 ha.1.2).1⟩,ih ha.2 hf.2⟩
theorem jj9 {cs:List CellD} {a:BoxD} (h:cs.length=a.length):(jc9 cs a).length=a.length:=by
 unfold jc9;rw [List.length_zipWith];omega
theorem jlr {cs:List CellD} {a:BoxD} (h:jch cs a=true):jan (jc9 cs a) a.length=true:=by
 obtain ⟨h1,h2,h3⟩:=job.1 h;have:=jae.1 h2
 exact jae.2 ⟨⟨by rw [jj9 h1],this.1.2⟩,yja this.2 h3⟩
def yns (a:BoxD) (r:RuleD):Option BoxD:=if jch r.1 a then some (jc9 r.1 a) else none
def jhc (l:List RuleD) (a:BoxD):List BoxD:=l.filterMap (yns a)
theorem yc6 {l:List RuleD} {k:Nat} {r:RuleD} (h:l[k]? = some r) (a:BoxD):jhc (l.take (k+1)) a=jhc (l.take k) a ++ (if jch r.1 a then [jc9 r.1 a] else []):=by
 unfold jhc;rw [jai h,List.filterMap_append]
 congr 1
 simp only [List.filterMap_cons,List.filterMap_nil,yns];split <;> simp_all
theorem jpz (l:List RuleD) (a:BoxD):(jhc l a).length≤l.length:=List.length_filterMap_le ..
def cmpL:List Int→List Int→Int
 | [],[]=>0
 | [],_ :: _=>-1
 | _ :: _,[]=>1
 | a :: l,b :: m=>if a<b then -1 else if b<a then 1 else cmpL l m
def jdg (a b:List Int):Bool:=decide (cmpL a b<0)
def jhk (p:List Int) (l:List BoxD):List Int:=l.foldl (fun p b=>if jdg (jb7 b) p then jb7 b else p) p
def jjd:List BoxD→List Int × Bool
 | []=>([],false)
 | b :: l=>(jhk (jb7 b) l,true)
theorem ydz {l:List BoxD} {k:Nat} {b:BoxD} (h:l[k]? = some b) (p:List Int):jhk p (l.take (k+1))=(if jdg (jb7 b) (jhk p (l.take k)) then jb7 b else jhk p (l.take k)):=by
 unfold jhk;rw [jai h,List.foldl_append];rfl
def jgz (t:TabD) (a:BoxD):Bool:=jbd t && jan a t.ins.length
def gapV (t:TabD) (a:BoxD):List Int × Bool:=if t.pol≠7∧jgz t a=true then jjd (jpu a (jhc t.rules a)) else ([],false)
def jkk (p:Int) (a:BoxD) (r s:RuleD):Option BoxD:=if jbf p r.2 s.2 && (jch r.1 a && jch s.1 (jc9 r.1 a)) then some (jc9 s.1 (jc9 r.1 a)) else none
def jey (p:Int) (a:BoxD) (pre:List RuleD):List RuleD→List BoxD
 | []=>[]
 | r :: l=>pre.filterMap (jkk p a r) ++ jey p a (pre ++ [r]) l
def jct (t:TabD) (a:BoxD):List Int × Bool:=if jgz t a then jjd (jey t.pol a [] t.rules) else ([],false)
theorem jhh {t:TabD} {a:BoxD} (h:jgz t a=true):jan a a.length=true∧a.length=t.ins.length∧∀ r,r∈t.rules→r.1.length=a.length:=by
 simp only [jgz,Bool.and_eq_true] at h;obtain ⟨hg,hb⟩:=h;have hl:=(jae.1 hb).1.1;have hl':a.length=t.ins.length:=by omega
 refine ⟨jcu hb,hl',fun r hr=>?_⟩;have:=(jh2.1 ((jcd.1 (jbi.1 hg).2.2.2.2).2.2 r hr)).2.2.1
 omega
open Go.Lib (hid)
end Go.Proofs.YthmlndmlnlfhnaaGreatDoor
