import Derived.WalkKit
import Derived.WalkSpells
import Derived.Lib.Hide
import Derived.ArgAppend
import Derived.Deep.RegionLaw
import Derived.Laws.AppendOwnNone
import Derived.Laws.OwnMore
import Derived.Test.YthmlndmlnlfhnaaGreatDoorRows
import Derived.OpenShut
import Derived.ProofKit
import Derived.SizedLaws
import Derived.Deep.SlicePairs
set_option maxRecDepth 100000
set_option maxHeartbeats 16000000
namespace Go.Proofs.YthmlndmlnlfhnaaGreatDoor
open Go.Lib (hid)
open Go.RowKit
structure Enc (α:Type) where
 size:Nat
 rd:World→(Nat→Prop) → α→List Value→Prop
 len:∀ {w S x cs},rd w S x cs→cs.length=size
 keep:∀ {w w':World} {S x cs},rd w S x cs→(∀ p:Addr,S p.block→w'.cell? p=w.cell? p)→rd w' S x cs
 more:∀ {w} {S S':Nat→Prop} {x cs},rd w S x cs→(∀ k,S k→S' k)→rd w S' x cs
 one:∀ {w S x cs},rd w S x cs→∀ u∈cs,u.oneCell'=true
def Enc.int:Enc Int:=⟨1,fun _ _ x cs=>cs = [.int .i64 x],fun h=>by subst h;rfl,fun h _=>h,fun h _=>h,fun h u hu=>by subst h;simp at hu;subst hu;rfl⟩
def Enc.bool:Enc Bool:=⟨1,fun _ _ x cs=>cs = [.bool x],fun h=>by subst h;rfl,fun h _=>h,fun h _=>h,fun h u hu=>by subst h;simp at hu;subst hu;rfl⟩
def Enc.str:Enc ByteArray:=⟨1,fun _ _ x cs=>cs = [.string x],fun h=>by subst h;rfl,fun h _=>h,fun h _=>h,fun h u hu=>by subst h;simp at hu;subst hu;rfl⟩
def Enc.rng:Enc (Int × Int):=⟨2,fun _ _ x cs=>cs = [.int .i64 x.1,.int .i64 x.2],fun h=>by subst h;rfl,fun h _=>h,fun h _=>h,fun h u hu=>by subst h;simp at hu;rcases hu with rfl | rfl <;> rfl⟩
def yc2 {α:Type} (E:Enc α) (w:World) (S:Nat→Prop) (b o:Nat) (l:List α):Prop :=
 ∀ i x,l[i]? = some x→∃ cs,E.rd w S x cs∧∀ j v,cs[j]? = some v→w.cell? ⟨b,o+i*E.size+j,none⟩=some v
def Sl {α:Type} (E:Enc α) (w:World) (S:Nat→Prop) (l:List α) (v:Value):Prop :=
 ∃ A c,v = .slice A l.length c∧l.length≤c∧c≤maxLen∧(A=none→c=0)∧(0<l.length→∃ b o,A=some ⟨b,o,none⟩∧S b∧yc2 E w S b o l)
section
variable {α:Type} {E:Enc α} {w w':World} {S S':Nat→Prop} {l:List α} {v:Value} {b o:Nat}
theorem yc2.keep (h:yc2 E w S b o l) (hb:S b) (hk:∀ p:Addr,S p.block→w'.cell? p=w.cell? p):yc2 E w' S b o l:=by
 intro i x hx;obtain ⟨cs,h1,h2⟩:=h i x hx;exact ⟨cs,E.keep h1 hk,fun j u hu=>(hk _ hb).trans (h2 j u hu)⟩
theorem yc2.more (h:yc2 E w S b o l) (hS:∀ k,S k→S' k):yc2 E w S' b o l:=by
 intro i x hx;obtain ⟨cs,h1,h2⟩:=h i x hx;exact ⟨cs,E.more h1 hS,h2⟩
theorem Sl.keep (h:Sl E w S l v) (hk:∀ p:Addr,S p.block→w'.cell? p=w.cell? p):Sl E w' S l v:=by
 obtain ⟨A,c,h1,h2,h3,hn,h4⟩:=h;refine ⟨A,c,h1,h2,h3,hn,fun h0=>?_⟩;obtain ⟨b,o,h5,h6,h7⟩:=h4 h0;exact ⟨b,o,h5,h6,h7.keep h6 hk⟩
theorem Sl.more (h:Sl E w S l v) (hS:∀ k,S k→S' k):Sl E w S' l v:=by
 obtain ⟨A,c,h1,h2,h3,hn,h4⟩:=h;refine ⟨A,c,h1,h2,h3,hn,fun h0=>?_⟩;obtain ⟨b,o,h5,h6,h7⟩:=h4 h0;exact ⟨b,o,h5,hS _ h6,h7.more hS⟩
theorem Sl.nil:Sl E w S [] (.slice none 0 0):=⟨none,0,rfl,Nat.le_refl _,by unfold maxLen;omega,fun _=>rfl,fun h=>absurd h (by simp)⟩
theorem Sl.below {B:Nat} (h:Sl E w S l v) (hS:∀ k,S k→k<B) (hb:Below B w w'):Sl E w' S l v:=h.keep fun _ hp=>hb.cell (hS _ hp)
end
def Enc.slice {α:Type} (E:Enc α):Enc (List α) :=
 ⟨1,fun w S l cs=>∃ v,cs = [v]∧Sl E w S l v,fun ⟨_,h,_⟩=>by subst h;rfl,fun ⟨v,h,h'⟩ hk=>⟨v,h,h'.keep hk⟩,fun ⟨v,h,h'⟩ hS=>⟨v,h,h'.more hS⟩,fun ⟨v,h,h'⟩ u hu=>by obtain ⟨A,c,rfl,_⟩:=h';subst h;simp at hu;subst hu;rfl⟩
def Old (w:World):Nat→Prop:=fun k=>k<w.heap.size
theorem Sl.rng_at {w:World} {S:Nat→Prop} {l:List (Int × Int)} {A:Option Addr} {n c:Nat} (h:Sl Enc.rng w S l (.slice A n c)) {k:Nat} (hk:k<l.length) :
  ∃ b o x y,A=some ⟨b,o,none⟩∧S b∧Hid (l[k]? = some (x,y))∧w.cell? ⟨b,o+k*2,none⟩=some (.int .i64 x)∧w.cell? ⟨b,o+k*2+1,none⟩=some (.int .i64 y):=by
 obtain ⟨A,c,e,h2,h3,_,h4⟩:=h;injection e with e1 e2 e3;subst e1 e2 e3;obtain ⟨b,o,rfl,h6,h7⟩:=h4 (by omega);obtain ⟨cs,h8,h9⟩:=h7 k l[k] (List.getElem?_eq_getElem hk);have h8':cs = [.int .i64 l[k].1,.int .i64 l[k].2]:=h8;subst h8';exact ⟨b,o,l[k].1,l[k].2,rfl,h6,List.getElem?_eq_getElem hk,h9 0 _ rfl,h9 1 _ rfl⟩
theorem jc5 {b o b' o':Nat} (h:(some ⟨b,o,none⟩:Option Addr)=some ⟨b',o',none⟩):b=b'∧o=o':=by
 injection h with h;injection h with h1 h2;exact ⟨h1,h2⟩
def jee (l:List (Int × Int)):List Value:=l.flatMap fun x=>[.int .i64 x.1,.int .i64 x.2]
theorem jd3 (l:List (Int × Int)):(jee l).length=l.length*2:=by
 induction l with
 | nil=>rfl
 | cons a l ih=>simp [jee] at *;omega
theorem jfa (l m:List (Int × Int)):jee (l ++ m)=jee l ++ jee m:=by simp [jee]
theorem jrd (l:List (Int × Int)) (i:Nat) (x:Int × Int) (h:l[i]? = some x):(jee l)[i*2]? = some (.int .i64 x.1)∧(jee l)[i*2+1]? = some (.int .i64 x.2):=by
 induction l generalizing i with
 | nil=>simp at h
 | cons a l ih =>
  cases i with
  | zero=>simp at h;subst h;simp [jee]
  | succ i =>
   simp at h;have:=ih i h
   have e:jee (a :: l) = .int .i64 a.1 :: .int .i64 a.2 :: jee l:=by simp [jee]
   rw [e,show (i+1)*2=(i*2)+1+1 from by omega];simpa using this
theorem jre (l:List (Int × Int)) (i:Nat) (x:Int × Int) (h:l[i]? = some x) (n:Int):(jee l).set (i*2+1) (.int .i64 n)=jee (l.set i (x.1,n)):=by
 induction l generalizing i with
 | nil=>simp at h
 | cons a l ih =>
  have e:∀ (a:Int × Int) l,jee (a :: l) = .int .i64 a.1 :: .int .i64 a.2 :: jee l:=by simp [jee]
  cases i with
  | zero=>simp at h;subst h;simp [e]
  | succ i =>
   simp at h;rw [e,show (i+1)*2+1=(i*2+1)+1+1 from by omega];simp [e,ih i h]
def OwnR (w:World) (base e:Nat) (v:Value) (l:List (Int × Int)):Prop:=w.ownsRow base e 2 v l.length (jee l)
section
variable {w w':World} {base e:Nat} {v:Value} {l:List (Int × Int)}
theorem OwnR.nil:OwnR w base e (.slice none 0 0) []:=World.ownsRow_nil w base e 2
theorem OwnR.alloc (h:OwnR w base e v l) (o:Obj):OwnR (w.alloc o) base e v l:=World.ownsRow.alloc h o
theorem OwnR.form (h:OwnR w base e v l):(v = .slice none 0 0∧l = [])∨∃ g c,v = .slice (some ⟨g,0,none⟩) l.length c∧base≤g∧g<w.heap.size∧l.length≤c∧c≤maxLen:=by
 rcases h.2 with ⟨h1,h2⟩ | ⟨g,cap,cur,h1,h2,h3,h4,h5,_⟩
 ·exact .inl ⟨h1,List.length_eq_zero_iff.1 h2⟩
 ·exact .inr ⟨g,cap,h1,h2,(Array.getElem?_eq_some_iff.1 h3).1,h4,h5⟩
theorem OwnR.sl (h:OwnR w base e v l):Sl Enc.rng w (fun k=>base≤k∧k<w.heap.size) l v:=by
 rcases h.form with ⟨rfl,rfl⟩ | ⟨g,c,rfl,h2,h3,h4,h5⟩
 ·exact Sl.nil
 ·refine ⟨_,c,rfl,h4,h5,(fun h=>by cases h),fun _=>⟨g,0,rfl,⟨h2,h3⟩,fun i x hx=>⟨_,rfl,fun j u hu=>?_⟩⟩⟩;have hi:i<l.length:=(List.getElem?_eq_some_iff.1 hx).1;obtain ⟨c0,c1⟩:=jrd l i x hx;have e0:=World.ownsRow.cellAt h (i*2) (by omega);have e1:=World.ownsRow.cellAt h (i*2+1) (by omega);have es:Enc.rng.size=2:=rfl;rw [es,Nat.zero_add]
  match j with
  | 0=>simp at hu;subst hu;simpa using e0.trans c0
  | 1=>simp at hu;subst hu;exact e1.trans c1
  | j+2=>simp at hu
theorem OwnR.lt (h:OwnR w base e v l):∀ k,v.ownBlock=some k→base≤k∧k<w.heap.size:=World.ownsRow.lt h
theorem OwnR.below {B:Nat} (h:OwnR w base e v l) (hb:Below B w w') (hB:w.heap.size≤B):OwnR w' base e v l:=by
 refine ⟨h.1,?_⟩;rcases h.2 with h2 | ⟨g,cap,cur,h1,h2,h3,h4⟩
 ·exact .inl h2
 ·have hg:=(Array.getElem?_eq_some_iff.1 h3).1;exact .inr ⟨g,cap,cur,h1,h2,(hb.block g (by omega)).trans h3,h4⟩
end
theorem World.grownBy.mono {w w':World} {row:Option Nat} (h:w.grownBy w' none):w.grownBy w' row:=⟨h.os,h.tape,h.output,h.size,fun k hk _=>h.block k hk (by simp)⟩
theorem World.grownBy.trans' {w w1 w2:World} {row:Option Nat} (h:w.grownBy w1 row) (k:w1.grownBy w2 row):w.grownBy w2 row :=
 ⟨k.os.trans h.os,k.tape.trans h.tape,k.output.trans h.output,Nat.le_trans h.size k.size,fun i hi hr=>(k.block i (Nat.lt_of_lt_of_le hi h.size) hr).trans (h.block i hi hr)⟩
theorem jbb {w w':World} {row:Option Nat} (h:Below w.heap.size w w'):w.grownBy w' row:=⟨h.os,h.tape,h.output,h.size,fun k hk _=>h.block k hk⟩
theorem jag {w w':World} {row:Option Nat} {B:Nat} (h:w.grownBy w' row) (hB:B≤w.heap.size) (hr:∀ k,row=some k→B≤k):Below B w w':=(Below.refl B w).grown h hB hr
theorem jbh {B:Nat} {w wr w':World} (h:Below B w wr) (hB:B≤wr.heap.size) (h':Below wr.heap.size wr w'):Below B w w':=h.trans (h'.mono hB)
theorem jad {a b:Bool} (h:a=b):Ending.returned (.bool a) = .returned (.bool b):=by rw [h]
theorem jew {k:IntKind} {a b:Int} (h:a=b):Ending.returned (.int k a) = .returned (.int k b):=by rw [h]
open Go.Lib (hid)
open Go.RowKit
def jed (w:World) (v v':Value):Prop:=∀ g,v'.ownBlock=some g→v.ownBlock=some g∨w.heap.size≤g
theorem jed.refl (w:World) (v:Value):jed w v v:=fun _ h=>.inl h
theorem jed.later {w w2:World} {v v':Value} (h:jed w2 v v') (hs:w.heap.size≤w2.heap.size):jed w v v' :=
 fun g hg=>(h g hg).imp id (fun h=>Nat.le_trans hs h)
theorem jie {P:Program} (w:World) {ops:Array Oper} {rest:List Oper} {o:Oper} {a:Act} {Q:Exit→Act→World→Prop} (hgd:o.guard=none) (s x:Operand) (t:TypeId)
  (ho:o.op = .call { callee:=.builtin .append,args:=#[s,x],argTypes:=#[t,t] })
  (base:Nat) (e:TypeId) (size bytes:Nat) (z:Value) (ht:P.underlying t=some (.slice e)) (hinfo:(P.info? e).map (fun i=>(i.zero,i.size,i.bytes))=some (some z,size,bytes)) (hzs:z.cells.size=size) (hsz:0<size)
  (v:Value) (n:Nat) (xs:List Value) (hs:a.eval s=v) (hown:w.ownsRow base e size v n xs)
  (ad:Addr) (m c:Nat) (news:List Value) (hx:a.eval x = .slice (some ad) m c) (hl:news.length=m*size) (hnews:∀ j u,news[j]? = some u→w.cell? (ad.add j)=some u) (h1:∀ u∈news,u.oneCell'=true)
  (h63:n+m≤maxLen) (hbytes:(n+m)*bytes≤140737488355328) (hbase:base≤w.heap.size) (hm:0<m)
  (h:∀ v' w',w'.ownsRow base e size v' (n+m) (xs ++ news)→w.grownBy w' v.ownBlock→jed w v v'→wpList P ops Q rest (a.put o.dst v') w'):wpList P ops Q (o :: rest) a w:=by
 obtain ⟨i,hi,hz0,hz1,hz2⟩:=info_parts hinfo;have up:∀ {w':World} {v':Value} {k:Nat} {ys:List Value},w'.ownsRow w.heap.size e size v' k ys→w'.ownsRow base e size v' k ys∧(∀ g,v'.ownBlock=some g→w.heap.size≤g):=by
  intro w' v' k ys ho';refine ⟨⟨ho'.1,?_⟩,fun g hg=>(ho'.lt g hg).1⟩;rcases ho'.2 with h2 | ⟨g,cap,cur,h1,h2,h3⟩
  ·exact .inl h2
  ·exact .inr ⟨g,cap,cur,h1,Nat.le_trans hbase h2,h3⟩
 rcases hown.2 with ⟨rfl,rfl⟩ | ⟨g,cap,cur,rfl,hg1,hg2,hg3,hg4,hg5,hg6⟩
 ·have hxs:xs = []:=List.length_eq_zero_iff.1 (by rw [hown.1];simp);subst hxs;refine wpList_append_grows w hgd s x t ho e i z size bytes ht hi hz0 hz1 hz2 hzs hsz none 0 0 [] hs (fun _=>⟨rfl,rfl⟩) (by simp) (fun b hb=>by cases hb) ad m c news hx hl hnews h1 (by omega) h63 hbytes ?_;intro v' w' ho' hgr;exact h v' w' (up ho').1 (World.grownBy.mono hgr) (fun g hg=>.inr ((up ho').2 g hg))
 ·by_cases hroom:n+m≤cap
  ·refine wpList_append_fits w hgd s x t ho base e i size ht hi hz1 g n cap xs hs hown ad m c news hx hl hnews h1 hroom ?_;intro w' ho' hgr;exact h _ w' ho' hgr (fun g' hg'=>.inl hg')
  ·have hc:=hown.cells (g:=g) rfl;refine wpList_append_grows w hgd s x t ho e i z size bytes ht hi hz0 hz1 hz2 hzs hsz (some ⟨g,0,none⟩) n cap xs hs (fun h=>by cases h) hown.1 (fun b hb j u hu=>by injection hb with hb;subst hb;exact hc j u hu) ad m c news hx hl hnews h1 (by omega) h63 hbytes ?_;intro v' w' ho' hgr;exact h v' w' (up ho').1 (World.grownBy.mono hgr) (fun g hg=>.inr ((up ho').2 g hg))
theorem Sl.sl_at {α:Type} {E:Enc α} {w:World} {S:Nat→Prop} {l:List (List α)} {A:Option Addr} {n c:Nat} (h:Sl E.slice w S l (.slice A n c)) {k:Nat} (hk:k<l.length) :
  ∃ b o s u,A=some ⟨b,o,none⟩∧S b∧Hid (l[k]? = some s)∧w.cell? ⟨b,o+k,none⟩=some u∧Sl E w S s u:=by
 obtain ⟨A,c,e,h2,h3,_,h4⟩:=h;injection e with e1 e2 e3;subst e1 e2 e3;obtain ⟨b,o,rfl,h6,h7⟩:=h4 (by omega);obtain ⟨cs,⟨u,rfl,hu⟩,h9⟩:=h7 k l[k] (List.getElem?_eq_getElem hk);refine ⟨b,o,l[k],u,rfl,h6,List.getElem?_eq_getElem hk,?_,hu⟩;have:=h9 0 u rfl
 have es:E.slice.size=1:=rfl;rw [es,Nat.mul_one,Nat.add_zero] at this;exact this
theorem OwnR.setCell_other {w:World} {base e:Nat} {v:Value} {l:List (Int × Int)} (h:OwnR w base e v l) {p:Addr} (hp:v.ownBlock≠some p.block) (u:Value):OwnR (w.setCell p u) base e v l:=by
 refine ⟨h.1,?_⟩;rcases h.2 with h2 | ⟨g,cap,cur,rfl,h2,h3,h4⟩
 ·exact .inl h2
 ·refine .inr ⟨g,cap,cur,rfl,h2,?_,h4⟩;rw [Below.heap_setCell _ _ _ _ (by intro hg;subst hg;exact hp rfl)];exact h3
open Go.Lib (hid)
open Go.RowKit
section
variable {w w':World} {base e:Nat} {v:Value} {l:List Int}
end
open Go.Lib (hid)
open Go.RowKit
def From (lo:Nat) (w:World):Nat→Prop:=fun k=>lo≤k∧k<w.heap.size
def Off (lo:Nat) (w:World) (v:Value):Nat→Prop:=fun k=>lo≤k∧k<w.heap.size∧v.ownBlock≠some k
def jb9 {α:Type} (E:Enc α) (w:World) (S:Nat→Prop) (l:List α) (us:List Value):Prop :=
 ∀ i x,l[i]? = some x→∃ cs,E.rd w S x cs∧∀ j u,cs[j]? = some u→us[i*E.size+j]? = some u
def OwnG {α:Type} (E:Enc α) (w:World) (base lo e:Nat) (v:Value) (l:List α):Prop :=
 ∃ us:List Value,w.ownsRow base e E.size v l.length us∧jb9 E w (Off lo w v) l us
section
variable {α:Type} {E:Enc α} {w w':World} {base lo e:Nat} {v:Value} {l m:List α} {S S':Nat→Prop} {us vs:List Value}
theorem jb9.nil:jb9 E w S [] us:=fun i x h=>by simp at h
theorem jb9.keep (h:jb9 E w S l us) (hk:∀ p:Addr,S p.block→w'.cell? p=w.cell? p):jb9 E w' S l us:=by
 intro i x hx;obtain ⟨cs,h1,h2⟩:=h i x hx;exact ⟨cs,E.keep h1 hk,h2⟩
theorem jb9.more (h:jb9 E w S l us) (hS:∀ k,S k→S' k):jb9 E w S' l us:=by
 intro i x hx;obtain ⟨cs,h1,h2⟩:=h i x hx;exact ⟨cs,E.more h1 hS,h2⟩
theorem jb9.append (h:jb9 E w S l us) (h':jb9 E w S m vs) (hl:us.length=l.length*E.size):jb9 E w S (l ++ m) (us ++ vs):=by
 intro i x hx;by_cases hi:i<l.length
 ·rw [List.getElem?_append_left hi] at hx;obtain ⟨cs,h1,h2⟩:=h i x hx;exact ⟨cs,h1,fun j u hu=>by have h3:=h2 j u hu;rw [List.getElem?_append_left (List.getElem?_eq_some_iff.1 h3).1];exact h3⟩
 ·rw [List.getElem?_append_right (by omega)] at hx;obtain ⟨cs,h1,h2⟩:=h' _ x hx;refine ⟨cs,h1,fun j u hu=>?_⟩;have h3:=h2 j u hu;have e:i*E.size=l.length*E.size+(i-l.length)*E.size:=by rw [← Nat.add_mul];congr 1;omega
  rw [List.getElem?_append_right (by omega),hl,← h3]
  congr 1;omega
theorem jb9.one {x:α} (h:E.rd w S x us):jb9 E w S [x] us:=by
 intro i y hy
 match i with
 | 0=>simp at hy;subst hy;exact ⟨us,h,fun j u hu=>by simpa using hu⟩
 | i+1=>simp at hy
theorem OwnG.nil:OwnG E w base lo e (.slice none 0 0) []:=⟨[],World.ownsRow_nil w base e E.size,jb9.nil⟩
theorem OwnG.lt (h:OwnG E w base lo e v l):∀ k,v.ownBlock=some k→base≤k∧k<w.heap.size:=by
 obtain ⟨us,h1,_⟩:=h;exact World.ownsRow.lt h1
theorem OwnG.form (h:OwnG E w base lo e v l):∃ A c,v = .slice A l.length c∧l.length≤c∧c≤maxLen∧(A=none→c=0):=by
 obtain ⟨us,h1,_⟩:=h;rcases h1.2 with ⟨rfl,h2⟩ | ⟨g,cap,cur,rfl,_,_,h4,h5,_⟩
 ·exact ⟨none,0,by rw [h2],by omega,by unfold maxLen;omega,fun _=>rfl⟩
 ·exact ⟨_,cap,rfl,h4,h5,fun h=>by cases h⟩
theorem OwnG.sl (h:OwnG E w base lo e v l) (hlo:lo≤base):Sl E w (From lo w) l v:=by
 obtain ⟨us,h1,h2⟩:=h;have hlen:=h1.1;rcases h1.2 with ⟨rfl,h3⟩ | ⟨g,cap,cur,rfl,hb,hg,h4,h5,h6,h7⟩
 ·obtain rfl:l = []:=List.length_eq_zero_iff.1 h3;exact Sl.nil
 ·have hgl:=(Array.getElem?_eq_some_iff.1 hg).1;refine ⟨_,cap,rfl,h4,h5,(fun h=>by cases h),fun _=>⟨g,0,rfl,⟨by omega,hgl⟩,fun i x hx=>?_⟩⟩;obtain ⟨cs,h8,h9⟩:=h2 i x hx;refine ⟨cs,E.more h8 (fun k hk=>⟨hk.1,hk.2.1⟩),fun j u hu=>?_⟩;have:=h1.cells (g:=g) rfl _ _ (h9 j u hu)
  have ea:∀ i,(⟨g,0,none⟩:Addr).add i = ⟨g,0+i,none⟩:=fun i=>by unfold Addr.add;split <;> simp_all
  rw [ea] at this;rw [Nat.add_assoc];exact this
theorem OwnG.slOld (h:OwnG E w base lo e v l) (hlo:lo≤base):Sl E w (Old w) l v:=(h.sl hlo).more fun _ h=>h.2
theorem ja1 {size n:Nat} {xs:List Value} (h:w.ownsRow base e size v n xs) (hk:∀ g,v.ownBlock=some g→w'.heap[g]? = w.heap[g]?):w'.ownsRow base e size v n xs:=by
 refine ⟨h.1,?_⟩;rcases h.2 with h2 | ⟨g,cap,cur,h1,h2,h3,h4⟩
 ·exact .inl h2
 ·exact .inr ⟨g,cap,cur,h1,h2,(hk g (by rw [h1];rfl)).trans h3,h4⟩
theorem OwnG.below {B:Nat} (h:OwnG E w base lo e v l) (hb:Below B w w') (hB:w.heap.size≤B):OwnG E w' base lo e v l:=by
 have hlt:=h.lt;obtain ⟨us,h1,h2⟩:=h;refine ⟨us,ja1 h1 (fun g hg=>hb.block g (by have:=hlt g hg;omega)),?_⟩;refine (h2.keep (w':=w') fun p hp=>hb.cell (by have:=hp.2.1;omega)).more fun k hk=>⟨hk.1,?_,hk.2.2⟩;have:=hb.size
 have:=hk.2.1
 omega
theorem OwnG.next (h:OwnG E w base lo e v l) (hb:Below w.heap.size w w'):OwnG E w' base lo e v l:=h.below hb (Nat.le_refl _)
theorem OwnG.alloc (h:OwnG E w base lo e v l) (o:Obj):OwnG E (w.alloc o) base lo e v l:=h.next ((Below.refl _ _).alloc (Nat.le_refl _) o)
theorem OwnG.mono {base':Nat} (h:OwnG E w base lo e v l) (hB:base'≤base):OwnG E w base' lo e v l:=by
 obtain ⟨us,h1,h2⟩:=h;refine ⟨us,⟨h1.1,?_⟩,h2⟩;rcases h1.2 with h3 | ⟨g,cap,cur,h4,h5,h6⟩
 ·exact .inl h3
 ·exact .inr ⟨g,cap,cur,h4,Nat.le_trans hB h5,h6⟩
theorem OwnG.monoLo {lo':Nat} (h:OwnG E w base lo e v l) (hB:lo'≤lo):OwnG E w base lo' e v l:=by
 obtain ⟨us,h1,h2⟩:=h;exact ⟨us,h1,h2.more fun k hk=>⟨Nat.le_trans hB hk.1,hk.2⟩⟩
theorem OwnG.grown {v':Value} (hus:us.length=l.length*E.size) (hel:jb9 E w (Off lo w v) l us) (ho':w'.ownsRow base e E.size v' (l.length+m.length) (us ++ vs)) (hg:w.grownBy w' v.ownBlock) (hmv:jed w v v') (hnew:jb9 E w (Off lo w v) m vs):OwnG E w' base lo e v' (l ++ m):=by
 refine ⟨us ++ vs,by rw [List.length_append];exact ho',?_⟩;refine ((hel.append hnew hus).keep (w':=w') fun p hp=>?_).more fun k hk=>⟨hk.1,?_,fun hv=>?_⟩
 ·exact World.cell?_of_block (hg.block _ hp.2.1 (fun e=>hp.2.2 e.symm))
 ·exact Nat.lt_of_lt_of_le hk.2.1 hg.size
 ·rcases hmv k hv with h | h
  ·exact hk.2.2 h
  ·exact absurd hk.2.1 (by omega)
end
theorem jet {α:Type} {E:Enc α} {w w1 w2:World} {base lo e:Nat} {v:Value} {l:List α} (h:OwnG E w base lo e v l) (hlo:lo≤w.heap.size) (hsz:w1.heap.size≤w2.heap.size):∀ k,From w.heap.size w1 k→Off lo w2 v k:=by
 intro k hk;refine ⟨Nat.le_trans hlo hk.1,Nat.lt_of_lt_of_le hk.2 hsz,fun hv=>?_⟩;have:=h.lt k hv
 have:=hk.1
 omega
theorem OwnG.lit {α:Type} {E:Enc α} (w:World) {base lo e:Nat} (l:List α) (cs:Array Value) (hb:base≤w.heap.size) (hm:l.length≤maxLen) (hs:cs.size=l.length*E.size) (he:jb9 E (w.alloc (.cells cs e)) (From lo w) l cs.toList) :
  OwnG E (w.alloc (.cells cs e)) base lo e (.slice (some ⟨w.heap.size,0,none⟩) l.length l.length) l:=by
 refine ⟨cs.toList,World.ownsRow_lit w cs l.length hb hm hs,he.more fun k hk=>⟨hk.1,?_,?_⟩⟩
 ·have:=hk.2;simp;omega
 ·intro h;have:=hk.2
  simp [Value.ownBlock] at h;omega
theorem jav {P:Program} (w:World) {ops:Array Oper} {rest:List Oper} {o:Oper} {a:Act} {Q:Exit→Act→World→Prop} (hgd:o.guard=none) (s x:Operand) (t:TypeId)
  (ho:o.op = .call { callee:=.builtin .append,args:=#[s,x],argTypes:=#[t,t] })
  (base:Nat) (e:TypeId) (size bytes:Nat) (z:Value) (ht:P.underlying t=some (.slice e)) (hinfo:(P.info? e).map (fun i=>(i.zero,i.size,i.bytes))=some (some z,size,bytes)) (hzs:z.cells.size=size) (hsz:0<size)
  (v:Value) (n:Nat) (xs:List Value) (hs:a.eval s=v) (hown:w.ownsRow base e size v n xs)
  (ad:Addr) (m c:Nat) (news:List Value) (hx:a.eval x = .slice (some ad) m c) (hl:news.length=m*size) (hnews:∀ j u,news[j]? = some u→w.cell? (ad.add j)=some u) (h1:∀ u∈news,u.oneCell'=true)
  (h63:n+m≤maxLen) (hbytes:(n+m)*bytes≤140737488355328) (hbase:base≤w.heap.size)
  (h:∀ v' w',w'.ownsRow base e size v' (n+m) (xs ++ news)→w.grownBy w' v.ownBlock→jed w v v'→wpList P ops Q rest (a.put o.dst v') w'):wpList P ops Q (o :: rest) a w:=by
 by_cases hm:0<m
 ·exact jie w hgd s x t ho base e size bytes z ht hinfo hzs hsz v n xs hs hown ad m c news hx hl hnews h1 h63 hbytes hbase hm h
 ·obtain rfl:m=0:=by omega
  obtain ⟨i,hi,hz0,hz1,hz2⟩:=info_parts hinfo;rcases hown.2 with ⟨rfl,rfl⟩ | ⟨g,cap,cur,rfl,hg1,hg2,hg3,hg4,hg5,hg6⟩
  ·refine wpList_append_own w hgd s x t ho base e i z size bytes ht hi hz0 hz1 hz2 hzs hsz _ _ _ hs hown ad 0 c news hx hl hnews h1 h63 hbytes hbase ?_;intro v' w' ho' hgr hnil;obtain rfl:=hnil.2 ⟨rfl,rfl⟩;exact h _ w' ho' hgr (jed.refl _ _)
  ·refine wpList_append_fits w hgd s x t ho base e i size ht hi hz1 g n cap xs hs hown ad 0 c news hx hl hnews h1 (by omega) ?_;intro w' ho' hgr;exact h _ w' ho' hgr (fun g' hg'=>.inl hg')
theorem jaf {α:Type} {E:Enc α} {P:Program} (w:World) {ops:Array Oper} {rest:List Oper} {o:Oper} {a:Act} {Q:Exit→Act→World→Prop} (hgd:o.guard=none) (s x:Operand) (t:TypeId)
  (ho:o.op = .call { callee:=.builtin .append,args:=#[s,x],argTypes:=#[t,t] })
  (base lo:Nat) (e:TypeId) (bytes:Nat) (z:Value) (ht:P.underlying t=some (.slice e)) (hinfo:(P.info? e).map (fun i=>(i.zero,i.size,i.bytes))=some (some z,E.size,bytes)) (hzs:z.cells.size=E.size) (hsz:0<E.size)
  (v:Value) (l:List α) (hs:a.eval s=v) (hown:OwnG E w base lo e v l)
  (ad:Addr) (y:α) (cs:List Value) (hx:a.eval x = .slice (some ad) 1 1) (hy:E.rd w (Off lo w v) y cs) (hnews:∀ j u,cs[j]? = some u→w.cell? (ad.add j)=some u)
  (hbytes:(l.length+1)*bytes≤140737488355328) (h63:l.length+1≤maxLen) (hbase:base≤w.heap.size)
  (h:∀ v' w',OwnG E w' base lo e v' (l ++ [y])→w.grownBy w' v.ownBlock→jed w v v'→wpList P ops Q rest (a.put o.dst v') w'):wpList P ops Q (o :: rest) a w:=by
 obtain ⟨us,h1,h2⟩:=hown;refine jav w hgd s x t ho base e E.size bytes z ht hinfo hzs hsz v l.length us hs h1 ad 1 1 cs hx (by rw [E.len hy];omega) hnews (E.one hy) h63 hbytes hbase ?_;intro v' w' ho' hg hmv;exact h v' w' (OwnG.grown (m:=[y]) h1.1 h2 ho' hg hmv (jb9.one hy)) hg hmv
theorem Sl.cells {α:Type} {E:Enc α} {w:World} {S:Nat→Prop} {l:List α} {a:Addr} {n c:Nat} (h:Sl E w S l (.slice (some a) n c)) :
  ∃ us:List Value,us.length=l.length*E.size∧jb9 E w S l us∧(∀ j u,us[j]? = some u→w.cell? (a.add j)=some u)∧∀ u∈us,u.oneCell'=true:=by
 obtain ⟨A,c,e,h2,h3,_,h4⟩:=h;injection e with e1 e2 e3;subst e1 e2 e3;by_cases h0:0<l.length
 ·obtain ⟨b,o,e,hS,h7⟩:=h4 h0;injection e with e;subst e;have ea:∀ i,(⟨b,o,none⟩:Addr).add i = ⟨b,o+i,none⟩:=fun i=>by unfold Addr.add;split <;> simp_all
  clear h4 h2 h3 h0 hS;have key:∀ (m:List α) (k:Nat),(∀ i x,m[i]? = some x→∃ cs,E.rd w S x cs∧∀ j v,cs[j]? = some v→w.cell? ⟨b,o+(k+i)*E.size+j,none⟩=some v) →
    ∃ us:List Value,us.length=m.length*E.size∧jb9 E w S m us∧(∀ j u,us[j]? = some u→w.cell? ⟨b,o+k*E.size+j,none⟩=some u)∧∀ u∈us,u.oneCell'=true:=by
   intro m;induction m with
   | nil=>intro k _;exact ⟨[],by simp,jb9.nil,by simp,by simp⟩
   | cons x m ih =>
    intro k hm;obtain ⟨cs,c1,c2⟩:=hm 0 x rfl;obtain ⟨us,u1,u2,u3,u4⟩:=ih (k+1) (fun i y hy=>by
     obtain ⟨cs',d1,d2⟩:=hm (i+1) y (by simpa using hy);exact ⟨cs',d1,fun j v hv=>by rw [← d2 j v hv,show k+1+i=k+(i+1) from by omega]⟩)
    have hcl:=E.len c1;refine ⟨cs ++ us,by simp [u1,hcl,Nat.add_mul];omega,?_,fun j u hu=>?_,fun u hu=>?_⟩
    ·exact jb9.append (l:=[x]) (jb9.one c1) u2 (by simp [hcl])
    ·by_cases hj:j<cs.length
     ·rw [List.getElem?_append_left hj] at hu;simpa using c2 j u hu
     ·rw [List.getElem?_append_right (by omega)] at hu;have:=u3 _ u hu
      rw [← this]
      congr 2
      rw [Nat.add_mul];omega
    ·rcases List.mem_append.1 hu with h | h
     ·exact E.one c1 u h
     ·exact u4 u h
  obtain ⟨us,u1,u2,u3,u4⟩:=key l 0 (fun i x hx=>by
   obtain ⟨cs,c1,c2⟩:=h7 i x hx;exact ⟨cs,c1,fun j v hv=>by rw [← c2 j v hv,Nat.zero_add]⟩)
  refine ⟨us,u1,u2,fun j u hu=>?_,u4⟩;rw [ea,← u3 j u hu];simp
 ·obtain rfl:l = []:=List.length_eq_zero_iff.1 (by omega);exact ⟨[],by simp,jb9.nil,by simp,by simp⟩
theorem jb6 {α:Type} {E:Enc α} {P:Program} (w:World) {ops:Array Oper} {rest:List Oper} {o:Oper} {a:Act} {Q:Exit→Act→World→Prop} (hgd:o.guard=none) (s x:Operand) (t:TypeId)
  (ho:o.op = .call { callee:=.builtin .append,args:=#[s,x],argTypes:=#[t,t] })
  (base lo:Nat) (e:TypeId) (bytes:Nat) (z:Value) (ht:P.underlying t=some (.slice e)) (hinfo:(P.info? e).map (fun i=>(i.zero,i.size,i.bytes))=some (some z,E.size,bytes)) (hzs:z.cells.size=E.size) (hsz:0<E.size)
  (v:Value) (l:List α) (hs:a.eval s=v) (hown:OwnG E w base lo e v l)
  (vx:Value) (m:List α) (hx:a.eval x=vx) (S:Nat→Prop) (hm:Sl E w S m vx) (hS:∀ y cs,E.rd w S y cs→E.rd w (Off lo w v) y cs)
  (hbytes:(l.length+m.length)*bytes≤140737488355328) (h63:l.length+m.length≤maxLen) (hbase:base≤w.heap.size)
  (h:∀ v' w',OwnG E w' base lo e v' (l ++ m)→w.grownBy w' v.ownBlock→jed w v v'→wpList P ops Q rest (a.put o.dst v') w'):wpList P ops Q (o :: rest) a w:=by
 obtain ⟨us,h1,h2⟩:=hown;have hm':=hm;obtain ⟨A,c,rfl,hc1,hc2,hn,h4⟩:=hm;cases A with
 | none =>
  have hc:=hn rfl;subst hc;obtain rfl:m = []:=List.length_eq_zero_iff.1 (by omega);obtain ⟨i,hi,hz0,hz1,hz2⟩:=info_parts hinfo;refine wpList_append_own_none hgd s x t ho base e i E.size ht hi v _ _ hs h1 hx ?_;refine h v w ?_ ⟨rfl,rfl,rfl,Nat.le_refl _,fun _ _ _=>rfl⟩ (jed.refl _ _);rw [List.append_nil];exact ⟨us,h1,h2⟩
 | some ad =>
  obtain ⟨vs,v1,v2,v3,v4⟩:=hm'.cells;refine jav w hgd s x t ho base e E.size bytes z ht hinfo hzs hsz v l.length us hs h1 ad m.length c vs hx v1 v3 v4 h63 hbytes hbase ?_;intro v' w' ho' hg hmv;exact h v' w' (OwnG.grown h1.1 h2 ho' hg hmv (fun i y hy=>by obtain ⟨cs,c1,c2⟩:=v2 i y hy;exact ⟨cs,hS y cs c1,c2⟩)) hg hmv
theorem Sl.front {α:Type} {E:Enc α} {w:World} {S:Nat→Prop} {l:List α} {A:Option Addr} {n c:Nat} (h:Sl E w S l (.slice A n c)) {j:Nat} (hj:j≤l.length):Sl E w S (l.take j) (.slice A j c):=by
 obtain ⟨A,c,e,h2,h3,hn,h4⟩:=h;injection e with e1 e2 e3;subst e1 e2 e3;have el:(l.take j).length=j:=by rw [List.length_take];omega
 refine ⟨A,c,by rw [el],by omega,h3,hn,fun h0=>?_⟩;obtain ⟨b,o,h5,h6,h7⟩:=h4 (by omega);refine ⟨b,o,h5,h6,fun i x hx=>h7 i x ?_⟩;have hi:=(List.getElem?_eq_some_iff.1 hx).1;rw [List.getElem?_take_of_lt (by omega)] at hx;exact hx
theorem Sl.back {α:Type} {E:Enc α} {w:World} {S:Nat→Prop} {l:List α} {b o n c:Nat} (h:Sl E w S l (.slice (some ⟨b,o,none⟩) n c)) {j:Nat} (hj:j≤l.length) :
  Sl E w S (l.drop j) (.slice (some (if c=j then ⟨b,o,none⟩ else ⟨b,o+j*E.size,none⟩)) (n-j) (c-j)):=by
 obtain ⟨A,c,e,h2,h3,hn,h4⟩:=h;injection e with e1 e2 e3;subst e1 e2 e3;have el:(l.drop j).length=l.length-j:=List.length_drop ..;refine ⟨_,c-j,by rw [el],by omega,by unfold maxLen at *;omega,(fun h=>by cases h),fun h0=>?_⟩;obtain ⟨b',o',h5,h6,h7⟩:=h4 (by omega);injection h5 with h5;injection h5 with h5 h5';subst h5 h5';refine ⟨b,o+j*E.size,by rw [if_neg (by omega)],h6,fun i x hx=>?_⟩;rw [List.getElem?_drop] at hx;obtain ⟨cs,c1,c2⟩:=h7 _ x hx;refine ⟨cs,c1,fun k u hu=>?_⟩;rw [← c2 k u hu]
 congr 2
 rw [Nat.add_mul];omega
theorem Sl.back1 {α:Type} {E:Enc α} {w:World} {S:Nat→Prop} {l:List α} {b o n c:Nat} (h:Sl E w S l (.slice (some ⟨b,o,none⟩) n c)) (hE:E.size=1) {j:Nat} (hj:j≤l.length) :
  Sl E w S (l.drop j) (.slice (if c=j then some ⟨b,o,none⟩ else some ⟨b,o+j,none⟩) (n-j) (c-j)):=by
 have:=h.back hj
 rw [hE,Nat.mul_one] at this;split at this
 ·rename_i hc;rw [if_pos hc];exact this
 ·rename_i hc;rw [if_neg hc];exact this
theorem Sl.on {α:Type} {E:Enc α} {w w':World} {lo:Nat} {l:List α} {v:Value} (h:Sl E w (From lo w) l v) (hb:Below w.heap.size w w'):Sl E w' (From lo w') l v :=
 (h.below (fun _ h=>h.2) hb).more fun _ h=>⟨h.1,Nat.lt_of_lt_of_le h.2 hb.size⟩
theorem Sl.onOld {α:Type} {E:Enc α} {w w':World} {l:List α} {v:Value} (h:Sl E w (Old w) l v) (hb:Below w.heap.size w w'):Sl E w' (Old w') l v :=
 (h.below (fun _ h=>h) hb).more fun _ h=>Nat.lt_of_lt_of_le h hb.size
theorem Sl.form {α:Type} {E:Enc α} {w:World} {S:Nat→Prop} {l:List α} {v:Value} (h:Sl E w S l v):∃ A c,v = .slice A l.length c∧l.length≤c∧c≤maxLen:=by
 obtain ⟨A,c,h1,h2,h3,_⟩:=h;exact ⟨A,c,h1,h2,h3⟩
def jji {α:Type} (E:Enc α) (l:List α) (w:World) (e:Ending) (w':World):Prop:=∃ v,e = .returned v∧Sl E w' (From w.heap.size w') l v∧Below w.heap.size w w'
def jj6 {α:Type} (E:Enc α) (ty lo:Nat) (l:List α) (w:World) (e:Ending) (w':World):Prop:=∃ v,e = .returned v∧OwnG E w' w.heap.size lo ty v l∧Below w.heap.size w w'
theorem OwnR.from_ {w:World} {base e:Nat} {v:Value} {l:List (Int × Int)} (h:OwnR w base e v l):Sl Enc.rng w (From base w) l v:=h.sl
open Go.Lib (hid)
open Go.RowKit
theorem jia {P:Program} (w:World) (base:Nat) (t ty e:TypeId) (size bytes:Nat) (z:Value) (ht:P.underlying t=some (.slice e)) (hinfo:(P.info? e).map (fun i=>(i.zero,i.size,i.bytes))=some (some z,size,bytes)) (hzs:z.cells.size=size) (hsz:0<size)
  (v:Value) (n:Nat) (xs:List Value) (hown:w.ownsRow base e size v n xs)
  (ad:Addr) (m c:Nat) (news:List Value) (hl:news.length=m*size) (hnews:∀ j u,news[j]? = some u→w.cell? (ad.add j)=some u) (h1:∀ u∈news,u.oneCell'=true)
  (h63:n+m≤maxLen) (hbytes:(n+m)*bytes≤140737488355328) (hbase:base≤w.heap.size) :
  ∃ v' w',(Builtin.append_ #[t,t] ty #[v,.slice (some ad) m c]).run P w = .ok v' w'∧w'.ownsRow base e size v' (n+m) (xs ++ news)∧w.grownBy w' v.ownBlock∧jed w v v':=by
 obtain ⟨i,hi,hz0,hz1,hz2⟩:=info_parts hinfo;rcases hown.2 with ⟨rfl,rfl⟩ | ⟨g,cap,cur,rfl,hg1,hg2,hg3,hg4,hg5,hg6⟩
 ·have hxs:xs = []:=List.length_eq_zero_iff.1 (by rw [hown.1];simp);subst hxs;obtain ⟨v',w',hr,ho,hg,_⟩:=run_append_own (P:=P) w w.heap.size t ty e i z size bytes ht hi hz0 hz1 hz2 hzs hsz _ _ _ (World.ownsRow_nil w _ e size) ad m c news hl hnews h1 h63 hbytes (Nat.le_refl _);refine ⟨v',w',hr,⟨ho.1,?_⟩,hg,fun k hk=>.inr (ho.lt k hk).1⟩;rcases ho.2 with h2 | ⟨g,cap,cur,h1,h2,h3⟩
  ·exact .inl h2
  ·exact .inr ⟨g,cap,cur,h1,Nat.le_trans hbase h2,h3⟩
 ·by_cases hroom:n+m≤cap
  ·obtain ⟨w',hr,ho,hg⟩:=run_append_fits (P:=P) w base t ty e i size ht hi hz1 g n cap xs hown ad m c news hl hnews h1 hroom;exact ⟨_,w',hr,ho,hg,fun k hk=>.inl hk⟩
  ·obtain ⟨v',w',hr,ho,hg⟩:=run_append_arg_grows (P:=P) w t ty e i z size bytes ht hi hz0 hz1 hz2 hzs hsz ⟨g,0,none⟩ n cap xs hown.1 (hown.cells (g:=g) rfl) ad m c news hl hnews (by omega) h63 hbytes;refine ⟨v',w',hr,⟨ho.1,?_⟩,World.grownBy.mono hg,fun k hk=>.inr (ho.lt k hk).1⟩;rcases ho.2 with h2 | ⟨g,cap,cur,h1,h2,h3⟩
   ·exact .inl h2
   ·exact .inr ⟨g,cap,cur,h1,Nat.le_trans hbase h2,h3⟩
theorem jgf {α:Type} {E:Enc α} {P:Program} {ops:Array Oper} {o:Oper} {a:Act} {w:World} {K:Act→World→Prop} {Q:Exit→Act→World→Prop} {X:Prop}
  (hg:o.guard=none) (s x:Operand) (t:TypeId) (ho:o.op=Op.call { callee:=Callee.builtin Builtin.append,args:=#[s,x],argTypes:=#[t,t] })
  (base lo:Nat) (e:TypeId) (bytes:Nat) (z:Value) (ht:P.underlying t=some (.slice e)) (hinfo:(P.info? e).map (fun i=>(i.zero,i.size,i.bytes))=some (some z,E.size,bytes)) (hzs:z.cells.size=E.size) (hsz:0<E.size)
  (v:Value) (l:List α) (hs:a.eval s=v) (hown:OwnG E w base lo e v l)
  (ad:Addr) (y:α) (cs:List Value) (hx:a.eval x = .slice (some ad) 1 1) (hy:E.rd w (Off lo w v) y cs) (hnews:∀ j u,cs[j]? = some u→w.cell? (ad.add j)=some u)
  (hbytes:(l.length+1)*bytes≤140737488355328) (h63:l.length+1≤maxLen) (hbase:base≤w.heap.size)
  (h:∀ v' w',OwnG E w' base lo e v' (l ++ [y])→w.grownBy w' v.ownBlock→jed w v v'→K (a.put o.dst v') w') :
  if Region.wanted o (yielded ops a.tmps)=true then Oper.wp P o a w K Q else X:=by
 have hw:Region.wanted o (yielded ops a.tmps)=true:=by simp [Region.wanted,hg]
 rw [if_pos hw];obtain ⟨us,h1,h2⟩:=hown;obtain ⟨v',w',hr,ho',hg',hmv⟩:=jia (P:=P) w base t o.type e E.size bytes z ht hinfo hzs hsz v l.length us h1 ad 1 1 cs (by rw [E.len hy];omega) hnews (E.one hy) h63 hbytes hbase;unfold Oper.wp execOp;simp only [ho,resolve,invoke,builtin,Sem.run_bind,Sem.run_pure,Result.andThen_ok,List.map_toArray,List.map_cons,List.map_nil,hs,hx,hr];exact h v' w' (OwnG.grown (m:=[y]) h1.1 h2 ho' hg' hmv (jb9.one hy)) hg' hmv
def Cs (w:World) (b:Nat) (vs:List Value):Prop:=b<w.heap.size∧(∀ j v,vs[j]? = some v→w.cell? ⟨b,j,none⟩=some v)∧∀ j,j<vs.length→w.frozen? ⟨b,j,none⟩=false
section
variable {w w':World} {b g:Nat} {vs:List Value}
theorem Cs.new (w:World) (vs:List Value) (e:Nat):Cs (w.alloc (.cells vs.toArray e)) w.heap.size vs :=
 ⟨by simp,fun j v hv=>(World.cell?_alloc_new ..).trans (by simpa using hv),fun j hj=>by simp⟩
theorem Cs.keep (h:Cs w b vs) (hb:w'.heap[b]? = w.heap[b]?) (hs:w.heap.size≤w'.heap.size):Cs w' b vs :=
 ⟨Nat.lt_of_lt_of_le h.1 hs,fun j v hv=>(World.cell?_of_block hb).trans (h.2.1 j v hv),fun j hj=>(World.frozen?_of_block hb).trans (h.2.2 j hj)⟩
theorem Cs.next (h:Cs w b vs) (hb:Below w.heap.size w w'):Cs w' b vs:=h.keep (hb.block b h.1) hb.size
theorem Cs.grown (h:Cs w b vs) (hg:w.grownBy w' (some g)) (hne:b≠g):Cs w' b vs:=h.keep (hg.block b h.1 (by intro e;injection e with e;exact hne e)) hg.size
theorem Cs.set (h:Cs w b vs) (i:Nat) (hi:i<vs.length) (v:Value):Cs (w.setCell ⟨b,i,none⟩ v) b (vs.set i v):=by
 refine ⟨by simpa [World.setCell] using h.1,fun j u hu=>?_,fun j hj=>by rw [List.length_set] at hj;simpa using h.2.2 j hj⟩;by_cases hj:j=i
 ·subst hj;rw [List.getElem?_set_self hi] at hu;injection hu with hu;subst hu;exact World.cell?_setCell_same w _ _ (h.2.1 j vs[j] (List.getElem?_eq_getElem hi))
 ·rw [List.getElem?_set_ne (Ne.symm hj)] at hu;exact (World.cell?_setCell_other w _ _ _ (by intro e;injection e with e1 e2;omega)).trans (h.2.1 j u hu)
theorem Cs.at (h:Cs w b vs) (j:Nat) {v:Value} (hv:vs[j]? = some v):w.cell? ⟨b,j,none⟩=some v:=h.2.1 j v hv
theorem jal (w:World) (b o:Nat) (v:Value):Below b w (w.setCell ⟨b,o,none⟩ v) :=
 ⟨rfl,rfl,rfl,by simp [World.setCell],fun k hk=>RowKit.Below.heap_setCell _ _ _ _ (by show k≠b;omega)⟩
theorem Cs.below {B:Nat} (h:Cs w b vs) (hb:Below B w w') (hB:b<B):Cs w' b vs:=h.keep (hb.block b hB) hb.size
end
theorem Cs.drew {w:World} {b:Nat} {vs:List Value} (h:Cs w b vs):Cs w.drew b vs:=h.next ((Below.refl _ _).drew)
open Go.Lib (hid)
open Go.RowKit
def Enc.pair {α β:Type} (E:Enc α) (F:Enc β):Enc (α × β) where
 size:=E.size+F.size
 rd w S x cs:=∃ c1 c2,cs=c1 ++ c2∧E.rd w S x.1 c1∧F.rd w S x.2 c2
 len:=by rintro w S x cs ⟨c1,c2,rfl,h1,h2⟩;rw [List.length_append,E.len h1,F.len h2]
 keep:=by rintro w w' S x cs ⟨c1,c2,rfl,h1,h2⟩ hk;exact ⟨c1,c2,rfl,E.keep h1 hk,F.keep h2 hk⟩
 more:=by rintro w S S' x cs ⟨c1,c2,rfl,h1,h2⟩ hk;exact ⟨c1,c2,rfl,E.more h1 hk,F.more h2 hk⟩
 one:=by
  rintro w S x cs ⟨c1,c2,rfl,h1,h2⟩ u hu;rcases List.mem_append.1 hu with h | h
  ·exact E.one h1 u h
  ·exact F.one h2 u h
abbrev CellD:=Bool × List (Int × Int)
abbrev RuleD:=List CellD × Int
structure TabD where
 name:ByteArray
 pol:Int
 comp:Bool
 ins:List ByteArray
 rules:List RuleD
def Enc.cell:Enc CellD:=Enc.bool.pair Enc.rng.slice
def Enc.rule:Enc RuleD:=Enc.cell.slice.pair Enc.int
def Enc.tabP:Enc (ByteArray × Int × Bool × List ByteArray × List RuleD):=Enc.str.pair (Enc.int.pair (Enc.bool.pair (Enc.str.slice.pair Enc.rule.slice)))
def TabD.prod (t:TabD):ByteArray × Int × Bool × List ByteArray × List RuleD:=(t.name,t.pol,t.comp,t.ins,t.rules)
def Enc.tab:Enc TabD:=⟨5,fun w S t cs=>Enc.tabP.rd w S t.prod cs,fun h=>Enc.tabP.len h,fun h k=>Enc.tabP.keep h k,fun h k=>Enc.tabP.more h k,fun h=>Enc.tabP.one h⟩
theorem Enc.cell_rd {w:World} {S:Nat→Prop} {x:CellD} {cs:List Value}:Enc.cell.rd w S x cs↔∃ v,cs = [.bool x.1,v]∧Sl Enc.rng w S x.2 v:=by
 constructor
 ·rintro ⟨c1,c2,rfl,h1,v,rfl,h2⟩;have h1':c1 = [.bool x.1]:=h1;subst h1';exact ⟨v,rfl,h2⟩
 ·rintro ⟨v,rfl,h2⟩;exact ⟨[.bool x.1],[v],rfl,rfl,v,rfl,h2⟩
theorem Enc.rule_rd {w:World} {S:Nat→Prop} {x:RuleD} {cs:List Value}:Enc.rule.rd w S x cs↔∃ v,cs = [v,.int .i64 x.2]∧Sl Enc.cell w S x.1 v:=by
 constructor
 ·rintro ⟨c1,c2,rfl,⟨v,rfl,h2⟩,h1⟩;have h1':c2 = [.int .i64 x.2]:=h1;subst h1';exact ⟨v,rfl,h2⟩
 ·rintro ⟨v,rfl,h2⟩;exact ⟨[v],[.int .i64 x.2],rfl,⟨v,rfl,h2⟩,rfl⟩
theorem Enc.tab_rd {w:World} {S:Nat→Prop} {t:TabD} {cs:List Value}:Enc.tab.rd w S t cs↔∃ vi vr,cs = [.string t.name,.int .i64 t.pol,.bool t.comp,vi,vr]∧Sl Enc.str w S t.ins vi∧Sl Enc.rule w S t.rules vr:=by
 constructor
 ·rintro ⟨c1,_,rfl,h1,c2,_,rfl,h2,c3,_,rfl,h3,c4,c5,rfl,⟨vi,rfl,h4⟩,⟨vr,rfl,h5⟩⟩;have h1':c1 = [.string t.name]:=h1;have h2':c2 = [.int .i64 t.pol]:=h2;have h3':c3 = [.bool t.comp]:=h3;subst h1' h2' h3';exact ⟨vi,vr,rfl,h4,h5⟩
 ·rintro ⟨vi,vr,rfl,h4,h5⟩;exact ⟨[.string t.name],_,rfl,rfl,[.int .i64 t.pol],_,rfl,rfl,[.bool t.comp],_,rfl,rfl,[vi],[vr],rfl,⟨vi,rfl,h4⟩,⟨vr,rfl,h5⟩⟩
theorem Sl.at {α:Type} {E:Enc α} {w:World} {S:Nat→Prop} {l:List α} {A:Option Addr} {n c:Nat} (h:Sl E w S l (.slice A n c)) {k:Nat} (hk:k<l.length) :
  ∃ b o cs,A=some ⟨b,o,none⟩∧S b∧E.rd w S l[k] cs∧∀ j v,cs[j]? = some v→w.cell? ⟨b,o+k*E.size+j,none⟩=some v:=by
 obtain ⟨A,c,e,h2,h3,_,h4⟩:=h;injection e with e1 e2 e3;subst e1 e2 e3;obtain ⟨b,o,rfl,h6,h7⟩:=h4 (by omega);obtain ⟨cs,h8,h9⟩:=h7 k l[k] (List.getElem?_eq_getElem hk);exact ⟨b,o,cs,rfl,h6,h8,h9⟩
theorem Sl.cell_at {w:World} {S:Nat→Prop} {l:List CellD} {A:Option Addr} {n c:Nat} (h:Sl Enc.cell w S l (.slice A n c)) {k:Nat} (hk:k<l.length) :
  ∃ b o ng rs v,A=some ⟨b,o,none⟩∧S b∧Hid (l[k]? = some (ng,rs))∧w.cell? ⟨b,o+k*2,none⟩=some (.bool ng)∧w.cell? ⟨b,o+k*2+1,none⟩=some v∧Sl Enc.rng w S rs v:=by
 obtain ⟨b,o,cs,rfl,hS,hr,hc⟩:=h.at hk;obtain ⟨v,rfl,hv⟩:=Enc.cell_rd.1 hr;exact ⟨b,o,l[k].1,l[k].2,v,rfl,hS,List.getElem?_eq_getElem hk,hc 0 _ rfl,hc 1 _ rfl,hv⟩
theorem Sl.rule_at {w:World} {S:Nat→Prop} {l:List RuleD} {A:Option Addr} {n c:Nat} (h:Sl Enc.rule w S l (.slice A n c)) {k:Nat} (hk:k<l.length) :
  ∃ b o cs x v,A=some ⟨b,o,none⟩∧S b∧Hid (l[k]? = some (cs,x))∧w.cell? ⟨b,o+k*2,none⟩=some v∧w.cell? ⟨b,o+k*2+1,none⟩=some (.int .i64 x)∧Sl Enc.cell w S cs v:=by
 obtain ⟨b,o,cs,rfl,hS,hr,hc⟩:=h.at hk;obtain ⟨v,rfl,hv⟩:=Enc.rule_rd.1 hr;exact ⟨b,o,l[k].1,l[k].2,v,rfl,hS,List.getElem?_eq_getElem hk,hc 0 _ rfl,hc 1 _ rfl,hv⟩
theorem Sl.str_at {w:World} {S:Nat→Prop} {l:List ByteArray} {A:Option Addr} {n c:Nat} (h:Sl Enc.str w S l (.slice A n c)) {k:Nat} (hk:k<l.length) :
  ∃ b o x,A=some ⟨b,o,none⟩∧S b∧Hid (l[k]? = some x)∧w.cell? ⟨b,o+k,none⟩=some (.string x):=by
 obtain ⟨b,o,cs,rfl,hS,hr,hc⟩:=h.at hk;have hr':cs = [.string l[k]]:=hr;subst hr';refine ⟨b,o,l[k],rfl,hS,List.getElem?_eq_getElem hk,?_⟩;have:=hc 0 _ rfl
 have es:Enc.str.size=1:=rfl;rw [es,Nat.mul_one,Nat.add_zero] at this;exact this
def ja9 (w:World) (S:Nat→Prop) (t:TabD) (v:Value):Prop:=∃ vi vr,v = .agg #[.string t.name,.int .i64 t.pol,.bool t.comp,vi,vr]∧Sl Enc.str w S t.ins vi∧Sl Enc.rule w S t.rules vr
theorem ja9.onOld {w w':World} {t:TabD} {v:Value} (h:ja9 w (Old w) t v) (hb:Below w.heap.size w w'):ja9 w' (Old w') t v:=by
 obtain ⟨vi,vr,e,h1,h2⟩:=h;exact ⟨vi,vr,e,h1.onOld hb,h2.onOld hb⟩
def Enc.dom:Enc (ByteArray × Int × Int):=Enc.str.pair (Enc.int.pair Enc.int)
def domV (d:ByteArray × Int × Int):Value:=.agg #[.string d.1,.int .i64 d.2.1,.int .i64 d.2.2]
theorem Enc.dom_rd {w:World} {S:Nat→Prop} {d:ByteArray × Int × Int} {cs:List Value}:Enc.dom.rd w S d cs↔cs = [.string d.1,.int .i64 d.2.1,.int .i64 d.2.2]:=by
 constructor
 ·rintro ⟨c1,_,rfl,h1,c2,c3,rfl,h2,h3⟩;have h1':c1 = [.string d.1]:=h1;have h2':c2 = [.int .i64 d.2.1]:=h2;have h3':c3 = [.int .i64 d.2.2]:=h3;subst h1' h2' h3';rfl
 ·rintro rfl;exact ⟨[.string d.1],_,rfl,rfl,[.int .i64 d.2.1],_,rfl,rfl,rfl⟩
theorem Sl.dom_at {w:World} {S:Nat→Prop} {l:List (ByteArray × Int × Int)} {A:Option Addr} {n c:Nat} (h:Sl Enc.dom w S l (.slice A n c)) {k:Nat} (hk:k<l.length) :
  ∃ b o nm lo hi,A=some ⟨b,o,none⟩∧S b∧Hid (l[k]? = some (nm,lo,hi))∧w.cell? ⟨b,o+k*3,none⟩=some (.string nm)∧w.cell? ⟨b,o+k*3+1,none⟩=some (.int .i64 lo)∧w.cell? ⟨b,o+k*3+2,none⟩=some (.int .i64 hi):=by
 obtain ⟨b,o,cs,rfl,hS,hr,hc⟩:=h.at hk;rw [Enc.dom_rd] at hr;subst hr;exact ⟨b,o,l[k].1,l[k].2.1,l[k].2.2,rfl,hS,List.getElem?_eq_getElem hk,hc 0 _ rfl,hc 1 _ rfl,hc 2 _ rfl⟩
theorem Sl.tab_at {w:World} {S:Nat→Prop} {l:List TabD} {A:Option Addr} {n c:Nat} (h:Sl Enc.tab w S l (.slice A n c)) {k:Nat} (hk:k<l.length) :
  ∃ b o nm pol comp ins rules vi vr,A=some ⟨b,o,none⟩∧S b∧Hid (l[k]? = some ⟨nm,pol,comp,ins,rules⟩)∧w.cell? ⟨b,o+k*5,none⟩=some (.string nm)∧w.cell? ⟨b,o+k*5+1,none⟩=some (.int .i64 pol)∧w.cell? ⟨b,o+k*5+2,none⟩=some (.bool comp)∧w.cell? ⟨b,o+k*5+3,none⟩=some vi∧w.cell? ⟨b,o+k*5+4,none⟩=some vr∧Sl Enc.str w S ins vi∧Sl Enc.rule w S rules vr:=by
 obtain ⟨b,o,cs,rfl,hS,hr,hc⟩:=h.at hk;obtain ⟨vi,vr,rfl,h4,h5⟩:=Enc.tab_rd.1 hr;exact ⟨b,o,l[k].name,l[k].pol,l[k].comp,l[k].ins,l[k].rules,vi,vr,rfl,hS,List.getElem?_eq_getElem hk,hc 0 _ rfl,hc 1 _ rfl,hc 2 _ rfl,hc 3 _ rfl,hc 4 _ rfl,h4,h5⟩
open Go.Lib (hid)
open Go.ChangeShapes Go.WideShapes Go.ChangeAt Go.RowKit Go.Deep
theorem own:ownKnob Tryz.prog.godebug=none:=by kernel_rfl
theorem ytl:laidOutB Tryz.prog=true:=by kernel_rfl
theorem jz4 {w:World} {a:Addr} {v:Value} (h:w.cell? (a.add 0)=some v):a = ⟨a.block,a.off,none⟩∧a.block<w.heap.size:=by
 have e:a.add 0=a:=by unfold Addr.add;simp
 rw [e] at h;obtain ⟨b,o,s⟩:=a;have hs:=World.cell?_spot h;simp only at hs;subst hs;exact ⟨rfl,World.block_lt_of_cell? w _ h⟩
theorem yc3 {a:Addr} (ha:a = ⟨a.block,a.off,none⟩) (k:Nat):a.add k = ⟨a.block,a.off+k,none⟩:=by
 unfold Addr.add;split
 ·rename_i h;subst h;exact ha
 ·rfl
theorem jq6 {n:Int} (h:(Lit.int .i64 n).wf=true):-9223372036854775808≤n∧n≤9223372036854775807:=by
 have h1:IntKind.i64.min = -9223372036854775808:=rfl;have h2:IntKind.i64.max=9223372036854775807:=rfl;simp only [Lit.wf,Bool.and_eq_true,decide_eq_true_eq] at h;omega
open Go.Lib (hid)
open Go.ChangeShapes Go.WideShapes Go.ChangeAt Go.RowKit Go.Deep
def jfq {α:Type} (P:Program) (E:Enc α) (t:TypeId) (fit:α→Prop):Prop :=
 ∀ (H:Type) (enc:TypeId × Value→H) (W:World) (base:Nat) (spare:Nat→Bool) (held:Bool) (fuel:Nat) (cs:List Value) (x:DataW H × List MemPlace),
  DataW.trod enc P W base spare held fuel t cs=some x→(∀ n∈x.1.weights P t,n≤reachBytes)→∃ y,E.rd W (Old W) y cs∧fit y
theorem jph {H:Type} {P:Program} {e:TypeId}:∀ {ds:List (DataW H)} {d:DataW H},d∈ds→∀ n∈d.weights P e,n∈DataW.weightsAll P e ds
 | d0 :: ds,d,hd,n,hn=>by
  simp only [DataW.weightsAll,List.mem_append];rcases List.mem_cons.1 hd with rfl | h
  ·exact .inl hn
  ·exact .inr (jph h n hn)
def in64 (n:Int):Prop:=-9223372036854775808≤n∧n≤9223372036854775807
theorem jh7 {P:Program} {t:TypeId} (ht:P.underlying t=some (.int .i64)):jfq P Enc.int t in64:=by
 intro H enc W base spare held fuel cs x h _;obtain ⟨n,e,_,wf⟩:=DataW.trod_int ht h;exact ⟨n,e,jq6 wf⟩
theorem jl4 {P:Program} {t:TypeId} (ht:P.underlying t=some .string):jfq P Enc.str t (fun s=>s.size≤reachBytes):=by
 intro H enc W base spare held fuel cs x h hw;obtain ⟨s,e,e2,_⟩:=DataW.trod_string ht h;refine ⟨s,e,?_⟩;subst e2;simpa [DataW.weights] using hw s.data.toList.length (by simp [DataW.weights])
theorem jeu {α:Type} [Inhabited α] {P:Program} {E:Enc α} {t e:TypeId} {fit:α→Prop} (ht:P.underlying t=some (.slice e)) (hc:P.cellsOf e=E.size) (h0:0<E.size) (he:jfq P E e fit) :
  jfq P E.slice t (fun l=>l.length*P.bytesOf e≤reachBytes∧∀ y,y∈l→fit y):=by
 intro H enc W base spare held fuel cs x h hw;rcases open_slice ht h with ⟨rfl,rfl⟩ | ⟨a,len,cap,m,n,D,Pl,rfl,hb,hl,hm,hmm,rfl,hx⟩
 ·exact ⟨[],⟨_,rfl,Sl.nil⟩,by simp,by simp⟩
 ·have hlm:len≤m:=by rw [hmm];split <;> omega
  simp only [DataW.weights,ht,List.length_map,List.length_range,List.mem_cons,List.mem_append] at hw;have hsz:=hw _ (.inl rfl);have hlen:len*P.bytesOf e≤reachBytes:=Nat.le_trans (Nat.mul_le_mul_right _ (by omega)) hsz;have each:∀ i,i<len→∃ q:α × List Value,E.rd W (Old W) q.1 q.2∧fit q.1∧∀ j u,q.2[j]? = some u→W.cell? (a.add (i*E.size+j))=some u:=by
   intro i hi;obtain ⟨cs',h1,h2⟩:=hx i (by omega);obtain ⟨y,hy,hf⟩:=he H enc W base spare held n cs' _ h2 (fun k hk=>hw k (.inr (.inl (jph (List.mem_map.2 ⟨i,List.mem_range.2 hi,rfl⟩) k hk))));obtain ⟨_,hl',hcell⟩:=World.cells?_some h1;refine ⟨(y,cs'),hy,hf,fun j u hu=>?_⟩;have hj:j<cs'.length:=(List.getElem?_eq_some_iff.1 hu).1;have:=hcell j (by omega)
   rw [add_add,hc] at this;rw [this,hu]
  obtain ⟨q,hq⟩:=choose_lt each;refine ⟨(List.range len).map fun i=>(q i).1,⟨_,rfl,some a,cap,by simp,by simpa using hl,hm,(fun h=>by cases h),fun hp=>?_⟩,by simpa using hlen,fun y hy=>?_⟩
  ·have hp':0<len:=by simpa using hp
   obtain ⟨h1,_,h3⟩:=hq 0 hp';have hl0:=E.len h1;have hc0:=h3 0 ((q 0).2[0]'(by omega)) (List.getElem?_eq_getElem (by omega));rw [Nat.zero_mul,Nat.zero_add] at hc0;obtain ⟨ha,hbk⟩:=jz4 hc0;refine ⟨a.block,a.off,by rw [← ha],hbk,fun i y hy=>?_⟩;obtain ⟨hlt,ex⟩:=List.getElem?_eq_some_iff.1 hy;simp at hlt ex;subst ex;obtain ⟨g1,_,g3⟩:=hq i hlt;refine ⟨_,g1,fun j u hu=>?_⟩;have:=g3 j u hu
   rw [yc3 ha] at this;rw [Nat.add_assoc];exact this
  ·obtain ⟨i,hi,rfl⟩:=List.mem_map.1 hy;exact (hq i (List.mem_range.1 hi)).2.1
theorem jfq.arg {α:Type} {P:Program} {E:Enc α} {t:TypeId} {fit:List α→Prop} (ho:jfq P E.slice t fit) {H:Type} {enc:TypeId × Value→H} {W:World} {base:Nat} {spare:Nat→Bool} {held:Bool} {a0:Option Addr} {len cap:Nat} {d:DataW H} {p:List MemPlace}
  (h:DataW.Trod enc P W base spare held t (.slice a0 len cap) d p) {ts:List TypeId} {ds:List (DataW H)} (hsz:(DataW.weightsEach P ts ds).all (· ≤ reachBytes)=true) {j:Nat} (ht:ts[j]? = some t) (hd:ds[j]? = some d) :
  ∃ l,Sl E W (Old W) l (.slice a0 len cap)∧fit l:=by
 obtain ⟨fuel,hf⟩:=h;have hf':DataW.trod enc P W base spare held fuel t [.slice a0 len cap]=some (d,p):=by simpa [Value.cells] using hf
 obtain ⟨y,⟨v,e,hv⟩,hy⟩:=ho H enc W base spare held fuel _ _ hf' (fun n hn=>by simpa using List.all_eq_true.1 hsz _ (DataW.weights_mem_each ht hd n hn));injection e with e;subst e;exact ⟨y,hv,hy⟩
theorem jiu:reachBytes≤140737488355328:=by decide
def ykc (l:List Int):Prop:=l.length*8≤140737488355328∧∀ n,n∈l→in64 n
theorem jfq.mono {α:Type} {P:Program} {E:Enc α} {t:TypeId} {fit fit':α→Prop} (h:jfq P E t fit) (hf:∀ y,fit y→fit' y):jfq P E t fit':=by
 intro H enc W base spare held fuel cs x h1 h2;obtain ⟨y,h3,h4⟩:=h H enc W base spare held fuel cs x h1 h2;exact ⟨y,h3,hf y h4⟩
theorem ylo:jfq Tryz.prog Enc.int.slice 22 ykc :=
 (jeu (e:=3) (by kernel_rfl) (by kernel_rfl) (by decide) (jh7 Tryz.underlying3)).mono fun l h=>⟨by have:=h.1;rw [show Tryz.prog.bytesOf 3=8 from by kernel_rfl] at this;exact Nat.le_trans this jiu,h.2⟩
open Go.Lib (hid)
open Go.ChangeShapes Go.WideShapes Go.ChangeAt Go.RowKit Go.Deep
def yex {α:Type} (P:Program) (E:Enc α) (fs:List Field) (off:Nat) (fit:α→Prop):Prop :=
 ∀ (H:Type) (enc:TypeId × Value→H) (W:World) (base:Nat) (spare:Nat→Bool) (held:Bool) (fuel:Nat) (cs:List Value) (xs:List (DataW H × List MemPlace)),
  off+E.size≤cs.length→(∀ (i:Nat) (f:Field),fs[i]? = some f→∃ x,xs[i]? = some x∧DataW.trod enc P W base spare held fuel f.type ((cs.drop f.offset).take (P.cellsOf f.type))=some x∧∀ n∈x.1.weights P f.type,n≤reachBytes) →
  ∃ y,E.rd W (Old W) y ((cs.drop off).take E.size)∧fit y
theorem jit {α:Type} {P:Program} {E:Enc α} {f:Field} {off:Nat} {fit:α→Prop} (ho:f.offset=off) (hc:P.cellsOf f.type=E.size) (he:jfq P E f.type fit):yex P E [f] off fit:=by
 intro H enc W base spare held fuel cs xs hl h;obtain ⟨x,_,h2,h3⟩:=h 0 f rfl;rw [ho,hc] at h2;exact he H enc W base spare held fuel _ x h2 h3
theorem jcs {α β:Type} {P:Program} {E:Enc α} {F:Enc β} {f:Field} {fs:List Field} {off:Nat} {fit:α→Prop} {fit':β→Prop} (ho:f.offset=off) (hc:P.cellsOf f.type=E.size) (he:jfq P E f.type fit) (hr:yex P F fs (off+E.size) fit') :
  yex P (E.pair F) (f :: fs) off (fun y=>fit y.1∧fit' y.2):=by
 intro H enc W base spare held fuel cs xs hl h;have es:(E.pair F).size=E.size+F.size:=rfl;rw [es] at hl ⊢;obtain ⟨x,hx,h2,h3⟩:=h 0 f rfl;rw [ho,hc] at h2;obtain ⟨y,hy,fy⟩:=he H enc W base spare held fuel _ x h2 h3;obtain ⟨z,hz,fz⟩:=hr H enc W base spare held fuel cs xs.tail (by omega) (fun i g hg=>by
  obtain ⟨x',hx',h4⟩:=h (i+1) g (by simpa using hg);exact ⟨x',by rw [List.getElem?_tail];exact hx',h4⟩)
 refine ⟨(y,z),⟨_,_,?_,hy,hz⟩,fy,fz⟩;rw [List.take_add,List.drop_drop]
theorem jwc {H:Type} {P:Program}:∀ {ts:List TypeId} {ds:List (DataW H)} {i:Nat} {t:TypeId} {d:DataW H},ts[i]? = some t→ds[i]? = some d→∀ n∈d.weights P t,n∈DataW.weightsEach P ts ds:=fun h1 h2=>DataW.weights_mem_each h1 h2
theorem jf7 {α:Type} {P:Program} {E:Enc α} {t:TypeId} {fs:Array Field} {fit:α→Prop} (ht:P.underlying t=some (.struct fs)) (hc:P.cellsOf t=E.size) (hf:yex P E fs.toList 0 fit):jfq P E t fit:=by
 intro H enc W base spare held fuel cs x h hw;obtain ⟨xs,n,_,rfl,hl,hxl,hg⟩:=DataW.trod_struct ht h;have hl':cs.length=E.size:=hl.trans hc;obtain ⟨y,hy,fy⟩:=hf H enc W base spare held n cs xs (by omega) (fun i f hi=>by
  have hi':fs[i]? = some f:=by simpa using hi
  have hlt:i<xs.length:=by have:=(Array.getElem?_eq_some_iff.1 hi').1;omega
  have h1:=hg i f hi';rw [List.getElem?_eq_getElem hlt] at h1;refine ⟨xs[i],List.getElem?_eq_getElem hlt,h1,fun k hk=>hw k ?_⟩;rw [DataW.weights.eq_def];simp only [ht];exact jwc (ts:=fs.toList.map (·.type)) (i:=i) (t:=f.type) (d:=xs[i].1) (by rw [List.getElem?_map,hi];rfl) (by rw [List.getElem?_map,List.getElem?_eq_getElem hlt];rfl) k hk)
 rw [List.drop_zero,← hl',List.take_length] at hy;exact ⟨y,hy,fy⟩
end Go.Proofs.YthmlndmlnlfhnaaGreatDoor
